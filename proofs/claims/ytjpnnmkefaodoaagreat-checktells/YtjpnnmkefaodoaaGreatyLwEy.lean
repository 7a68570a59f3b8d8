/-
  LwE, CkL, CkM, CkN, CkO.
-/
import Derived.Test.YtjpnnmkefaodoaaGreatyCkHy
set_option maxHeartbeats 8000000
set_option maxRecDepth 100000
namespace Go.Proofs.YtjpnnmkefaodoaaGreat
open Go.RowKit Go.Great
set_option linter.unusedSimpArgs false
set_option linter.unusedVariables false
theorem qbp (w:World)(Z A:Array Value)(T:TypeId):(w.alloc (.cells Z T)).setRow w.heap.size A=w.alloc (.cells A T):=by
 unfold World.setRow World.alloc
 congr 1
 apply Array.ext_getElem?
 intro i
 rw[Array.getElem?_modify]
 by_cases h:w.heap.size=i
 ·subst h;simp
 ·rw[if_neg h,Array.getElem?_push,Array.getElem?_push,if_neg (Ne.symm h),if_neg (Ne.symm h)]
theorem heapNew0 (w:World)(o:Obj):(w.alloc o).heap[w.heap.size]?=some o:=by show (w.heap.push _)[w.heap.size]?=_;simp
structure SvL (B:Nat)(w:World)(x:Sm)(v:Sv):Prop where
 hx:ExL B w v.xk x.x.kids
 hi:ExL B w v.ik x.i.kids
 h1:SmL B w v.init x.init
 h2:SmL B w v.step x.step
 h3:SmL B w v.body x.body
 h4:SmL B w v.els x.els
theorem SvL.step {B:Nat}{w w':World}{x:Sm}{v:Sv}(h:SvL B w x v)(k:Below B w w'):SvL B w' x v:=⟨h.hx.step k,h.hi.step k,h.h1.step k,h.h2.step k,h.h3.step k,h.h4.step k⟩
theorem ExL.slice {B:Nat}{w:World}{v:Value}{xs:List Ex}(h:ExL B w v xs):∃ ao cap,v=.slice ao xs.length cap:=by
 obtain⟨ao,cap,e,-,-⟩:=h.at
 exact⟨ao,cap,e⟩
theorem SmL.slice {B:Nat}{w:World}{v:Value}{xs:List Sm}(h:SmL B w v xs):∃ ao cap,v=.slice ao xs.length cap:=by
 obtain⟨ao,cap,e,-,-⟩:=h.at
 exact⟨ao,cap,e⟩
theorem SvL.one {B:Nat}{w:World}{x:Sm}{v:Sv}(h:SvL B w x v):(smA x v).all (·.oneCell')=true:=by
 obtain⟨a1,c1,e1⟩:=h.hx.slice
 obtain⟨a2,c2,e2⟩:=h.hi.slice
 obtain⟨a3,c3,e3⟩:=h.h1.slice
 obtain⟨a4,c4,e4⟩:=h.h2.slice
 obtain⟨a5,c5,e5⟩:=h.h3.slice
 obtain⟨a6,c6,e6⟩:=h.h4.slice
 unfold smA smC exC
 rw[e1,e2,e3,e4,e5,e6]
 simp[Value.oneCell']
theorem SmL.read {B:Nat}{w:World}{ao:Option Addr}{n cap:Nat}{xs:List Sm}(h:SmL B w (.slice ao n cap) xs)(i:Nat)(hi:i<xs.length):∃ b off v,ao=some ⟨b,off,none⟩∧b<w.heap.size∧w.rangeAt b (off+i*21) (smA xs[i] v).toList∧SvL B w xs[i] v∧SmF xs[i]:=by
 have hn:xs≠[]:=by intro e;rw[e] at hi;simp at hi
 obtain⟨ao',cap',e1,-,hat⟩:=h.at
 injection e1 with e1 _ e2
 subst e1 e2
 obtain⟨b,off,rfl,-,hb,hc⟩:=hat hn
 obtain⟨v,hf,a1,a2,a3,a4,a5,a6,cs⟩:=hc i hi
 refine⟨b,off,v,rfl,hb,fun j u hu=>?_,⟨a1,a2,a3,a4,a5,a6⟩,hf⟩
 have hj:j<21:=by
  have:=(List.getElem?_eq_some_iff.1 hu).1
  simpa [qak] using this
 rw[cs j hj]
 simpa [smA] using hu
theorem swstat_any (x:Sm)(v:Sv)(w:World):Calls Tryz.prog 149 #[.agg (smA x v)] w fun e w'=>e=.returned (.int .i64 (wSmF x.k x.b x.nm))∧Below w.heap.size w w':=by
 have ka:=qaa w (.cells (smA x v) 103)
 obtain⟨c0,c1,c2,c3,c4⟩:=(SmB.new w x v).own
 generalize smA x v=A at *
 generalize hW:w.alloc (.cells A 103)=w1 at *
 generalize x.k=k at *
 generalize x.b=b at *
 generalize x.s=s at *
 generalize x.nm=nm at *
 have NA:=zH (swnamed_any b s nm w1)
 have MA:=zH (swname_any nm w1)
 by_cases h2:k=2
 ·have hw:wSmF k b nm=wTyped b nm:=by unfold wSmF;rw[if_pos h2]
  rw[hw]
  subst h2
  go_enter Tryz.func149,Tryz.ntmps149
  go_wp2_with (refine wpList_boxTo rfl 103 (.tmp 0) rfl (some 1) rfl _ rfl A rfl ?_;rw[hW])
  refine (uI NA).mono ?_
  rintro e w2 ⟨rfl,k2⟩
  go_wp2_with fail
  go_ret
  exact⟨rfl,bT ka k2⟩
 ·have e2:(k==2)=false:=zBq h2
  by_cases h3:k=3
  ·have hw:wSmF k b nm=wName nm:=by unfold wSmF;rw[if_neg h2,if_pos h3]
   rw[hw]
   subst h3
   go_enter Tryz.func149,Tryz.ntmps149
   go_wp2_with (refine wpList_boxTo rfl 103 (.tmp 0) rfl (some 1) rfl _ rfl A rfl ?_;rw[hW])
   refine (uI MA).mono ?_
   rintro e w2 ⟨rfl,k2⟩
   go_wp2_with fail
   go_ret
   exact⟨rfl,bT ka k2⟩
  ·have e3:(k==3)=false:=zBq h3
   have hw:wSmF k b nm=0:=by unfold wSmF;rw[if_neg h2,if_neg h3]
   rw[hw]
   go_enter Tryz.func149,Tryz.ntmps149
   go_wp2_with (refine wpList_boxTo rfl 103 (.tmp 0) rfl (some 1) rfl _ rfl A rfl ?_;rw[hW])
   go_ret
   exact⟨rfl,ka⟩
theorem lkSs_cons (x:Sm)(xs:List Sm)(d c:Nat):lkSs (x::xs) d c=if (lkS x d c).1≠0 then lkS x d c else lkSs xs d (lkS x d c).2:=by rw[lkSs]
def LSm (x:Sm):Prop:=∀ (B lb c d:Nat) (v:Sv) (w:World),Box w lb [.int .i64 (c:Int)]→B≤lb→c≤20000→d≤101→SvL B w x v→SmF x →
 Calls Tryz.prog 121 #[.pointer (some ⟨lb,0,none⟩),.agg (smA x v),.int .i64 (d:Int)] w fun e w'=>e=.returned (.int .i64 (lkS x d c).1)∧Ctd w w' lb (lkS x d c).2
theorem lstats_any (xs:List Sm)(LE:∀ x∈xs,∀ d c,c≤20000→(lkS x d c).1=0→(lkS x d c).2≤20000)(IH:∀ x∈xs,LSm x)(B lb c d:Nat)(v:Value)(w:World)(hb:Box w lb [.int .i64 (c:Int)])(hB:B≤lb)(hc:c≤20000)(hd:d≤101)(hx:SmL B w v xs) :
  Calls Tryz.prog 84 #[.pointer (some ⟨lb,0,none⟩),v,.int .i64 (d:Int)] w fun e w'=>e=.returned (.int .i64 (lkSs xs d c).1)∧Ctd w w' lb (lkSs xs d c).2:=by
 obtain⟨ao,cap,rfl,hmax,-⟩:=hx.at
 have HX:=zH hx
 have HB:=zH hb
 have hlb:=hb.1
 have HLE:=zH LE
 clear hb hx LE
 generalize hR:lkSs xs d c=R
 unfold maxLen at hmax
 go_enter Tryz.func84,Tryz.ntmps84
 go_wp2_with fail
 go_loopg [12] xs.length (fun g t wr=>∃ (i ci:Nat),i≤xs.length∧g=xs.length - i∧t=.int .i64 (i:Int)∧ci≤20000∧Hid (Ctd w wr lb ci)∧Hid (lkSs (xs.drop i) d ci=R))
 case atStart=>exact⟨0,c,Nat.zero_le _,rfl,rfl,hc,⟨uI HB,Kb.refl _ _⟩,hR⟩
 case round =>
  obtain⟨i,ci,hi,hg,rfl,hci,HC,HE⟩:=hrel
  generalize wr=W0 at *
  have hsz:=(uI HC).kb.size
  by_cases hlt:i<xs.length
  ·have hxw:SmL B W0 (.slice ao xs.length cap) xs:=(uI HX).step ((uI HC).kb.below (by omega) hB)
   obtain⟨b1,o1,sv,rfl,hbw,hra,hsv,hf⟩:=hxw.read i hlt
   have HRA:=zH hra
   have ONE:=zH hsv.one
   have hiI:(i:Int)<(xs.length:Int):=by omega
   have hi0:(0:Int)≤(i:Int):=by omega
   have HD:=zH (show xs.drop i=xs[i]::xs.drop (i+1) from List.drop_eq_getElem_cons hlt)
   have HIH:=zH (IH xs[i] (List.getElem_mem hlt))
   have ka:=qaa W0 (.cells (smA xs[i] sv) 103)
   have CA:=zH (uI HIH B lb ci d sv _ ((uI HC).box.step ka) hB hci hd (hsv.step (ka.mono (by omega))) hf)
   have KA:=zH (Kb.of (b:=lb) ka)
   have LE:=zH (uI HLE xs[i] (List.getElem_mem hlt) d ci hci)
   have NB:=zH (SmB.new W0 xs[i] sv).heap
   have hAs:=zH (qak xs[i] sv)
   rw[uI HD,lkSs_cons] at HE
   clear hra hxw hsv HIH ka HD hf
   generalize xs[i]=y at *
   generalize lkS y d ci=ry at *
   obtain⟨er,cn⟩:=ry
   dsimp only at CA LE HE
   generalize smA y sv=A at *
   go_wp2_with (first|(refine wpList_load_mid rfl 103 (.tmp 14) rfl b1 (o1+i*21) rfl A.toList _ (uI HRA) Tryz.underlying103 rfl (by rw[Array.length_toList,uI hAs];exact Tryz.sizeStat) ?_)|(refine wpList_store_row rfl 103 (.tmp 8) (.tmp 15) rfl W0.heap.size A rfl rfl _ _ (heapNew0 _ _) (by rw[uI hAs];exact Tryz.sizeStat) (by rw[uI hAs];rfl) (uI ONE) ?_;rw[qbp])|(refine wpList_load_row rfl 103 (.tmp 8) rfl W0.heap.size rfl _ A _ _ (uI NB) Tryz.underlying103 rfl (by rw[uI hAs];exact Tryz.sizeStat) ?_))
   refine (uI CA).mono ?_
   rintro e w1 ⟨rfl,k1⟩
   have K1:=zH (show Ctd w w1 lb cn from⟨k1.box,((uI HC).kb.trans (uI KA)).trans k1.kb⟩)
   clear CA k1 KA HC NB HRA ONE hAs
   by_cases he:er=0
   ·subst he
    go_wp2_with fail
    go_roundg (xs.length - (i+1))
    case measure=>omega
    case rel =>
     have h2:=uI HE
     rw[if_neg (by simp)] at h2
     exact⟨i+1,cn,by omega,rfl,by go_num,uI LE (by simp),K1,h2⟩
   ·have ee:(er==0)=false:=zBq he
    have h2:=uI HE
    rw[if_pos he] at h2
    subst h2
    go_wp2_with fail
    go_ret
    exact⟨rfl,uI K1⟩
  ·have hiI:¬ (i:Int)<(xs.length:Int):=by omega
   have h2:=uI HE
   rw[List.drop_eq_nil_of_le (by omega),lkSs] at h2
   subst h2
   go_wp2_with fail
   go_ret
   exact⟨rfl,uI HC⟩
def lkB (l:List Sm)(d c:Nat):Int × Nat:=if 1<l.length then (5,c) else if isSE l=true then lkSs l d c else (8,c)
theorem ldone_any (xs:List Sm)(LE:∀ x∈xs,∀ d c,c≤20000→(lkS x d c).1=0→(lkS x d c).2≤20000)(IH:∀ x∈xs,LSm x)(B lb c d:Nat)(v:Value)(w:World)(hb:Box w lb [.int .i64 (c:Int)])(hB:B≤lb)(hc:c≤20000)(hd:d≤101)(hx:SmL B w v xs) :
  Calls Tryz.prog 169 #[.pointer (some ⟨lb,0,none⟩),v,.int .i64 (d:Int)] w fun e w'=>e=.returned (.int .i64 (lkB xs d c).1)∧Ctd w w' lb (lkB xs d c).2:=by
 have SA:=zH (fun W hb' hx'=>lstats_any xs LE IH B lb c d v W hb' hB hc hd hx')
 clear LE IH
 obtain⟨ao,cap,rfl,hmax,-⟩:=hx.at
 unfold maxLen at hmax
 have hlb:=hb.1
 have C0:=zH (show Ctd w w lb c from⟨hb,Kb.refl _ _⟩)
 unfold lkB
 by_cases h1:1<xs.length
 ·rw[if_pos h1]
  have h1I:(1:Int)<(xs.length:Int):=by omega
  go_enter Tryz.func169,Tryz.ntmps169
  go_wp2_with fail
  go_ret
  exact⟨rfl,uI C0⟩
 ·rw[if_neg h1]
  have h1I:¬ (1:Int)<(xs.length:Int):=by omega
  have HX:=zH hx
  clear hx
  generalize hR:(if isSE xs=true then lkSs xs d c else (8,c))=R
  have HR:=zH hR
  clear hR
  go_enter Tryz.func169,Tryz.ntmps169
  go_wp2_with fail
  go_loopg [14] xs.length (fun g t wr=>∃ (i:Nat),i≤xs.length∧g=xs.length - i∧t=.int .i64 (i:Int)∧Hid (isSE (xs.take i)=true)∧Hid (Below w.heap.size w wr))
  case atStart=>exact⟨0,Nat.zero_le _,rfl,rfl,rfl,Below.refl _ _⟩
  case round =>
   obtain⟨i,hi,hg,rfl,HE,HK⟩:=hrel
   generalize wr=W0 at *
   have hsz:=(uI HK).size
   by_cases hlt:i<xs.length
   ·have hxw:SmL B W0 (.slice ao xs.length cap) xs:=(uI HX).step ((uI HK).mono (by omega))
    obtain⟨b1,o1,sv,rfl,hbw,hra,hsv,hf⟩:=hxw.read i hlt
    have HRA:=zH hra
    have ONE:=zH hsv.one
    have hiI:(i:Int)<(xs.length:Int):=by omega
    have hi0:(0:Int)≤(i:Int):=by omega
    have ka:=qaa W0 (.cells (smA xs[i] sv) 103)
    have KA:=zH (bT (uI HK) ka)
    obtain⟨c0,c1,c2,c3,c4⟩:=(SmB.new W0 xs[i] sv).own
    have hAs:=zH (qak xs[i] sv)
    have ET:=zH (show isSE (xs.take (i+1))=(isSE (xs.take i)&&decide (xs[i].k=3∨xs[i].k=4)) by unfold isSE;rw[List.take_succ_eq_append_getElem hlt,List.all_append];simp)
    have EA:=zH (show isSE xs=true→decide (xs[i].k=3∨xs[i].k=4)=true from fun h=>by unfold isSE at h;exact List.all_eq_true.1 h _ (List.getElem_mem hlt))
    clear hra hxw hsv hf ka c1 c2 c3 c4
    generalize xs[i]=y at *
    generalize smA y sv=A at *
    generalize y.k=yk at *
    have RW:=qbp W0
    generalize hW1:W0.alloc (.cells A 103)=W1 at *
    by_cases h3:yk=3∨yk=4
    ·rcases h3 with rfl|rfl
     all_goals
      go_wp2_with (first|(refine wpList_load_mid rfl 103 (.tmp 16) rfl b1 (o1+i*21) rfl A.toList _ (uI HRA) Tryz.underlying103 rfl (by rw[Array.length_toList,uI hAs];exact Tryz.sizeStat) ?_)|(refine wpList_store_row rfl 103 (.tmp 8) (.tmp 17) rfl W0.heap.size A rfl rfl _ _ (heapNew0 _ _) (by rw[uI hAs];exact Tryz.sizeStat) (by rw[uI hAs];rfl) (uI ONE) ?_;rw[qbp,hW1]))
      go_roundg (xs.length - (i+1))
      case measure=>omega
      case rel =>
       refine⟨i+1,by omega,rfl,by go_num,?_,KA⟩
       show isSE (xs.take (i+1))=true
       rw[uI ET,uI HE];rfl
    ·have e3:(yk != 3)=true:=by apply bne_iff_ne.2;omega
     have e4:(yk != 4)=true:=by apply bne_iff_ne.2;omega
     have hns:isSE xs≠true:=fun h=>by have:=uI EA h;simp at this;omega
     have hR:=uI HR
     rw[if_neg hns] at hR
     subst hR
     go_wp2_with (first|(refine wpList_load_mid rfl 103 (.tmp 16) rfl b1 (o1+i*21) rfl A.toList _ (uI HRA) Tryz.underlying103 rfl (by rw[Array.length_toList,uI hAs];exact Tryz.sizeStat) ?_)|(refine wpList_store_row rfl 103 (.tmp 8) (.tmp 17) rfl W0.heap.size A rfl rfl _ _ (heapNew0 _ _) (by rw[uI hAs];exact Tryz.sizeStat) (by rw[uI hAs];rfl) (uI ONE) ?_;rw[qbp,hW1]))
     go_ret
     exact⟨rfl,Ctd.of (uI C0).box (uI KA)⟩
   ·have hiI:¬ (i:Int)<(xs.length:Int):=by omega
    have hse:=uI HE
    rw[List.take_of_length_le (by omega)] at hse
    have hR:=uI HR
    rw[if_pos hse] at hR
    have CS:=zH (uI SA W0 ((uI C0).box.step (uI HK)) ((uI HX).step ((uI HK).mono (by omega))))
    rw[hR] at CS
    clear hR HR
    go_wp2_with fail
    refine (uI CS).mono ?_
    rintro e w1 ⟨rfl,k1⟩
    go_wp2_with fail
    go_ret
    exact⟨rfl,(Ctd.of (uI C0).box (uI HK)).trans k1⟩
open Go.RowKit Go.Maps Go.Great
structure Sk (B:Nat)(w W:World)(sb vb fb lb:Nat)(wd:Int)(E:Nev)(L:Loc)(res:Int × Bool)(lp:Nat)(x:Sm)(v:Sv):Prop where
 wk:Wd9 B sb lb w W
 sc:Sc B W sb vb fb lb wd E L res lp
 bx:SmB W w.heap.size x v
 lts:sb<w.heap.size∧lb<w.heap.size
 sv:SvL B W x v
 ok:SmF x
section
variable {B:Nat} {w W W':World} {sb vb fb lb:Nat} {wd:Int} {E:Nev} {L L':Loc} {res:Int × Bool} {lp lp':Nat} {x:Sm} {v:Sv}
theorem Sk.begin (h:Sc B w sb vb fb lb wd E L res lp)(hs:SvL B w x v)(hf:SmF x):Sk B w (w.alloc (.cells (smA x v) 103)) sb vb fb lb wd E L res lp x v:=by
 have hal:=qaa w (.cells (smA x v) 103)
 exact⟨Wd9.of hal h.hB,h.step hal,SmB.new _ _ _,h.lts,hs.step (hal.mono h.hB),hf⟩
theorem Sk.next (h:Sk B w W sb vb fb lb wd E L res lp x v)(q:Wd9 B sb lb W W')(s:Sc B W' sb vb fb lb wd E L' res lp'):Sk B w W' sb vb fb lb wd E L' res lp' x v:=by
 have hl:=h.lts
 exact⟨h.wk.trans q,s,⟨q.wc.block _ _ h.bx.heap (by omega) (by omega) (fun cs fr e=>by injection e with _ e _;exact absurd e (by decide))⟩,hl,h.sv.step q.below,h.ok⟩
theorem Sk.step (h:Sk B w W sb vb fb lb wd E L res lp x v)(q:Below W.heap.size W W'):Sk B w W' sb vb fb lb wd E L res lp x v:=h.next (Wd9.of q h.sc.hB) (h.sc.step q)
end
theorem cperhaps_any (x:Sm)(v:Sv)(B:Nat)(w:World)(sb vb fb lb:Nat)(wd:Int)(E:Nev)(L:Loc)(res:Int × Bool)(lp:Nat)(h:Sc B w sb vb fb lb wd E L res lp)(hs:SvL B w x v)(hf:SmF x)(ho:x.has=true→TyC x.x) :
  Calls Tryz.prog 133 #[.pointer (some ⟨sb,0,none⟩),.agg (smA x v)] w fun e w'=>e=.returned (.int .i64 (perC E L x.has x.x))∧Below w.heap.size w w':=by
 have S0:=zH (Sk.begin h hs hf)
 have K0:=zH (qaa w (.cells (smA x v) 103))
 clear h hs hf
 generalize hA:smA x v=A at *
 generalize hW:w.alloc (.cells A 103)=W0 at *
 obtain⟨-,-,-,-,c4⟩:=(uI S0).bx.own
 obtain⟨p0,p1,p2,p3,p4,p5⟩:=(uI S0).bx.exX
 have hs0:w.heap.size<W0.heap.size:=(uI S0).bx.lt
 unfold perC
 by_cases hh:x.has=true
 ·rw[if_pos hh]
  rw[hh] at c4
  have XA:=zH (tells_any x.x (ho hh) B W0 sb vb fb lb wd E L res lp v.xk (uI S0).sc (uI S0).sv.hx (uI S0).ok.2.1)
  clear hh ho S0
  go_enter Tryz.func133,Tryz.ntmps133
  go_wp2_with (refine wpList_boxTo rfl 103 (.tmp 1) rfl (some 3) rfl _ rfl A rfl ?_;rw[hW])
  refine (uI XA).mono ?_
  rintro e W2 ⟨rfl,k2⟩
  have K2:=zH (bT (uI K0) k2)
  clear XA k2 K0 p0 p1 p2 p3 p4 p5 c4 hs0
  go_wp2_with fail
  go_ret
  exact⟨rfl,uI K2⟩
 ·have hh2:x.has=false:=by simpa using hh
  rw[if_neg hh]
  rw[hh2] at c4
  clear hh hh2 ho S0
  go_enter Tryz.func133,Tryz.ntmps133
  go_wp2_with (refine wpList_boxTo rfl 103 (.tmp 1) rfl (some 3) rfl _ rfl A rfl ?_;rw[hW])
  go_ret
  exact⟨rfl,uI K0⟩
theorem cset_any (x:Sm)(v:Sv)(B:Nat)(w:World)(sb vb fb lb:Nat)(wd:Int)(E:Nev)(L:Loc)(res:Int × Bool)(lp:Nat)(h:Sc B w sb vb fb lb wd E L res lp)(hs:SvL B w x v)(hf:SmF x)(ho:TyC x.x)(hi:x.has=true→TyC x.i) :
  Calls Tryz.prog 91 #[.pointer (some ⟨sb,0,none⟩),.agg (smA x v)] w fun e w'=>e=.returned (.int .i64 (setC E L x.has x.nm x.i x.x))∧Below w.heap.size w w':=by
 have S:=zH (Sk.begin h hs hf)
 have K0:=zH (qaa w (.cells (smA x v) 103))
 have HO:=zH ho
 clear h hs hf ho
 generalize hA:smA x v=A at *
 generalize hW:w.alloc (.cells A 103)=W0 at *
 obtain⟨R,hR⟩:∃ R,R=setC E L x.has x.nm x.i x.x:=⟨_,rfl⟩
 rw[← hR]
 obtain⟨c0,c1,c2,c3,c4⟩:=(uI S).bx.own
 obtain⟨q0,q1,q2,q3,q4,q5⟩:=(uI S).bx.exI
 obtain⟨p0,p1,p2,p3,p4,p5⟩:=(uI S).bx.exX
 have hs0:w.heap.size<W0.heap.size:=(uI S).bx.lt
 -- the end: from the name on,in whatever world
 have CA:=zH (fun (W:World) (s:Sk B w W sb vb fb lb wd E L res lp x v)=>asked_any B W sb vb fb lb wd E L res lp s.sc x.nm s.ok.1 x.has)
 have CX:=zH (fun (W:World) (s:Sk B w W sb vb fb lb wd E L res lp x v)=>tells_any x.x (uI HO) B W sb vb fb lb wd E L res lp v.xk s.sc s.sv.hx s.ok.2.1)
 unfold setC perC at hR
 generalize askC E L x.nm x.has=AC at *
 generalize tellC E L x.x=X at *
 obtain⟨⟨tb,ts⟩,e2⟩:=AC
 dsimp only at CA hR
 by_cases hh:x.has=true
 ·rw[hh] at c4 CA
  simp only[hh,if_true] at hR
  have CI:=zH (tells_any x.i (hi hh) B W0 sb vb fb lb wd E L res lp v.ik (uI S).sc (uI S).sv.hi (uI S).ok.2.2)
  have HHT:=zH hh
  clear hh hi
  generalize tellC E L x.i=I at *
  have HR:=zH hR
  clear hR
  go_enter Tryz.func91,Tryz.ntmps91
  go_wp2_with (refine wpList_boxTo rfl 103 (.tmp 1) rfl (some 3) rfl _ rfl A rfl ?_;rw[hW])
  refine (uI CI).mono ?_
  rintro e W1 ⟨rfl,k1⟩
  have S1:=zH ((uI S).step k1)
  have K1:=zH (bT (uI K0) k1)
  clear CI k1 S K0 c0 c1 c2 c3 c4 q0 q1 q2 q3 q4 q5 p0 p1 p2 p3 p4 p5 hs0
  by_cases h1:I=0
  rotate_left
  ·obtain rfl:R=I:=by rw[uI HR,if_pos h1]
   have b1:(R != 0)=true:=bne_iff_ne.2 h1
   clear h1 CA CX HR
   go_wp2_with fail
   go_ret
   exact⟨rfl,uI K1⟩
  subst h1
  have hR:=uI HR
  rw[if_neg (by decide)] at hR
  have HR:=zH hR
  clear hR
  obtain⟨c0,c1,c2,c3,c4⟩:=(uI S1).bx.own
  have hs0:w.heap.size<W1.heap.size:=(uI S1).bx.lt
  rw[uI HHT] at c4
  go_wp2_with fail
  refine (uI CA _ (uI S1)).mono ?_
  rintro e W2 ⟨rfl,k2⟩
  have kT:=qaa W2 (.cells #[.int .i64 tb,.bool ts] 34)
  have S2:=zH (((uI S1).step k2).step kT)
  have K2:=zH (bT (bT (uI K1) k2) kT)
  clear k2 kT S1 K1 CA c0 c1 c2 c3 c4 hs0
  generalize hW2:W2.alloc (.cells #[.int .i64 tb,.bool ts] 34)=W3 at *
  by_cases h2:e2=0
  rotate_left
  ·obtain rfl:R=e2:=by rw[uI HR,if_pos h2]
   have b2:(R != 0)=true:=bne_iff_ne.2 h2
   clear h2 CX HR
   by_cases hz:tb=0∧ts=false
   ·obtain⟨rfl,rfl⟩:=hz
    subst hW2
    go_wp2_with fail
    go_ret
    exact⟨rfl,uI K2⟩
   ·clear hz
    go_wp2_with fail
    go_ret
    exact⟨rfl,uI K2⟩
  subst h2
  have hR:=uI HR
  rw[if_neg (show ¬ ((0:Int)≠0) by decide)] at hR
  subst hR
  clear HR
  by_cases hz:tb=0∧ts=false
  ·obtain⟨rfl,rfl⟩:=hz
   have HCX:=zH (uI CX _ (uI S2))
   obtain⟨p0,p1,p2,p3,p4,p5⟩:=(uI S2).bx.exX
   have hs2:w.heap.size<W3.heap.size:=(uI S2).bx.lt
   clear S2 CX
   subst hW2
   go_wp2_with fail
   refine (uI HCX).mono ?_
   rintro e W4 ⟨rfl,k4⟩
   have K4:=zH (bT (uI K2) k4)
   clear k4 K2 HCX p0 p1 p2 p3 p4 p5 hs2
   go_wp2_with fail
   go_ret
   exact⟨rfl,uI K4⟩
  ·clear hz
   have HCX:=zH (uI CX _ (uI S2))
   obtain⟨p0,p1,p2,p3,p4,p5⟩:=(uI S2).bx.exX
   have hs2:w.heap.size<W3.heap.size:=(uI S2).bx.lt
   clear S2 CX
   go_wp2_with fail
   refine (uI HCX).mono ?_
   rintro e W4 ⟨rfl,k4⟩
   have K4:=zH (bT (uI K2) k4)
   clear k4 K2 HCX p0 p1 p2 p3 p4 p5 hs2
   go_wp2_with fail
   go_ret
   exact⟨rfl,uI K4⟩
 ·have hh2:x.has=false:=by simpa using hh
  rw[hh2] at c4 CA
  replace hR:R=if e2≠0 then e2 else X:=by rw[hR,hh2];rfl
  have HR:=zH hR
  clear hR hh hh2 hi p0 p1 p2 p3 p4 p5 q0 q1 q2 q3 q4 q5
  go_enter Tryz.func91,Tryz.ntmps91
  go_wp2_with (refine wpList_boxTo rfl 103 (.tmp 1) rfl (some 3) rfl _ rfl A rfl ?_;rw[hW])
  have S1:=S
  have K1:=K0
  clear S K0
  refine (uI CA _ (uI S1)).mono ?_
  rintro e W2 ⟨rfl,k2⟩
  have kT:=qaa W2 (.cells #[.int .i64 tb,.bool ts] 34)
  have S2:=zH (((uI S1).step k2).step kT)
  have K2:=zH (bT (bT (uI K1) k2) kT)
  clear k2 kT S1 K1 CA c0 c1 c2 c3 c4 hs0
  generalize hW2:W2.alloc (.cells #[.int .i64 tb,.bool ts] 34)=W3 at *
  by_cases h2:e2=0
  rotate_left
  ·obtain rfl:R=e2:=by rw[uI HR,if_pos h2]
   have b2:(R != 0)=true:=bne_iff_ne.2 h2
   clear h2 CX HR
   by_cases hz:tb=0∧ts=false
   ·obtain⟨rfl,rfl⟩:=hz
    subst hW2
    go_wp2_with fail
    go_ret
    exact⟨rfl,uI K2⟩
   ·clear hz
    go_wp2_with fail
    go_ret
    exact⟨rfl,uI K2⟩
  subst h2
  have hR:=uI HR
  rw[if_neg (show ¬ ((0:Int)≠0) by decide)] at hR
  subst hR
  clear HR
  by_cases hz:tb=0∧ts=false
  ·obtain⟨rfl,rfl⟩:=hz
   have HCX:=zH (uI CX _ (uI S2))
   obtain⟨p0,p1,p2,p3,p4,p5⟩:=(uI S2).bx.exX
   have hs2:w.heap.size<W3.heap.size:=(uI S2).bx.lt
   clear S2 CX
   subst hW2
   go_wp2_with fail
   refine (uI HCX).mono ?_
   rintro e W4 ⟨rfl,k4⟩
   have K4:=zH (bT (uI K2) k4)
   clear k4 K2 HCX p0 p1 p2 p3 p4 p5 hs2
   go_wp2_with fail
   go_ret
   exact⟨rfl,uI K4⟩
  ·clear hz
   have HCX:=zH (uI CX _ (uI S2))
   obtain⟨p0,p1,p2,p3,p4,p5⟩:=(uI S2).bx.exX
   have hs2:w.heap.size<W3.heap.size:=(uI S2).bx.lt
   clear S2 CX
   go_wp2_with fail
   refine (uI HCX).mono ?_
   rintro e W4 ⟨rfl,k4⟩
   have K4:=zH (bT (uI K2) k4)
   clear k4 K2 HCX p0 p1 p2 p3 p4 p5 hs2
   go_wp2_with fail
   go_ret
   exact⟨rfl,uI K4⟩
def ScR (B:Nat)(w:World)(sb vb fb lb:Nat)(wd:Int)(E:Nev)(res:Int × Bool)(lp:Nat)(R:Int × Loc)(e:Ending)(w':World):Prop:=e=.returned (.int .i64 R.1)∧Sc B w' sb vb fb lb wd E R.2 res lp∧Wd9 B sb lb w w'
theorem cdeclaration_any (x:Sm)(v:Sv)(B:Nat)(w:World)(sb vb fb lb:Nat)(wd:Int)(E:Nev)(L:Loc)(res:Int × Bool)(lp:Nat)(h:Sc B w sb vb fb lb wd E L res lp)(hs:SvL B w x v)(hf:SmF x)(ho:x.has=true→TyC x.x)(hb:IsW x.b)(hfr:L.fr≤1000000) :
  Calls Tryz.prog 90 #[.pointer (some ⟨sb,0,none⟩),.agg (smA x v)] w fun e w'=>ScR B w sb vb fb lb wd E res lp (thc (perC E L x.has x.x,L) fun L=>declC L x.b x.s x.nm) e w':=by
 have S:=zH (Sk.begin h hs hf)
 have hAs:=zH (qak x v)
 have CP:=zH (fun (W:World) (s:Sk B w W sb vb fb lb wd E L res lp x v)=>cperhaps_any x v B W sb vb fb lb wd E L res lp s.sc s.sv s.ok ho)
 have CD:=zH (fun (W:World) (s:Sk B w W sb vb fb lb wd E L res lp x v)=>declare_any B W sb vb fb lb wd E L res lp s.sc x.b x.s x.nm s.ok.1 hb hfr)
 clear h hs hf ho hb hfr
 obtain⟨R,hR⟩:∃ R,R=thc (perC E L x.has x.x,L) fun L=>declC L x.b x.s x.nm:=⟨_,rfl⟩
 rw[← hR]
 have HH:=(uI S).bx.heap
 generalize hA:smA x v=A at *
 generalize hW:w.alloc (.cells A 103)=W0 at *
 have hs0:w.heap.size<W0.heap.size:=(uI S).bx.lt
 have C0:=zH (uI CP W0 (uI S))
 generalize perC E L x.has x.x=P at *
 have HR:=zH hR
 clear hR CP
 go_enter Tryz.func90,Tryz.ntmps90
 go_wp2_with (first|(refine wpList_boxTo rfl 103 (.tmp 1) rfl (some 3) rfl _ rfl A rfl ?_;rw[hW])|(refine wpList_load_row rfl 103 (.tmp 3) rfl w.heap.size rfl _ A _ _ HH Tryz.underlying103 rfl (by rw[uI hAs];exact Tryz.sizeStat) ?_))
 refine (uI C0).mono ?_
 rintro e W1 ⟨rfl,k1⟩
 have S1:=zH ((uI S).step k1)
 clear C0 S k1 HH hs0
 by_cases h1:P=0
 rotate_left
 ·obtain rfl:R=(P,L):=by rw[uI HR];exact if_pos h1
  have b1:(P != 0)=true:=bne_iff_ne.2 h1
  clear h1 CD HR
  go_wp2_with fail
  go_ret
  exact⟨rfl,(uI S1).sc,(uI S1).wk⟩
 subst h1
 have hRd:R=declC L x.b x.s x.nm:=by rw[uI HR];exact if_neg (show ¬ ((0:Int)≠0) by decide)
 have D0:=uI CD W1 (uI S1)
 rw[← hRd] at D0
 have D1:=zH D0
 clear hRd D0
 obtain⟨c0,c1,c2,c3,c4⟩:=(uI S1).bx.own
 have hs1:w.heap.size<W1.heap.size:=(uI S1).bx.lt
 clear CD HR
 go_wp2_with fail
 refine (uI D1).mono ?_
 rintro e W2 ⟨rfl,sc2,k2⟩
 have Z:=zH (And.intro sc2 ((uI S1).wk.trans k2))
 clear D1 S1 sc2 k2 c0 c1 c2 c3 c4 hs1
 go_wp2_with fail
 go_ret
 exact⟨rfl,(uI Z).1,(uI Z).2⟩
open Go.RowKit

mutual
def szS:Sm→Nat
 | .mk k _ _ _ _ _ _ i s b e=>1+(if k=7 then szL i+szL s else 0)+(if k=5∨k=6∨k=7∨k=11 then szL b else 0)+(if k=5 then szL e else 0)
def szL:List Sm→Nat
 | []=>0
 | x::xs=>szS x+szL xs
end
theorem szS_at (x:Sm):1≤szS x∧(x.k=5→szS x=1+szL x.body+szL x.els)∧(x.k=6∨x.k=11→szS x=1+szL x.body)∧(x.k=7→szS x=1+szL x.init+szL x.step+szL x.body):=by
 obtain⟨k,b,s,nm,has,x,i,init,step,body,els⟩:=x
 simp only[Sm.k,Sm.init,Sm.step,Sm.body,Sm.els]
 rw[szS]
 refine⟨by omega,fun h=>?_,fun h=>?_,fun h=>?_⟩
 ·rw[if_neg (by omega),if_pos (by omega),if_pos h];try omega
 ·rw[if_neg (by omega),if_pos (by omega),if_neg (by omega)];try omega
 ·rw[if_pos h,if_pos (by omega),if_neg (by omega)];try omega
inductive NmS:Sm→Prop
 | mk (x:Sm) (h:x.nm.size≤maxLen) (h1:∀ y∈x.init,NmS y) (h2:∀ y∈x.step,NmS y) (h3:∀ y∈x.body,NmS y) (h4:∀ y∈x.els,NmS y):NmS x
theorem nmS_of:∀ (x:Sm) (B:Nat) (w:World),x.nm.size≤maxLen→(∃ v,SmL B w v x.init)→(∃ v,SmL B w v x.step)→(∃ v,SmL B w v x.body)→(∃ v,SmL B w v x.els)→NmS x:=by
 apply Sm.ind
 intro x I1 I2 I3 I4 B w hn h1 h2 h3 h4
 have key:∀ l:List Sm,(∃ v,SmL B w v l)→(∀ y∈l,∀ (B:Nat) (w:World),y.nm.size≤maxLen→(∃ v,SmL B w v y.init)→(∃ v,SmL B w v y.step)→(∃ v,SmL B w v y.body)→(∃ v,SmL B w v y.els)→NmS y)→∀ y∈l,NmS y:=by
  intro l ⟨v,hl⟩ I y hy
  cases hl with
  | mk v xs ks hlen hv lies ok hx hi a1 a2 a3 a4 =>
   obtain⟨j,hj,rfl⟩:=List.mem_iff_getElem.1 hy
   exact I _ hy B w (ok _ hy).1 ⟨_,a1 j hj⟩ ⟨_,a2 j hj⟩ ⟨_,a3 j hj⟩ ⟨_,a4 j hj⟩
 exact .mk x hn (key _ h1 I1) (key _ h2 I2) (key _ h3 I3) (key _ h4 I4)
def OpOk (L:Loc):Prop:=∀ k∈L.op,k.size≤maxLen
def Gd (n:Nat)(L L':Loc):Prop:=L.fr≤L'.fr∧L'.fr≤L.fr+4*(n:Int)∧(OpOk L→OpOk L')∧L.op.length≤L'.op.length
theorem Gd.refl (n:Nat)(L:Loc):Gd n L L:=⟨Int.le_refl _,by omega,fun h=>h,Nat.le_refl _⟩
theorem Gd.trans {n m:Nat}{L M N:Loc}(h:Gd n L M)(k:Gd m M N):Gd (n+m) L N:=⟨Int.le_trans h.1 k.1,by have:=h.2.1;have:=k.2.1;omega,fun o=>k.2.2.1 (h.2.2.1 o),Nat.le_trans h.2.2.2 k.2.2.2⟩
theorem Gd.mono {n m:Nat}{L M:Loc}(h:Gd n L M)(hm:n≤m):Gd m L M:=⟨h.1,by have:=h.2.1;omega,h.2.2⟩
theorem gd_hid {n:Nat}{L M:Loc}(h:Gd n L M):Gd n L (hideC L.op.length M):=⟨h.1,h.2.1,fun o x hx=>h.2.2.1 o x (List.mem_of_mem_take hx),by show _≤(M.op.take L.op.length).length;rw[List.length_take];have:=h.2.2.2;omega⟩
theorem gd_decl (L:Loc)(b:Int)(s:Bool)(nm:ByteArray)(hn:nm.size≤maxLen):Gd 1 L (declC L b s nm).2:=by
 unfold declC
 split
 ·exact Gd.refl _ _
 ·have:1≤wds b∧wds b≤4:=by
   unfold wds
   repeat' split
   all_goals omega
  refine⟨by show L.fr≤L.fr+wds b;omega,by show L.fr+wds b≤L.fr+4*1;omega,fun o x hx=>?_,by show _≤(L.op++[nm]).length;simp⟩
  rcases List.mem_append.1 hx with hx|hx
  ·exact o x hx
  ·rw[List.mem_singleton.1 hx];exact hn
theorem gd_thc {n m:Nat}{L:Loc}{r:Int × Loc}{f:Loc→Int × Loc}(h:Gd n L r.2)(k:∀ M,Gd m M (f M).2):Gd (n+m) L (thc r f).2:=by
 unfold thc
 split
 ·exact h.mono (by omega)
 ·exact h.trans (k _)
theorem gd_list (E:Nev)(res:Int × Bool):∀ xs:List Sm,(∀ y∈xs,∀ lp L,Gd (szS y) L (ckS E res y lp L).2)→∀ lp L,Gd (szL xs) L (ckL E res xs lp L).2:=by
 intro xs
 induction xs with
 | nil=>intro _ lp L;rw[ckL];exact Gd.refl _ _
 | cons x xs ih =>
  intro I lp L
  rw[ckL,szL]
  exact gd_thc (I x List.mem_cons_self lp L) fun M=>ih (fun y hy=>I y (List.mem_cons_of_mem _ hy)) lp M
theorem ckS_gd (E:Nev)(res:Int × Bool):∀ x:Sm,NmS x→∀ lp L,Gd (szS x) L (ckS E res x lp L).2:=by
 apply Sm.ind
 intro x I1 I2 I3 I4 hn lp L
 obtain⟨_,hnm,n1,n2,n3,n4⟩:=hn
 have L1:=gd_list E res x.init fun y hy=>I1 y hy (n1 y hy)
 have L2:=gd_list E res x.step fun y hy=>I2 y hy (n2 y hy)
 have L3:=gd_list E res x.body fun y hy=>I3 y hy (n3 y hy)
 have L4:=gd_list E res x.els fun y hy=>I4 y hy (n4 y hy)
 have Z:=szS_at x
 obtain⟨k,b,s,nm,has,x,i,init,step,body,els⟩:=x
 simp only[Sm.k,Sm.init,Sm.step,Sm.body,Sm.els,Sm.nm] at *
 rw[ckS]
 generalize szS (Sm.mk k b s nm has x i init step body els)=z at *
 obtain⟨z1,z5,z6,z7⟩:=Z
 have b1:∀ lp M,Gd (szL body) M (hid M (ckL E res body lp M)).2:=fun lp M=>gd_hid (L3 lp M)
 have b2:∀ lp M,Gd (szL els) M (hid M (ckL E res els lp M)).2:=fun lp M=>gd_hid (L4 lp M)
 have b3:∀ lp M,Gd (szL init) M (hid M (ckL E res init lp M)).2:=fun lp M=>gd_hid (L1 lp M)
 have b4:∀ lp M,Gd (szL step) M (hid M (ckL E res step lp M)).2:=fun lp M=>gd_hid (L2 lp M)
 split
 ·exact (gd_thc (Gd.refl 0 L) fun M=>gd_decl M b s nm hnm).mono (by omega)
 split
 ·exact Gd.refl _ _
 split
 ·exact Gd.refl _ _
 split
 ·exact Gd.refl _ _
 split
 ·exact Gd.refl _ _
 split
 ·exact (gd_thc (Gd.refl 0 L) fun M=>gd_thc (b1 lp M) fun N=>b2 lp N).mono (by omega)
 split
 ·exact (gd_thc (Gd.refl 0 L) fun M=>b1 (lp+1) M).mono (by omega)
 split
 ·exact (gd_thc (b3 lp L) fun M=>gd_thc (Gd.refl 0 M) fun N=>gd_thc (b4 lp N) fun O=>b1 (lp+1) O).mono (by omega)
 split
 ·exact (b1 lp L).mono (by omega)
 ·exact Gd.refl _ _
end Go.Proofs.YtjpnnmkefaodoaaGreat
