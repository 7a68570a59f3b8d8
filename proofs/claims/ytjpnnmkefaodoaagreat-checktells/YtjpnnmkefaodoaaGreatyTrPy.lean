/-
  TrP, LwG, LwH, LwI.
-/
import Derived.Test.YtjpnnmkefaodoaaGreatyLwFy
set_option maxHeartbeats 8000000
set_option maxRecDepth 100000
namespace Go.Proofs.YtjpnnmkefaodoaaGreat
open Go.RowKit
set_option linter.unusedSimpArgs false
set_option linter.unusedVariables false
def gbC (g:Gb)(kv:Value):List Value:=[.int .i64 g.b,.bool g.s,.string g.nm,.int .i64 g.size,kv]
def pmC (p:Pm)(_:Value):List Value:=[.int .i64 p.b,.bool p.s,.string p.nm]
def fnC (f:Fn8)(v:Value × Value):List Value:=[.string f.nm,.int .i64 f.b,.bool f.s,v.1,v.2]
structure RowL {α β:Type}(n:Nat)(c:α→β→List Value)(Pr:World→α→β→Prop)(B:Nat)(w:World)(v:Value)(xs:List α)(ks:List β):Prop where
 hl:ks.length=xs.length
 hv:∀ c,v.ownBlock=some c→xs≠[]→c<B
 lies:Lies w n v xs.length ((xs.zip ks).flatMap fun p=>c p.1 p.2)
 each:∀ i (h:i<xs.length),Pr w xs[i] (ks[i]'(by omega))
theorem RowL.step {α β:Type}{n:Nat}{c:α→β→List Value}{Pr:World→α→β→Prop}{B:Nat}{w w':World}{v:Value}{xs:List α}{ks:List β}(h:RowL n c Pr B w v xs ks)(k:Below B w w')(hp:∀ x y,Pr w x y→Pr w' x y):RowL n c Pr B w' v xs ks :=
 ⟨h.hl,h.hv,lies_below h.lies (fun hn c hc=>h.hv c hc (fun e=>hn (by rw[e];rfl))) k,fun i hi=>hp _ _ (h.each i hi)⟩
theorem RowL.slice {α β:Type}{n:Nat}{c:α→β→List Value}{Pr:World→α→β→Prop}{B:Nat}{w:World}{v:Value}{xs:List α}{ks:List β}(h:RowL n c Pr B w v xs ks):∃ ao cap,v=.slice ao xs.length cap∧xs.length≤maxLen:=by
 obtain⟨-,ao,cap,e,h3,h4,-⟩:=h.lies
 exact⟨ao,cap,e,Nat.le_trans h3 h4⟩
theorem RowL.read {α β:Type}{n:Nat}{c:α→β→List Value}{Pr:World→α→β→Prop}{B:Nat}{w:World}{ao:Option Addr}{m cap:Nat}{xs:List α}{ks:List β}(h:RowL n c Pr B w (.slice ao m cap) xs ks)(hn:0<n)(hc:∀ x y,(c x y).length=n)(i:Nat)(hi:i<xs.length) :
  ∃ b off k,ao=some ⟨b,off,none⟩∧b<w.heap.size∧Pr w xs[i] k∧∀ j u,(c xs[i] k)[j]?=some u→w.cell? ⟨b,off+i*n+j,none⟩=some u:=by
 obtain⟨h1,ao',cap',e1,h3,h4,h6,h5⟩:=h.lies
 injection e1 with e1 _ e2
 subst e1 e2
 obtain⟨b,off,rfl,hb,hce⟩:=h5 (by omega)
 have hl:=h.hl
 refine⟨b,off,ks[i]'(by omega),rfl,hb,h.each i hi,fun j u hu=>?_⟩
 have hj:j<n:=by have:=(List.getElem?_eq_some_iff.1 hu).1;rw[hc] at this;exact this
 have hlt:i*n+j<xs.length*n:=by
  have h7:i*n+n≤xs.length*n:=by rw[← Nat.succ_mul];exact Nat.mul_le_mul_right n hi
  omega
 rw[Nat.add_assoc,hce (i*n+j) hlt,zip_flat hc xs ks hl i hi j hj]
 exact hu
def GbP (B:Nat)(w:World)(g:Gb)(kv:Value):Prop:=g.nm.size≤maxLen∧ExL B w kv g.init
def GbL (B:Nat)(w:World)(v:Value)(gs:List Gb):Prop:=∃ ks,RowL 5 gbC (GbP B) B w v gs ks
theorem GbL.step {B:Nat}{w w':World}{v:Value}{gs:List Gb}(h:GbL B w v gs)(k:Below B w w'):GbL B w' v gs:=by
 obtain⟨ks,r⟩:=h
 exact⟨ks,r.step k fun _ _ q=>⟨q.1,q.2.step k⟩⟩
def PmP (_:World)(p:Pm)(_:Value):Prop:=p.nm.size≤maxLen
def PmL (B:Nat)(w:World)(v:Value)(ps:List Pm):Prop:=∃ ks,RowL 3 pmC PmP B w v ps ks
theorem PmL.step {B:Nat}{w w':World}{v:Value}{ps:List Pm}(h:PmL B w v ps)(k:Below B w w'):PmL B w' v ps:=by
 obtain⟨ks,r⟩:=h
 exact⟨ks,r.step k fun _ _ q=>q⟩
def FnP (B:Nat)(w:World)(f:Fn8)(v:Value × Value):Prop:=f.nm.size≤maxLen∧PmL B w v.1 f.params∧SmL B w v.2 f.body
def FnL (B:Nat)(w:World)(v:Value)(fs:List Fn8):Prop:=∃ ks,RowL 5 fnC (FnP B) B w v fs ks
theorem FnL.step {B:Nat}{w w':World}{v:Value}{fs:List Fn8}(h:FnL B w v fs)(k:Below B w w'):FnL B w' v fs:=by
 obtain⟨ks,r⟩:=h
 exact⟨ks,r.step k fun _ _ q=>⟨q.1,q.2.1.step k,q.2.2.step k⟩⟩
theorem GbL.slice {B:Nat}{w:World}{v:Value}{gs:List Gb}(h:GbL B w v gs):∃ ao cap,v=.slice ao gs.length cap∧gs.length≤maxLen:=by obtain⟨ks,r⟩:=h;exact r.slice
theorem FnL.slice {B:Nat}{w:World}{v:Value}{fs:List Fn8}(h:FnL B w v fs):∃ ao cap,v=.slice ao fs.length cap∧fs.length≤maxLen:=by obtain⟨ks,r⟩:=h;exact r.slice
theorem PmL.slice {B:Nat}{w:World}{v:Value}{ps:List Pm}(h:PmL B w v ps):∃ ao cap,v=.slice ao ps.length cap∧ps.length≤maxLen:=by obtain⟨ks,r⟩:=h;exact r.slice
theorem GbL.read {B:Nat}{w:World}{ao:Option Addr}{m cap:Nat}{gs:List Gb}(h:GbL B w (.slice ao m cap) gs)(i:Nat)(hi:i<gs.length):∃ b off ka kc,ao=some ⟨b,off,none⟩∧b<w.heap.size∧gs[i].nm.size≤maxLen∧ExL B w (.slice ka gs[i].init.length kc) gs[i].init ∧
  w.cell? ⟨b,off+i*5,none⟩=some (.int .i64 gs[i].b)∧w.cell? ⟨b,off+i*5+1,none⟩=some (.bool gs[i].s)∧w.cell? ⟨b,off+i*5+2,none⟩=some (.string gs[i].nm)∧w.cell? ⟨b,off+i*5+3,none⟩=some (.int .i64 gs[i].size)∧w.cell? ⟨b,off+i*5+4,none⟩=some (.slice ka gs[i].init.length kc):=by
 obtain⟨ks,r⟩:=h
 obtain⟨b,off,k,e,hb,⟨hp,hx⟩,hc⟩:=r.read (by decide) (fun _ _=>rfl) i hi
 obtain⟨ka,kc,rfl⟩:=hx.slice
 exact⟨b,off,ka,kc,e,hb,hp,hx,hc 0 _ rfl,hc 1 _ rfl,hc 2 _ rfl,hc 3 _ rfl,hc 4 _ rfl⟩
theorem PmL.read {B:Nat}{w:World}{ao:Option Addr}{m cap:Nat}{ps:List Pm}(h:PmL B w (.slice ao m cap) ps)(i:Nat)(hi:i<ps.length):∃ b off,ao=some ⟨b,off,none⟩∧b<w.heap.size∧ps[i].nm.size≤maxLen ∧
  w.cell? ⟨b,off+i*3,none⟩=some (.int .i64 ps[i].b)∧w.cell? ⟨b,off+i*3+1,none⟩=some (.bool ps[i].s)∧w.cell? ⟨b,off+i*3+2,none⟩=some (.string ps[i].nm):=by
 obtain⟨ks,r⟩:=h
 obtain⟨b,off,k,e,hb,hp,hc⟩:=r.read (by decide) (fun _ _=>rfl) i hi
 exact⟨b,off,e,hb,hp,hc 0 _ rfl,hc 1 _ rfl,hc 2 _ rfl⟩
theorem FnL.read {B:Nat}{w:World}{ao:Option Addr}{m cap:Nat}{fs:List Fn8}(h:FnL B w (.slice ao m cap) fs)(i:Nat)(hi:i<fs.length):∃ b off pa pc sa sc,ao=some ⟨b,off,none⟩∧b<w.heap.size∧fs[i].nm.size≤maxLen∧PmL B w (.slice pa fs[i].params.length pc) fs[i].params∧SmL B w (.slice sa fs[i].body.length sc) fs[i].body ∧
  w.cell? ⟨b,off+i*5,none⟩=some (.string fs[i].nm)∧w.cell? ⟨b,off+i*5+1,none⟩=some (.int .i64 fs[i].b)∧w.cell? ⟨b,off+i*5+2,none⟩=some (.bool fs[i].s)∧w.cell? ⟨b,off+i*5+3,none⟩=some (.slice pa fs[i].params.length pc)∧w.cell? ⟨b,off+i*5+4,none⟩=some (.slice sa fs[i].body.length sc):=by
 obtain⟨ks,r⟩:=h
 obtain⟨b,off,k,e,hb,⟨hp,hx,hy⟩,hc⟩:=r.read (by decide) (fun _ _=>rfl) i hi
 obtain⟨k1,k2⟩:=k
 dsimp only at hx hy hc
 obtain⟨pa,pc,rfl,-⟩:=hx.slice
 obtain⟨sa,sc,rfl⟩:=hy.slice
 exact⟨b,off,pa,pc,sa,sc,e,hb,hp,hx,hy,hc 0 _ rfl,hc 1 _ rfl,hc 2 _ rfl,hc 3 _ rfl,hc 4 _ rfl⟩
open Go.RowKit Go.Great
theorem qat {w:World}{b:Nat}{a0 a1 a2 a3 a4:Value}(h:Box w b [a0,a1,a2,a3,a4]):w.cell? ⟨b,0,none⟩=some a0∧w.cell? ⟨b,1,none⟩=some a1∧w.cell? ⟨b,2,none⟩=some a2∧w.cell? ⟨b,3,none⟩=some a3∧w.cell? ⟨b,4,none⟩=some a4 :=
 ⟨h.2.1 0 _ rfl,h.2.1 1 _ rfl,h.2.1 2 _ rfl,h.2.1 3 _ rfl,h.2.1 4 _ rfl⟩
theorem lkEs_le2 (xs:List Ex)(d c:Nat)(hc:c≤20000)(h:(lkEs xs d c).1=0):(lkEs xs d c).2≤20000:=lkEs_le (fun x _=>qa7 x) d c hc h
theorem lkSs_le2 (xs:List Sm)(d c:Nat)(hc:c≤20000)(h:(lkSs xs d c).1=0):(lkSs xs d c).2≤20000:=qbe (fun x _=>qa0 x) d c hc h
theorem lkG_le (g:Gb)(c:Nat)(hc:c≤20000):(lkG g c).1=0→(lkG g c).2≤20000:=by
 unfold lkG
 split
 ·intro _;exact hc
 ·split
  ·intro _;exact hc
  ·split
   ·intro _;exact hc
   ·split
    ·rename_i h;intro e;exact absurd e h
    ·rename_i h;exact lkEs_le2 _ _ _ (qaf (by simpa using h)).1
theorem lkF_le (f:Fn8)(c:Nat)(hc:c≤20000):(lkF f c).1=0→(lkF f c).2≤20000:=by
 unfold lkF
 split
 ·intro _;exact hc
 ·split
  ·intro _;exact hc
  ·split
   ·intro _;exact hc
   ·split
    ·intro _;exact hc
    ·split
     ·rename_i h;intro e;exact absurd e h
     ·rename_i h;exact lkSs_le2 _ _ _ (qaf (by simpa using h)).1
theorem lglob_any (g:Gb)(B lb c:Nat)(ka:Option Addr)(kc:Nat)(w:World)(hb:Box w lb [.int .i64 (c:Int)])(hB:B≤lb)(hc:c≤20000)(hx:ExL B w (.slice ka g.init.length kc) g.init) :
  Calls Tryz.prog 47 #[.pointer (some ⟨lb,0,none⟩),.agg #[.int .i64 g.b,.bool g.s,.string g.nm,.int .i64 g.size,.slice ka g.init.length kc]] w fun e w'=>e=.returned (.int .i64 (lkG g c).1)∧Ctd w w' lb (lkG g c).2:=by
 have kal:=qaa w (.cells #[.int .i64 g.b,.bool g.s,.string g.nm,.int .i64 g.size,.slice ka g.init.length kc] 37)
 have BX:=Box.new w #[.int .i64 g.b,.bool g.s,.string g.nm,.int .i64 g.size,.slice ka g.init.length kc] 37
 have hlb:=hb.1
 have NA:=zH (swnamed_any g.b g.s g.nm (w.alloc (.cells #[.int .i64 g.b,.bool g.s,.string g.nm,.int .i64 g.size,.slice ka g.init.length kc] 37)))
 have HX:=zH (hx.step (kal.mono (by omega)))
 have HBX:=zH BX
 have C0:=zH (Ctd.of hb kal)
 obtain⟨-,-,-,hmax,-⟩:=hx.at
 unfold maxLen at hmax
 have EQ:Hid (lkG g c=if wTyped g.b g.nm≠0 then (wTyped g.b g.nm,c) else if g.size<0∨8000<g.size then (3,c) else if (max 1 g.size)<(g.init.length:Int) then (5,c) else if nodeW 1 c≠0 then (nodeW 1 c,c+1) else lkEs g.init 2 (c+1)):=rfl
 have EX:=zH (fun W c' hb' hc' hx'=>lexprs_any g.init (fun y _=>lexpr_any y) B lb c' 2 (.slice ka g.init.length kc) W hb' hB hc' (by omega) hx')
 have ND:=zH (fun W hb'=>lnode_any lb c 1 W hb' hc (by omega))
 have HN:=zH (fun h=>qaf (d:=1) (c:=c) h)
 clear hb kal BX hx
 generalize lkG g c=R at *
 generalize wTyped g.b g.nm=wt at *
 generalize nodeW 1 c=nw at *
 generalize hRE:lkEs g.init 2 (c+1)=RE at EQ
 have HRE:=zH hRE
 clear hRE
 obtain⟨b,s,nm,size,l⟩:=g
 dsimp only at *
 go_enter Tryz.func47,Tryz.ntmps47
 go_wp2_with fail
 refine (uI NA).mono ?_
 rintro e w1 ⟨rfl,k1⟩
 have C1:=zH ((uI C0).trans (Ctd.of (uI C0).box k1))
 have BX1:=(uI HBX).step k1
 obtain⟨q0,q1,q2,q3,q4⟩:=qat BX1
 have hw1:w.heap.size<w1.heap.size:=BX1.1
 have HX1:=zH ((uI HX).step (k1.mono (by simp;omega)))
 have HBX1:=zH BX1
 clear NA k1 HBX HX C0 BX1
 by_cases h1:wt=0
 ·subst h1
  have E1:=uI EQ
  rw[if_neg (by simp)] at E1
  clear EQ
  by_cases h2:size<0
  ·rw[if_pos (.inl h2)] at E1
   subst E1
   go_wp2_with fail
   go_ret
   exact⟨rfl,uI C1⟩
  ·by_cases h3:8000<size
   ·rw[if_pos (.inr h3)] at E1
    subst E1
    go_wp2_with fail
    go_ret
    exact⟨rfl,uI C1⟩
   ·rw[if_neg (by omega)] at E1
    by_cases h4:(max 1 size)<(l.length:Int)
    ·rw[if_pos h4] at E1
     subst E1
     go_wp2_with fail
     go_ret
     exact⟨rfl,uI C1⟩
    ·rw[if_neg h4] at E1
     have E2:=zH E1
     clear E1
     go_wp2_with fail
     refine (uI ND _ (uI C1).box).mono ?_
     rintro e w2 ⟨rfl,k2⟩
     have C2:=zH ((uI C1).trans k2)
     have BX2:=(uI HBX1).kb k2.kb (by omega)
     obtain⟨r0,r1,r2,r3,r4⟩:=qat BX2
     have hw2:w.heap.size<w2.heap.size:=BX2.1
     have HX2:=zH ((uI HX1).step (k2.kb.below (by omega) hB))
     clear ND k2 HBX1 HX1 C1 BX2 q0 q1 q2 q3 q4
     by_cases h5:nw=0
     ·subst h5
      obtain⟨hc1,-⟩:=uI HN rfl
      have E3:=uI E2
      rw[if_neg (by simp)] at E3
      clear E2
      have CA:=zH (uI EX _ (c+1) (uI C2).box hc1 (uI HX2))
      rw[uI HRE,← E3] at CA
      clear E3
      go_wp2_with fail
      refine (uI CA).mono ?_
      rintro e w3 ⟨rfl,k3⟩
      go_wp2_with fail
      go_ret
      exact⟨rfl,(uI C2).trans k3⟩
     ·have e5:(nw==0)=false:=zBq h5
      have E3:=uI E2
      rw[if_pos h5] at E3
      subst E3
      go_wp2_with fail
      go_ret
      exact⟨rfl,uI C2⟩
 ·have e1:(wt==0)=false:=zBq h1
  have E1:=uI EQ
  rw[if_pos h1] at E1
  subst E1
  go_wp2_with fail
  go_ret
  exact⟨rfl,uI C1⟩
theorem lkPs_cons (p:Pm)(ps:List Pm):lkPs (p::ps)=if wTyped p.b p.nm≠0 then wTyped p.b p.nm else lkPs ps:=by rw[lkPs]
theorem lfunc_any (f:Fn8)(B lb c:Nat)(pa sa:Option Addr)(pc sc:Nat)(w:World)(hb:Box w lb [.int .i64 (c:Int)])(hB:B≤lb)(hc:c≤20000)(hp:PmL B w (.slice pa f.params.length pc) f.params)(hs:SmL B w (.slice sa f.body.length sc) f.body) :
  Calls Tryz.prog 48 #[.pointer (some ⟨lb,0,none⟩),.agg #[.string f.nm,.int .i64 f.b,.bool f.s,.slice pa f.params.length pc,.slice sa f.body.length sc]] w fun e w'=>e=.returned (.int .i64 (lkF f c).1)∧Ctd w w' lb (lkF f c).2:=by
 have kal:=qaa w (.cells #[.string f.nm,.int .i64 f.b,.bool f.s,.slice pa f.params.length pc,.slice sa f.body.length sc] 41)
 have BX:=Box.new w #[.string f.nm,.int .i64 f.b,.bool f.s,.slice pa f.params.length pc,.slice sa f.body.length sc] 41
 have hlb:=hb.1
 have hlb1:=(hb.step kal).1
 have NA:=zH (snamed_any f.nm (w.alloc (.cells #[.string f.nm,.int .i64 f.b,.bool f.s,.slice pa f.params.length pc,.slice sa f.body.length sc] 41)))
 have VA:=zH (fun W=>svalid_any f.b f.s W)
 have HP:=zH (hp.step (kal.mono (by omega)))
 have HS:=zH (hs.step (kal.mono (by omega)))
 have HBX:=zH BX
 have C0:=zH (Ctd.of hb kal)
 obtain⟨-,-,-,hpm⟩:=hp.slice
 obtain⟨-,-,-,hsm,-⟩:=hs.at
 unfold maxLen at hpm hsm
 have EQ:Hid (lkF f c=if namN f.nm=false then (7,c) else if isWB f.b=false∧¬ (f.b=0∧f.s=false) then (9,c) else if 8<f.params.length then (5,c) else if lkPs f.params≠0 then (lkPs f.params,c) else if nodeW 1 c≠0 then (nodeW 1 c,c+1) else lkSs f.body 2 (c+1)):=rfl
 have SX:=zH (fun W c' hb' hc' hx'=>lstats_any f.body (fun y _=>qa0 y) (fun y _=>lstat_any y) B lb c' 2 (.slice sa f.body.length sc) W hb' hB hc' (by omega) hx')
 have ND:=zH (fun W hb'=>lnode_any lb c 1 W hb' hc (by omega))
 have HN:=zH (fun h=>qaf (d:=1) (c:=c) h)
 clear hb kal BX hp hs
 generalize lkF f c=R at *
 generalize namN f.nm=nn at *
 generalize hisW:isWB f.b=vv at *
 generalize nodeW 1 c=nw at *
 generalize hRE:lkSs f.body 2 (c+1)=RE at EQ
 have HRE:=zH hRE
 generalize hRP:lkPs f.params=RP at EQ
 have HRP:=zH hRP
 clear hRE hRP
 obtain⟨nm,b,s,ps,l⟩:=f
 dsimp only at *
 go_enter Tryz.func48,Tryz.ntmps48
 go_wp2_with fail
 refine (uI NA).mono ?_
 rintro e w1 ⟨rfl,k1⟩
 have C1:=zH ((uI C0).trans (Ctd.of (uI C0).box k1))
 have BX1:=(uI HBX).step k1
 obtain⟨q0,q1,q2,q3,q4⟩:=qat BX1
 have hw1:w.heap.size<w1.heap.size:=BX1.1
 have HP1:=zH ((uI HP).step (k1.mono (by omega)))
 have HS1:=zH ((uI HS).step (k1.mono (by omega)))
 have HBX1:=zH BX1
 clear NA k1 HBX HP HS C0 BX1
 cases nn
 ·have E1:=uI EQ
  rw[if_pos rfl] at E1
  subst E1
  go_wp2_with fail
  go_ret
  exact⟨rfl,uI C1⟩
 ·have E1:=uI EQ
  rw[if_neg (by simp)] at E1
  have E2:=zH E1
  clear E1 EQ
  go_wp2_with fail
  refine (uI VA _).mono ?_
  rintro e w2 ⟨rfl,k2⟩
  have C2:=zH ((uI C1).trans (Ctd.of (uI C1).box k2))
  have BX2:=(uI HBX1).step k2
  obtain⟨r0,r1,r2,r3,r4⟩:=qat BX2
  have hw2:w.heap.size<w2.heap.size:=BX2.1
  have HP2:=zH ((uI HP1).step (k2.mono (by omega)))
  have HS2:=zH ((uI HS1).step (k2.mono (by omega)))
  have HBX2:=zH BX2
  clear VA k2 HBX1 HP1 HS1 C1 BX2 q0 q1 q2 q3 q4
  have hcs:(vv=true)∨(vv=false∧b=0∧s=false)∨(vv=false∧¬ (b=0∧s=false)):=by
   cases vv
   ·by_cases h:b=0∧s=false
    ·exact .inr (.inl ⟨rfl,h.1,h.2⟩)
    ·exact .inr (.inr ⟨rfl,h⟩)
   ·exact .inl rfl
  rcases hcs with rfl|⟨rfl,rfl,rfl⟩|⟨rfl,hbs⟩
  rotate_left 2
  ·have E3:=uI E2
   rw[if_pos ⟨rfl,hbs⟩] at E3
   subst E3
   by_cases hb0:b=0
   ·have hs1:s=true:=by cases s;exact absurd ⟨hb0,rfl⟩ hbs;rfl
    subst hb0 hs1
    go_wp2_with fail
    go_ret
    exact⟨rfl,uI C2⟩
   ·have eb:(b==0)=false:=zBq hb0
    go_wp2_with fail
    go_ret
    exact⟨rfl,uI C2⟩
  all_goals
   have E3:=uI E2
   rw[if_neg (by simp)] at E3
   by_cases h8:8<ps.length
   ·have h8I:(8:Int)<(ps.length:Int):=by omega
    rw[if_pos h8] at E3
    subst E3
    go_wp2_with fail
    go_ret
    exact⟨rfl,uI C2⟩
   ·have h8I:¬ (8:Int)<(ps.length:Int):=by omega
    rw[if_neg h8] at E3
    have E4:=zH E3
    clear E3 E2
    go_wp2_with fail
    go_loopg [33] ps.length (fun g t wr=>∃ (i:Nat),i≤ps.length∧g=ps.length - i∧t=.int .i64 (i:Int)∧Hid (Below w2.heap.size w2 wr)∧Hid (lkPs (ps.drop i)=RP))
    case atStart=>exact⟨0,Nat.zero_le _,rfl,rfl,Below.refl _ _,HRP⟩
    case round =>
     obtain⟨i,hi,hg,rfl,HK,HE⟩:=hrel
     generalize wr=W0 at *
     have hsz:=(uI HK).size
     by_cases hlt:i<ps.length
     ·obtain⟨b1,o1,rfl,hb1,hnm,x0,x1,x2⟩:=((uI HP2).step ((uI HK).mono (by omega))).read i hlt
      have hiI:(i:Int)<(ps.length:Int):=by omega
      have hi0:(0:Int)≤(i:Int):=by omega
      have HD:=zH (show ps.drop i=ps[i]::ps.drop (i+1) from List.drop_eq_getElem_cons hlt)
      rw[uI HD,lkPs_cons] at HE
      clear HD
      have ka:=qaa W0 (.cells #[.int .i64 ps[i].b,.bool ps[i].s,.string ps[i].nm] 74)
      have NB:=zH (swnamed_any ps[i].b ps[i].s ps[i].nm (W0.alloc (.cells #[.int .i64 ps[i].b,.bool ps[i].s,.string ps[i].nm] 74)))
      have KA:=zH (bT (uI HK) ka)
      clear ka hnm
      generalize ps[i]=y at *
      obtain⟨yb,ys,yn⟩:=y
      dsimp only at *
      generalize wTyped yb yn=wt at *
      go_wp2_with fail
      refine (uI NB).mono ?_
      rintro e w3 ⟨rfl,k3⟩
      have K3:=zH (bT (uI KA) k3)
      clear NB k3 KA HK
      by_cases h5:wt=0
      ·subst h5
       go_wp2_with fail
       go_roundg (ps.length - (i+1))
       case measure=>omega
       case rel =>
        have h2:=uI HE
        rw[if_neg (by simp)] at h2
        exact⟨i+1,by omega,rfl,by go_num,K3,h2⟩
      ·have e5:(wt==0)=false:=zBq h5
       have h2:=uI HE
       rw[if_pos h5] at h2
       subst h2
       have E5:=uI E4
       rw[if_pos h5] at E5
       subst E5
       go_wp2_with fail
       go_ret
       exact⟨rfl,(uI C2).trans (Ctd.of (uI C2).box (uI K3))⟩
     ·have hiI:¬ (i:Int)<(ps.length:Int):=by omega
      have h2:=uI HE
      rw[List.drop_eq_nil_of_le (by omega),lkPs] at h2
      subst h2
      have E5:=uI E4
      rw[if_neg (by simp)] at E5
      have E6:=zH E5
      clear E5 E4 HE
      have C3:=zH ((uI C2).trans (Ctd.of (uI C2).box (uI HK)))
      have HBX3:=zH ((uI HBX2).step (uI HK))
      have HS3:=zH ((uI HS2).step ((uI HK).mono (by omega)))
      clear C2 HBX2 HS2 HP2 HK
      go_wp2_with fail
      refine (uI ND _ (uI C3).box).mono ?_
      rintro e w4 ⟨rfl,k4⟩
      have C4:=zH ((uI C3).trans k4)
      have BX4:=(uI HBX3).kb k4.kb (by omega)
      obtain⟨s0,s1,s2,s3,s4⟩:=qat BX4
      have hw4:w.heap.size<w4.heap.size:=BX4.1
      have HS4:=zH ((uI HS3).step (k4.kb.below (by omega) hB))
      clear ND k4 HBX3 HS3 C3 BX4
      by_cases h5:nw=0
      ·subst h5
       obtain⟨hc1,-⟩:=uI HN rfl
       have E7:=uI E6
       rw[if_neg (by simp)] at E7
       clear E6
       have CA:=zH (uI SX _ (c+1) (uI C4).box hc1 (uI HS4))
       rw[uI HRE,← E7] at CA
       clear E7
       go_wp2_with fail
       refine (uI CA).mono ?_
       rintro e w5 ⟨rfl,k5⟩
       go_wp2_with fail
       go_ret
       exact⟨rfl,(uI C4).trans k5⟩
      ·have e5:(nw==0)=false:=zBq h5
       have E7:=uI E6
       rw[if_pos h5] at E7
       subst E7
       go_wp2_with fail
       go_ret
       exact⟨rfl,uI C4⟩
theorem lkGs_cons (g:Gb)(gs:List Gb)(c:Nat):lkGs (g::gs) c=thn (lkG g c) (lkGs gs):=by rw[lkGs]
theorem lkFs_cons (f:Fn8)(fs:List Fn8)(c:Nat):lkFs (f::fs) c=thn (lkF f c) (lkFs fs):=by rw[lkFs]
structure PgL (B:Nat)(w:World)(v1 v2:Value)(p:Pg):Prop where
 g:GbL B w v1 p.globals
 f:FnL B w v2 p.funcs
theorem PgL.step {B:Nat}{w w':World}{v1 v2:Value}{p:Pg}(h:PgL B w v1 v2 p)(k:Below B w w'):PgL B w' v1 v2 p:=⟨h.g.step k,h.f.step k⟩
theorem lprog_any (p:Pg)(B lb:Nat)(v1 v2:Value)(w:World)(hb:Box w lb [.int .i64 0])(hB:B≤lb)(hp:PgL B w v1 v2 p) :
  Calls Tryz.prog 24 #[.pointer (some ⟨lb,0,none⟩),.agg #[v1,v2]] w fun e w'=>e=.returned (.int .i64 (lkP p).1)∧Ctd w w' lb (lkP p).2:=by
 obtain⟨ga,gc,rfl,hgm⟩:=hp.g.slice
 obtain⟨fa,fc,rfl,hfm⟩:=hp.f.slice
 unfold maxLen at hgm hfm
 have kal:=qaa w (.cells #[.slice ga p.globals.length gc,.slice fa p.funcs.length fc] 25)
 have HBX:=zH (Box.new w #[.slice ga p.globals.length gc,.slice fa p.funcs.length fc] 25)
 have hlb:=hb.1
 have HP:=zH (hp.step (kal.mono (by omega)))
 have C0:=zH (show Ctd w (w.alloc (.cells #[.slice ga p.globals.length gc,.slice fa p.funcs.length fc] 25)) lb 0 from Ctd.of hb kal)
 have EQ:Hid (lkP p=if 100<p.funcs.length then (5,0) else thn (lkGs p.globals 0) (lkFs p.funcs)):=rfl
 clear hb kal hp
 generalize lkP p=R at *
 obtain⟨gs,fs⟩:=p
 dsimp only at *
 by_cases h1:100<fs.length
 ·have h1I:(100:Int)<(fs.length:Int):=by omega
  have E1:=uI EQ
  rw[if_pos h1] at E1
  subst E1
  go_enter Tryz.func24,Tryz.ntmps24
  go_wp2_with fail
  go_ret
  exact⟨rfl,uI C0⟩
 ·have h1I:¬ (100:Int)<(fs.length:Int):=by omega
  have E1:=uI EQ
  rw[if_neg h1] at E1
  have E2:=zH E1.symm
  clear E1 EQ
  go_enter Tryz.func24,Tryz.ntmps24
  go_wp2_with fail
  generalize hW:w.alloc (.cells #[.slice ga gs.length gc,.slice fa fs.length fc] 25)=w1 at *
  have hw1:w.heap.size<w1.heap.size:=(uI HBX).1
  go_loopg [18] gs.length (fun g t wr=>∃ (i ci:Nat),i≤gs.length∧g=gs.length - i∧t=.int .i64 (i:Int)∧ci≤20000∧Hid (Ctd w1 wr lb ci)∧Hid (thn (lkGs (gs.drop i) ci) (lkFs fs)=R))
  case atStart=>exact⟨0,0,Nat.zero_le _,rfl,rfl,by omega,⟨(uI C0).box,Kb.refl _ _⟩,E2⟩
  case round =>
   obtain⟨i,ci,hi,hg,rfl,hci,HC,HE⟩:=hrel
   generalize wr=W0 at *
   have hsz:=(uI HC).kb.size
   have hP0:=(uI HP).step ((uI HC).kb.below (by omega) hB)
   by_cases hlt:i<gs.length
   ·obtain⟨b1,o1,ka,kc,rfl,hb1,hnm,hx,x0,x1,x2,x3,x4⟩:=hP0.g.read i hlt
    have hiI:(i:Int)<(gs.length:Int):=by omega
    have hi0:(0:Int)≤(i:Int):=by omega
    have HD:=zH (show gs.drop i=gs[i]::gs.drop (i+1) from List.drop_eq_getElem_cons hlt)
    rw[uI HD,lkGs_cons] at HE
    have kb:=qaa W0 (.cells #[.int .i64 gs[i].b,.bool gs[i].s,.string gs[i].nm,.int .i64 gs[i].size,.slice ka gs[i].init.length kc] 37)
    have CA:=zH (lglob_any gs[i] B lb ci ka kc _ ((uI HC).box.step kb) hB hci (hx.step (kb.mono (by omega))))
    have KA:=zH (Kb.of (b:=lb) kb)
    have LE:=zH (lkG_le gs[i] ci hci)
    clear HD kb hx hnm hP0
    generalize gs[i]=y at *
    generalize lkG y ci=ry at *
    obtain⟨er,cn⟩:=ry
    dsimp only at CA LE HE
    go_wp2_with fail
    refine (uI CA).mono ?_
    rintro e w2 ⟨rfl,k2⟩
    have K2:=zH (show Ctd w1 w2 lb cn from⟨k2.box,((uI HC).kb.trans (uI KA)).trans k2.kb⟩)
    clear CA k2 KA HC
    by_cases he:er=0
    ·subst he
     rw[qam] at HE
     go_wp2_with fail
     go_roundg (gs.length - (i+1))
     case measure=>omega
     case rel=>exact⟨i+1,cn,by omega,rfl,by go_num,uI LE (by simp),K2,HE⟩
    ·have ee:(er==0)=false:=zBq he
     have h2:=uI HE
     rw[qan he,qan he] at h2
     subst h2
     go_wp2_with fail
     go_ret
     exact⟨rfl,(uI C0).trans (uI K2)⟩
   ·have hiI:¬ (i:Int)<(gs.length:Int):=by omega
    rw[List.drop_eq_nil_of_le (by omega),lkGs,qam] at HE
    have HP1:=zH hP0
    have HBX1:=(uI HBX).kb (uI HC).kb (by omega)
    obtain⟨q0,q1⟩:=HBX1.at2
    have C1:=zH ((uI C0).trans (uI HC))
    have hw0:w.heap.size<W0.heap.size:=HBX1.1
    clear hP0 HP HBX HBX1 C0
    go_wp2_with fail
    go_loopg [32] fs.length (fun g t wr=>∃ (j cj:Nat),j≤fs.length∧g=fs.length - j∧t=.int .i64 (j:Int)∧cj≤20000∧Hid (Ctd W0 wr lb cj)∧Hid (lkFs (fs.drop j) cj=R))
    case atStart=>exact⟨0,ci,Nat.zero_le _,rfl,rfl,hci,⟨(uI C1).box,Kb.refl _ _⟩,HE⟩
    case round =>
     obtain⟨j,cj,hj,hgj,rfl,hcj,HCj,HEj⟩:=hrel
     generalize wr=V0 at *
     have hsv:=(uI HCj).kb.size
     have hP0:=(uI HP1).step ((uI HCj).kb.below (by omega) hB)
     by_cases hlt:j<fs.length
     ·obtain⟨b1,o1,pa,pc,sa,sc,rfl,hb1,hnm,hx,hy,x0,x1,x2,x3,x4⟩:=hP0.f.read j hlt
      have hjI:(j:Int)<(fs.length:Int):=by omega
      have hj0:(0:Int)≤(j:Int):=by omega
      have HD:=zH (show fs.drop j=fs[j]::fs.drop (j+1) from List.drop_eq_getElem_cons hlt)
      rw[uI HD,lkFs_cons] at HEj
      have kb:=qaa V0 (.cells #[.string fs[j].nm,.int .i64 fs[j].b,.bool fs[j].s,.slice pa fs[j].params.length pc,.slice sa fs[j].body.length sc] 41)
      have CA:=zH (lfunc_any fs[j] B lb cj pa sa pc sc _ ((uI HCj).box.step kb) hB hcj (hx.step (kb.mono (by omega))) (hy.step (kb.mono (by omega))))
      have KA:=zH (Kb.of (b:=lb) kb)
      have LE:=zH (lkF_le fs[j] cj hcj)
      clear HD kb hx hy hnm hP0
      generalize fs[j]=y at *
      generalize lkF y cj=ry at *
      obtain⟨er,cn⟩:=ry
      dsimp only at CA LE HEj
      go_wp2_with fail
      refine (uI CA).mono ?_
      rintro e w2 ⟨rfl,k2⟩
      have K2:=zH (show Ctd W0 w2 lb cn from⟨k2.box,((uI HCj).kb.trans (uI KA)).trans k2.kb⟩)
      clear CA k2 KA HCj
      by_cases he:er=0
      ·subst he
       rw[qam] at HEj
       go_wp2_with fail
       go_roundg (fs.length - (j+1))
       case measure=>omega
       case rel=>exact⟨j+1,cn,by omega,rfl,by go_num,uI LE (by simp),K2,HEj⟩
      ·have ee:(er==0)=false:=zBq he
       have h2:=uI HEj
       rw[qan he] at h2
       subst h2
       go_wp2_with fail
       go_ret
       exact⟨rfl,(uI C1).trans (uI K2)⟩
     ·have hjI:¬ (j:Int)<(fs.length:Int):=by omega
      have h2:=uI HEj
      rw[List.drop_eq_nil_of_le (by omega),lkFs] at h2
      subst h2
      go_wp2_with fail
      go_ret
      exact⟨rfl,(uI C1).trans (uI HCj)⟩
theorem swrong_any (p:Pg)(v1 v2:Value)(w:World)(hp:PgL w.heap.size w v1 v2 p):Calls Tryz.prog 9 #[.agg #[v1,v2]] w fun e w'=>e=.returned (.int .i64 (lkP p).1)∧Below w.heap.size w w':=by
 obtain⟨ga,gc,rfl,-⟩:=hp.g.slice
 obtain⟨fa,fc,rfl,-⟩:=hp.f.slice
 have k1:=qaa w (.cells #[.slice ga p.globals.length gc,.slice fa p.funcs.length fc] 25)
 have k2:=bT k1 (qaa _ (.cells #[.int .i64 0] 71))
 have LP:=zH (lprog_any p w.heap.size (w.heap.size+1) _ _ _ (Box.new (w.alloc (.cells #[.slice ga p.globals.length gc,.slice fa p.funcs.length fc] 25)) #[.int .i64 0] 71 |> fun h=>by simpa using h) (by omega) (hp.step k2))
 have hs2:((w.alloc (.cells #[.slice ga p.globals.length gc,.slice fa p.funcs.length fc] 25)).alloc (.cells #[.int .i64 0] 71)).heap.size=w.heap.size+2:=by simp
 have S2:=zH hs2
 have K2:=zH k2
 clear k1 k2 hp hs2
 generalize lkP p=R at *
 go_enter Tryz.func9,Tryz.ntmps9
 go_wp2_with fail
 refine (uI LP).mono ?_
 rintro e w3 ⟨rfl,k3⟩
 have hs3:=uI S2
 have K3:=zH ((uI K2).trans (k3.kb.below (by omega) (by omega)))
 clear LP k3 K2
 go_wp2_with fail
 go_ret
 exact⟨rfl,uI K3⟩
end Go.Proofs.YtjpnnmkefaodoaaGreat
