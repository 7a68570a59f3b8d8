/-
  RwC.
-/
import Derived.Test.YtjpnnmkefaodoaaGreatyRwBy
set_option maxHeartbeats 8000000
set_option maxRecDepth 100000
namespace Go.Proofs.YtjpnnmkefaodoaaGreat
open Go.RowKit Go.Great
set_option linter.unusedSimpArgs false
set_option linter.unusedVariables false
def RSm (x:Sm):Prop:=∀ (B lb c d:Nat) (v:Sv) (w:World),Box w lb [.int .i64 (c:Int)]→B≤lb→c≤20000→d≤101→SvL B w x v→SmF x →
 Calls Tryz.prog 59 #[.pointer (some ⟨lb,0,none⟩),.agg (smA x v),.int .i64 (d:Int)] w fun e w'=>e=.returned (.int .i64 (lkS x d c).1)∧Ctd w w' lb (lkS x d c).2
theorem rstats_any (xs:List Sm)(LE:∀ x∈xs,∀ d c,c≤20000→(lkS x d c).1=0→(lkS x d c).2≤20000)(IH:∀ x∈xs,RSm x)(B lb c d:Nat)(v:Value)(w:World)(hb:Box w lb [.int .i64 (c:Int)])(hB:B≤lb)(hc:c≤20000)(hd:d≤101)(hx:SmL B w v xs) :
  Calls Tryz.prog 37 #[.pointer (some ⟨lb,0,none⟩),v,.int .i64 (d:Int)] w fun e w'=>e=.returned (.int .i64 (lkSs xs d c).1)∧Ctd w w' lb (lkSs xs d c).2:=by
 obtain⟨ao,cap,rfl,hmax,-⟩:=hx.at
 have HX:=zH hx
 have HB:=zH hb
 have hlb:=hb.1
 have HLE:=zH LE
 clear hb hx LE
 generalize hR:lkSs xs d c=R
 unfold maxLen at hmax
 go_enter Tryz.func37,Tryz.ntmps37
 go_wp2_with fail
 go_loopg [12] xs.length (fun g t wr=>∃ (i ci:Nat),i≤xs.length∧g=xs.length - i∧t=.int .i64 (i:Int)∧ci≤20000∧Hid (Ctd w wr lb ci)∧Hid (lkSs (xs.drop i) d ci=R))
 case atStart=>exact⟨0,c,Nat.zero_le _,rfl,rfl,hc,⟨uI HB,Kb.refl _ _⟩,hR⟩
 case round =>
  obtain⟨i,ci,hi,hg,rfl,hci,HC,HE⟩:=hrel
  generalize wr=W0 at *
  have hsz:=(uI HC).kb.size
  by_cases hlt:i<xs.length
  ·have hxw:SmL B W0 (.slice ao xs.length cap) xs:=(uI HX).step ((uI HC).kb.below (by omega) hB)
   obtain⟨b1,o1,sv,rfl,hbw,hra,hsv,hf⟩:=hxw.read i hlt
   have HRA:=zH hra
   have ONE:=zH hsv.one
   have hiI:(i:Int)<(xs.length:Int):=by omega
   have hi0:(0:Int)≤(i:Int):=by omega
   have HD:=zH (show xs.drop i=xs[i]::xs.drop (i+1) from List.drop_eq_getElem_cons hlt)
   have HIH:=zH (IH xs[i] (List.getElem_mem hlt))
   have ka:=qaa W0 (.cells (smA xs[i] sv) 103)
   have CA:=zH (uI HIH B lb ci d sv _ ((uI HC).box.step ka) hB hci hd (hsv.step (ka.mono (by omega))) hf)
   have KA:=zH (Kb.of (b:=lb) ka)
   have LE:=zH (uI HLE xs[i] (List.getElem_mem hlt) d ci hci)
   have NB:=zH (SmB.new W0 xs[i] sv).heap
   have hAs:=zH (qak xs[i] sv)
   rw[uI HD,lkSs_cons] at HE
   clear hra hxw hsv HIH ka HD hf
   generalize xs[i]=y at *
   generalize lkS y d ci=ry at *
   obtain⟨er,cn⟩:=ry
   dsimp only at CA LE HE
   generalize smA y sv=A at *
   go_wp2_with (first|(refine wpList_load_mid rfl 103 (.tmp 14) rfl b1 (o1+i*21) rfl A.toList _ (uI HRA) Tryz.underlying103 rfl (by rw[Array.length_toList,uI hAs];exact Tryz.sizeStat) ?_)|(refine wpList_store_row rfl 103 (.tmp 8) (.tmp 15) rfl W0.heap.size A rfl rfl _ _ (heapNew0 _ _) (by rw[uI hAs];exact Tryz.sizeStat) (by rw[uI hAs];rfl) (uI ONE) ?_;rw[qbp])|(refine wpList_load_row rfl 103 (.tmp 8) rfl W0.heap.size rfl _ A _ _ (uI NB) Tryz.underlying103 rfl (by rw[uI hAs];exact Tryz.sizeStat) ?_))
   refine (uI CA).mono ?_
   rintro e w1 ⟨rfl,k1⟩
   have K1:=zH (show Ctd w w1 lb cn from⟨k1.box,((uI HC).kb.trans (uI KA)).trans k1.kb⟩)
   clear CA k1 KA HC NB HRA ONE hAs
   by_cases he:er=0
   ·subst he
    go_wp2_with fail
    go_roundg (xs.length - (i+1))
    case measure=>omega
    case rel =>
     have h2:=uI HE
     rw[if_neg (by simp)] at h2
     exact⟨i+1,cn,by omega,rfl,by go_num,uI LE (by simp),K1,h2⟩
   ·have ee:(er==0)=false:=zBq he
    have h2:=uI HE
    rw[if_pos he] at h2
    subst h2
    go_wp2_with fail
    go_ret
    exact⟨rfl,uI K1⟩
  ·have hiI:¬ (i:Int)<(xs.length:Int):=by omega
   have h2:=uI HE
   rw[List.drop_eq_nil_of_le (by omega),lkSs] at h2
   subst h2
   go_wp2_with fail
   go_ret
   exact⟨rfl,uI HC⟩
theorem rbrack_any (xs:List Sm)(LE:∀ x∈xs,∀ d c,c≤20000→(lkS x d c).1=0→(lkS x d c).2≤20000)(IH:∀ x∈xs,RSm x)(B lb c d:Nat)(v:Value)(w:World)(hb:Box w lb [.int .i64 (c:Int)])(hB:B≤lb)(hc:c≤20000)(hd:d≤101)(hx:SmL B w v xs) :
  Calls Tryz.prog 100 #[.pointer (some ⟨lb,0,none⟩),v,.int .i64 (d:Int)] w fun e w'=>e=.returned (.int .i64 (lkB xs d c).1)∧Ctd w w' lb (lkB xs d c).2:=by
 have SA:=zH (fun W hb' hx'=>rstats_any xs LE IH B lb c d v W hb' hB hc hd hx')
 clear LE IH
 obtain⟨ao,cap,rfl,hmax,-⟩:=hx.at
 unfold maxLen at hmax
 have hlb:=hb.1
 have C0:=zH (show Ctd w w lb c from⟨hb,Kb.refl _ _⟩)
 unfold lkB
 by_cases h1:1<xs.length
 ·rw[if_pos h1]
  have h1I:(1:Int)<(xs.length:Int):=by omega
  go_enter Tryz.func100,Tryz.ntmps100
  go_wp2_with fail
  go_ret
  exact⟨rfl,uI C0⟩
 ·rw[if_neg h1]
  have h1I:¬ (1:Int)<(xs.length:Int):=by omega
  have HX:=zH hx
  clear hx
  generalize hR:(if isSE xs=true then lkSs xs d c else (8,c))=R
  have HR:=zH hR
  clear hR
  go_enter Tryz.func100,Tryz.ntmps100
  go_wp2_with fail
  go_loopg [14] xs.length (fun g t wr=>∃ (i:Nat),i≤xs.length∧g=xs.length - i∧t=.int .i64 (i:Int)∧Hid (isSE (xs.take i)=true)∧Hid (Below w.heap.size w wr))
  case atStart=>exact⟨0,Nat.zero_le _,rfl,rfl,rfl,Below.refl _ _⟩
  case round =>
   obtain⟨i,hi,hg,rfl,HE,HK⟩:=hrel
   generalize wr=W0 at *
   have hsz:=(uI HK).size
   by_cases hlt:i<xs.length
   ·have hxw:SmL B W0 (.slice ao xs.length cap) xs:=(uI HX).step ((uI HK).mono (by omega))
    obtain⟨b1,o1,sv,rfl,hbw,hra,hsv,hf⟩:=hxw.read i hlt
    have HRA:=zH hra
    have ONE:=zH hsv.one
    have hiI:(i:Int)<(xs.length:Int):=by omega
    have hi0:(0:Int)≤(i:Int):=by omega
    have ka:=qaa W0 (.cells (smA xs[i] sv) 103)
    have KA:=zH (bT (uI HK) ka)
    obtain⟨c0,c1,c2,c3,c4⟩:=(SmB.new W0 xs[i] sv).own
    have hAs:=zH (qak xs[i] sv)
    have ET:=zH (show isSE (xs.take (i+1))=(isSE (xs.take i)&&decide (xs[i].k=3∨xs[i].k=4)) by unfold isSE;rw[List.take_succ_eq_append_getElem hlt,List.all_append];simp)
    have EA:=zH (show isSE xs=true→decide (xs[i].k=3∨xs[i].k=4)=true from fun h=>by unfold isSE at h;exact List.all_eq_true.1 h _ (List.getElem_mem hlt))
    clear hra hxw hsv hf ka c1 c2 c3 c4
    generalize xs[i]=y at *
    generalize smA y sv=A at *
    generalize y.k=yk at *
    have RW:=qbp W0
    generalize hW1:W0.alloc (.cells A 103)=W1 at *
    by_cases h3:yk=3∨yk=4
    ·rcases h3 with rfl|rfl
     all_goals
      go_wp2_with (first|(refine wpList_load_mid rfl 103 (.tmp 16) rfl b1 (o1+i*21) rfl A.toList _ (uI HRA) Tryz.underlying103 rfl (by rw[Array.length_toList,uI hAs];exact Tryz.sizeStat) ?_)|(refine wpList_store_row rfl 103 (.tmp 8) (.tmp 17) rfl W0.heap.size A rfl rfl _ _ (heapNew0 _ _) (by rw[uI hAs];exact Tryz.sizeStat) (by rw[uI hAs];rfl) (uI ONE) ?_;rw[qbp,hW1]))
      go_roundg (xs.length - (i+1))
      case measure=>omega
      case rel =>
       refine⟨i+1,by omega,rfl,by go_num,?_,KA⟩
       show isSE (xs.take (i+1))=true
       rw[uI ET,uI HE];rfl
    ·have e3:(yk != 3)=true:=by apply bne_iff_ne.2;omega
     have e4:(yk != 4)=true:=by apply bne_iff_ne.2;omega
     have hns:isSE xs≠true:=fun h=>by have:=uI EA h;simp at this;omega
     have hR:=uI HR
     rw[if_neg hns] at hR
     subst hR
     go_wp2_with (first|(refine wpList_load_mid rfl 103 (.tmp 16) rfl b1 (o1+i*21) rfl A.toList _ (uI HRA) Tryz.underlying103 rfl (by rw[Array.length_toList,uI hAs];exact Tryz.sizeStat) ?_)|(refine wpList_store_row rfl 103 (.tmp 8) (.tmp 17) rfl W0.heap.size A rfl rfl _ _ (heapNew0 _ _) (by rw[uI hAs];exact Tryz.sizeStat) (by rw[uI hAs];rfl) (uI ONE) ?_;rw[qbp,hW1]))
     go_ret
     exact⟨rfl,Ctd.of (uI C0).box (uI KA)⟩
   ·have hiI:¬ (i:Int)<(xs.length:Int):=by omega
    have hse:=uI HE
    rw[List.take_of_length_le (by omega)] at hse
    have hR:=uI HR
    rw[if_pos hse] at hR
    have CS:=zH (uI SA W0 ((uI C0).box.step (uI HK)) ((uI HX).step ((uI HK).mono (by omega))))
    rw[hR] at CS
    clear hR HR
    go_wp2_with fail
    refine (uI CS).mono ?_
    rintro e w1 ⟨rfl,k1⟩
    go_wp2_with fail
    go_ret
    exact⟨rfl,(Ctd.of (uI C0).box (uI HK)).trans k1⟩
end Go.Proofs.YtjpnnmkefaodoaaGreat
