/-
  RwB.
-/
import Derived.Test.YtjpnnmkefaodoaaGreatyR7Gy
set_option maxHeartbeats 8000000
set_option maxRecDepth 100000
namespace Go.Proofs.YtjpnnmkefaodoaaGreat
open Go.RowKit
set_option linter.unusedSimpArgs false
set_option linter.unusedVariables false
def REx (x:Ex):Prop:=∀ (B lb c d:Nat) (kv:Value) (w:World),Box w lb [.int .i64 (c:Int)]→B≤lb→c≤20000→d≤101→ExL B w kv x.kids→ExF x →
 Calls Tryz.prog 34 #[.pointer (some ⟨lb,0,none⟩),.agg #[.int .i64 x.k,.int .u64 x.n,.int .i64 x.b,.bool x.s,.string x.nm,kv],.int .i64 (d:Int)] w fun e w'=>e=.returned (.int .i64 (lkE x d c).1)∧Ctd w w' lb (lkE x d c).2
theorem rex_bad (x:Ex)(IH:∀ y∈x.kids,REx y)(hk0:x.k<1∨26<x.k):REx x:=by
 intro B lb c d kv w hb hB hc hd hk hf
 have ka:=qaa w (.cells #[.int .i64 x.k,.int .u64 x.n,.int .i64 x.b,.bool x.s,.string x.nm,kv] 57)
 have BX:=Box.new w #[.int .i64 x.k,.int .u64 x.n,.int .i64 x.b,.bool x.s,.string x.nm,kv] 57
 have hlb:=hb.1
 have NA:=zH (qao lb c d _ (hb.step ka) hc hd)
 have KI:=zH (fun W=>rkids_any x.k W)
 have HK:=zH (hk.step (ka.mono (by omega)))
 have KA:=zH (Kb.of (b:=lb) ka)
 have HBX:=zH BX
 obtain⟨ao,cap,rfl,hmax,-⟩:=hk.at
 obtain⟨⟨hn0,hn1⟩,hnm⟩:=hf
 clear hb ka BX hk
 unfold maxLen at hmax
 obtain⟨k,n,b,s,nm,l⟩:=x
 simp only[Ex.k,Ex.n,Ex.b,Ex.s,Ex.nm,Ex.kids] at *
 have EQ:Hid (lkE (.mk k n b s nm l) d c=if nodeW d c≠0 then (nodeW d c,c+1) else if k<1∨26<k then (1,c+1) else if wExF k n b s nm≠0 then (wExF k n b s nm,c+1) else if l.length<kidLo k∨kidHi k<l.length then (5,c+1) else lkEs l (d+1) (c+1)):=by show _=_;rw[lkE]
 generalize lkE (.mk k n b s nm l) d c=R at *
 have HN:=zH (fun h=>qaf (d:=d) (c:=c) h)
 generalize nodeW d c=nw at *
 have hk:=hk0
 clear hk0
 rw[show kidN k=-2 by unfold kidN;rw[if_pos hk]] at KI
 go_enter Tryz.func34,Tryz.ntmps34
 go_wp2_with fail
 refine (uI NA).mono ?_
 rintro e w1 ⟨rfl,k1⟩
 have C1:=zH (show Ctd w w1 lb (c+1) from⟨k1.box,(uI KA).trans k1.kb⟩)
 have HK1:=zH ((uI HK).step (k1.kb.below (by simp;omega) hB))
 have BX1:=(uI HBX).kb k1.kb (by omega)
 obtain⟨q0,q1,q2,q3,q4,q5⟩:=qbn BX1
 have HBX1:=zH BX1
 have hw1:w.heap.size<w1.heap.size:=BX1.1
 clear NA k1 HK HBX KA BX1
 by_cases h1:nw=0
 rotate_left
 ·have e1:(nw==0)=false:=zBq h1
  have E1:=uI EQ
  rw[if_pos h1] at E1
  subst E1
  go_wp2_with fail
  go_ret
  exact⟨rfl,uI C1⟩
 subst h1
 obtain⟨hc1,hd1⟩:=uI HN rfl
 clear HN
 have E1:=uI EQ
 rw[if_neg (by simp)] at E1
 have E2:=zH E1
 clear EQ E1
 go_wp2_with fail
 refine (uI KI _).mono ?_
 rintro e w2 ⟨rfl,hw2⟩
 subst w2
 have E3:=uI E2
 rw[if_pos hk] at E3
 subst E3
 go_wp2_with fail
 go_ret
 exact⟨rfl,uI C1⟩
theorem rex_1 (x:Ex)(IH:∀ y∈x.kids,REx y)(hk0:x.k=1):REx x:=by
 intro B lb c d kv w hb hB hc hd hk hf
 have ka:=qaa w (.cells #[.int .i64 x.k,.int .u64 x.n,.int .i64 x.b,.bool x.s,.string x.nm,kv] 57)
 have BX:=Box.new w #[.int .i64 x.k,.int .u64 x.n,.int .i64 x.b,.bool x.s,.string x.nm,kv] 57
 have hlb:=hb.1
 have NA:=zH (qao lb c d _ (hb.step ka) hc hd)
 have KI:=zH (fun W=>rkids_any x.k W)
 have HK:=zH (hk.step (ka.mono (by omega)))
 have KA:=zH (Kb.of (b:=lb) ka)
 have HBX:=zH BX
 obtain⟨ao,cap,rfl,hmax,-⟩:=hk.at
 obtain⟨⟨hn0,hn1⟩,hnm⟩:=hf
 clear hb ka BX hk
 unfold maxLen at hmax
 obtain⟨k,n,b,s,nm,l⟩:=x
 simp only[Ex.k,Ex.n,Ex.b,Ex.s,Ex.nm,Ex.kids] at *
 have EQ:Hid (lkE (.mk k n b s nm l) d c=if nodeW d c≠0 then (nodeW d c,c+1) else if k<1∨26<k then (1,c+1) else if wExF k n b s nm≠0 then (wExF k n b s nm,c+1) else if l.length<kidLo k∨kidHi k<l.length then (5,c+1) else lkEs l (d+1) (c+1)):=by show _=_;rw[lkE]
 generalize lkE (.mk k n b s nm l) d c=R at *
 have HN:=zH (fun h=>qaf (d:=d) (c:=c) h)
 generalize nodeW d c=nw at *
 subst hk0
 rw[show kidN 1=0 from rfl] at KI
 rw[show kidLo 1=0 from rfl,show kidHi 1=0 from rfl] at EQ
 have hw:wExF 1 n b s nm=if (lit n (!s)).2.2=0∧(lit n (!s)).1=b∧(lit n (!s)).2.1=s then 0 else 9:=by unfold wExF;rw[if_pos rfl]
 have LA:=zH (fun W=>rliteral_any n (!s) W ⟨hn0,hn1⟩)
 generalize lit n (!s)=r at *
 obtain⟨tb,ts,te⟩:=r
 dsimp only at LA hw
 go_enter Tryz.func34,Tryz.ntmps34
 go_wp2_with fail
 refine (uI NA).mono ?_
 rintro e w1 ⟨rfl,k1⟩
 have C1:=zH (show Ctd w w1 lb (c+1) from⟨k1.box,(uI KA).trans k1.kb⟩)
 have HK1:=zH ((uI HK).step (k1.kb.below (by simp;omega) hB))
 have BX1:=(uI HBX).kb k1.kb (by omega)
 obtain⟨q0,q1,q2,q3,q4,q5⟩:=qbn BX1
 have HBX1:=zH BX1
 have hw1:w.heap.size<w1.heap.size:=BX1.1
 clear NA k1 HK HBX KA BX1
 by_cases h1:nw=0
 rotate_left
 ·have e1:(nw==0)=false:=zBq h1
  have E1:=uI EQ
  rw[if_pos h1] at E1
  subst E1
  go_wp2_with fail
  go_ret
  exact⟨rfl,uI C1⟩
 subst h1
 obtain⟨hc1,hd1⟩:=uI HN rfl
 clear HN
 have E1:=uI EQ
 rw[if_neg (by simp)] at E1
 have E2:=zH E1
 clear EQ E1
 go_wp2_with fail
 refine (uI KI _).mono ?_
 rintro e w2 ⟨rfl,hw2⟩
 subst w2
 go_wp2_with fail
 refine (uI LA _).mono ?_
 rintro e v2 ⟨rfl,j2⟩
 have C2:=zH ((uI C1).trans (Ctd.of (uI C1).box j2))
 have HK2:=zH ((uI HK1).step (j2.mono (by omega)))
 have BX2:=(uI HBX1).step j2
 clear q0 q1 q2 q3 q4 q5
 obtain⟨q0,q1,q2,q3,q4,q5⟩:=qbn BX2
 have HBX2:=zH BX2
 have hv2:w.heap.size<v2.heap.size:=BX2.1
 clear j2 HK1 HBX1 C1 BX2
 have C3:=zH ((uI C2).trans (Ctd.of (uI C2).box (qaa v2 (.cells #[.int .i64 tb,.bool ts] 34))))
 have HK3:=zH ((uI HK2).step ((qaa v2 (.cells #[.int .i64 tb,.bool ts] 34)).mono (by omega)))
 have BXn:=(uI HBX2).step (qaa v2 (.cells #[.int .i64 tb,.bool ts] 34))
 by_cases hte:te=0
 rotate_left
 ·have el:(te==0)=false:=zBq hte
  have E3:=uI E2
  rw[if_neg (by omega),hw.trans (if_neg (fun h=>hte h.1)),if_pos (by simp)] at E3
  subst E3
  go_wp2_with fail
  go_ret
  exact⟨rfl,uI C3⟩
 subst hte
 by_cases htb:tb=b
 rotate_left
 ·have eb:(tb==b)=false:=zBq htb
  have E3:=uI E2
  rw[if_neg (by omega),hw.trans (if_neg (fun h=>htb h.2.1)),if_pos (by simp)] at E3
  subst E3
  go_wp2_with fail
  go_ret
  exact⟨rfl,uI C3⟩
 subst htb
 by_cases hts:ts=s
 rotate_left
 ·have es:(ts==s)=false:=zBq hts
  have E3:=uI E2
  rw[if_neg (by omega),hw.trans (if_neg (fun h=>hts h.2.2)),if_pos (by simp)] at E3
  subst E3
  go_wp2_with fail
  go_ret
  exact⟨rfl,uI C3⟩
 subst hts
 have E3':=uI E2
 rw[if_neg (by omega),hw.trans (if_pos ⟨rfl,rfl,rfl⟩),if_neg (by simp)] at E3'
 have E3:=zH E3'
 clear E2 E3' hw
 by_cases hm:l.length=0
 rotate_left
 ·have hmI:((l.length:Int) != 0)=true:=by apply bne_iff_ne.2;omega
  have E4:=uI E3
  rw[if_pos (by omega)] at E4
  subst E4
  go_wp2_with fail
  go_ret
  exact⟨rfl,uI C3⟩
 have hmI:((l.length:Int) != 0)=false:=by rw[hm];rfl
 have E4:=uI E3
 rw[if_neg (by omega)] at E4
 have E5:=zH E4.symm
 clear E3 E4
 go_wp2_with fail
 go_loopg [96] l.length (fun g t wr=>∃ (i ci:Nat),i≤l.length∧g=l.length - i∧t=.int .i64 (i:Int)∧ci≤20000∧Hid (Ctd w wr lb ci)∧Hid (ExL B wr (.slice ao l.length cap) l)∧Hid (lkEs (l.drop i) (d+1) ci=R))
 case atStart=>exact⟨0,c+1,Nat.zero_le _,rfl,rfl,hc1,C3,HK3,E5⟩
 case round =>
  obtain⟨i,ci,hi,hg,rfl,hci,HC,HXW,HE⟩:=hrel
  generalize wr=W0 at *
  have hsz:=(uI HC).kb.size
  by_cases hlt:i<l.length
  ·exact absurd hlt (by omega)
  ·have hiI:¬ (i:Int)<(l.length:Int):=by omega
   have h2:=uI HE
   rw[List.drop_eq_nil_of_le (by omega),lkEs] at h2
   subst h2
   go_wp2_with fail
   go_ret
   exact⟨rfl,uI HC⟩
theorem rex_2 (x:Ex)(IH:∀ y∈x.kids,REx y)(hk0:x.k=2):REx x:=by
 intro B lb c d kv w hb hB hc hd hk hf
 have ka:=qaa w (.cells #[.int .i64 x.k,.int .u64 x.n,.int .i64 x.b,.bool x.s,.string x.nm,kv] 57)
 have BX:=Box.new w #[.int .i64 x.k,.int .u64 x.n,.int .i64 x.b,.bool x.s,.string x.nm,kv] 57
 have hlb:=hb.1
 have NA:=zH (qao lb c d _ (hb.step ka) hc hd)
 have KI:=zH (fun W=>rkids_any x.k W)
 have HK:=zH (hk.step (ka.mono (by omega)))
 have KA:=zH (Kb.of (b:=lb) ka)
 have HBX:=zH BX
 obtain⟨ao,cap,rfl,hmax,-⟩:=hk.at
 obtain⟨⟨hn0,hn1⟩,hnm⟩:=hf
 clear hb ka BX hk
 unfold maxLen at hmax
 obtain⟨k,n,b,s,nm,l⟩:=x
 simp only[Ex.k,Ex.n,Ex.b,Ex.s,Ex.nm,Ex.kids] at *
 have EQ:Hid (lkE (.mk k n b s nm l) d c=if nodeW d c≠0 then (nodeW d c,c+1) else if k<1∨26<k then (1,c+1) else if wExF k n b s nm≠0 then (wExF k n b s nm,c+1) else if l.length<kidLo k∨kidHi k<l.length then (5,c+1) else lkEs l (d+1) (c+1)):=by show _=_;rw[lkE]
 generalize lkE (.mk k n b s nm l) d c=R at *
 have HN:=zH (fun h=>qaf (d:=d) (c:=c) h)
 generalize nodeW d c=nw at *
 subst hk0
 rw[show kidN 2=0 from rfl] at KI
 rw[show kidLo 2=0 from rfl,show kidHi 2=0 from rfl] at EQ
 have hw:wExF 2 n b s nm=if namN nm=true then 0 else 7:=by unfold wExF wName;simp
 have NN:=zH (fun W=>rnamed8 nm W hnm)
 go_enter Tryz.func34,Tryz.ntmps34
 go_wp2_with fail
 refine (uI NA).mono ?_
 rintro e w1 ⟨rfl,k1⟩
 have C1:=zH (show Ctd w w1 lb (c+1) from⟨k1.box,(uI KA).trans k1.kb⟩)
 have HK1:=zH ((uI HK).step (k1.kb.below (by simp;omega) hB))
 have BX1:=(uI HBX).kb k1.kb (by omega)
 obtain⟨q0,q1,q2,q3,q4,q5⟩:=qbn BX1
 have HBX1:=zH BX1
 have hw1:w.heap.size<w1.heap.size:=BX1.1
 clear NA k1 HK HBX KA BX1
 by_cases h1:nw=0
 rotate_left
 ·have e1:(nw==0)=false:=zBq h1
  have E1:=uI EQ
  rw[if_pos h1] at E1
  subst E1
  go_wp2_with fail
  go_ret
  exact⟨rfl,uI C1⟩
 subst h1
 obtain⟨hc1,hd1⟩:=uI HN rfl
 clear HN
 have E1:=uI EQ
 rw[if_neg (by simp)] at E1
 have E2:=zH E1
 clear EQ E1
 go_wp2_with fail
 refine (uI KI _).mono ?_
 rintro e w2 ⟨rfl,hw2⟩
 subst w2
 cases hnn:namN nm
 ·rw[hnn] at NN
  go_wp2_with fail
  refine (uI NN _).mono ?_
  rintro e v2 ⟨rfl,j2⟩
  have C2:=zH ((uI C1).trans (Ctd.of (uI C1).box j2))
  have HK2:=zH ((uI HK1).step (j2.mono (by omega)))
  have BX2:=(uI HBX1).step j2
  clear q0 q1 q2 q3 q4 q5
  obtain⟨q0,q1,q2,q3,q4,q5⟩:=qbn BX2
  have HBX2:=zH BX2
  have hv2:w.heap.size<v2.heap.size:=BX2.1
  clear j2 HK1 HBX1 C1 BX2
  have E3:=uI E2
  rw[if_neg (by omega),hw.trans (if_neg (by rw[hnn];simp)),if_pos (by simp)] at E3
  subst E3
  go_wp2_with fail
  go_ret
  exact⟨rfl,uI C2⟩
 rw[hnn] at NN
 go_wp2_with fail
 refine (uI NN _).mono ?_
 rintro e v2 ⟨rfl,j2⟩
 have C2:=zH ((uI C1).trans (Ctd.of (uI C1).box j2))
 have HK2:=zH ((uI HK1).step (j2.mono (by omega)))
 have BX2:=(uI HBX1).step j2
 clear q0 q1 q2 q3 q4 q5
 obtain⟨q0,q1,q2,q3,q4,q5⟩:=qbn BX2
 have HBX2:=zH BX2
 have hv2:w.heap.size<v2.heap.size:=BX2.1
 clear j2 HK1 HBX1 C1 BX2
 have E3':=uI E2
 rw[if_neg (by omega),hw.trans (if_pos hnn),if_neg (by simp)] at E3'
 have E3:=zH E3'
 clear E2 E3'
 by_cases hm:l.length=0
 rotate_left
 ·have hmI:((l.length:Int) != 0)=true:=by apply bne_iff_ne.2;omega
  have E4:=uI E3
  rw[if_pos (by omega)] at E4
  subst E4
  go_wp2_with fail
  go_ret
  exact⟨rfl,uI C2⟩
 have hmI:((l.length:Int) != 0)=false:=by rw[hm];rfl
 have E4:=uI E3
 rw[if_neg (by omega)] at E4
 have E5:=zH E4.symm
 clear E3 E4
 go_wp2_with fail
 go_loopg [96] l.length (fun g t wr=>∃ (i ci:Nat),i≤l.length∧g=l.length - i∧t=.int .i64 (i:Int)∧ci≤20000∧Hid (Ctd w wr lb ci)∧Hid (ExL B wr (.slice ao l.length cap) l)∧Hid (lkEs (l.drop i) (d+1) ci=R))
 case atStart=>exact⟨0,c+1,Nat.zero_le _,rfl,rfl,hc1,C2,HK2,E5⟩
 case round =>
  obtain⟨i,ci,hi,hg,rfl,hci,HC,HXW,HE⟩:=hrel
  generalize wr=W0 at *
  have hsz:=(uI HC).kb.size
  by_cases hlt:i<l.length
  ·exact absurd hlt (by omega)
  ·have hiI:¬ (i:Int)<(l.length:Int):=by omega
   have h2:=uI HE
   rw[List.drop_eq_nil_of_le (by omega),lkEs] at h2
   subst h2
   go_wp2_with fail
   go_ret
   exact⟨rfl,uI HC⟩
theorem rex_3 (x:Ex)(IH:∀ y∈x.kids,REx y)(hk0:x.k=3):REx x:=by
 intro B lb c d kv w hb hB hc hd hk hf
 have ka:=qaa w (.cells #[.int .i64 x.k,.int .u64 x.n,.int .i64 x.b,.bool x.s,.string x.nm,kv] 57)
 have BX:=Box.new w #[.int .i64 x.k,.int .u64 x.n,.int .i64 x.b,.bool x.s,.string x.nm,kv] 57
 have hlb:=hb.1
 have NA:=zH (qao lb c d _ (hb.step ka) hc hd)
 have KI:=zH (fun W=>rkids_any x.k W)
 have HK:=zH (hk.step (ka.mono (by omega)))
 have KA:=zH (Kb.of (b:=lb) ka)
 have HBX:=zH BX
 obtain⟨ao,cap,rfl,hmax,-⟩:=hk.at
 obtain⟨⟨hn0,hn1⟩,hnm⟩:=hf
 clear hb ka BX hk
 unfold maxLen at hmax
 obtain⟨k,n,b,s,nm,l⟩:=x
 simp only[Ex.k,Ex.n,Ex.b,Ex.s,Ex.nm,Ex.kids] at *
 have EQ:Hid (lkE (.mk k n b s nm l) d c=if nodeW d c≠0 then (nodeW d c,c+1) else if k<1∨26<k then (1,c+1) else if wExF k n b s nm≠0 then (wExF k n b s nm,c+1) else if l.length<kidLo k∨kidHi k<l.length then (5,c+1) else lkEs l (d+1) (c+1)):=by show _=_;rw[lkE]
 generalize lkE (.mk k n b s nm l) d c=R at *
 have HN:=zH (fun h=>qaf (d:=d) (c:=c) h)
 generalize nodeW d c=nw at *
 subst hk0
 rw[show kidN 3=1 from rfl] at KI
 rw[show kidLo 3=1 from rfl,show kidHi 3=1 from rfl] at EQ
 have hw:wExF 3 n b s nm=if namN nm=true then 0 else 7:=by unfold wExF wName;simp
 have NN:=zH (fun W=>rnamed8 nm W hnm)
 go_enter Tryz.func34,Tryz.ntmps34
 go_wp2_with fail
 refine (uI NA).mono ?_
 rintro e w1 ⟨rfl,k1⟩
 have C1:=zH (show Ctd w w1 lb (c+1) from⟨k1.box,(uI KA).trans k1.kb⟩)
 have HK1:=zH ((uI HK).step (k1.kb.below (by simp;omega) hB))
 have BX1:=(uI HBX).kb k1.kb (by omega)
 obtain⟨q0,q1,q2,q3,q4,q5⟩:=qbn BX1
 have HBX1:=zH BX1
 have hw1:w.heap.size<w1.heap.size:=BX1.1
 clear NA k1 HK HBX KA BX1
 by_cases h1:nw=0
 rotate_left
 ·have e1:(nw==0)=false:=zBq h1
  have E1:=uI EQ
  rw[if_pos h1] at E1
  subst E1
  go_wp2_with fail
  go_ret
  exact⟨rfl,uI C1⟩
 subst h1
 obtain⟨hc1,hd1⟩:=uI HN rfl
 clear HN
 have E1:=uI EQ
 rw[if_neg (by simp)] at E1
 have E2:=zH E1
 clear EQ E1
 go_wp2_with fail
 refine (uI KI _).mono ?_
 rintro e w2 ⟨rfl,hw2⟩
 subst w2
 cases hnn:namN nm
 ·rw[hnn] at NN
  go_wp2_with fail
  refine (uI NN _).mono ?_
  rintro e v2 ⟨rfl,j2⟩
  have C2:=zH ((uI C1).trans (Ctd.of (uI C1).box j2))
  have HK2:=zH ((uI HK1).step (j2.mono (by omega)))
  have BX2:=(uI HBX1).step j2
  clear q0 q1 q2 q3 q4 q5
  obtain⟨q0,q1,q2,q3,q4,q5⟩:=qbn BX2
  have HBX2:=zH BX2
  have hv2:w.heap.size<v2.heap.size:=BX2.1
  clear j2 HK1 HBX1 C1 BX2
  have E3:=uI E2
  rw[if_neg (by omega),hw.trans (if_neg (by rw[hnn];simp)),if_pos (by simp)] at E3
  subst E3
  go_wp2_with fail
  go_ret
  exact⟨rfl,uI C2⟩
 rw[hnn] at NN
 go_wp2_with fail
 refine (uI NN _).mono ?_
 rintro e v2 ⟨rfl,j2⟩
 have C2:=zH ((uI C1).trans (Ctd.of (uI C1).box j2))
 have HK2:=zH ((uI HK1).step (j2.mono (by omega)))
 have BX2:=(uI HBX1).step j2
 clear q0 q1 q2 q3 q4 q5
 obtain⟨q0,q1,q2,q3,q4,q5⟩:=qbn BX2
 have HBX2:=zH BX2
 have hv2:w.heap.size<v2.heap.size:=BX2.1
 clear j2 HK1 HBX1 C1 BX2
 have E3':=uI E2
 rw[if_neg (by omega),hw.trans (if_pos hnn),if_neg (by simp)] at E3'
 have E3:=zH E3'
 clear E2 E3'
 by_cases hm:l.length=1
 rotate_left
 ·have hmI:((l.length:Int) != 1)=true:=by apply bne_iff_ne.2;omega
  have E4:=uI E3
  rw[if_pos (by omega)] at E4
  subst E4
  go_wp2_with fail
  go_ret
  exact⟨rfl,uI C2⟩
 have hmI:((l.length:Int) != 1)=false:=by rw[hm];rfl
 have E4:=uI E3
 rw[if_neg (by omega)] at E4
 have E5:=zH E4.symm
 clear E3 E4
 go_wp2_with fail
 go_loopg [96] l.length (fun g t wr=>∃ (i ci:Nat),i≤l.length∧g=l.length - i∧t=.int .i64 (i:Int)∧ci≤20000∧Hid (Ctd w wr lb ci)∧Hid (ExL B wr (.slice ao l.length cap) l)∧Hid (lkEs (l.drop i) (d+1) ci=R))
 case atStart=>exact⟨0,c+1,Nat.zero_le _,rfl,rfl,hc1,C2,HK2,E5⟩
 case round =>
  obtain⟨i,ci,hi,hg,rfl,hci,HC,HXW,HE⟩:=hrel
  generalize wr=W0 at *
  have hsz:=(uI HC).kb.size
  by_cases hlt:i<l.length
  ·have hn:l≠[]:=by intro h;rw[h] at hlt;simp at hlt
   obtain⟨ao',cap',e1,-,hat⟩:=(uI HXW).at
   injection e1 with e1 _ e2
   subst e1 e2
   obtain⟨b1,o1,rfl,hb1,hbw,hc1'⟩:=hat hn
   obtain⟨kv,hk',hf',x0,x1,x2,x3,x4,x5⟩:=hc1' i hlt
   obtain⟨ak,ck,rfl,-,-⟩:=hk'.at
   have hiI:(i:Int)<(l.length:Int):=by omega
   have hi0:(0:Int)≤(i:Int):=by omega
   have HD:=zH (show l.drop i=l[i]::l.drop (i+1) from List.drop_eq_getElem_cons hlt)
   have HIH:=zH (IH l[i] (List.getElem_mem hlt))
   have ka:=qaa W0 (.cells #[.int .i64 l[i].k,.int .u64 l[i].n,.int .i64 l[i].b,.bool l[i].s,.string l[i].nm,.slice ak l[i].kids.length ck] 57)
   have CA:=zH (uI HIH B lb ci (d+1) _ _ ((uI HC).box.step ka) hB hci (by omega) (hk'.step (ka.mono (by omega))) hf')
   have KA:=zH (Kb.of (b:=lb) ka)
   have LE:=zH (qa7 l[i] (d+1) ci hci)
   rw[uI HD,lkEs_cons] at HE
   clear hat hc1' hk' HIH ka HD hf'
   generalize l[i]=y at *
   generalize lkE y (d+1) ci=ry at *
   obtain⟨er,cn⟩:=ry
   dsimp only at CA LE HE
   go_wp2_with fail
   refine (uI CA).mono ?_
   rintro e w3 ⟨rfl,k3⟩
   have kall:=(uI KA).trans k3.kb
   have K3:=zH (show Ctd w w3 lb cn from⟨k3.box,(uI HC).kb.trans kall⟩)
   have HX3:=zH ((uI HXW).step (kall.below (by omega) hB))
   clear CA k3 KA HC kall HXW
   by_cases he:er=0
   ·subst he
    go_wp2_with fail
    go_roundg (l.length - (i+1))
    case measure=>omega
    case rel =>
     have h2:=uI HE
     rw[if_neg (by simp)] at h2
     exact⟨i+1,cn,by omega,rfl,by go_num,uI LE (by simp),K3,HX3,h2⟩
   ·have ee:(er==0)=false:=zBq he
    have h2:=uI HE
    rw[if_pos he] at h2
    subst h2
    go_wp2_with fail
    go_ret
    exact⟨rfl,uI K3⟩
  ·have hiI:¬ (i:Int)<(l.length:Int):=by omega
   have h2:=uI HE
   rw[List.drop_eq_nil_of_le (by omega),lkEs] at h2
   subst h2
   go_wp2_with fail
   go_ret
   exact⟨rfl,uI HC⟩
theorem rex_4 (x:Ex)(IH:∀ y∈x.kids,REx y)(hk0:x.k=4):REx x:=by
 intro B lb c d kv w hb hB hc hd hk hf
 have ka:=qaa w (.cells #[.int .i64 x.k,.int .u64 x.n,.int .i64 x.b,.bool x.s,.string x.nm,kv] 57)
 have BX:=Box.new w #[.int .i64 x.k,.int .u64 x.n,.int .i64 x.b,.bool x.s,.string x.nm,kv] 57
 have hlb:=hb.1
 have NA:=zH (qao lb c d _ (hb.step ka) hc hd)
 have KI:=zH (fun W=>rkids_any x.k W)
 have HK:=zH (hk.step (ka.mono (by omega)))
 have KA:=zH (Kb.of (b:=lb) ka)
 have HBX:=zH BX
 obtain⟨ao,cap,rfl,hmax,-⟩:=hk.at
 obtain⟨⟨hn0,hn1⟩,hnm⟩:=hf
 clear hb ka BX hk
 unfold maxLen at hmax
 obtain⟨k,n,b,s,nm,l⟩:=x
 simp only[Ex.k,Ex.n,Ex.b,Ex.s,Ex.nm,Ex.kids] at *
 have EQ:Hid (lkE (.mk k n b s nm l) d c=if nodeW d c≠0 then (nodeW d c,c+1) else if k<1∨26<k then (1,c+1) else if wExF k n b s nm≠0 then (wExF k n b s nm,c+1) else if l.length<kidLo k∨kidHi k<l.length then (5,c+1) else lkEs l (d+1) (c+1)):=by show _=_;rw[lkE]
 generalize lkE (.mk k n b s nm l) d c=R at *
 have HN:=zH (fun h=>qaf (d:=d) (c:=c) h)
 generalize nodeW d c=nw at *
 subst hk0
 rw[show kidN 4=-1 from rfl] at KI
 rw[show kidLo 4=0 from rfl,show kidHi 4=8 from rfl] at EQ
 have hw:wExF 4 n b s nm=if namN nm=true then 0 else 7:=by unfold wExF wName;simp
 have NN:=zH (fun W=>rnamed8 nm W hnm)
 go_enter Tryz.func34,Tryz.ntmps34
 go_wp2_with fail
 refine (uI NA).mono ?_
 rintro e w1 ⟨rfl,k1⟩
 have C1:=zH (show Ctd w w1 lb (c+1) from⟨k1.box,(uI KA).trans k1.kb⟩)
 have HK1:=zH ((uI HK).step (k1.kb.below (by simp;omega) hB))
 have BX1:=(uI HBX).kb k1.kb (by omega)
 obtain⟨q0,q1,q2,q3,q4,q5⟩:=qbn BX1
 have HBX1:=zH BX1
 have hw1:w.heap.size<w1.heap.size:=BX1.1
 clear NA k1 HK HBX KA BX1
 by_cases h1:nw=0
 rotate_left
 ·have e1:(nw==0)=false:=zBq h1
  have E1:=uI EQ
  rw[if_pos h1] at E1
  subst E1
  go_wp2_with fail
  go_ret
  exact⟨rfl,uI C1⟩
 subst h1
 obtain⟨hc1,hd1⟩:=uI HN rfl
 clear HN
 have E1:=uI EQ
 rw[if_neg (by simp)] at E1
 have E2:=zH E1
 clear EQ E1
 go_wp2_with fail
 refine (uI KI _).mono ?_
 rintro e w2 ⟨rfl,hw2⟩
 subst w2
 cases hnn:namN nm
 ·rw[hnn] at NN
  go_wp2_with fail
  refine (uI NN _).mono ?_
  rintro e v2 ⟨rfl,j2⟩
  have C2:=zH ((uI C1).trans (Ctd.of (uI C1).box j2))
  have HK2:=zH ((uI HK1).step (j2.mono (by omega)))
  have BX2:=(uI HBX1).step j2
  clear q0 q1 q2 q3 q4 q5
  obtain⟨q0,q1,q2,q3,q4,q5⟩:=qbn BX2
  have HBX2:=zH BX2
  have hv2:w.heap.size<v2.heap.size:=BX2.1
  clear j2 HK1 HBX1 C1 BX2
  have E3:=uI E2
  rw[if_neg (by omega),hw.trans (if_neg (by rw[hnn];simp)),if_pos (by simp)] at E3
  subst E3
  go_wp2_with fail
  go_ret
  exact⟨rfl,uI C2⟩
 rw[hnn] at NN
 go_wp2_with fail
 refine (uI NN _).mono ?_
 rintro e v2 ⟨rfl,j2⟩
 have C2:=zH ((uI C1).trans (Ctd.of (uI C1).box j2))
 have HK2:=zH ((uI HK1).step (j2.mono (by omega)))
 have BX2:=(uI HBX1).step j2
 clear q0 q1 q2 q3 q4 q5
 obtain⟨q0,q1,q2,q3,q4,q5⟩:=qbn BX2
 have HBX2:=zH BX2
 have hv2:w.heap.size<v2.heap.size:=BX2.1
 clear j2 HK1 HBX1 C1 BX2
 have E3':=uI E2
 rw[if_neg (by omega),hw.trans (if_pos hnn),if_neg (by simp)] at E3'
 have E3:=zH E3'
 clear E2 E3'
 by_cases hm:8<l.length
 ·have hmI:(8:Int)<(l.length:Int):=by omega
  have E4:=uI E3
  rw[if_pos (by omega)] at E4
  subst E4
  go_wp2_with fail
  go_ret
  exact⟨rfl,uI C2⟩
 have hmI:¬ (8:Int)<(l.length:Int):=by omega
 have E4:=uI E3
 rw[if_neg (by omega)] at E4
 have E5:=zH E4.symm
 clear E3 E4
 go_wp2_with fail
 go_loopg [96] l.length (fun g t wr=>∃ (i ci:Nat),i≤l.length∧g=l.length - i∧t=.int .i64 (i:Int)∧ci≤20000∧Hid (Ctd w wr lb ci)∧Hid (ExL B wr (.slice ao l.length cap) l)∧Hid (lkEs (l.drop i) (d+1) ci=R))
 case atStart=>exact⟨0,c+1,Nat.zero_le _,rfl,rfl,hc1,C2,HK2,E5⟩
 case round =>
  obtain⟨i,ci,hi,hg,rfl,hci,HC,HXW,HE⟩:=hrel
  generalize wr=W0 at *
  have hsz:=(uI HC).kb.size
  by_cases hlt:i<l.length
  ·have hn:l≠[]:=by intro h;rw[h] at hlt;simp at hlt
   obtain⟨ao',cap',e1,-,hat⟩:=(uI HXW).at
   injection e1 with e1 _ e2
   subst e1 e2
   obtain⟨b1,o1,rfl,hb1,hbw,hc1'⟩:=hat hn
   obtain⟨kv,hk',hf',x0,x1,x2,x3,x4,x5⟩:=hc1' i hlt
   obtain⟨ak,ck,rfl,-,-⟩:=hk'.at
   have hiI:(i:Int)<(l.length:Int):=by omega
   have hi0:(0:Int)≤(i:Int):=by omega
   have HD:=zH (show l.drop i=l[i]::l.drop (i+1) from List.drop_eq_getElem_cons hlt)
   have HIH:=zH (IH l[i] (List.getElem_mem hlt))
   have ka:=qaa W0 (.cells #[.int .i64 l[i].k,.int .u64 l[i].n,.int .i64 l[i].b,.bool l[i].s,.string l[i].nm,.slice ak l[i].kids.length ck] 57)
   have CA:=zH (uI HIH B lb ci (d+1) _ _ ((uI HC).box.step ka) hB hci (by omega) (hk'.step (ka.mono (by omega))) hf')
   have KA:=zH (Kb.of (b:=lb) ka)
   have LE:=zH (qa7 l[i] (d+1) ci hci)
   rw[uI HD,lkEs_cons] at HE
   clear hat hc1' hk' HIH ka HD hf'
   generalize l[i]=y at *
   generalize lkE y (d+1) ci=ry at *
   obtain⟨er,cn⟩:=ry
   dsimp only at CA LE HE
   go_wp2_with fail
   refine (uI CA).mono ?_
   rintro e w3 ⟨rfl,k3⟩
   have kall:=(uI KA).trans k3.kb
   have K3:=zH (show Ctd w w3 lb cn from⟨k3.box,(uI HC).kb.trans kall⟩)
   have HX3:=zH ((uI HXW).step (kall.below (by omega) hB))
   clear CA k3 KA HC kall HXW
   by_cases he:er=0
   ·subst he
    go_wp2_with fail
    go_roundg (l.length - (i+1))
    case measure=>omega
    case rel =>
     have h2:=uI HE
     rw[if_neg (by simp)] at h2
     exact⟨i+1,cn,by omega,rfl,by go_num,uI LE (by simp),K3,HX3,h2⟩
   ·have ee:(er==0)=false:=zBq he
    have h2:=uI HE
    rw[if_pos he] at h2
    subst h2
    go_wp2_with fail
    go_ret
    exact⟨rfl,uI K3⟩
  ·have hiI:¬ (i:Int)<(l.length:Int):=by omega
   have h2:=uI HE
   rw[List.drop_eq_nil_of_le (by omega),lkEs] at h2
   subst h2
   go_wp2_with fail
   go_ret
   exact⟨rfl,uI HC⟩
theorem rex_5 (x:Ex)(IH:∀ y∈x.kids,REx y)(hk0:x.k=5):REx x:=by
 intro B lb c d kv w hb hB hc hd hk hf
 have ka:=qaa w (.cells #[.int .i64 x.k,.int .u64 x.n,.int .i64 x.b,.bool x.s,.string x.nm,kv] 57)
 have BX:=Box.new w #[.int .i64 x.k,.int .u64 x.n,.int .i64 x.b,.bool x.s,.string x.nm,kv] 57
 have hlb:=hb.1
 have NA:=zH (qao lb c d _ (hb.step ka) hc hd)
 have KI:=zH (fun W=>rkids_any x.k W)
 have HK:=zH (hk.step (ka.mono (by omega)))
 have KA:=zH (Kb.of (b:=lb) ka)
 have HBX:=zH BX
 obtain⟨ao,cap,rfl,hmax,-⟩:=hk.at
 obtain⟨⟨hn0,hn1⟩,hnm⟩:=hf
 clear hb ka BX hk
 unfold maxLen at hmax
 obtain⟨k,n,b,s,nm,l⟩:=x
 simp only[Ex.k,Ex.n,Ex.b,Ex.s,Ex.nm,Ex.kids] at *
 have EQ:Hid (lkE (.mk k n b s nm l) d c=if nodeW d c≠0 then (nodeW d c,c+1) else if k<1∨26<k then (1,c+1) else if wExF k n b s nm≠0 then (wExF k n b s nm,c+1) else if l.length<kidLo k∨kidHi k<l.length then (5,c+1) else lkEs l (d+1) (c+1)):=by show _=_;rw[lkE]
 generalize lkE (.mk k n b s nm l) d c=R at *
 have HN:=zH (fun h=>qaf (d:=d) (c:=c) h)
 generalize nodeW d c=nw at *
 subst hk0
 rw[show kidN 5=1 from rfl] at KI
 rw[show kidLo 5=1 from rfl,show kidHi 5=1 from rfl] at EQ
 have hw:wExF 5 n b s nm=if isWB b=true then 0 else 9:=by unfold wExF;simp
 have NN:=zH (fun W=>rvalid8 b s W)
 go_enter Tryz.func34,Tryz.ntmps34
 go_wp2_with fail
 refine (uI NA).mono ?_
 rintro e w1 ⟨rfl,k1⟩
 have C1:=zH (show Ctd w w1 lb (c+1) from⟨k1.box,(uI KA).trans k1.kb⟩)
 have HK1:=zH ((uI HK).step (k1.kb.below (by simp;omega) hB))
 have BX1:=(uI HBX).kb k1.kb (by omega)
 obtain⟨q0,q1,q2,q3,q4,q5⟩:=qbn BX1
 have HBX1:=zH BX1
 have hw1:w.heap.size<w1.heap.size:=BX1.1
 clear NA k1 HK HBX KA BX1
 by_cases h1:nw=0
 rotate_left
 ·have e1:(nw==0)=false:=zBq h1
  have E1:=uI EQ
  rw[if_pos h1] at E1
  subst E1
  go_wp2_with fail
  go_ret
  exact⟨rfl,uI C1⟩
 subst h1
 obtain⟨hc1,hd1⟩:=uI HN rfl
 clear HN
 have E1:=uI EQ
 rw[if_neg (by simp)] at E1
 have E2:=zH E1
 clear EQ E1
 go_wp2_with fail
 refine (uI KI _).mono ?_
 rintro e w2 ⟨rfl,hw2⟩
 subst w2
 cases hnn:isWB b
 ·rw[hnn] at NN
  go_wp2_with fail
  refine (uI NN _).mono ?_
  rintro e v2 ⟨rfl,j2⟩
  have C2:=zH ((uI C1).trans (Ctd.of (uI C1).box j2))
  have HK2:=zH ((uI HK1).step (j2.mono (by omega)))
  have BX2:=(uI HBX1).step j2
  clear q0 q1 q2 q3 q4 q5
  obtain⟨q0,q1,q2,q3,q4,q5⟩:=qbn BX2
  have HBX2:=zH BX2
  have hv2:w.heap.size<v2.heap.size:=BX2.1
  clear j2 HK1 HBX1 C1 BX2
  have E3:=uI E2
  rw[if_neg (by omega),hw.trans (if_neg (by rw[hnn];simp)),if_pos (by simp)] at E3
  subst E3
  go_wp2_with fail
  go_ret
  exact⟨rfl,uI C2⟩
 rw[hnn] at NN
 go_wp2_with fail
 refine (uI NN _).mono ?_
 rintro e v2 ⟨rfl,j2⟩
 have C2:=zH ((uI C1).trans (Ctd.of (uI C1).box j2))
 have HK2:=zH ((uI HK1).step (j2.mono (by omega)))
 have BX2:=(uI HBX1).step j2
 clear q0 q1 q2 q3 q4 q5
 obtain⟨q0,q1,q2,q3,q4,q5⟩:=qbn BX2
 have HBX2:=zH BX2
 have hv2:w.heap.size<v2.heap.size:=BX2.1
 clear j2 HK1 HBX1 C1 BX2
 have E3':=uI E2
 rw[if_neg (by omega),hw.trans (if_pos hnn),if_neg (by simp)] at E3'
 have E3:=zH E3'
 clear E2 E3'
 by_cases hm:l.length=1
 rotate_left
 ·have hmI:((l.length:Int) != 1)=true:=by apply bne_iff_ne.2;omega
  have E4:=uI E3
  rw[if_pos (by omega)] at E4
  subst E4
  go_wp2_with fail
  go_ret
  exact⟨rfl,uI C2⟩
 have hmI:((l.length:Int) != 1)=false:=by rw[hm];rfl
 have E4:=uI E3
 rw[if_neg (by omega)] at E4
 have E5:=zH E4.symm
 clear E3 E4
 go_wp2_with fail
 go_loopg [96] l.length (fun g t wr=>∃ (i ci:Nat),i≤l.length∧g=l.length - i∧t=.int .i64 (i:Int)∧ci≤20000∧Hid (Ctd w wr lb ci)∧Hid (ExL B wr (.slice ao l.length cap) l)∧Hid (lkEs (l.drop i) (d+1) ci=R))
 case atStart=>exact⟨0,c+1,Nat.zero_le _,rfl,rfl,hc1,C2,HK2,E5⟩
 case round =>
  obtain⟨i,ci,hi,hg,rfl,hci,HC,HXW,HE⟩:=hrel
  generalize wr=W0 at *
  have hsz:=(uI HC).kb.size
  by_cases hlt:i<l.length
  ·have hn:l≠[]:=by intro h;rw[h] at hlt;simp at hlt
   obtain⟨ao',cap',e1,-,hat⟩:=(uI HXW).at
   injection e1 with e1 _ e2
   subst e1 e2
   obtain⟨b1,o1,rfl,hb1,hbw,hc1'⟩:=hat hn
   obtain⟨kv,hk',hf',x0,x1,x2,x3,x4,x5⟩:=hc1' i hlt
   obtain⟨ak,ck,rfl,-,-⟩:=hk'.at
   have hiI:(i:Int)<(l.length:Int):=by omega
   have hi0:(0:Int)≤(i:Int):=by omega
   have HD:=zH (show l.drop i=l[i]::l.drop (i+1) from List.drop_eq_getElem_cons hlt)
   have HIH:=zH (IH l[i] (List.getElem_mem hlt))
   have ka:=qaa W0 (.cells #[.int .i64 l[i].k,.int .u64 l[i].n,.int .i64 l[i].b,.bool l[i].s,.string l[i].nm,.slice ak l[i].kids.length ck] 57)
   have CA:=zH (uI HIH B lb ci (d+1) _ _ ((uI HC).box.step ka) hB hci (by omega) (hk'.step (ka.mono (by omega))) hf')
   have KA:=zH (Kb.of (b:=lb) ka)
   have LE:=zH (qa7 l[i] (d+1) ci hci)
   rw[uI HD,lkEs_cons] at HE
   clear hat hc1' hk' HIH ka HD hf'
   generalize l[i]=y at *
   generalize lkE y (d+1) ci=ry at *
   obtain⟨er,cn⟩:=ry
   dsimp only at CA LE HE
   go_wp2_with fail
   refine (uI CA).mono ?_
   rintro e w3 ⟨rfl,k3⟩
   have kall:=(uI KA).trans k3.kb
   have K3:=zH (show Ctd w w3 lb cn from⟨k3.box,(uI HC).kb.trans kall⟩)
   have HX3:=zH ((uI HXW).step (kall.below (by omega) hB))
   clear CA k3 KA HC kall HXW
   by_cases he:er=0
   ·subst he
    go_wp2_with fail
    go_roundg (l.length - (i+1))
    case measure=>omega
    case rel =>
     have h2:=uI HE
     rw[if_neg (by simp)] at h2
     exact⟨i+1,cn,by omega,rfl,by go_num,uI LE (by simp),K3,HX3,h2⟩
   ·have ee:(er==0)=false:=zBq he
    have h2:=uI HE
    rw[if_pos he] at h2
    subst h2
    go_wp2_with fail
    go_ret
    exact⟨rfl,uI K3⟩
  ·have hiI:¬ (i:Int)<(l.length:Int):=by omega
   have h2:=uI HE
   rw[List.drop_eq_nil_of_le (by omega),lkEs] at h2
   subst h2
   go_wp2_with fail
   go_ret
   exact⟨rfl,uI HC⟩
theorem rex_one (x:Ex)(IH:∀ y∈x.kids,REx y)(hk1:6≤x.k)(hk2:x.k≤8):REx x:=by
 intro B lb c d kv w hb hB hc hd hk hf
 have ka:=qaa w (.cells #[.int .i64 x.k,.int .u64 x.n,.int .i64 x.b,.bool x.s,.string x.nm,kv] 57)
 have BX:=Box.new w #[.int .i64 x.k,.int .u64 x.n,.int .i64 x.b,.bool x.s,.string x.nm,kv] 57
 have hlb:=hb.1
 have NA:=zH (qao lb c d _ (hb.step ka) hc hd)
 have KI:=zH (fun W=>rkids_any x.k W)
 have HK:=zH (hk.step (ka.mono (by omega)))
 have KA:=zH (Kb.of (b:=lb) ka)
 have HBX:=zH BX
 obtain⟨ao,cap,rfl,hmax,-⟩:=hk.at
 obtain⟨⟨hn0,hn1⟩,hnm⟩:=hf
 clear hb ka BX hk
 unfold maxLen at hmax
 obtain⟨k,n,b,s,nm,l⟩:=x
 simp only[Ex.k,Ex.n,Ex.b,Ex.s,Ex.nm,Ex.kids] at *
 have EQ:Hid (lkE (.mk k n b s nm l) d c=if nodeW d c≠0 then (nodeW d c,c+1) else if k<1∨26<k then (1,c+1) else if wExF k n b s nm≠0 then (wExF k n b s nm,c+1) else if l.length<kidLo k∨kidHi k<l.length then (5,c+1) else lkEs l (d+1) (c+1)):=by show _=_;rw[lkE]
 generalize lkE (.mk k n b s nm l) d c=R at *
 have HN:=zH (fun h=>qaf (d:=d) (c:=c) h)
 generalize nodeW d c=nw at *
 have hkN:kidN k=1:=by unfold kidN;rw[if_neg (by omega),if_neg (by omega),if_neg (by omega),if_pos (by omega)]
 rw[hkN] at KI
 have hlo:kidLo k=1:=by unfold kidLo;rw[if_neg (by omega),if_pos (by omega)]
 have hhi:kidHi k=1:=by unfold kidHi;rw[if_neg (by omega),if_neg (by omega),if_pos (by omega)]
 rw[hlo,hhi] at EQ
 have e1:(k==1)=false:=by apply zBq;omega
 have e2:(k==2)=false:=by apply zBq;omega
 have e3:(k==3)=false:=by apply zBq;omega
 have e4:(k==4)=false:=by apply zBq;omega
 have e5:(k==5)=false:=by apply zBq;omega
 have hw:wExF k n b s nm=0:=by unfold wExF;rw[if_neg (by omega),if_neg (by omega),if_neg (by omega)]
 clear hkN hlo hhi
 go_enter Tryz.func34,Tryz.ntmps34
 go_wp2_with fail
 refine (uI NA).mono ?_
 rintro e w1 ⟨rfl,k1⟩
 have C1:=zH (show Ctd w w1 lb (c+1) from⟨k1.box,(uI KA).trans k1.kb⟩)
 have HK1:=zH ((uI HK).step (k1.kb.below (by simp;omega) hB))
 have BX1:=(uI HBX).kb k1.kb (by omega)
 obtain⟨q0,q1,q2,q3,q4,q5⟩:=qbn BX1
 have HBX1:=zH BX1
 have hw1:w.heap.size<w1.heap.size:=BX1.1
 clear NA k1 HK HBX KA BX1
 by_cases h1:nw=0
 rotate_left
 ·have e1:(nw==0)=false:=zBq h1
  have E1:=uI EQ
  rw[if_pos h1] at E1
  subst E1
  go_wp2_with fail
  go_ret
  exact⟨rfl,uI C1⟩
 subst h1
 obtain⟨hc1,hd1⟩:=uI HN rfl
 clear HN
 have E1:=uI EQ
 rw[if_neg (by simp)] at E1
 have E2:=zH E1
 clear EQ E1
 go_wp2_with fail
 refine (uI KI _).mono ?_
 rintro e w2 ⟨rfl,hw2⟩
 subst w2
 have E3':=uI E2
 rw[if_neg (by omega),hw,if_neg (by simp)] at E3'
 have E3:=zH E3'
 clear E2 E3'
 by_cases hm:l.length=1
 rotate_left
 ·have hmI:((l.length:Int) != 1)=true:=by apply bne_iff_ne.2;omega
  have E4:=uI E3
  rw[if_pos (by omega)] at E4
  subst E4
  go_wp2_with fail
  go_ret
  exact⟨rfl,uI C1⟩
 have hmI:((l.length:Int) != 1)=false:=by rw[hm];rfl
 have E4:=uI E3
 rw[if_neg (by omega)] at E4
 have E5:=zH E4.symm
 clear E3 E4
 go_wp2_with fail
 go_loopg [96] l.length (fun g t wr=>∃ (i ci:Nat),i≤l.length∧g=l.length - i∧t=.int .i64 (i:Int)∧ci≤20000∧Hid (Ctd w wr lb ci)∧Hid (ExL B wr (.slice ao l.length cap) l)∧Hid (lkEs (l.drop i) (d+1) ci=R))
 case atStart=>exact⟨0,c+1,Nat.zero_le _,rfl,rfl,hc1,C1,HK1,E5⟩
 case round =>
  obtain⟨i,ci,hi,hg,rfl,hci,HC,HXW,HE⟩:=hrel
  generalize wr=W0 at *
  have hsz:=(uI HC).kb.size
  by_cases hlt:i<l.length
  ·have hn:l≠[]:=by intro h;rw[h] at hlt;simp at hlt
   obtain⟨ao',cap',e1,-,hat⟩:=(uI HXW).at
   injection e1 with e1 _ e2
   subst e1 e2
   obtain⟨b1,o1,rfl,hb1,hbw,hc1'⟩:=hat hn
   obtain⟨kv,hk',hf',x0,x1,x2,x3,x4,x5⟩:=hc1' i hlt
   obtain⟨ak,ck,rfl,-,-⟩:=hk'.at
   have hiI:(i:Int)<(l.length:Int):=by omega
   have hi0:(0:Int)≤(i:Int):=by omega
   have HD:=zH (show l.drop i=l[i]::l.drop (i+1) from List.drop_eq_getElem_cons hlt)
   have HIH:=zH (IH l[i] (List.getElem_mem hlt))
   have ka:=qaa W0 (.cells #[.int .i64 l[i].k,.int .u64 l[i].n,.int .i64 l[i].b,.bool l[i].s,.string l[i].nm,.slice ak l[i].kids.length ck] 57)
   have CA:=zH (uI HIH B lb ci (d+1) _ _ ((uI HC).box.step ka) hB hci (by omega) (hk'.step (ka.mono (by omega))) hf')
   have KA:=zH (Kb.of (b:=lb) ka)
   have LE:=zH (qa7 l[i] (d+1) ci hci)
   rw[uI HD,lkEs_cons] at HE
   clear hat hc1' hk' HIH ka HD hf'
   generalize l[i]=y at *
   generalize lkE y (d+1) ci=ry at *
   obtain⟨er,cn⟩:=ry
   dsimp only at CA LE HE
   go_wp2_with fail
   refine (uI CA).mono ?_
   rintro e w3 ⟨rfl,k3⟩
   have kall:=(uI KA).trans k3.kb
   have K3:=zH (show Ctd w w3 lb cn from⟨k3.box,(uI HC).kb.trans kall⟩)
   have HX3:=zH ((uI HXW).step (kall.below (by omega) hB))
   clear CA k3 KA HC kall HXW
   by_cases he:er=0
   ·subst he
    go_wp2_with fail
    go_roundg (l.length - (i+1))
    case measure=>omega
    case rel =>
     have h2:=uI HE
     rw[if_neg (by simp)] at h2
     exact⟨i+1,cn,by omega,rfl,by go_num,uI LE (by simp),K3,HX3,h2⟩
   ·have ee:(er==0)=false:=zBq he
    have h2:=uI HE
    rw[if_pos he] at h2
    subst h2
    go_wp2_with fail
    go_ret
    exact⟨rfl,uI K3⟩
  ·have hiI:¬ (i:Int)<(l.length:Int):=by omega
   have h2:=uI HE
   rw[List.drop_eq_nil_of_le (by omega),lkEs] at h2
   subst h2
   go_wp2_with fail
   go_ret
   exact⟨rfl,uI HC⟩
theorem rex_two (x:Ex)(IH:∀ y∈x.kids,REx y)(hk1:9≤x.k)(hk2:x.k≤26):REx x:=by
 intro B lb c d kv w hb hB hc hd hk hf
 have ka:=qaa w (.cells #[.int .i64 x.k,.int .u64 x.n,.int .i64 x.b,.bool x.s,.string x.nm,kv] 57)
 have BX:=Box.new w #[.int .i64 x.k,.int .u64 x.n,.int .i64 x.b,.bool x.s,.string x.nm,kv] 57
 have hlb:=hb.1
 have NA:=zH (qao lb c d _ (hb.step ka) hc hd)
 have KI:=zH (fun W=>rkids_any x.k W)
 have HK:=zH (hk.step (ka.mono (by omega)))
 have KA:=zH (Kb.of (b:=lb) ka)
 have HBX:=zH BX
 obtain⟨ao,cap,rfl,hmax,-⟩:=hk.at
 obtain⟨⟨hn0,hn1⟩,hnm⟩:=hf
 clear hb ka BX hk
 unfold maxLen at hmax
 obtain⟨k,n,b,s,nm,l⟩:=x
 simp only[Ex.k,Ex.n,Ex.b,Ex.s,Ex.nm,Ex.kids] at *
 have EQ:Hid (lkE (.mk k n b s nm l) d c=if nodeW d c≠0 then (nodeW d c,c+1) else if k<1∨26<k then (1,c+1) else if wExF k n b s nm≠0 then (wExF k n b s nm,c+1) else if l.length<kidLo k∨kidHi k<l.length then (5,c+1) else lkEs l (d+1) (c+1)):=by show _=_;rw[lkE]
 generalize lkE (.mk k n b s nm l) d c=R at *
 have HN:=zH (fun h=>qaf (d:=d) (c:=c) h)
 generalize nodeW d c=nw at *
 have hkN:kidN k=2:=by unfold kidN;rw[if_neg (by omega),if_neg (by omega),if_neg (by omega),if_neg (by omega)]
 rw[hkN] at KI
 have hlo:kidLo k=2:=by unfold kidLo;rw[if_neg (by omega),if_neg (by omega)]
 have hhi:kidHi k=2:=by unfold kidHi;rw[if_neg (by omega),if_neg (by omega),if_neg (by omega)]
 rw[hlo,hhi] at EQ
 have e1:(k==1)=false:=by apply zBq;omega
 have e2:(k==2)=false:=by apply zBq;omega
 have e3:(k==3)=false:=by apply zBq;omega
 have e4:(k==4)=false:=by apply zBq;omega
 have e5:(k==5)=false:=by apply zBq;omega
 have hw:wExF k n b s nm=0:=by unfold wExF;rw[if_neg (by omega),if_neg (by omega),if_neg (by omega)]
 clear hkN hlo hhi
 go_enter Tryz.func34,Tryz.ntmps34
 go_wp2_with fail
 refine (uI NA).mono ?_
 rintro e w1 ⟨rfl,k1⟩
 have C1:=zH (show Ctd w w1 lb (c+1) from⟨k1.box,(uI KA).trans k1.kb⟩)
 have HK1:=zH ((uI HK).step (k1.kb.below (by simp;omega) hB))
 have BX1:=(uI HBX).kb k1.kb (by omega)
 obtain⟨q0,q1,q2,q3,q4,q5⟩:=qbn BX1
 have HBX1:=zH BX1
 have hw1:w.heap.size<w1.heap.size:=BX1.1
 clear NA k1 HK HBX KA BX1
 by_cases h1:nw=0
 rotate_left
 ·have e1:(nw==0)=false:=zBq h1
  have E1:=uI EQ
  rw[if_pos h1] at E1
  subst E1
  go_wp2_with fail
  go_ret
  exact⟨rfl,uI C1⟩
 subst h1
 obtain⟨hc1,hd1⟩:=uI HN rfl
 clear HN
 have E1:=uI EQ
 rw[if_neg (by simp)] at E1
 have E2:=zH E1
 clear EQ E1
 go_wp2_with fail
 refine (uI KI _).mono ?_
 rintro e w2 ⟨rfl,hw2⟩
 subst w2
 have E3':=uI E2
 rw[if_neg (by omega),hw,if_neg (by simp)] at E3'
 have E3:=zH E3'
 clear E2 E3'
 by_cases hm:l.length=2
 rotate_left
 ·have hmI:((l.length:Int) != 2)=true:=by apply bne_iff_ne.2;omega
  have E4:=uI E3
  rw[if_pos (by omega)] at E4
  subst E4
  go_wp2_with fail
  go_ret
  exact⟨rfl,uI C1⟩
 have hmI:((l.length:Int) != 2)=false:=by rw[hm];rfl
 have E4:=uI E3
 rw[if_neg (by omega)] at E4
 have E5:=zH E4.symm
 clear E3 E4
 go_wp2_with fail
 go_loopg [96] l.length (fun g t wr=>∃ (i ci:Nat),i≤l.length∧g=l.length - i∧t=.int .i64 (i:Int)∧ci≤20000∧Hid (Ctd w wr lb ci)∧Hid (ExL B wr (.slice ao l.length cap) l)∧Hid (lkEs (l.drop i) (d+1) ci=R))
 case atStart=>exact⟨0,c+1,Nat.zero_le _,rfl,rfl,hc1,C1,HK1,E5⟩
 case round =>
  obtain⟨i,ci,hi,hg,rfl,hci,HC,HXW,HE⟩:=hrel
  generalize wr=W0 at *
  have hsz:=(uI HC).kb.size
  by_cases hlt:i<l.length
  ·have hn:l≠[]:=by intro h;rw[h] at hlt;simp at hlt
   obtain⟨ao',cap',e1,-,hat⟩:=(uI HXW).at
   injection e1 with e1 _ e2
   subst e1 e2
   obtain⟨b1,o1,rfl,hb1,hbw,hc1'⟩:=hat hn
   obtain⟨kv,hk',hf',x0,x1,x2,x3,x4,x5⟩:=hc1' i hlt
   obtain⟨ak,ck,rfl,-,-⟩:=hk'.at
   have hiI:(i:Int)<(l.length:Int):=by omega
   have hi0:(0:Int)≤(i:Int):=by omega
   have HD:=zH (show l.drop i=l[i]::l.drop (i+1) from List.drop_eq_getElem_cons hlt)
   have HIH:=zH (IH l[i] (List.getElem_mem hlt))
   have ka:=qaa W0 (.cells #[.int .i64 l[i].k,.int .u64 l[i].n,.int .i64 l[i].b,.bool l[i].s,.string l[i].nm,.slice ak l[i].kids.length ck] 57)
   have CA:=zH (uI HIH B lb ci (d+1) _ _ ((uI HC).box.step ka) hB hci (by omega) (hk'.step (ka.mono (by omega))) hf')
   have KA:=zH (Kb.of (b:=lb) ka)
   have LE:=zH (qa7 l[i] (d+1) ci hci)
   rw[uI HD,lkEs_cons] at HE
   clear hat hc1' hk' HIH ka HD hf'
   generalize l[i]=y at *
   generalize lkE y (d+1) ci=ry at *
   obtain⟨er,cn⟩:=ry
   dsimp only at CA LE HE
   go_wp2_with fail
   refine (uI CA).mono ?_
   rintro e w3 ⟨rfl,k3⟩
   have kall:=(uI KA).trans k3.kb
   have K3:=zH (show Ctd w w3 lb cn from⟨k3.box,(uI HC).kb.trans kall⟩)
   have HX3:=zH ((uI HXW).step (kall.below (by omega) hB))
   clear CA k3 KA HC kall HXW
   by_cases he:er=0
   ·subst he
    go_wp2_with fail
    go_roundg (l.length - (i+1))
    case measure=>omega
    case rel =>
     have h2:=uI HE
     rw[if_neg (by simp)] at h2
     exact⟨i+1,cn,by omega,rfl,by go_num,uI LE (by simp),K3,HX3,h2⟩
   ·have ee:(er==0)=false:=zBq he
    have h2:=uI HE
    rw[if_pos he] at h2
    subst h2
    go_wp2_with fail
    go_ret
    exact⟨rfl,uI K3⟩
  ·have hiI:¬ (i:Int)<(l.length:Int):=by omega
   have h2:=uI HE
   rw[List.drop_eq_nil_of_le (by omega),lkEs] at h2
   subst h2
   go_wp2_with fail
   go_ret
   exact⟨rfl,uI HC⟩
theorem rexpr_any:∀ x,REx x:=by
 apply Ex.ind
 intro x IH
 by_cases h0:x.k<1∨26<x.k
 ·exact rex_bad x IH h0
 ·by_cases h1:x.k=1
  ·exact rex_1 x IH h1
  ·by_cases h2:x.k=2
   ·exact rex_2 x IH h2
   ·by_cases h3:x.k=3
    ·exact rex_3 x IH h3
    ·by_cases h4:x.k=4
     ·exact rex_4 x IH h4
     ·by_cases h5:x.k=5
      ·exact rex_5 x IH h5
      ·by_cases h8:x.k≤8
       ·exact rex_one x IH (by omega) h8
       ·exact rex_two x IH (by omega) (by omega)
end Go.Proofs.YtjpnnmkefaodoaaGreat
