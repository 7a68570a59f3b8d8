/-
  TrK, LwA, LwB, LwC, CcA.
-/
import Derived.Test.YtjpnnmkefaodoaaGreatyTyMy
set_option maxHeartbeats 8000000
set_option maxRecDepth 100000
namespace Go.Proofs.YtjpnnmkefaodoaaGreat
open Go.RowKit
set_option linter.unusedSimpArgs false
set_option linter.unusedVariables false
structure Kb (b:Nat)(w w':World):Prop where
 os:w'.os=w.os
 tape:w'.tape=w.tape
 output:w'.output=w.output
 size:w.heap.size≤w'.heap.size
 block:∀ k,k<w.heap.size→k≠b→w'.heap[k]?=w.heap[k]?
theorem Kb.refl (b:Nat)(w:World):Kb b w w:=⟨rfl,rfl,rfl,Nat.le_refl _,fun _ _ _=>rfl⟩
theorem Kb.of {b:Nat}{w w':World}(h:Below w.heap.size w w'):Kb b w w':=⟨h.os,h.tape,h.output,h.size,fun k hk _=>h.block k hk⟩
theorem Kb.trans {b:Nat}{u v w:World}(h:Kb b u v)(k:Kb b v w):Kb b u w :=
 ⟨k.os.trans h.os,k.tape.trans h.tape,k.output.trans h.output,Nat.le_trans h.size k.size,fun n hn hb=>by rw[k.block n (Nat.lt_of_lt_of_le hn h.size) hb,h.block n hn hb]⟩
theorem Kb.drop {b c:Nat}{u v w:World}(h:Kb b u v)(k:Kb c v w)(hc:u.heap.size≤c):Kb b u w :=
 ⟨k.os.trans h.os,k.tape.trans h.tape,k.output.trans h.output,Nat.le_trans h.size k.size,fun n hn hb=>by rw[k.block n (Nat.lt_of_lt_of_le hn h.size) (by omega),h.block n hn hb]⟩
theorem Kb.below {b B:Nat}{w w':World}(h:Kb b w w')(hB:B≤w.heap.size)(hb:B≤b):Below B w w':=⟨h.os,h.tape,h.output,h.size,fun k hk=>h.block k (by omega) (by omega)⟩
theorem Kb.cell {b:Nat}{w w':World}(h:Kb b w w'){k o:Nat}(hk:k<w.heap.size)(hb:k≠b):w'.cell? ⟨k,o,none⟩=w.cell? ⟨k,o,none⟩:=by unfold World.cell?;rw[h.block k hk hb]
theorem Kb.frozen {b:Nat}{w w':World}(h:Kb b w w'){k o:Nat}(hk:k<w.heap.size)(hb:k≠b):w'.frozen? ⟨k,o,none⟩=w.frozen? ⟨k,o,none⟩:=by unfold World.frozen?;rw[h.block k hk hb]
theorem Box.kb {b k:Nat}{w w':World}{cs:List Value}(h:Box w k cs)(q:Kb b w w')(hb:k≠b):Box w' k cs :=
 ⟨Nat.lt_of_lt_of_le h.1 q.size,fun j u hu=>by rw[q.cell h.1 hb];exact h.2.1 j u hu,fun j=>by rw[q.frozen h.1 hb];exact h.2.2 j⟩
theorem Kb.setCell {b:Nat}(w:World){j:Nat}(v:Value):Kb b w (w.setCell ⟨b,j,none⟩ v) :=
 ⟨rfl,rfl,rfl,by simp,fun k _ hk=>by simp[World.setCell,Array.getElem?_modify,Ne.symm hk]⟩
theorem Kb.drew {b:Nat}{u v:World}(h:Kb b u v):Kb b u v.drew:=⟨h.os,h.tape,h.output,h.size,h.block⟩
theorem Kb.drewN {b:Nat}{u v:World}(h:Kb b u v)(n:Nat):Kb b u (v.drewN n):=⟨h.os,h.tape,h.output,h.size,h.block⟩
structure Ctd (w w':World)(lb c:Nat):Prop where
 box:Box w' lb [.int .i64 (c:Int)]
 kb:Kb lb w w'
theorem Ctd.trans {u v w:World}{lb c d:Nat}(h:Ctd u v lb c)(k:Ctd v w lb d):Ctd u w lb d:=⟨k.box,h.kb.trans k.kb⟩
theorem Ctd.of {w w':World}{lb c:Nat}(h:Box w lb [.int .i64 (c:Int)])(k:Below w.heap.size w w'):Ctd w w' lb c:=⟨h.step k,Kb.of k⟩
theorem lnode_any (lb c d:Nat)(w:World)(h:Box w lb [.int .i64 (c:Int)])(hc:c≤20000)(hd:d≤101):Calls Tryz.prog 81 #[.pointer (some ⟨lb,0,none⟩),.int .i64 (d:Int)] w fun e w'=>e=.returned (.int .i64 (nodeW d c))∧Ctd w w' lb (c+1):=by
 have BX:=zH (h.set (j:=0) (u:=.int .i64 ((c+1:Nat):Int)) (by simp))
 have c0:=h.2.1 0 _ rfl
 have f0:=h.2.2 0
 have hlb:=h.1
 have c1:=(uI BX).2.1 0 _ rfl
 unfold nodeW
 by_cases h1:20000<c+1
 ·have h1I:(20000:Int)<(c:Int)+1:=by omega
  rw[if_pos (.inl h1)]
  go_enter Tryz.func81,Tryz.ntmps81
  go_wp2_with fail
  go_ret
  exact⟨rfl,uI BX,Kb.setCell _ _⟩
 ·have h1I:¬ (20000:Int)<(c:Int)+1:=by omega
  by_cases h2:100<d
  ·have h2I:(100:Int)<(d:Int):=by omega
   rw[if_pos (.inr h2)]
   go_enter Tryz.func81,Tryz.ntmps81
   go_wp2_with fail
   go_ret
   exact⟨rfl,uI BX,Kb.setCell _ _⟩
  ·have h2I:¬ (100:Int)<(d:Int):=by omega
   rw[if_neg (by omega)]
   go_enter Tryz.func81,Tryz.ntmps81
   go_wp2_with fail
   go_ret
   exact⟨rfl,uI BX,Kb.setCell _ _⟩
theorem swname_any (nm:ByteArray)(w:World):Calls Tryz.prog 118 #[.string nm] w fun e w'=>e=.returned (.int .i64 (wName nm))∧Below w.heap.size w w':=by
 have NA:=zH (snamed_any nm w)
 unfold wName
 cases hn:namN nm
 all_goals
  rw[hn] at NA
  go_enter Tryz.func118,Tryz.ntmps118
  go_wp2_with fail
  refine (uI NA).mono ?_
  rintro e w1 ⟨rfl,k1⟩
  go_wp2_with fail
  go_ret
  exact⟨rfl,k1⟩
theorem isW_of {b:Int}(h:isWB b=true):IsW b:=by
 unfold isWB at h
 unfold IsW
 exact of_decide_eq_true h
theorem noW_of {b:Int}(h:isWB b=false):NoW b:=by
 have:=of_decide_eq_false h
 refine⟨?_,?_,?_,?_⟩ <;> (apply zBq;omega)
theorem svalid_any (b:Int)(s:Bool)(w:World):Calls Tryz.prog 83 #[.agg #[.int .i64 b,.bool s]] w fun e w'=>e=.returned (.bool (isWB b))∧Below w.heap.size w w':=by
 cases h:isWB b
 ·exact tvalid_no b s w (noW_of h)
 ·exact qaz b s w (isW_of h)
theorem swnamed_any (b:Int)(s:Bool)(nm:ByteArray)(w:World):Calls Tryz.prog 80 #[.agg #[.int .i64 b,.bool s],.string nm] w fun e w'=>e=.returned (.int .i64 (wTyped b nm))∧Below w.heap.size w w':=by
 have VA:=zH (fun W=>svalid_any b s W)
 unfold wTyped
 have k0:=qaa w (.cells #[.int .i64 b,.bool s] 34)
 cases h:isWB b
 ·rw[h] at VA
  go_enter Tryz.func80,Tryz.ntmps80
  go_wp2_with fail
  refine (uI VA _).mono ?_
  rintro e w1 ⟨rfl,k1⟩
  have k2:=bT k0 k1
  go_wp2_with fail
  go_ret
  exact⟨rfl,k2⟩
 ·rw[h] at VA
  go_enter Tryz.func80,Tryz.ntmps80
  go_wp2_with fail
  refine (uI VA _).mono ?_
  rintro e w1 ⟨rfl,k1⟩
  have k2:=bT k0 k1
  go_wp2_with fail
  refine (swname_any nm w1).mono ?_
  rintro e w2 ⟨rfl,k3⟩
  go_wp2_with fail
  go_ret
  exact⟨rfl,bT k2 k3⟩
theorem lkids_any (k:Int)(w:World):Calls Tryz.prog 148 #[.int .i64 k] w fun e w'=>e=.returned (.tuple #[.int .i64 (kidLo k:Int),.int .i64 (kidHi k:Int)])∧w'=w:=by
 by_cases h:k=1∨k=2∨k=3∨k=4∨k=5∨k=6∨k=7∨k=8
 ·rcases h with rfl|rfl|rfl|rfl|rfl|rfl|rfl|rfl
  ·go_enter Tryz.func148,Tryz.ntmps148
   go_wp2_with fail
   exact bodyPost_ret (v:=.tuple #[.int .i64 0,.int .i64 0]) (by simp[results,Tryz.results148,go_sem]) rfl ⟨rfl,rfl⟩
  ·go_enter Tryz.func148,Tryz.ntmps148
   go_wp2_with fail
   exact bodyPost_ret (v:=.tuple #[.int .i64 0,.int .i64 0]) (by simp[results,Tryz.results148,go_sem]) rfl ⟨rfl,rfl⟩
  ·go_enter Tryz.func148,Tryz.ntmps148
   go_wp2_with fail
   exact bodyPost_ret (v:=.tuple #[.int .i64 1,.int .i64 1]) (by simp[results,Tryz.results148,go_sem]) rfl ⟨rfl,rfl⟩
  ·go_enter Tryz.func148,Tryz.ntmps148
   go_wp2_with fail
   exact bodyPost_ret (v:=.tuple #[.int .i64 0,.int .i64 8]) (by simp[results,Tryz.results148,go_sem]) rfl ⟨rfl,rfl⟩
  ·go_enter Tryz.func148,Tryz.ntmps148
   go_wp2_with fail
   exact bodyPost_ret (v:=.tuple #[.int .i64 1,.int .i64 1]) (by simp[results,Tryz.results148,go_sem]) rfl ⟨rfl,rfl⟩
  ·go_enter Tryz.func148,Tryz.ntmps148
   go_wp2_with fail
   exact bodyPost_ret (v:=.tuple #[.int .i64 1,.int .i64 1]) (by simp[results,Tryz.results148,go_sem]) rfl ⟨rfl,rfl⟩
  ·go_enter Tryz.func148,Tryz.ntmps148
   go_wp2_with fail
   exact bodyPost_ret (v:=.tuple #[.int .i64 1,.int .i64 1]) (by simp[results,Tryz.results148,go_sem]) rfl ⟨rfl,rfl⟩
  ·go_enter Tryz.func148,Tryz.ntmps148
   go_wp2_with fail
   exact bodyPost_ret (v:=.tuple #[.int .i64 1,.int .i64 1]) (by simp[results,Tryz.results148,go_sem]) rfl ⟨rfl,rfl⟩
 ·have e1:(k==1)=false:=by apply zBq;omega
  have e2:(k==2)=false:=by apply zBq;omega
  have e3:(k==3)=false:=by apply zBq;omega
  have e4:(k==4)=false:=by apply zBq;omega
  have e5:(k==5)=false:=by apply zBq;omega
  have e6:(k==6)=false:=by apply zBq;omega
  have e7:(k==7)=false:=by apply zBq;omega
  have e8:(k==8)=false:=by apply zBq;omega
  have lo:kidLo k=2:=by unfold kidLo;rw[if_neg (by omega),if_neg (by omega)]
  have hi:kidHi k=2:=by unfold kidHi;rw[if_neg (by omega),if_neg (by omega),if_neg (by omega)]
  rw[lo,hi]
  go_enter Tryz.func148,Tryz.ntmps148
  go_wp2_with fail
  exact bodyPost_ret (v:=.tuple #[.int .i64 2,.int .i64 2]) (by simp[results,Tryz.results148,go_sem]) rfl ⟨rfl,rfl⟩
theorem qaf {d c:Nat}(h:nodeW d c=0):c+1≤20000∧d≤100:=by
 unfold nodeW at h
 split at h
 ·cases h
 ·omega
theorem lkEs_cons (x:Ex)(xs:List Ex)(d c:Nat):lkEs (x::xs) d c=if (lkE x d c).1≠0 then lkE x d c else lkEs xs d (lkE x d c).2:=by rw[lkEs]
theorem lkE_eq (x:Ex)(d c:Nat):lkE x d c=if nodeW d c≠0 then (nodeW d c,c+1) else if x.k<1∨26<x.k then (1,c+1) else if wExF x.k x.n x.b x.s x.nm≠0 then (wExF x.k x.n x.b x.s x.nm,c+1) else if x.kids.length<kidLo x.k∨kidHi x.k<x.kids.length then (5,c+1) else lkEs x.kids (d+1) (c+1):=by
 obtain⟨k,n,b,s,nm,l⟩:=x
 rw[lkE];rfl
theorem lkEs_le {xs:List Ex}(IH:∀ x∈xs,∀ d c,c≤20000→(lkE x d c).1=0→(lkE x d c).2≤20000):∀ d c,c≤20000→(lkEs xs d c).1=0→(lkEs xs d c).2≤20000:=by
 induction xs with
 | nil=>intro d c hc _;rw[lkEs];exact hc
 | cons x xs ih =>
  intro d c hc h
  rw[lkEs_cons] at h ⊢
  by_cases e:(lkE x d c).1=0
  ·rw[if_neg (by simpa using e)] at h ⊢
   exact ih (fun y hy=>IH y (List.mem_cons_of_mem _ hy)) d _ (IH x List.mem_cons_self d c hc e) h
  ·rw[if_pos e] at h;exact absurd h e
theorem qa7:∀ (x:Ex) (d c:Nat),c≤20000→(lkE x d c).1=0→(lkE x d c).2≤20000:=by
 apply Ex.ind
 intro x IH d c hc h
 rw[lkE_eq] at h ⊢
 split at h <;> rename_i h1
 ·exact absurd h h1
 ·rw[if_neg h1]
  split at h <;> rename_i h2
  ·cases h
  ·rw[if_neg h2]
   split at h <;> rename_i h3
   ·exact absurd h h3
   ·rw[if_neg h3]
    split at h <;> rename_i h4
    ·cases h
    ·rw[if_neg h4]
     exact lkEs_le (fun y hy d c=>IH y hy d c) _ _ (qaf (by simpa using h1)).1 h
theorem qbn {w:World}{b:Nat}{a0 a1 a2 a3 a4 a5:Value}(h:Box w b [a0,a1,a2,a3,a4,a5]):w.cell? ⟨b,0,none⟩=some a0∧w.cell? ⟨b,1,none⟩=some a1∧w.cell? ⟨b,2,none⟩=some a2∧w.cell? ⟨b,3,none⟩=some a3∧w.cell? ⟨b,4,none⟩=some a4∧w.cell? ⟨b,5,none⟩=some a5 :=
 ⟨h.2.1 0 _ rfl,h.2.1 1 _ rfl,h.2.1 2 _ rfl,h.2.1 3 _ rfl,h.2.1 4 _ rfl,h.2.1 5 _ rfl⟩
theorem swexpr_any (x:Ex)(kv:Value)(w:World)(hx:ExF x):Calls Tryz.prog 147 #[.agg #[.int .i64 x.k,.int .u64 x.n,.int .i64 x.b,.bool x.s,.string x.nm,kv]] w fun e w'=>e=.returned (.int .i64 (wExF x.k x.n x.b x.s x.nm))∧Below w.heap.size w w':=by
 obtain⟨k,n,b,s,nm,l⟩:=x
 simp only[Ex.k,Ex.n,Ex.b,Ex.s,Ex.nm]
 have k0:=qaa w (.cells #[.int .i64 k,.int .u64 n,.int .i64 b,.bool s,.string nm,kv] 57)
 by_cases h1:k=1
 ·have hw:wExF k n b s nm=if (lit n (!s)).2.2=0∧(lit n (!s)).1=b∧(lit n (!s)).2.1=s then 0 else 9:=by unfold wExF;rw[if_pos h1]
  rw[hw]
  subst h1
  have LA:=zH (fun W=>literal_any n (!s) W)
  generalize lit n (!s)=r at *
  obtain⟨lb,ls,le⟩:=r
  dsimp only at LA ⊢
  have ka:=fun W=>qaa W (.cells #[.int .i64 lb,.bool ls] 34)
  by_cases hle:le=0
  ·subst hle
   by_cases hb:lb=b
   ·subst hb
    by_cases hs:ls=s
    ·subst hs
     rw[if_pos ⟨rfl,rfl,rfl⟩]
     go_enter Tryz.func147,Tryz.ntmps147
     go_wp2_with fail
     refine (uI LA _).mono ?_
     rintro e w1 ⟨rfl,k1⟩
     have k2:=bT (bT k0 k1) (ka w1)
     obtain⟨q0,q1,q2,q3,q4,q5⟩:=qbn ((Box.new w #[.int .i64 1,.int .u64 n,.int .i64 lb,.bool ls,.string nm,kv] 57).step k1)
     have hw1:w.heap.size<w1.heap.size:=by have:=k1.size;simp at this;omega
     go_wp2_with fail
     go_ret
     exact⟨rfl,k2⟩
    ·rw[if_neg (fun h=>hs h.2.2)]
     have es:(ls==s)=false:=zBq hs
     go_enter Tryz.func147,Tryz.ntmps147
     go_wp2_with fail
     refine (uI LA _).mono ?_
     rintro e w1 ⟨rfl,k1⟩
     have k2:=bT (bT k0 k1) (ka w1)
     obtain⟨q0,q1,q2,q3,q4,q5⟩:=qbn ((Box.new w #[.int .i64 1,.int .u64 n,.int .i64 lb,.bool s,.string nm,kv] 57).step k1)
     have hw1:w.heap.size<w1.heap.size:=by have:=k1.size;simp at this;omega
     go_wp2_with fail
     go_ret
     exact⟨rfl,k2⟩
   ·rw[if_neg (fun h=>hb h.2.1)]
    have eb:(lb==b)=false:=zBq hb
    go_enter Tryz.func147,Tryz.ntmps147
    go_wp2_with fail
    refine (uI LA _).mono ?_
    rintro e w1 ⟨rfl,k1⟩
    have k2:=bT (bT k0 k1) (ka w1)
    obtain⟨q0,q1,q2,q3,q4,q5⟩:=qbn ((Box.new w #[.int .i64 1,.int .u64 n,.int .i64 b,.bool s,.string nm,kv] 57).step k1)
    have hw1:w.heap.size<w1.heap.size:=by have:=k1.size;simp at this;omega
    go_wp2_with fail
    go_ret
    exact⟨rfl,k2⟩
  ·rw[if_neg (fun h=>hle h.1)]
   have el:(le==0)=false:=zBq hle
   go_enter Tryz.func147,Tryz.ntmps147
   go_wp2_with fail
   refine (uI LA _).mono ?_
   rintro e w1 ⟨rfl,k1⟩
   have k2:=bT (bT k0 k1) (ka w1)
   go_wp2_with fail
   go_ret
   exact⟨rfl,k2⟩
 ·have e1:(k==1)=false:=zBq h1
  by_cases h2:k=2∨k=3∨k=4
  ·have hw:wExF k n b s nm=wName nm:=by unfold wExF;rw[if_neg h1,if_pos h2]
   rw[hw]
   rcases h2 with rfl|rfl|rfl
   all_goals
    go_enter Tryz.func147,Tryz.ntmps147
    go_wp2_with fail
    refine (swname_any nm _).mono ?_
    rintro e w1 ⟨rfl,k1⟩
    have k2:=bT k0 k1
    go_wp2_with fail
    go_ret
    exact⟨rfl,k2⟩
  ·have e2:(k==2)=false:=by apply zBq;omega
   have e3:(k==3)=false:=by apply zBq;omega
   have e4:(k==4)=false:=by apply zBq;omega
   by_cases h5:k=5
   ·have hw:wExF k n b s nm=if isWB b=true then 0 else 9:=by unfold wExF;rw[if_neg h1,if_neg h2,if_pos h5]
    rw[hw]
    subst h5
    have VA:=zH (fun W=>svalid_any b s W)
    cases hv:isWB b
    all_goals
     rw[hv] at VA
     go_enter Tryz.func147,Tryz.ntmps147
     go_wp2_with fail
     refine (uI VA _).mono ?_
     rintro e w1 ⟨rfl,k1⟩
     have k2:=bT k0 k1
     go_wp2_with fail
     go_ret
     exact⟨rfl,k2⟩
   ·have e5:(k==5)=false:=zBq h5
    have hw:wExF k n b s nm=0:=by unfold wExF;rw[if_neg h1,if_neg h2,if_neg h5]
    rw[hw]
    go_enter Tryz.func147,Tryz.ntmps147
    go_wp2_with fail
    go_ret
    exact⟨rfl,k0⟩
def LEx (x:Ex):Prop:=∀ (B lb c d:Nat) (kv:Value) (w:World),Box w lb [.int .i64 (c:Int)]→B≤lb→c≤20000→d≤101→ExL B w kv x.kids→ExF x →
 Calls Tryz.prog 119 #[.pointer (some ⟨lb,0,none⟩),.agg #[.int .i64 x.k,.int .u64 x.n,.int .i64 x.b,.bool x.s,.string x.nm,kv],.int .i64 (d:Int)] w fun e w'=>e=.returned (.int .i64 (lkE x d c).1)∧Ctd w w' lb (lkE x d c).2
theorem lexprs_any (xs:List Ex)(IH:∀ x∈xs,LEx x)(B lb c d:Nat)(v:Value)(w:World)(hb:Box w lb [.int .i64 (c:Int)])(hB:B≤lb)(hc:c≤20000)(hd:d≤101)(hx:ExL B w v xs) :
  Calls Tryz.prog 82 #[.pointer (some ⟨lb,0,none⟩),v,.int .i64 (d:Int)] w fun e w'=>e=.returned (.int .i64 (lkEs xs d c).1)∧Ctd w w' lb (lkEs xs d c).2:=by
 obtain⟨ao,cap,rfl,hmax,-⟩:=hx.at
 have HX:=zH hx
 have HB:=zH hb
 have hlb:=hb.1
 clear hb hx
 generalize hR:lkEs xs d c=R
 unfold maxLen at hmax
 go_enter Tryz.func82,Tryz.ntmps82
 go_wp2_with fail
 go_loopg [12] xs.length (fun g t wr=>∃ (i ci:Nat),i≤xs.length∧g=xs.length - i∧t=.int .i64 (i:Int)∧ci≤20000∧Hid (Ctd w wr lb ci)∧Hid (lkEs (xs.drop i) d ci=R))
 case atStart=>exact⟨0,c,Nat.zero_le _,rfl,rfl,hc,⟨uI HB,Kb.refl _ _⟩,hR⟩
 case round =>
  obtain⟨i,ci,hi,hg,rfl,hci,HC,HE⟩:=hrel
  generalize wr=W0 at *
  have hsz:=(uI HC).kb.size
  by_cases hlt:i<xs.length
  ·have hn:xs≠[]:=by intro h;rw[h] at hlt;simp at hlt
   have hxw:ExL B W0 (.slice ao xs.length cap) xs:=(uI HX).step ((uI HC).kb.below (by omega) hB)
   obtain⟨ao',cap',e1,-,hat⟩:=hxw.at
   injection e1 with e1 _ e2
   subst e1 e2
   obtain⟨b1,o1,rfl,hb1,hbw,hc1⟩:=hat hn
   obtain⟨kv,hk,hf,x0,x1,x2,x3,x4,x5⟩:=hc1 i hlt
   obtain⟨ak,ck,rfl,-,-⟩:=hk.at
   have hiI:(i:Int)<(xs.length:Int):=by omega
   have hi0:(0:Int)≤(i:Int):=by omega
   have HD:=zH (show xs.drop i=xs[i]::xs.drop (i+1) from List.drop_eq_getElem_cons hlt)
   have HIH:=zH (IH xs[i] (List.getElem_mem hlt))
   have ka:=qaa W0 (.cells #[.int .i64 xs[i].k,.int .u64 xs[i].n,.int .i64 xs[i].b,.bool xs[i].s,.string xs[i].nm,.slice ak xs[i].kids.length ck] 57)
   have CA:=zH (uI HIH B lb ci d _ _ ((uI HC).box.step ka) hB hci hd (hk.step (ka.mono (by omega))) hf)
   have KA:=zH (Kb.of (b:=lb) ka)
   have LE:=zH (qa7 xs[i] d ci hci)
   rw[uI HD,lkEs_cons] at HE
   clear hat hc1 hxw hk HIH ka HD hf
   generalize xs[i]=y at *
   generalize lkE y d ci=ry at *
   obtain⟨er,cn⟩:=ry
   dsimp only at CA LE HE
   go_wp2_with fail
   refine (uI CA).mono ?_
   rintro e w1 ⟨rfl,k1⟩
   have K1:=zH (show Ctd w w1 lb cn from⟨k1.box,((uI HC).kb.trans (uI KA)).trans k1.kb⟩)
   clear CA k1 KA HC
   by_cases he:er=0
   ·subst he
    go_wp2_with fail
    go_roundg (xs.length - (i+1))
    case measure=>omega
    case rel =>
     have h2:=uI HE
     rw[if_neg (by simp)] at h2
     exact⟨i+1,cn,by omega,rfl,by go_num,uI LE (by simp),K1,h2⟩
   ·have ee:(er==0)=false:=zBq he
    have h2:=uI HE
    rw[if_pos he] at h2
    subst h2
    go_wp2_with fail
    go_ret
    exact⟨rfl,uI K1⟩
  ·have hiI:¬ (i:Int)<(xs.length:Int):=by omega
   have h2:=uI HE
   rw[List.drop_eq_nil_of_le (by omega),lkEs] at h2
   subst h2
   go_wp2_with fail
   go_ret
   exact⟨rfl,uI HC⟩
theorem lexpr_any:∀ x,LEx x:=by
 apply Ex.ind
 intro x IH B lb c d kv w hb hB hc hd hk hf
 have ka:=qaa w (.cells #[.int .i64 x.k,.int .u64 x.n,.int .i64 x.b,.bool x.s,.string x.nm,kv] 57)
 have BX:=Box.new w #[.int .i64 x.k,.int .u64 x.n,.int .i64 x.b,.bool x.s,.string x.nm,kv] 57
 have hlb:=hb.1
 have NA:=zH (lnode_any lb c d _ (hb.step ka) hc hd)
 have WA:=zH (fun W=>swexpr_any x kv W hf)
 have KI:=zH (fun W=>lkids_any x.k W)
 have HK:=zH (hk.step (ka.mono (by omega)))
 have KA:=zH (Kb.of (b:=lb) ka)
 have HBX:=zH BX
 obtain⟨ao,cap,rfl,hmax,-⟩:=hk.at
 have EX:=zH (fun W c' hb' hc' hd' hx'=>lexprs_any x.kids IH B lb c' (d+1) (.slice ao x.kids.length cap) W hb' hB hc' hd' hx')
 clear hb ka BX hk hf IH
 unfold maxLen at hmax
 obtain⟨k,n,b,s,nm,l⟩:=x
 simp only[Ex.k,Ex.n,Ex.b,Ex.s,Ex.nm,Ex.kids] at *
 have EQ:Hid (lkE (.mk k n b s nm l) d c=if nodeW d c≠0 then (nodeW d c,c+1) else if k<1∨26<k then (1,c+1) else if wExF k n b s nm≠0 then (wExF k n b s nm,c+1) else if l.length<kidLo k∨kidHi k<l.length then (5,c+1) else lkEs l (d+1) (c+1)):=by show _=_;rw[lkE]
 generalize lkE (.mk k n b s nm l) d c=R at *
 have HN:=zH (fun h=>qaf (d:=d) (c:=c) h)
 generalize nodeW d c=nw at *
 generalize wExF k n b s nm=we at *
 generalize kidLo k=lo at *
 generalize kidHi k=hi at *
 go_enter Tryz.func119,Tryz.ntmps119
 go_wp2_with fail
 refine (uI NA).mono ?_
 rintro e w1 ⟨rfl,k1⟩
 have C1:=zH (show Ctd w w1 lb (c+1) from⟨k1.box,(uI KA).trans k1.kb⟩)
 have HK1:=zH ((uI HK).step (k1.kb.below (by simp;omega) hB))
 have BX1:=(uI HBX).kb k1.kb (by omega)
 obtain⟨q0,q1,q2,q3,q4,q5⟩:=qbn BX1
 have HBX1:=zH BX1
 have hw1:w.heap.size<w1.heap.size:=BX1.1
 clear NA k1 HK HBX KA BX1
 by_cases h1:nw=0
 ·subst h1
  obtain⟨hc1,hd1⟩:=uI HN rfl
  clear HN
  have E1:=uI EQ
  rw[if_neg (by simp)] at E1
  clear EQ
  by_cases h2:k<1
  ·rw[if_pos (.inl h2)] at E1
   subst E1
   go_wp2_with fail
   go_ret
   exact⟨rfl,uI C1⟩
  ·by_cases h3:26<k
   ·rw[if_pos (.inr h3)] at E1
    subst E1
    go_wp2_with fail
    go_ret
    exact⟨rfl,uI C1⟩
   ·rw[if_neg (by omega)] at E1
    have E2:=zH E1
    clear E1
    go_wp2_with fail
    refine (uI WA _).mono ?_
    rintro e w2 ⟨rfl,k2⟩
    have C2:=zH (show Ctd w w2 lb (c+1) from (uI C1).trans (Ctd.of (uI C1).box k2))
    have HK2:=zH ((uI HK1).step (k2.mono (by omega)))
    have BX2:=(uI HBX1).step k2
    obtain⟨r0,r1,r2,r3,r4,r5⟩:=qbn BX2
    have hw2:w.heap.size<w2.heap.size:=BX2.1
    have hlb2:=(uI C2).box.1
    clear WA k2 C1 HK1 HBX1 BX2 q0 q1 q2 q3 q4 q5
    by_cases h4:we=0
    ·subst h4
     have E3:=uI E2
     rw[if_neg (by simp)] at E3
     clear E2
     have E4:=zH E3
     clear E3
     go_wp2_with fail
     refine (uI KI _).mono ?_
     rintro e w3 ⟨rfl,hw3⟩
     subst w3
     by_cases h5:l.length<lo
     ·have h5I:(l.length:Int)<(lo:Int):=by omega
      have E5:=uI E4
      rw[if_pos (.inl h5)] at E5
      subst E5
      go_wp2_with fail
      go_ret
      exact⟨rfl,uI C2⟩
     ·have h5I:¬ (l.length:Int)<(lo:Int):=by omega
      by_cases h6:hi<l.length
      ·have h6I:(hi:Int)<(l.length:Int):=by omega
       have E5:=uI E4
       rw[if_pos (.inr h6)] at E5
       subst E5
       go_wp2_with fail
       go_ret
       exact⟨rfl,uI C2⟩
      ·have h6I:¬ (hi:Int)<(l.length:Int):=by omega
       have E5:=uI E4
       rw[if_neg (by omega)] at E5
       have CE:=zH (uI EX _ (c+1) (uI C2).box hc1 (by omega) (uI HK2))
       rw[← E5] at CE
       clear E5 E4 EX
       go_wp2_with fail
       refine (uI CE).mono ?_
       rintro e w4 ⟨rfl,k4⟩
       go_wp2_with fail
       go_ret
       exact⟨rfl,(uI C2).trans k4⟩
    ·have e4:(we==0)=false:=zBq h4
     have E3:=uI E2
     rw[if_pos h4] at E3
     subst E3
     go_wp2_with fail
     go_ret
     exact⟨rfl,uI C2⟩
 ·have e1:(nw==0)=false:=zBq h1
  have E1:=uI EQ
  rw[if_pos h1] at E1
  subst E1
  go_wp2_with fail
  go_ret
  exact⟨rfl,uI C1⟩
theorem lit_isW {n:Int}{u:Bool}(h:(lit n u).2.2=0):IsW (lit n u).1:=by
 unfold lit at *
 repeat' split
 ·exact .inr (.inl rfl)
 ·exact .inr (.inr (.inl rfl))
 ·exact .inr (.inr (.inr rfl))
 ·rename_i h1 h2 h3
  rw[if_neg h1,if_neg h2,if_neg h3] at h
  cases h
theorem isWB_of {b:Int}(h:isWB b=true):IsW b:=by
 unfold isWB at h
 unfold IsW
 exact of_decide_eq_true h
inductive TvE:Ex→Prop
 | mk (x:Ex) (lo:1≤x.k) (hi:x.k≤26) (kl:kidLo x.k≤x.kids.length) (kh:x.kids.length≤kidHi x.k) (num:x.k=1→IsW x.b) (cast:x.k=5→IsW x.b) (kids:∀ y∈x.kids,TvE y):TvE x
theorem tvE_of:∀ (x:Ex) (d c:Nat),(lkE x d c).1=0→TvE x:=by
 apply Ex.ind
 intro x IH d c h
 obtain⟨k,n,b,s,nm,kids⟩:=x
 rw[lkE] at h
 split at h
 ·rename_i h1;exact absurd h h1
 ·split at h
  ·cases h
  ·rename_i h2
   split at h
   ·rename_i h3;exact absurd h h3
   ·rename_i h3
    have h3:wExF k n b s nm=0:=by simpa using h3
    split at h
    ·cases h
    ·rename_i h4
     have all:∀ (l:List Ex),(∀ y∈l,∀ d c,(lkE y d c).1=0→TvE y)→∀ d c,(lkEs l d c).1=0→∀ y∈l,TvE y:=by
      intro l
      induction l with
      | nil=>intro _ _ _ _ y hy;simp at hy
      | cons a l ih =>
       intro I d c h y hy
       rw[lkEs] at h
       by_cases e:(lkE a d c).1=0
       ·rw[if_neg (by simpa using e)] at h
        rcases List.mem_cons.1 hy with rfl|hy
        ·exact I _ List.mem_cons_self d c e
        ·exact ih (fun z hz=>I z (List.mem_cons_of_mem _ hz)) d _ h y hy
       ·rw[if_pos e] at h;exact absurd h e
     refine .mk _ (by show 1≤k;omega) (by show k≤26;omega) (by show kidLo k≤kids.length;omega) (by show kids.length≤kidHi k;omega) (fun e=>?_) (fun e=>?_) (all kids IH _ _ h)
     ·have e:k=1:=e
      unfold wExF at h3
      rw[if_pos e] at h3
      split at h3
      ·rename_i h5
       show IsW b
       rw[← h5.2.1]
       exact lit_isW h5.1
      ·cases h3
     ·have e:k=5:=e
      unfold wExF at h3
      rw[if_neg (by omega),if_neg (by omega),if_pos e] at h3
      split at h3
      ·rename_i h5;exact isWB_of h5
      ·cases h3
end Go.Proofs.YtjpnnmkefaodoaaGreat
