/-
  RwD.
-/
import Derived.Test.YtjpnnmkefaodoaaGreatyRwCy
set_option maxHeartbeats 8000000
set_option maxRecDepth 100000
namespace Go.Proofs.YtjpnnmkefaodoaaGreat
open Go.RowKit Go.Great
set_option linter.unusedSimpArgs false
set_option linter.unusedVariables false
structure Rhs (x:Sm):Prop where
 i1:∀ y∈x.init,RSm y
 i2:∀ y∈x.step,RSm y
 i3:∀ y∈x.body,RSm y
 i4:∀ y∈x.els,RSm y
theorem rin_X {w W:World}{lb c B d:Nat}{x:Sm}{v:Sv}(h:In w W lb c B x v)(hc:c≤20000)(hd:d≤101):Calls Tryz.prog 34 #[.pointer (some ⟨lb,0,none⟩),.agg #[.int .i64 x.x.k,.int .u64 x.x.n,.int .i64 x.x.b,.bool x.x.s,.string x.x.nm,v.xk],.int .i64 (d:Int)] W fun e w'=>e=.returned (.int .i64 (lkE x.x d c).1)∧Ctd W w' lb (lkE x.x d c).2:=rexpr_any x.x B lb c d v.xk W h.ctd.box h.hB hc hd h.sv.hx h.ok.2.1
theorem rin_I {w W:World}{lb c B d:Nat}{x:Sm}{v:Sv}(h:In w W lb c B x v)(hc:c≤20000)(hd:d≤101):Calls Tryz.prog 34 #[.pointer (some ⟨lb,0,none⟩),.agg #[.int .i64 x.i.k,.int .u64 x.i.n,.int .i64 x.i.b,.bool x.i.s,.string x.i.nm,v.ik],.int .i64 (d:Int)] W fun e w'=>e=.returned (.int .i64 (lkE x.i d c).1)∧Ctd W w' lb (lkE x.i d c).2:=rexpr_any x.i B lb c d v.ik W h.ctd.box h.hB hc hd h.sv.hi h.ok.2.2
theorem rin_init {w W:World}{lb c B d:Nat}{x:Sm}{v:Sv}(h:In w W lb c B x v)(q:Rhs x)(hc:c≤20000)(hd:d≤101):Calls Tryz.prog 100 #[.pointer (some ⟨lb,0,none⟩),v.init,.int .i64 (d:Int)] W fun e w'=>e=.returned (.int .i64 (lkB x.init d c).1)∧Ctd W w' lb (lkB x.init d c).2:=rbrack_any x.init (fun y _=>qa0 y) q.i1 B lb c d v.init W h.ctd.box h.hB hc hd h.sv.h1
theorem rin_step {w W:World}{lb c B d:Nat}{x:Sm}{v:Sv}(h:In w W lb c B x v)(q:Rhs x)(hc:c≤20000)(hd:d≤101):Calls Tryz.prog 100 #[.pointer (some ⟨lb,0,none⟩),v.step,.int .i64 (d:Int)] W fun e w'=>e=.returned (.int .i64 (lkB x.step d c).1)∧Ctd W w' lb (lkB x.step d c).2:=rbrack_any x.step (fun y _=>qa0 y) q.i2 B lb c d v.step W h.ctd.box h.hB hc hd h.sv.h2
theorem rin_body {w W:World}{lb c B d:Nat}{x:Sm}{v:Sv}(h:In w W lb c B x v)(q:Rhs x)(hc:c≤20000)(hd:d≤101):Calls Tryz.prog 37 #[.pointer (some ⟨lb,0,none⟩),v.body,.int .i64 (d:Int)] W fun e w'=>e=.returned (.int .i64 (lkSs x.body d c).1)∧Ctd W w' lb (lkSs x.body d c).2:=rstats_any x.body (fun y _=>qa0 y) q.i3 B lb c d v.body W h.ctd.box h.hB hc hd h.sv.h3
theorem rin_els {w W:World}{lb c B d:Nat}{x:Sm}{v:Sv}(h:In w W lb c B x v)(q:Rhs x)(hc:c≤20000)(hd:d≤101):Calls Tryz.prog 37 #[.pointer (some ⟨lb,0,none⟩),v.els,.int .i64 (d:Int)] W fun e w'=>e=.returned (.int .i64 (lkSs x.els d c).1)∧Ctd W w' lb (lkSs x.els d c).2:=rstats_any x.els (fun y _=>qa0 y) q.i4 B lb c d v.els W h.ctd.box h.hB hc hd h.sv.h4
theorem rst_none1T (x:Sm)(Q:Rhs x)(hk:x.k=1)(hh:x.has=true):RSm x:=by
 intro B lb c d v w hb hB hc hd hs hf
 have I0:=zH (In.begin hb hB hs hf)
 have NA:=zH (qao lb c d _ (uI I0).ctd.box hc hd)
 have hnm:=hf.1
 have hlb:=hb.1
 have EQ:Hid (lkS x d c=if nodeW d c≠0 then (nodeW d c,c+1) else if x.k<1∨11<x.k then (1,c+1) else if wSmF x.k x.b x.nm≠0 then (wSmF x.k x.b x.nm,c+1) else lkI x (d+1) (c+1)):=qbm x d c
 rw[lin_none1_eq hk (d+1) (c+1),hk] at EQ
 have HN:=zH (fun h=>qaf (d:=d) (c:=c) h)
 generalize lkS x d c=R at *
 generalize nodeW d c=nw at *
 clear hb hs hf
 generalize hA:smA x v=A at *
 generalize hW:w.alloc (.cells A 103)=W0 at *
 go_enter Tryz.func59,Tryz.ntmps59
 go_wp2_with (refine wpList_boxTo rfl 103 (.tmp 1) rfl (some 4) rfl _ rfl A rfl ?_;rw[hW])
 refine (uI NA).mono ?_
 rintro e w1 ⟨rfl,k1⟩
 have I1:=zH ((uI I0).next k1)
 have hs1:w.heap.size<w1.heap.size:=(uI I1).box.lt
 clear NA k1 I0
 by_cases h1:nw=0
 rotate_left
 ·have e1:(nw==0)=false:=zBq h1
  have E1:=uI EQ
  rw[if_pos h1] at E1
  subst E1
  go_wp2_with fail
  go_ret
  exact⟨rfl,(uI I1).ctd⟩
 subst h1
 obtain⟨hc1,hd1⟩:=uI HN rfl
 clear HN
 have hd2:d+1≤101:=by omega
 have E1:=uI EQ
 rw[if_neg (by simp),if_neg (by omega)] at E1
 rw[show wSmF 1 x.b x.nm=0 from rfl,if_neg (by simp)] at E1
 clear EQ
 have EQ:=zH E1
 clear E1
 obtain⟨c0,c1,c2,c3,c4⟩:=(uI I1).box.own
 rw[hk] at c0
 rw[hh] at c4
 have h9:=uI EQ
 subst h9
 go_wp2_with fail
 go_ret
 exact⟨rfl,(uI I1).ctd⟩
theorem rst_none9T (x:Sm)(Q:Rhs x)(hk:x.k=9)(hh:x.has=true):RSm x:=by
 intro B lb c d v w hb hB hc hd hs hf
 have I0:=zH (In.begin hb hB hs hf)
 have NA:=zH (qao lb c d _ (uI I0).ctd.box hc hd)
 have hnm:=hf.1
 have hlb:=hb.1
 have EQ:Hid (lkS x d c=if nodeW d c≠0 then (nodeW d c,c+1) else if x.k<1∨11<x.k then (1,c+1) else if wSmF x.k x.b x.nm≠0 then (wSmF x.k x.b x.nm,c+1) else lkI x (d+1) (c+1)):=qbm x d c
 rw[lin_none9_eq hk (d+1) (c+1),hk] at EQ
 have HN:=zH (fun h=>qaf (d:=d) (c:=c) h)
 generalize lkS x d c=R at *
 generalize nodeW d c=nw at *
 clear hb hs hf
 generalize hA:smA x v=A at *
 generalize hW:w.alloc (.cells A 103)=W0 at *
 go_enter Tryz.func59,Tryz.ntmps59
 go_wp2_with (refine wpList_boxTo rfl 103 (.tmp 1) rfl (some 4) rfl _ rfl A rfl ?_;rw[hW])
 refine (uI NA).mono ?_
 rintro e w1 ⟨rfl,k1⟩
 have I1:=zH ((uI I0).next k1)
 have hs1:w.heap.size<w1.heap.size:=(uI I1).box.lt
 clear NA k1 I0
 by_cases h1:nw=0
 rotate_left
 ·have e1:(nw==0)=false:=zBq h1
  have E1:=uI EQ
  rw[if_pos h1] at E1
  subst E1
  go_wp2_with fail
  go_ret
  exact⟨rfl,(uI I1).ctd⟩
 subst h1
 obtain⟨hc1,hd1⟩:=uI HN rfl
 clear HN
 have hd2:d+1≤101:=by omega
 have E1:=uI EQ
 rw[if_neg (by simp),if_neg (by omega)] at E1
 rw[show wSmF 9 x.b x.nm=0 from rfl,if_neg (by simp)] at E1
 clear EQ
 have EQ:=zH E1
 clear E1
 obtain⟨c0,c1,c2,c3,c4⟩:=(uI I1).box.own
 rw[hk] at c0
 rw[hh] at c4
 have h9:=uI EQ
 subst h9
 go_wp2_with fail
 go_ret
 exact⟨rfl,(uI I1).ctd⟩
theorem rst_none10T (x:Sm)(Q:Rhs x)(hk:x.k=10)(hh:x.has=true):RSm x:=by
 intro B lb c d v w hb hB hc hd hs hf
 have I0:=zH (In.begin hb hB hs hf)
 have NA:=zH (qao lb c d _ (uI I0).ctd.box hc hd)
 have hnm:=hf.1
 have hlb:=hb.1
 have EQ:Hid (lkS x d c=if nodeW d c≠0 then (nodeW d c,c+1) else if x.k<1∨11<x.k then (1,c+1) else if wSmF x.k x.b x.nm≠0 then (wSmF x.k x.b x.nm,c+1) else lkI x (d+1) (c+1)):=qbm x d c
 rw[lin_none10_eq hk (d+1) (c+1),hk] at EQ
 have HN:=zH (fun h=>qaf (d:=d) (c:=c) h)
 generalize lkS x d c=R at *
 generalize nodeW d c=nw at *
 clear hb hs hf
 generalize hA:smA x v=A at *
 generalize hW:w.alloc (.cells A 103)=W0 at *
 go_enter Tryz.func59,Tryz.ntmps59
 go_wp2_with (refine wpList_boxTo rfl 103 (.tmp 1) rfl (some 4) rfl _ rfl A rfl ?_;rw[hW])
 refine (uI NA).mono ?_
 rintro e w1 ⟨rfl,k1⟩
 have I1:=zH ((uI I0).next k1)
 have hs1:w.heap.size<w1.heap.size:=(uI I1).box.lt
 clear NA k1 I0
 by_cases h1:nw=0
 rotate_left
 ·have e1:(nw==0)=false:=zBq h1
  have E1:=uI EQ
  rw[if_pos h1] at E1
  subst E1
  go_wp2_with fail
  go_ret
  exact⟨rfl,(uI I1).ctd⟩
 subst h1
 obtain⟨hc1,hd1⟩:=uI HN rfl
 clear HN
 have hd2:d+1≤101:=by omega
 have E1:=uI EQ
 rw[if_neg (by simp),if_neg (by omega)] at E1
 rw[show wSmF 10 x.b x.nm=0 from rfl,if_neg (by simp)] at E1
 clear EQ
 have EQ:=zH E1
 clear E1
 obtain⟨c0,c1,c2,c3,c4⟩:=(uI I1).box.own
 rw[hk] at c0
 rw[hh] at c4
 have h9:=uI EQ
 subst h9
 go_wp2_with fail
 go_ret
 exact⟨rfl,(uI I1).ctd⟩
theorem rst_none1F (x:Sm)(Q:Rhs x)(hk:x.k=1)(hh:x.has=false):RSm x:=by
 intro B lb c d v w hb hB hc hd hs hf
 have I0:=zH (In.begin hb hB hs hf)
 have NA:=zH (qao lb c d _ (uI I0).ctd.box hc hd)
 have hnm:=hf.1
 have hlb:=hb.1
 have EQ:Hid (lkS x d c=if nodeW d c≠0 then (nodeW d c,c+1) else if x.k<1∨11<x.k then (1,c+1) else if wSmF x.k x.b x.nm≠0 then (wSmF x.k x.b x.nm,c+1) else lkI x (d+1) (c+1)):=qbm x d c
 rw[lin_none1_eq hk (d+1) (c+1),hk] at EQ
 have HN:=zH (fun h=>qaf (d:=d) (c:=c) h)
 generalize lkS x d c=R at *
 generalize nodeW d c=nw at *
 clear hb hs hf
 generalize hA:smA x v=A at *
 generalize hW:w.alloc (.cells A 103)=W0 at *
 go_enter Tryz.func59,Tryz.ntmps59
 go_wp2_with (refine wpList_boxTo rfl 103 (.tmp 1) rfl (some 4) rfl _ rfl A rfl ?_;rw[hW])
 refine (uI NA).mono ?_
 rintro e w1 ⟨rfl,k1⟩
 have I1:=zH ((uI I0).next k1)
 have hs1:w.heap.size<w1.heap.size:=(uI I1).box.lt
 clear NA k1 I0
 by_cases h1:nw=0
 rotate_left
 ·have e1:(nw==0)=false:=zBq h1
  have E1:=uI EQ
  rw[if_pos h1] at E1
  subst E1
  go_wp2_with fail
  go_ret
  exact⟨rfl,(uI I1).ctd⟩
 subst h1
 obtain⟨hc1,hd1⟩:=uI HN rfl
 clear HN
 have hd2:d+1≤101:=by omega
 have E1:=uI EQ
 rw[if_neg (by simp),if_neg (by omega)] at E1
 rw[show wSmF 1 x.b x.nm=0 from rfl,if_neg (by simp)] at E1
 clear EQ
 have EQ:=zH E1
 clear E1
 obtain⟨c0,c1,c2,c3,c4⟩:=(uI I1).box.own
 rw[hk] at c0
 rw[hh] at c4
 have h9:=uI EQ
 subst h9
 go_wp2_with fail
 go_ret
 exact⟨rfl,(uI I1).ctd⟩
theorem rst_none9F (x:Sm)(Q:Rhs x)(hk:x.k=9)(hh:x.has=false):RSm x:=by
 intro B lb c d v w hb hB hc hd hs hf
 have I0:=zH (In.begin hb hB hs hf)
 have NA:=zH (qao lb c d _ (uI I0).ctd.box hc hd)
 have hnm:=hf.1
 have hlb:=hb.1
 have EQ:Hid (lkS x d c=if nodeW d c≠0 then (nodeW d c,c+1) else if x.k<1∨11<x.k then (1,c+1) else if wSmF x.k x.b x.nm≠0 then (wSmF x.k x.b x.nm,c+1) else lkI x (d+1) (c+1)):=qbm x d c
 rw[lin_none9_eq hk (d+1) (c+1),hk] at EQ
 have HN:=zH (fun h=>qaf (d:=d) (c:=c) h)
 generalize lkS x d c=R at *
 generalize nodeW d c=nw at *
 clear hb hs hf
 generalize hA:smA x v=A at *
 generalize hW:w.alloc (.cells A 103)=W0 at *
 go_enter Tryz.func59,Tryz.ntmps59
 go_wp2_with (refine wpList_boxTo rfl 103 (.tmp 1) rfl (some 4) rfl _ rfl A rfl ?_;rw[hW])
 refine (uI NA).mono ?_
 rintro e w1 ⟨rfl,k1⟩
 have I1:=zH ((uI I0).next k1)
 have hs1:w.heap.size<w1.heap.size:=(uI I1).box.lt
 clear NA k1 I0
 by_cases h1:nw=0
 rotate_left
 ·have e1:(nw==0)=false:=zBq h1
  have E1:=uI EQ
  rw[if_pos h1] at E1
  subst E1
  go_wp2_with fail
  go_ret
  exact⟨rfl,(uI I1).ctd⟩
 subst h1
 obtain⟨hc1,hd1⟩:=uI HN rfl
 clear HN
 have hd2:d+1≤101:=by omega
 have E1:=uI EQ
 rw[if_neg (by simp),if_neg (by omega)] at E1
 rw[show wSmF 9 x.b x.nm=0 from rfl,if_neg (by simp)] at E1
 clear EQ
 have EQ:=zH E1
 clear E1
 obtain⟨c0,c1,c2,c3,c4⟩:=(uI I1).box.own
 rw[hk] at c0
 rw[hh] at c4
 have h9:=uI EQ
 subst h9
 go_wp2_with fail
 go_ret
 exact⟨rfl,(uI I1).ctd⟩
theorem rst_none10F (x:Sm)(Q:Rhs x)(hk:x.k=10)(hh:x.has=false):RSm x:=by
 intro B lb c d v w hb hB hc hd hs hf
 have I0:=zH (In.begin hb hB hs hf)
 have NA:=zH (qao lb c d _ (uI I0).ctd.box hc hd)
 have hnm:=hf.1
 have hlb:=hb.1
 have EQ:Hid (lkS x d c=if nodeW d c≠0 then (nodeW d c,c+1) else if x.k<1∨11<x.k then (1,c+1) else if wSmF x.k x.b x.nm≠0 then (wSmF x.k x.b x.nm,c+1) else lkI x (d+1) (c+1)):=qbm x d c
 rw[lin_none10_eq hk (d+1) (c+1),hk] at EQ
 have HN:=zH (fun h=>qaf (d:=d) (c:=c) h)
 generalize lkS x d c=R at *
 generalize nodeW d c=nw at *
 clear hb hs hf
 generalize hA:smA x v=A at *
 generalize hW:w.alloc (.cells A 103)=W0 at *
 go_enter Tryz.func59,Tryz.ntmps59
 go_wp2_with (refine wpList_boxTo rfl 103 (.tmp 1) rfl (some 4) rfl _ rfl A rfl ?_;rw[hW])
 refine (uI NA).mono ?_
 rintro e w1 ⟨rfl,k1⟩
 have I1:=zH ((uI I0).next k1)
 have hs1:w.heap.size<w1.heap.size:=(uI I1).box.lt
 clear NA k1 I0
 by_cases h1:nw=0
 rotate_left
 ·have e1:(nw==0)=false:=zBq h1
  have E1:=uI EQ
  rw[if_pos h1] at E1
  subst E1
  go_wp2_with fail
  go_ret
  exact⟨rfl,(uI I1).ctd⟩
 subst h1
 obtain⟨hc1,hd1⟩:=uI HN rfl
 clear HN
 have hd2:d+1≤101:=by omega
 have E1:=uI EQ
 rw[if_neg (by simp),if_neg (by omega)] at E1
 rw[show wSmF 10 x.b x.nm=0 from rfl,if_neg (by simp)] at E1
 clear EQ
 have EQ:=zH E1
 clear E1
 obtain⟨c0,c1,c2,c3,c4⟩:=(uI I1).box.own
 rw[hk] at c0
 rw[hh] at c4
 have h9:=uI EQ
 subst h9
 go_wp2_with fail
 go_ret
 exact⟨rfl,(uI I1).ctd⟩
theorem rst_decl2 (x:Sm)(Q:Rhs x)(hk:x.k=2)(hh:x.has=true):RSm x:=by
 intro B lb c d v w hb hB hc hd hs hf
 have I0:=zH (In.begin hb hB hs hf)
 have NA:=zH (qao lb c d _ (uI I0).ctd.box hc hd)
 have hnm:=hf.1
 have hlb:=hb.1
 have EQ:Hid (lkS x d c=if nodeW d c≠0 then (nodeW d c,c+1) else if x.k<1∨11<x.k then (1,c+1) else if wSmF x.k x.b x.nm≠0 then (wSmF x.k x.b x.nm,c+1) else lkI x (d+1) (c+1)):=qbm x d c
 rw[lin_decl2_eq hk hh (d+1) (c+1),hk] at EQ
 have HN:=zH (fun h=>qaf (d:=d) (c:=c) h)
 generalize lkS x d c=R at *
 generalize nodeW d c=nw at *
 clear hb hs hf
 generalize hA:smA x v=A at *
 generalize hW:w.alloc (.cells A 103)=W0 at *
 go_enter Tryz.func59,Tryz.ntmps59
 go_wp2_with (refine wpList_boxTo rfl 103 (.tmp 1) rfl (some 4) rfl _ rfl A rfl ?_;rw[hW])
 refine (uI NA).mono ?_
 rintro e w1 ⟨rfl,k1⟩
 have I1:=zH ((uI I0).next k1)
 have hs1:w.heap.size<w1.heap.size:=(uI I1).box.lt
 clear NA k1 I0
 by_cases h1:nw=0
 rotate_left
 ·have e1:(nw==0)=false:=zBq h1
  have E1:=uI EQ
  rw[if_pos h1] at E1
  subst E1
  go_wp2_with fail
  go_ret
  exact⟨rfl,(uI I1).ctd⟩
 subst h1
 obtain⟨hc1,hd1⟩:=uI HN rfl
 clear HN
 have hd2:d+1≤101:=by omega
 have E1:=uI EQ
 rw[if_neg (by simp),if_neg (by omega)] at E1
 rw[show wSmF 2 x.b x.nm=wTyped x.b x.nm from rfl] at E1
 have TA:=zH (fun W=>rtyped_any x.b x.s x.nm W hnm)
 generalize wTyped x.b x.nm=wt at *
 have E2:=zH E1
 clear EQ E1
 obtain⟨c0,c1,c2,c3,c4⟩:=(uI I1).box.own
 rw[hk] at c0
 rw[hh] at c4
 go_wp2_with fail
 refine (uI TA _).mono ?_
 rintro e w2 ⟨rfl,k2⟩
 have I2:=zH ((uI I1).below k2)
 have hs2:w.heap.size<w2.heap.size:=(uI I2).box.lt
 clear TA k2 I1 c0 c1 c2 c3 c4
 by_cases h2:wt=0
 rotate_left
 ·have e2:(wt==0)=false:=zBq h2
  have E3:=uI E2
  rw[if_pos h2] at E3
  subst E3
  go_wp2_with fail
  go_ret
  exact⟨rfl,(uI I2).ctd⟩
 subst h2
 have E3:=uI E2
 rw[if_neg (by simp)] at E3
 have EQ:=zH E3
 clear E2 E3
 obtain⟨c0,c1,c2,c3,c4⟩:=(uI I2).box.own
 rw[hk] at c0
 rw[hh] at c4
 obtain⟨p0,p1,p2,p3,p4,p5⟩:=(uI I2).box.exX
 have CA:=zH (rin_X (uI I2) hc1 hd2)
 have LE3:=zH (qa7 x.x (d+1) (c+1) hc1)
 generalize lkE x.x (d+1) (c+1)=r3 at *
 obtain⟨er,n3⟩:=r3
 dsimp only at CA LE3 EQ
 go_wp2_with fail
 refine (uI CA).mono ?_
 rintro e w3 ⟨rfl,k3⟩
 have I3:=zH ((uI I2).next k3)
 have hs3:w.heap.size<w3.heap.size:=(uI I3).box.lt
 clear CA k3 I2 c0 c1 c2 c3 c4 p0 p1 p2 p3 p4 p5
 by_cases he3:er=0
 rotate_left
 ·have ee:(er==0)=false:=zBq he3
  have h9:=uI EQ
  rw[qan he3] at h9
  subst h9
  go_wp2_with fail
  go_ret
  exact⟨rfl,(uI I3).ctd⟩
 subst he3
 rw[qam] at EQ
 have hc3':=uI LE3 (by simp)
 obtain⟨c0,c1,c2,c3,c4⟩:=(uI I3).box.own
 rw[hk] at c0
 rw[hh] at c4
 have h9:=uI EQ
 subst h9
 go_wp2_with fail
 go_ret
 exact⟨rfl,(uI I3).ctd⟩
theorem rst_declNo2 (x:Sm)(Q:Rhs x)(hk:x.k=2)(hh:x.has=false):RSm x:=by
 intro B lb c d v w hb hB hc hd hs hf
 have I0:=zH (In.begin hb hB hs hf)
 have NA:=zH (qao lb c d _ (uI I0).ctd.box hc hd)
 have hnm:=hf.1
 have hlb:=hb.1
 have EQ:Hid (lkS x d c=if nodeW d c≠0 then (nodeW d c,c+1) else if x.k<1∨11<x.k then (1,c+1) else if wSmF x.k x.b x.nm≠0 then (wSmF x.k x.b x.nm,c+1) else lkI x (d+1) (c+1)):=qbm x d c
 rw[lin_declNo2_eq hk hh (d+1) (c+1),hk] at EQ
 have HN:=zH (fun h=>qaf (d:=d) (c:=c) h)
 generalize lkS x d c=R at *
 generalize nodeW d c=nw at *
 clear hb hs hf
 generalize hA:smA x v=A at *
 generalize hW:w.alloc (.cells A 103)=W0 at *
 go_enter Tryz.func59,Tryz.ntmps59
 go_wp2_with (refine wpList_boxTo rfl 103 (.tmp 1) rfl (some 4) rfl _ rfl A rfl ?_;rw[hW])
 refine (uI NA).mono ?_
 rintro e w1 ⟨rfl,k1⟩
 have I1:=zH ((uI I0).next k1)
 have hs1:w.heap.size<w1.heap.size:=(uI I1).box.lt
 clear NA k1 I0
 by_cases h1:nw=0
 rotate_left
 ·have e1:(nw==0)=false:=zBq h1
  have E1:=uI EQ
  rw[if_pos h1] at E1
  subst E1
  go_wp2_with fail
  go_ret
  exact⟨rfl,(uI I1).ctd⟩
 subst h1
 obtain⟨hc1,hd1⟩:=uI HN rfl
 clear HN
 have hd2:d+1≤101:=by omega
 have E1:=uI EQ
 rw[if_neg (by simp),if_neg (by omega)] at E1
 rw[show wSmF 2 x.b x.nm=wTyped x.b x.nm from rfl] at E1
 have TA:=zH (fun W=>rtyped_any x.b x.s x.nm W hnm)
 generalize wTyped x.b x.nm=wt at *
 have E2:=zH E1
 clear EQ E1
 obtain⟨c0,c1,c2,c3,c4⟩:=(uI I1).box.own
 rw[hk] at c0
 rw[hh] at c4
 go_wp2_with fail
 refine (uI TA _).mono ?_
 rintro e w2 ⟨rfl,k2⟩
 have I2:=zH ((uI I1).below k2)
 have hs2:w.heap.size<w2.heap.size:=(uI I2).box.lt
 clear TA k2 I1 c0 c1 c2 c3 c4
 by_cases h2:wt=0
 rotate_left
 ·have e2:(wt==0)=false:=zBq h2
  have E3:=uI E2
  rw[if_pos h2] at E3
  subst E3
  go_wp2_with fail
  go_ret
  exact⟨rfl,(uI I2).ctd⟩
 subst h2
 have E3:=uI E2
 rw[if_neg (by simp)] at E3
 have EQ:=zH E3
 clear E2 E3
 obtain⟨c0,c1,c2,c3,c4⟩:=(uI I2).box.own
 rw[hk] at c0
 rw[hh] at c4
 have h9:=uI EQ
 subst h9
 go_wp2_with fail
 go_ret
 exact⟨rfl,(uI I2).ctd⟩
theorem rst_decl8 (x:Sm)(Q:Rhs x)(hk:x.k=8)(hh:x.has=true):RSm x:=by
 intro B lb c d v w hb hB hc hd hs hf
 have I0:=zH (In.begin hb hB hs hf)
 have NA:=zH (qao lb c d _ (uI I0).ctd.box hc hd)
 have hnm:=hf.1
 have hlb:=hb.1
 have EQ:Hid (lkS x d c=if nodeW d c≠0 then (nodeW d c,c+1) else if x.k<1∨11<x.k then (1,c+1) else if wSmF x.k x.b x.nm≠0 then (wSmF x.k x.b x.nm,c+1) else lkI x (d+1) (c+1)):=qbm x d c
 rw[lin_decl8_eq hk hh (d+1) (c+1),hk] at EQ
 have HN:=zH (fun h=>qaf (d:=d) (c:=c) h)
 generalize lkS x d c=R at *
 generalize nodeW d c=nw at *
 clear hb hs hf
 generalize hA:smA x v=A at *
 generalize hW:w.alloc (.cells A 103)=W0 at *
 go_enter Tryz.func59,Tryz.ntmps59
 go_wp2_with (refine wpList_boxTo rfl 103 (.tmp 1) rfl (some 4) rfl _ rfl A rfl ?_;rw[hW])
 refine (uI NA).mono ?_
 rintro e w1 ⟨rfl,k1⟩
 have I1:=zH ((uI I0).next k1)
 have hs1:w.heap.size<w1.heap.size:=(uI I1).box.lt
 clear NA k1 I0
 by_cases h1:nw=0
 rotate_left
 ·have e1:(nw==0)=false:=zBq h1
  have E1:=uI EQ
  rw[if_pos h1] at E1
  subst E1
  go_wp2_with fail
  go_ret
  exact⟨rfl,(uI I1).ctd⟩
 subst h1
 obtain⟨hc1,hd1⟩:=uI HN rfl
 clear HN
 have hd2:d+1≤101:=by omega
 have E1:=uI EQ
 rw[if_neg (by simp),if_neg (by omega)] at E1
 rw[show wSmF 8 x.b x.nm=0 from rfl,if_neg (by simp)] at E1
 clear EQ
 have EQ:=zH E1
 clear E1
 obtain⟨c0,c1,c2,c3,c4⟩:=(uI I1).box.own
 rw[hk] at c0
 rw[hh] at c4
 obtain⟨p0,p1,p2,p3,p4,p5⟩:=(uI I1).box.exX
 have CA:=zH (rin_X (uI I1) hc1 hd2)
 have LE2:=zH (qa7 x.x (d+1) (c+1) hc1)
 generalize lkE x.x (d+1) (c+1)=r2 at *
 obtain⟨er,n2⟩:=r2
 dsimp only at CA LE2 EQ
 go_wp2_with fail
 refine (uI CA).mono ?_
 rintro e w2 ⟨rfl,k2⟩
 have I2:=zH ((uI I1).next k2)
 have hs2:w.heap.size<w2.heap.size:=(uI I2).box.lt
 clear CA k2 I1 c0 c1 c2 c3 c4 p0 p1 p2 p3 p4 p5
 by_cases he2:er=0
 rotate_left
 ·have ee:(er==0)=false:=zBq he2
  have h9:=uI EQ
  rw[qan he2] at h9
  subst h9
  go_wp2_with fail
  go_ret
  exact⟨rfl,(uI I2).ctd⟩
 subst he2
 rw[qam] at EQ
 have hc2':=uI LE2 (by simp)
 obtain⟨c0,c1,c2,c3,c4⟩:=(uI I2).box.own
 rw[hk] at c0
 rw[hh] at c4
 have h9:=uI EQ
 subst h9
 go_wp2_with fail
 go_ret
 exact⟨rfl,(uI I2).ctd⟩
theorem rst_declNo8 (x:Sm)(Q:Rhs x)(hk:x.k=8)(hh:x.has=false):RSm x:=by
 intro B lb c d v w hb hB hc hd hs hf
 have I0:=zH (In.begin hb hB hs hf)
 have NA:=zH (qao lb c d _ (uI I0).ctd.box hc hd)
 have hnm:=hf.1
 have hlb:=hb.1
 have EQ:Hid (lkS x d c=if nodeW d c≠0 then (nodeW d c,c+1) else if x.k<1∨11<x.k then (1,c+1) else if wSmF x.k x.b x.nm≠0 then (wSmF x.k x.b x.nm,c+1) else lkI x (d+1) (c+1)):=qbm x d c
 rw[lin_declNo8_eq hk hh (d+1) (c+1),hk] at EQ
 have HN:=zH (fun h=>qaf (d:=d) (c:=c) h)
 generalize lkS x d c=R at *
 generalize nodeW d c=nw at *
 clear hb hs hf
 generalize hA:smA x v=A at *
 generalize hW:w.alloc (.cells A 103)=W0 at *
 go_enter Tryz.func59,Tryz.ntmps59
 go_wp2_with (refine wpList_boxTo rfl 103 (.tmp 1) rfl (some 4) rfl _ rfl A rfl ?_;rw[hW])
 refine (uI NA).mono ?_
 rintro e w1 ⟨rfl,k1⟩
 have I1:=zH ((uI I0).next k1)
 have hs1:w.heap.size<w1.heap.size:=(uI I1).box.lt
 clear NA k1 I0
 by_cases h1:nw=0
 rotate_left
 ·have e1:(nw==0)=false:=zBq h1
  have E1:=uI EQ
  rw[if_pos h1] at E1
  subst E1
  go_wp2_with fail
  go_ret
  exact⟨rfl,(uI I1).ctd⟩
 subst h1
 obtain⟨hc1,hd1⟩:=uI HN rfl
 clear HN
 have hd2:d+1≤101:=by omega
 have E1:=uI EQ
 rw[if_neg (by simp),if_neg (by omega)] at E1
 rw[show wSmF 8 x.b x.nm=0 from rfl,if_neg (by simp)] at E1
 clear EQ
 have EQ:=zH E1
 clear E1
 obtain⟨c0,c1,c2,c3,c4⟩:=(uI I1).box.own
 rw[hk] at c0
 rw[hh] at c4
 have h9:=uI EQ
 subst h9
 go_wp2_with fail
 go_ret
 exact⟨rfl,(uI I1).ctd⟩
theorem rst_setI3 (x:Sm)(Q:Rhs x)(hk:x.k=3)(hh:x.has=true):RSm x:=by
 intro B lb c d v w hb hB hc hd hs hf
 have I0:=zH (In.begin hb hB hs hf)
 have NA:=zH (qao lb c d _ (uI I0).ctd.box hc hd)
 have hnm:=hf.1
 have hlb:=hb.1
 have EQ:Hid (lkS x d c=if nodeW d c≠0 then (nodeW d c,c+1) else if x.k<1∨11<x.k then (1,c+1) else if wSmF x.k x.b x.nm≠0 then (wSmF x.k x.b x.nm,c+1) else lkI x (d+1) (c+1)):=qbm x d c
 rw[lin_setI3_eq hk hh (d+1) (c+1),hk] at EQ
 have HN:=zH (fun h=>qaf (d:=d) (c:=c) h)
 generalize lkS x d c=R at *
 generalize nodeW d c=nw at *
 clear hb hs hf
 generalize hA:smA x v=A at *
 generalize hW:w.alloc (.cells A 103)=W0 at *
 go_enter Tryz.func59,Tryz.ntmps59
 go_wp2_with (refine wpList_boxTo rfl 103 (.tmp 1) rfl (some 4) rfl _ rfl A rfl ?_;rw[hW])
 refine (uI NA).mono ?_
 rintro e w1 ⟨rfl,k1⟩
 have I1:=zH ((uI I0).next k1)
 have hs1:w.heap.size<w1.heap.size:=(uI I1).box.lt
 clear NA k1 I0
 by_cases h1:nw=0
 rotate_left
 ·have e1:(nw==0)=false:=zBq h1
  have E1:=uI EQ
  rw[if_pos h1] at E1
  subst E1
  go_wp2_with fail
  go_ret
  exact⟨rfl,(uI I1).ctd⟩
 subst h1
 obtain⟨hc1,hd1⟩:=uI HN rfl
 clear HN
 have hd2:d+1≤101:=by omega
 have E1:=uI EQ
 rw[if_neg (by simp),if_neg (by omega)] at E1
 rw[show wSmF 3 x.b x.nm=(if namN x.nm=true then 0 else 7) from rfl] at E1
 have TA:=zH (fun W=>rnamed8 x.nm W hnm)
 generalize namN x.nm=nn at *
 have E2:=zH E1
 clear EQ E1
 obtain⟨c0,c1,c2,c3,c4⟩:=(uI I1).box.own
 rw[hk] at c0
 rw[hh] at c4
 go_wp2_with fail
 refine (uI TA _).mono ?_
 rintro e w2 ⟨rfl,k2⟩
 have I2:=zH ((uI I1).below k2)
 have hs2:w.heap.size<w2.heap.size:=(uI I2).box.lt
 clear TA k2 I1 c0 c1 c2 c3 c4
 cases nn
 ·have E3:=uI E2
  simp at E3
  subst E3
  go_wp2_with fail
  go_ret
  exact⟨rfl,(uI I2).ctd⟩
 have E3:=uI E2
 rw[if_pos rfl,if_neg (by simp)] at E3
 have EQ:=zH E3
 clear E2 E3
 obtain⟨c0,c1,c2,c3,c4⟩:=(uI I2).box.own
 rw[hk] at c0
 rw[hh] at c4
 obtain⟨p0,p1,p2,p3,p4,p5⟩:=(uI I2).box.exI
 have CA:=zH (rin_I (uI I2) hc1 hd2)
 have LE3:=zH (qa7 x.i (d+1) (c+1) hc1)
 generalize lkE x.i (d+1) (c+1)=r3 at *
 obtain⟨er,n3⟩:=r3
 dsimp only at CA LE3 EQ
 go_wp2_with fail
 refine (uI CA).mono ?_
 rintro e w3 ⟨rfl,k3⟩
 have I3:=zH ((uI I2).next k3)
 have hs3:w.heap.size<w3.heap.size:=(uI I3).box.lt
 clear CA k3 I2 c0 c1 c2 c3 c4 p0 p1 p2 p3 p4 p5
 by_cases he3:er=0
 rotate_left
 ·have ee:(er==0)=false:=zBq he3
  have h9:=uI EQ
  rw[qan he3] at h9
  subst h9
  go_wp2_with fail
  go_ret
  exact⟨rfl,(uI I3).ctd⟩
 subst he3
 rw[qam] at EQ
 have hc3':=uI LE3 (by simp)
 obtain⟨c0,c1,c2,c3,c4⟩:=(uI I3).box.own
 rw[hk] at c0
 rw[hh] at c4
 obtain⟨p0,p1,p2,p3,p4,p5⟩:=(uI I3).box.exX
 have CA:=zH (rin_X (uI I3) hc3' hd2)
 have LE4:=zH (qa7 x.x (d+1) n3 hc3')
 generalize lkE x.x (d+1) n3=r4 at *
 obtain⟨er,n4⟩:=r4
 dsimp only at CA LE4 EQ
 go_wp2_with fail
 refine (uI CA).mono ?_
 rintro e w4 ⟨rfl,k4⟩
 have I4:=zH ((uI I3).next k4)
 have hs4:w.heap.size<w4.heap.size:=(uI I4).box.lt
 clear CA k4 I3 c0 c1 c2 c3 c4 p0 p1 p2 p3 p4 p5
 by_cases he4:er=0
 rotate_left
 ·have ee:(er==0)=false:=zBq he4
  have h9:=uI EQ
  rw[qan he4] at h9
  subst h9
  go_wp2_with fail
  go_ret
  exact⟨rfl,(uI I4).ctd⟩
 subst he4
 rw[qam] at EQ
 have hc4':=uI LE4 (by simp)
 obtain⟨c0,c1,c2,c3,c4⟩:=(uI I4).box.own
 rw[hk] at c0
 rw[hh] at c4
 have h9:=uI EQ
 subst h9
 go_wp2_with fail
 go_ret
 exact⟨rfl,(uI I4).ctd⟩
theorem rst_set3 (x:Sm)(Q:Rhs x)(hk:x.k=3)(hh:x.has=false):RSm x:=by
 intro B lb c d v w hb hB hc hd hs hf
 have I0:=zH (In.begin hb hB hs hf)
 have NA:=zH (qao lb c d _ (uI I0).ctd.box hc hd)
 have hnm:=hf.1
 have hlb:=hb.1
 have EQ:Hid (lkS x d c=if nodeW d c≠0 then (nodeW d c,c+1) else if x.k<1∨11<x.k then (1,c+1) else if wSmF x.k x.b x.nm≠0 then (wSmF x.k x.b x.nm,c+1) else lkI x (d+1) (c+1)):=qbm x d c
 rw[lin_set3_eq hk hh (d+1) (c+1),hk] at EQ
 have HN:=zH (fun h=>qaf (d:=d) (c:=c) h)
 generalize lkS x d c=R at *
 generalize nodeW d c=nw at *
 clear hb hs hf
 generalize hA:smA x v=A at *
 generalize hW:w.alloc (.cells A 103)=W0 at *
 go_enter Tryz.func59,Tryz.ntmps59
 go_wp2_with (refine wpList_boxTo rfl 103 (.tmp 1) rfl (some 4) rfl _ rfl A rfl ?_;rw[hW])
 refine (uI NA).mono ?_
 rintro e w1 ⟨rfl,k1⟩
 have I1:=zH ((uI I0).next k1)
 have hs1:w.heap.size<w1.heap.size:=(uI I1).box.lt
 clear NA k1 I0
 by_cases h1:nw=0
 rotate_left
 ·have e1:(nw==0)=false:=zBq h1
  have E1:=uI EQ
  rw[if_pos h1] at E1
  subst E1
  go_wp2_with fail
  go_ret
  exact⟨rfl,(uI I1).ctd⟩
 subst h1
 obtain⟨hc1,hd1⟩:=uI HN rfl
 clear HN
 have hd2:d+1≤101:=by omega
 have E1:=uI EQ
 rw[if_neg (by simp),if_neg (by omega)] at E1
 rw[show wSmF 3 x.b x.nm=(if namN x.nm=true then 0 else 7) from rfl] at E1
 have TA:=zH (fun W=>rnamed8 x.nm W hnm)
 generalize namN x.nm=nn at *
 have E2:=zH E1
 clear EQ E1
 obtain⟨c0,c1,c2,c3,c4⟩:=(uI I1).box.own
 rw[hk] at c0
 rw[hh] at c4
 go_wp2_with fail
 refine (uI TA _).mono ?_
 rintro e w2 ⟨rfl,k2⟩
 have I2:=zH ((uI I1).below k2)
 have hs2:w.heap.size<w2.heap.size:=(uI I2).box.lt
 clear TA k2 I1 c0 c1 c2 c3 c4
 cases nn
 ·have E3:=uI E2
  simp at E3
  subst E3
  go_wp2_with fail
  go_ret
  exact⟨rfl,(uI I2).ctd⟩
 have E3:=uI E2
 rw[if_pos rfl,if_neg (by simp)] at E3
 have EQ:=zH E3
 clear E2 E3
 obtain⟨c0,c1,c2,c3,c4⟩:=(uI I2).box.own
 rw[hk] at c0
 rw[hh] at c4
 obtain⟨p0,p1,p2,p3,p4,p5⟩:=(uI I2).box.exX
 have CA:=zH (rin_X (uI I2) hc1 hd2)
 have LE3:=zH (qa7 x.x (d+1) (c+1) hc1)
 generalize lkE x.x (d+1) (c+1)=r3 at *
 obtain⟨er,n3⟩:=r3
 dsimp only at CA LE3 EQ
 go_wp2_with fail
 refine (uI CA).mono ?_
 rintro e w3 ⟨rfl,k3⟩
 have I3:=zH ((uI I2).next k3)
 have hs3:w.heap.size<w3.heap.size:=(uI I3).box.lt
 clear CA k3 I2 c0 c1 c2 c3 c4 p0 p1 p2 p3 p4 p5
 by_cases he3:er=0
 rotate_left
 ·have ee:(er==0)=false:=zBq he3
  have h9:=uI EQ
  rw[qan he3] at h9
  subst h9
  go_wp2_with fail
  go_ret
  exact⟨rfl,(uI I3).ctd⟩
 subst he3
 rw[qam] at EQ
 have hc3':=uI LE3 (by simp)
 obtain⟨c0,c1,c2,c3,c4⟩:=(uI I3).box.own
 rw[hk] at c0
 rw[hh] at c4
 have h9:=uI EQ
 subst h9
 go_wp2_with fail
 go_ret
 exact⟨rfl,(uI I3).ctd⟩
theorem rst_expr4 (x:Sm)(Q:Rhs x)(hk:x.k=4):RSm x:=by
 intro B lb c d v w hb hB hc hd hs hf
 have I0:=zH (In.begin hb hB hs hf)
 have NA:=zH (qao lb c d _ (uI I0).ctd.box hc hd)
 have hnm:=hf.1
 have hlb:=hb.1
 have EQ:Hid (lkS x d c=if nodeW d c≠0 then (nodeW d c,c+1) else if x.k<1∨11<x.k then (1,c+1) else if wSmF x.k x.b x.nm≠0 then (wSmF x.k x.b x.nm,c+1) else lkI x (d+1) (c+1)):=qbm x d c
 rw[lin_expr4_eq hk (d+1) (c+1),hk] at EQ
 have HN:=zH (fun h=>qaf (d:=d) (c:=c) h)
 generalize lkS x d c=R at *
 generalize nodeW d c=nw at *
 clear hb hs hf
 generalize hA:smA x v=A at *
 generalize hW:w.alloc (.cells A 103)=W0 at *
 go_enter Tryz.func59,Tryz.ntmps59
 go_wp2_with (refine wpList_boxTo rfl 103 (.tmp 1) rfl (some 4) rfl _ rfl A rfl ?_;rw[hW])
 refine (uI NA).mono ?_
 rintro e w1 ⟨rfl,k1⟩
 have I1:=zH ((uI I0).next k1)
 have hs1:w.heap.size<w1.heap.size:=(uI I1).box.lt
 clear NA k1 I0
 by_cases h1:nw=0
 rotate_left
 ·have e1:(nw==0)=false:=zBq h1
  have E1:=uI EQ
  rw[if_pos h1] at E1
  subst E1
  go_wp2_with fail
  go_ret
  exact⟨rfl,(uI I1).ctd⟩
 subst h1
 obtain⟨hc1,hd1⟩:=uI HN rfl
 clear HN
 have hd2:d+1≤101:=by omega
 have E1:=uI EQ
 rw[if_neg (by simp),if_neg (by omega)] at E1
 rw[show wSmF 4 x.b x.nm=0 from rfl,if_neg (by simp)] at E1
 clear EQ
 have EQ:=zH E1
 clear E1
 obtain⟨c0,c1,c2,c3,c4⟩:=(uI I1).box.own
 rw[hk] at c0
 obtain⟨p0,p1,p2,p3,p4,p5⟩:=(uI I1).box.exX
 have CA:=zH (rin_X (uI I1) hc1 hd2)
 have LE2:=zH (qa7 x.x (d+1) (c+1) hc1)
 generalize lkE x.x (d+1) (c+1)=r2 at *
 obtain⟨er,n2⟩:=r2
 dsimp only at CA LE2 EQ
 go_wp2_with fail
 refine (uI CA).mono ?_
 rintro e w2 ⟨rfl,k2⟩
 have I2:=zH ((uI I1).next k2)
 have hs2:w.heap.size<w2.heap.size:=(uI I2).box.lt
 clear CA k2 I1 c0 c1 c2 c3 c4 p0 p1 p2 p3 p4 p5
 by_cases he2:er=0
 rotate_left
 ·have ee:(er==0)=false:=zBq he2
  have h9:=uI EQ
  rw[qan he2] at h9
  subst h9
  go_wp2_with fail
  go_ret
  exact⟨rfl,(uI I2).ctd⟩
 subst he2
 rw[qam] at EQ
 have hc2':=uI LE2 (by simp)
 obtain⟨c0,c1,c2,c3,c4⟩:=(uI I2).box.own
 rw[hk] at c0
 have h9:=uI EQ
 subst h9
 go_wp2_with fail
 go_ret
 exact⟨rfl,(uI I2).ctd⟩
theorem rst_if5 (x:Sm)(Q:Rhs x)(hk:x.k=5):RSm x:=by
 intro B lb c d v w hb hB hc hd hs hf
 have I0:=zH (In.begin hb hB hs hf)
 have NA:=zH (qao lb c d _ (uI I0).ctd.box hc hd)
 have hnm:=hf.1
 have hlb:=hb.1
 have EQ:Hid (lkS x d c=if nodeW d c≠0 then (nodeW d c,c+1) else if x.k<1∨11<x.k then (1,c+1) else if wSmF x.k x.b x.nm≠0 then (wSmF x.k x.b x.nm,c+1) else lkI x (d+1) (c+1)):=qbm x d c
 rw[lin_if5_eq hk (d+1) (c+1),hk] at EQ
 have HN:=zH (fun h=>qaf (d:=d) (c:=c) h)
 generalize lkS x d c=R at *
 generalize nodeW d c=nw at *
 clear hb hs hf
 generalize hA:smA x v=A at *
 generalize hW:w.alloc (.cells A 103)=W0 at *
 go_enter Tryz.func59,Tryz.ntmps59
 go_wp2_with (refine wpList_boxTo rfl 103 (.tmp 1) rfl (some 4) rfl _ rfl A rfl ?_;rw[hW])
 refine (uI NA).mono ?_
 rintro e w1 ⟨rfl,k1⟩
 have I1:=zH ((uI I0).next k1)
 have hs1:w.heap.size<w1.heap.size:=(uI I1).box.lt
 clear NA k1 I0
 by_cases h1:nw=0
 rotate_left
 ·have e1:(nw==0)=false:=zBq h1
  have E1:=uI EQ
  rw[if_pos h1] at E1
  subst E1
  go_wp2_with fail
  go_ret
  exact⟨rfl,(uI I1).ctd⟩
 subst h1
 obtain⟨hc1,hd1⟩:=uI HN rfl
 clear HN
 have hd2:d+1≤101:=by omega
 have E1:=uI EQ
 rw[if_neg (by simp),if_neg (by omega)] at E1
 rw[show wSmF 5 x.b x.nm=0 from rfl,if_neg (by simp)] at E1
 clear EQ
 have EQ:=zH E1
 clear E1
 obtain⟨c0,c1,c2,c3,c4⟩:=(uI I1).box.own
 rw[hk] at c0
 obtain⟨p0,p1,p2,p3,p4,p5⟩:=(uI I1).box.exX
 have CA:=zH (rin_X (uI I1) hc1 hd2)
 have LE2:=zH (qa7 x.x (d+1) (c+1) hc1)
 generalize lkE x.x (d+1) (c+1)=r2 at *
 obtain⟨er,n2⟩:=r2
 dsimp only at CA LE2 EQ
 go_wp2_with fail
 refine (uI CA).mono ?_
 rintro e w2 ⟨rfl,k2⟩
 have I2:=zH ((uI I1).next k2)
 have hs2:w.heap.size<w2.heap.size:=(uI I2).box.lt
 clear CA k2 I1 c0 c1 c2 c3 c4 p0 p1 p2 p3 p4 p5
 by_cases he2:er=0
 rotate_left
 ·have ee:(er==0)=false:=zBq he2
  have h9:=uI EQ
  rw[qan he2] at h9
  subst h9
  go_wp2_with fail
  go_ret
  exact⟨rfl,(uI I2).ctd⟩
 subst he2
 rw[qam] at EQ
 have hc2':=uI LE2 (by simp)
 obtain⟨c0,c1,c2,c3,c4⟩:=(uI I2).box.own
 rw[hk] at c0
 obtain⟨p0,p1,p2,p3⟩:=(uI I2).box.lists
 have CA:=zH (rin_body (uI I2) Q hc2' hd2)
 have LE3:=zH (qbe (xs:=x.body) (fun y _=>qa0 y) (d+1) n2 hc2')
 generalize lkSs x.body (d+1) n2=r3 at *
 obtain⟨er,n3⟩:=r3
 dsimp only at CA LE3 EQ
 go_wp2_with fail
 refine (uI CA).mono ?_
 rintro e w3 ⟨rfl,k3⟩
 have I3:=zH ((uI I2).next k3)
 have hs3:w.heap.size<w3.heap.size:=(uI I3).box.lt
 clear CA k3 I2 c0 c1 c2 c3 c4 p0 p1 p2 p3
 by_cases he3:er=0
 rotate_left
 ·have ee:(er==0)=false:=zBq he3
  have h9:=uI EQ
  rw[qan he3] at h9
  subst h9
  go_wp2_with fail
  go_ret
  exact⟨rfl,(uI I3).ctd⟩
 subst he3
 rw[qam] at EQ
 have hc3':=uI LE3 (by simp)
 obtain⟨c0,c1,c2,c3,c4⟩:=(uI I3).box.own
 rw[hk] at c0
 obtain⟨p0,p1,p2,p3⟩:=(uI I3).box.lists
 have CA:=zH (rin_els (uI I3) Q hc3' hd2)
 have LE4:=zH (qbe (xs:=x.els) (fun y _=>qa0 y) (d+1) n3 hc3')
 generalize lkSs x.els (d+1) n3=r4 at *
 obtain⟨er,n4⟩:=r4
 dsimp only at CA LE4 EQ
 go_wp2_with fail
 refine (uI CA).mono ?_
 rintro e w4 ⟨rfl,k4⟩
 have I4:=zH ((uI I3).next k4)
 have hs4:w.heap.size<w4.heap.size:=(uI I4).box.lt
 clear CA k4 I3 c0 c1 c2 c3 c4 p0 p1 p2 p3
 have h9:=uI EQ
 subst h9
 go_wp2_with fail
 go_ret
 exact⟨rfl,(uI I4).ctd⟩
theorem rst_while6 (x:Sm)(Q:Rhs x)(hk:x.k=6):RSm x:=by
 intro B lb c d v w hb hB hc hd hs hf
 have I0:=zH (In.begin hb hB hs hf)
 have NA:=zH (qao lb c d _ (uI I0).ctd.box hc hd)
 have hnm:=hf.1
 have hlb:=hb.1
 have EQ:Hid (lkS x d c=if nodeW d c≠0 then (nodeW d c,c+1) else if x.k<1∨11<x.k then (1,c+1) else if wSmF x.k x.b x.nm≠0 then (wSmF x.k x.b x.nm,c+1) else lkI x (d+1) (c+1)):=qbm x d c
 rw[lin_while6_eq hk (d+1) (c+1),hk] at EQ
 have HN:=zH (fun h=>qaf (d:=d) (c:=c) h)
 generalize lkS x d c=R at *
 generalize nodeW d c=nw at *
 clear hb hs hf
 generalize hA:smA x v=A at *
 generalize hW:w.alloc (.cells A 103)=W0 at *
 go_enter Tryz.func59,Tryz.ntmps59
 go_wp2_with (refine wpList_boxTo rfl 103 (.tmp 1) rfl (some 4) rfl _ rfl A rfl ?_;rw[hW])
 refine (uI NA).mono ?_
 rintro e w1 ⟨rfl,k1⟩
 have I1:=zH ((uI I0).next k1)
 have hs1:w.heap.size<w1.heap.size:=(uI I1).box.lt
 clear NA k1 I0
 by_cases h1:nw=0
 rotate_left
 ·have e1:(nw==0)=false:=zBq h1
  have E1:=uI EQ
  rw[if_pos h1] at E1
  subst E1
  go_wp2_with fail
  go_ret
  exact⟨rfl,(uI I1).ctd⟩
 subst h1
 obtain⟨hc1,hd1⟩:=uI HN rfl
 clear HN
 have hd2:d+1≤101:=by omega
 have E1:=uI EQ
 rw[if_neg (by simp),if_neg (by omega)] at E1
 rw[show wSmF 6 x.b x.nm=0 from rfl,if_neg (by simp)] at E1
 clear EQ
 have EQ:=zH E1
 clear E1
 obtain⟨c0,c1,c2,c3,c4⟩:=(uI I1).box.own
 rw[hk] at c0
 obtain⟨p0,p1,p2,p3,p4,p5⟩:=(uI I1).box.exX
 have CA:=zH (rin_X (uI I1) hc1 hd2)
 have LE2:=zH (qa7 x.x (d+1) (c+1) hc1)
 generalize lkE x.x (d+1) (c+1)=r2 at *
 obtain⟨er,n2⟩:=r2
 dsimp only at CA LE2 EQ
 go_wp2_with fail
 refine (uI CA).mono ?_
 rintro e w2 ⟨rfl,k2⟩
 have I2:=zH ((uI I1).next k2)
 have hs2:w.heap.size<w2.heap.size:=(uI I2).box.lt
 clear CA k2 I1 c0 c1 c2 c3 c4 p0 p1 p2 p3 p4 p5
 by_cases he2:er=0
 rotate_left
 ·have ee:(er==0)=false:=zBq he2
  have h9:=uI EQ
  rw[qan he2] at h9
  subst h9
  go_wp2_with fail
  go_ret
  exact⟨rfl,(uI I2).ctd⟩
 subst he2
 rw[qam] at EQ
 have hc2':=uI LE2 (by simp)
 obtain⟨c0,c1,c2,c3,c4⟩:=(uI I2).box.own
 rw[hk] at c0
 obtain⟨p0,p1,p2,p3⟩:=(uI I2).box.lists
 have CA:=zH (rin_body (uI I2) Q hc2' hd2)
 have LE3:=zH (qbe (xs:=x.body) (fun y _=>qa0 y) (d+1) n2 hc2')
 generalize lkSs x.body (d+1) n2=r3 at *
 obtain⟨er,n3⟩:=r3
 dsimp only at CA LE3 EQ
 go_wp2_with fail
 refine (uI CA).mono ?_
 rintro e w3 ⟨rfl,k3⟩
 have I3:=zH ((uI I2).next k3)
 have hs3:w.heap.size<w3.heap.size:=(uI I3).box.lt
 clear CA k3 I2 c0 c1 c2 c3 c4 p0 p1 p2 p3
 by_cases he3:er=0
 rotate_left
 ·have ee:(er==0)=false:=zBq he3
  have h9:=uI EQ
  subst h9
  go_wp2_with fail
  go_ret
  exact⟨rfl,(uI I3).ctd⟩
 subst he3
 obtain⟨c0,c1,c2,c3,c4⟩:=(uI I3).box.own
 rw[hk] at c0
 have h9:=uI EQ
 subst h9
 go_wp2_with fail
 go_ret
 exact⟨rfl,(uI I3).ctd⟩
theorem rst_for7 (x:Sm)(Q:Rhs x)(hk:x.k=7)(hh:x.has=true):RSm x:=by
 intro B lb c d v w hb hB hc hd hs hf
 have I0:=zH (In.begin hb hB hs hf)
 have NA:=zH (qao lb c d _ (uI I0).ctd.box hc hd)
 have hnm:=hf.1
 have hlb:=hb.1
 have EQ:Hid (lkS x d c=if nodeW d c≠0 then (nodeW d c,c+1) else if x.k<1∨11<x.k then (1,c+1) else if wSmF x.k x.b x.nm≠0 then (wSmF x.k x.b x.nm,c+1) else lkI x (d+1) (c+1)):=qbm x d c
 rw[lin_for7_eq hk hh (d+1) (c+1),hk] at EQ
 have HN:=zH (fun h=>qaf (d:=d) (c:=c) h)
 generalize lkS x d c=R at *
 generalize nodeW d c=nw at *
 clear hb hs hf
 generalize hA:smA x v=A at *
 generalize hW:w.alloc (.cells A 103)=W0 at *
 go_enter Tryz.func59,Tryz.ntmps59
 go_wp2_with (refine wpList_boxTo rfl 103 (.tmp 1) rfl (some 4) rfl _ rfl A rfl ?_;rw[hW])
 refine (uI NA).mono ?_
 rintro e w1 ⟨rfl,k1⟩
 have I1:=zH ((uI I0).next k1)
 have hs1:w.heap.size<w1.heap.size:=(uI I1).box.lt
 clear NA k1 I0
 by_cases h1:nw=0
 rotate_left
 ·have e1:(nw==0)=false:=zBq h1
  have E1:=uI EQ
  rw[if_pos h1] at E1
  subst E1
  go_wp2_with fail
  go_ret
  exact⟨rfl,(uI I1).ctd⟩
 subst h1
 obtain⟨hc1,hd1⟩:=uI HN rfl
 clear HN
 have hd2:d+1≤101:=by omega
 have E1:=uI EQ
 rw[if_neg (by simp),if_neg (by omega)] at E1
 rw[show wSmF 7 x.b x.nm=0 from rfl,if_neg (by simp)] at E1
 clear EQ
 have EQ:=zH E1
 clear E1
 obtain⟨c0,c1,c2,c3,c4⟩:=(uI I1).box.own
 rw[hk] at c0
 rw[hh] at c4
 obtain⟨p0,p1,p2,p3⟩:=(uI I1).box.lists
 have CA:=zH (rin_init (uI I1) Q hc1 hd2)
 have LE2:=zH (lkB_le (xs:=x.init) (fun y _=>qa0 y) (d+1) (c+1) hc1)
 generalize lkB x.init (d+1) (c+1)=r2 at *
 obtain⟨er,n2⟩:=r2
 dsimp only at CA LE2 EQ
 go_wp2_with fail
 refine (uI CA).mono ?_
 rintro e w2 ⟨rfl,k2⟩
 have I2:=zH ((uI I1).next k2)
 have hs2:w.heap.size<w2.heap.size:=(uI I2).box.lt
 clear CA k2 I1 c0 c1 c2 c3 c4 p0 p1 p2 p3
 by_cases he2:er=0
 rotate_left
 ·have ee:(er==0)=false:=zBq he2
  have h9:=uI EQ
  rw[qan he2] at h9
  subst h9
  go_wp2_with fail
  go_ret
  exact⟨rfl,(uI I2).ctd⟩
 subst he2
 rw[qam] at EQ
 have hc2':=uI LE2 (by simp)
 obtain⟨c0,c1,c2,c3,c4⟩:=(uI I2).box.own
 rw[hk] at c0
 rw[hh] at c4
 obtain⟨p0,p1,p2,p3,p4,p5⟩:=(uI I2).box.exX
 have CA:=zH (rin_X (uI I2) hc2' hd2)
 have LE3:=zH (qa7 x.x (d+1) n2 hc2')
 generalize lkE x.x (d+1) n2=r3 at *
 obtain⟨er,n3⟩:=r3
 dsimp only at CA LE3 EQ
 go_wp2_with fail
 refine (uI CA).mono ?_
 rintro e w3 ⟨rfl,k3⟩
 have I3:=zH ((uI I2).next k3)
 have hs3:w.heap.size<w3.heap.size:=(uI I3).box.lt
 clear CA k3 I2 c0 c1 c2 c3 c4 p0 p1 p2 p3 p4 p5
 by_cases he3:er=0
 rotate_left
 ·have ee:(er==0)=false:=zBq he3
  have h9:=uI EQ
  rw[qan he3] at h9
  subst h9
  go_wp2_with fail
  go_ret
  exact⟨rfl,(uI I3).ctd⟩
 subst he3
 rw[qam] at EQ
 have hc3':=uI LE3 (by simp)
 obtain⟨c0,c1,c2,c3,c4⟩:=(uI I3).box.own
 rw[hk] at c0
 rw[hh] at c4
 obtain⟨p0,p1,p2,p3⟩:=(uI I3).box.lists
 have CA:=zH (rin_step (uI I3) Q hc3' hd2)
 have LE4:=zH (lkB_le (xs:=x.step) (fun y _=>qa0 y) (d+1) n3 hc3')
 generalize lkB x.step (d+1) n3=r4 at *
 obtain⟨er,n4⟩:=r4
 dsimp only at CA LE4 EQ
 go_wp2_with fail
 refine (uI CA).mono ?_
 rintro e w4 ⟨rfl,k4⟩
 have I4:=zH ((uI I3).next k4)
 have hs4:w.heap.size<w4.heap.size:=(uI I4).box.lt
 clear CA k4 I3 c0 c1 c2 c3 c4 p0 p1 p2 p3
 by_cases he4:er=0
 rotate_left
 ·have ee:(er==0)=false:=zBq he4
  have h9:=uI EQ
  rw[qan he4] at h9
  subst h9
  go_wp2_with fail
  go_ret
  exact⟨rfl,(uI I4).ctd⟩
 subst he4
 rw[qam] at EQ
 have hc4':=uI LE4 (by simp)
 obtain⟨c0,c1,c2,c3,c4⟩:=(uI I4).box.own
 rw[hk] at c0
 rw[hh] at c4
 obtain⟨p0,p1,p2,p3⟩:=(uI I4).box.lists
 have CA:=zH (rin_body (uI I4) Q hc4' hd2)
 have LE5:=zH (qbe (xs:=x.body) (fun y _=>qa0 y) (d+1) n4 hc4')
 generalize lkSs x.body (d+1) n4=r5 at *
 obtain⟨er,n5⟩:=r5
 dsimp only at CA LE5 EQ
 go_wp2_with fail
 refine (uI CA).mono ?_
 rintro e w5 ⟨rfl,k5⟩
 have I5:=zH ((uI I4).next k5)
 have hs5:w.heap.size<w5.heap.size:=(uI I5).box.lt
 clear CA k5 I4 c0 c1 c2 c3 c4 p0 p1 p2 p3
 by_cases he5:er=0
 rotate_left
 ·have ee:(er==0)=false:=zBq he5
  have h9:=uI EQ
  subst h9
  go_wp2_with fail
  go_ret
  exact⟨rfl,(uI I5).ctd⟩
 subst he5
 obtain⟨c0,c1,c2,c3,c4⟩:=(uI I5).box.own
 rw[hk] at c0
 rw[hh] at c4
 have h9:=uI EQ
 subst h9
 go_wp2_with fail
 go_ret
 exact⟨rfl,(uI I5).ctd⟩
theorem rst_forNo7 (x:Sm)(Q:Rhs x)(hk:x.k=7)(hh:x.has=false):RSm x:=by
 intro B lb c d v w hb hB hc hd hs hf
 have I0:=zH (In.begin hb hB hs hf)
 have NA:=zH (qao lb c d _ (uI I0).ctd.box hc hd)
 have hnm:=hf.1
 have hlb:=hb.1
 have EQ:Hid (lkS x d c=if nodeW d c≠0 then (nodeW d c,c+1) else if x.k<1∨11<x.k then (1,c+1) else if wSmF x.k x.b x.nm≠0 then (wSmF x.k x.b x.nm,c+1) else lkI x (d+1) (c+1)):=qbm x d c
 rw[lin_forNo7_eq hk hh (d+1) (c+1),hk] at EQ
 have HN:=zH (fun h=>qaf (d:=d) (c:=c) h)
 generalize lkS x d c=R at *
 generalize nodeW d c=nw at *
 clear hb hs hf
 generalize hA:smA x v=A at *
 generalize hW:w.alloc (.cells A 103)=W0 at *
 go_enter Tryz.func59,Tryz.ntmps59
 go_wp2_with (refine wpList_boxTo rfl 103 (.tmp 1) rfl (some 4) rfl _ rfl A rfl ?_;rw[hW])
 refine (uI NA).mono ?_
 rintro e w1 ⟨rfl,k1⟩
 have I1:=zH ((uI I0).next k1)
 have hs1:w.heap.size<w1.heap.size:=(uI I1).box.lt
 clear NA k1 I0
 by_cases h1:nw=0
 rotate_left
 ·have e1:(nw==0)=false:=zBq h1
  have E1:=uI EQ
  rw[if_pos h1] at E1
  subst E1
  go_wp2_with fail
  go_ret
  exact⟨rfl,(uI I1).ctd⟩
 subst h1
 obtain⟨hc1,hd1⟩:=uI HN rfl
 clear HN
 have hd2:d+1≤101:=by omega
 have E1:=uI EQ
 rw[if_neg (by simp),if_neg (by omega)] at E1
 rw[show wSmF 7 x.b x.nm=0 from rfl,if_neg (by simp)] at E1
 clear EQ
 have EQ:=zH E1
 clear E1
 obtain⟨c0,c1,c2,c3,c4⟩:=(uI I1).box.own
 rw[hk] at c0
 rw[hh] at c4
 obtain⟨p0,p1,p2,p3⟩:=(uI I1).box.lists
 have CA:=zH (rin_init (uI I1) Q hc1 hd2)
 have LE2:=zH (lkB_le (xs:=x.init) (fun y _=>qa0 y) (d+1) (c+1) hc1)
 generalize lkB x.init (d+1) (c+1)=r2 at *
 obtain⟨er,n2⟩:=r2
 dsimp only at CA LE2 EQ
 go_wp2_with fail
 refine (uI CA).mono ?_
 rintro e w2 ⟨rfl,k2⟩
 have I2:=zH ((uI I1).next k2)
 have hs2:w.heap.size<w2.heap.size:=(uI I2).box.lt
 clear CA k2 I1 c0 c1 c2 c3 c4 p0 p1 p2 p3
 by_cases he2:er=0
 rotate_left
 ·have ee:(er==0)=false:=zBq he2
  have h9:=uI EQ
  rw[qan he2] at h9
  subst h9
  go_wp2_with fail
  go_ret
  exact⟨rfl,(uI I2).ctd⟩
 subst he2
 rw[qam] at EQ
 have hc2':=uI LE2 (by simp)
 obtain⟨c0,c1,c2,c3,c4⟩:=(uI I2).box.own
 rw[hk] at c0
 rw[hh] at c4
 obtain⟨p0,p1,p2,p3⟩:=(uI I2).box.lists
 have CA:=zH (rin_step (uI I2) Q hc2' hd2)
 have LE3:=zH (lkB_le (xs:=x.step) (fun y _=>qa0 y) (d+1) n2 hc2')
 generalize lkB x.step (d+1) n2=r3 at *
 obtain⟨er,n3⟩:=r3
 dsimp only at CA LE3 EQ
 go_wp2_with fail
 refine (uI CA).mono ?_
 rintro e w3 ⟨rfl,k3⟩
 have I3:=zH ((uI I2).next k3)
 have hs3:w.heap.size<w3.heap.size:=(uI I3).box.lt
 clear CA k3 I2 c0 c1 c2 c3 c4 p0 p1 p2 p3
 by_cases he3:er=0
 rotate_left
 ·have ee:(er==0)=false:=zBq he3
  have h9:=uI EQ
  rw[qan he3] at h9
  subst h9
  go_wp2_with fail
  go_ret
  exact⟨rfl,(uI I3).ctd⟩
 subst he3
 rw[qam] at EQ
 have hc3':=uI LE3 (by simp)
 obtain⟨c0,c1,c2,c3,c4⟩:=(uI I3).box.own
 rw[hk] at c0
 rw[hh] at c4
 obtain⟨p0,p1,p2,p3⟩:=(uI I3).box.lists
 have CA:=zH (rin_body (uI I3) Q hc3' hd2)
 have LE4:=zH (qbe (xs:=x.body) (fun y _=>qa0 y) (d+1) n3 hc3')
 generalize lkSs x.body (d+1) n3=r4 at *
 obtain⟨er,n4⟩:=r4
 dsimp only at CA LE4 EQ
 go_wp2_with fail
 refine (uI CA).mono ?_
 rintro e w4 ⟨rfl,k4⟩
 have I4:=zH ((uI I3).next k4)
 have hs4:w.heap.size<w4.heap.size:=(uI I4).box.lt
 clear CA k4 I3 c0 c1 c2 c3 c4 p0 p1 p2 p3
 by_cases he4:er=0
 rotate_left
 ·have ee:(er==0)=false:=zBq he4
  have h9:=uI EQ
  subst h9
  go_wp2_with fail
  go_ret
  exact⟨rfl,(uI I4).ctd⟩
 subst he4
 obtain⟨c0,c1,c2,c3,c4⟩:=(uI I4).box.own
 rw[hk] at c0
 rw[hh] at c4
 have h9:=uI EQ
 subst h9
 go_wp2_with fail
 go_ret
 exact⟨rfl,(uI I4).ctd⟩
theorem rst_block11T (x:Sm)(Q:Rhs x)(hk:x.k=11)(hh:x.has=true):RSm x:=by
 intro B lb c d v w hb hB hc hd hs hf
 have I0:=zH (In.begin hb hB hs hf)
 have NA:=zH (qao lb c d _ (uI I0).ctd.box hc hd)
 have hnm:=hf.1
 have hlb:=hb.1
 have EQ:Hid (lkS x d c=if nodeW d c≠0 then (nodeW d c,c+1) else if x.k<1∨11<x.k then (1,c+1) else if wSmF x.k x.b x.nm≠0 then (wSmF x.k x.b x.nm,c+1) else lkI x (d+1) (c+1)):=qbm x d c
 rw[lin_block11_eq hk (d+1) (c+1),hk] at EQ
 have HN:=zH (fun h=>qaf (d:=d) (c:=c) h)
 generalize lkS x d c=R at *
 generalize nodeW d c=nw at *
 clear hb hs hf
 generalize hA:smA x v=A at *
 generalize hW:w.alloc (.cells A 103)=W0 at *
 go_enter Tryz.func59,Tryz.ntmps59
 go_wp2_with (refine wpList_boxTo rfl 103 (.tmp 1) rfl (some 4) rfl _ rfl A rfl ?_;rw[hW])
 refine (uI NA).mono ?_
 rintro e w1 ⟨rfl,k1⟩
 have I1:=zH ((uI I0).next k1)
 have hs1:w.heap.size<w1.heap.size:=(uI I1).box.lt
 clear NA k1 I0
 by_cases h1:nw=0
 rotate_left
 ·have e1:(nw==0)=false:=zBq h1
  have E1:=uI EQ
  rw[if_pos h1] at E1
  subst E1
  go_wp2_with fail
  go_ret
  exact⟨rfl,(uI I1).ctd⟩
 subst h1
 obtain⟨hc1,hd1⟩:=uI HN rfl
 clear HN
 have hd2:d+1≤101:=by omega
 have E1:=uI EQ
 rw[if_neg (by simp),if_neg (by omega)] at E1
 rw[show wSmF 11 x.b x.nm=0 from rfl,if_neg (by simp)] at E1
 clear EQ
 have EQ:=zH E1
 clear E1
 obtain⟨c0,c1,c2,c3,c4⟩:=(uI I1).box.own
 rw[hk] at c0
 rw[hh] at c4
 obtain⟨p0,p1,p2,p3⟩:=(uI I1).box.lists
 have CA:=zH (rin_body (uI I1) Q hc1 hd2)
 have LE2:=zH (qbe (xs:=x.body) (fun y _=>qa0 y) (d+1) (c+1) hc1)
 generalize lkSs x.body (d+1) (c+1)=r2 at *
 obtain⟨er,n2⟩:=r2
 dsimp only at CA LE2 EQ
 go_wp2_with fail
 refine (uI CA).mono ?_
 rintro e w2 ⟨rfl,k2⟩
 have I2:=zH ((uI I1).next k2)
 have hs2:w.heap.size<w2.heap.size:=(uI I2).box.lt
 clear CA k2 I1 c0 c1 c2 c3 c4 p0 p1 p2 p3
 by_cases he2:er=0
 rotate_left
 ·have ee:(er==0)=false:=zBq he2
  have h9:=uI EQ
  subst h9
  go_wp2_with fail
  go_ret
  exact⟨rfl,(uI I2).ctd⟩
 subst he2
 obtain⟨c0,c1,c2,c3,c4⟩:=(uI I2).box.own
 rw[hk] at c0
 rw[hh] at c4
 have h9:=uI EQ
 subst h9
 go_wp2_with fail
 go_ret
 exact⟨rfl,(uI I2).ctd⟩
theorem rst_block11F (x:Sm)(Q:Rhs x)(hk:x.k=11)(hh:x.has=false):RSm x:=by
 intro B lb c d v w hb hB hc hd hs hf
 have I0:=zH (In.begin hb hB hs hf)
 have NA:=zH (qao lb c d _ (uI I0).ctd.box hc hd)
 have hnm:=hf.1
 have hlb:=hb.1
 have EQ:Hid (lkS x d c=if nodeW d c≠0 then (nodeW d c,c+1) else if x.k<1∨11<x.k then (1,c+1) else if wSmF x.k x.b x.nm≠0 then (wSmF x.k x.b x.nm,c+1) else lkI x (d+1) (c+1)):=qbm x d c
 rw[lin_block11_eq hk (d+1) (c+1),hk] at EQ
 have HN:=zH (fun h=>qaf (d:=d) (c:=c) h)
 generalize lkS x d c=R at *
 generalize nodeW d c=nw at *
 clear hb hs hf
 generalize hA:smA x v=A at *
 generalize hW:w.alloc (.cells A 103)=W0 at *
 go_enter Tryz.func59,Tryz.ntmps59
 go_wp2_with (refine wpList_boxTo rfl 103 (.tmp 1) rfl (some 4) rfl _ rfl A rfl ?_;rw[hW])
 refine (uI NA).mono ?_
 rintro e w1 ⟨rfl,k1⟩
 have I1:=zH ((uI I0).next k1)
 have hs1:w.heap.size<w1.heap.size:=(uI I1).box.lt
 clear NA k1 I0
 by_cases h1:nw=0
 rotate_left
 ·have e1:(nw==0)=false:=zBq h1
  have E1:=uI EQ
  rw[if_pos h1] at E1
  subst E1
  go_wp2_with fail
  go_ret
  exact⟨rfl,(uI I1).ctd⟩
 subst h1
 obtain⟨hc1,hd1⟩:=uI HN rfl
 clear HN
 have hd2:d+1≤101:=by omega
 have E1:=uI EQ
 rw[if_neg (by simp),if_neg (by omega)] at E1
 rw[show wSmF 11 x.b x.nm=0 from rfl,if_neg (by simp)] at E1
 clear EQ
 have EQ:=zH E1
 clear E1
 obtain⟨c0,c1,c2,c3,c4⟩:=(uI I1).box.own
 rw[hk] at c0
 rw[hh] at c4
 obtain⟨p0,p1,p2,p3⟩:=(uI I1).box.lists
 have CA:=zH (rin_body (uI I1) Q hc1 hd2)
 have LE2:=zH (qbe (xs:=x.body) (fun y _=>qa0 y) (d+1) (c+1) hc1)
 generalize lkSs x.body (d+1) (c+1)=r2 at *
 obtain⟨er,n2⟩:=r2
 dsimp only at CA LE2 EQ
 go_wp2_with fail
 refine (uI CA).mono ?_
 rintro e w2 ⟨rfl,k2⟩
 have I2:=zH ((uI I1).next k2)
 have hs2:w.heap.size<w2.heap.size:=(uI I2).box.lt
 clear CA k2 I1 c0 c1 c2 c3 c4 p0 p1 p2 p3
 by_cases he2:er=0
 rotate_left
 ·have ee:(er==0)=false:=zBq he2
  have h9:=uI EQ
  subst h9
  go_wp2_with fail
  go_ret
  exact⟨rfl,(uI I2).ctd⟩
 subst he2
 obtain⟨c0,c1,c2,c3,c4⟩:=(uI I2).box.own
 rw[hk] at c0
 rw[hh] at c4
 have h9:=uI EQ
 subst h9
 go_wp2_with fail
 go_ret
 exact⟨rfl,(uI I2).ctd⟩
theorem rst_bad (x:Sm)(hk:x.k<1∨11<x.k):RSm x:=by
 intro B lb c d v w hb hB hc hd hs hf
 have I0:=zH (In.begin hb hB hs hf)
 have NA:=zH (qao lb c d _ (uI I0).ctd.box hc hd)
 have hlb:=hb.1
 have EQ:Hid (lkS x d c=if nodeW d c≠0 then (nodeW d c,c+1) else if x.k<1∨11<x.k then (1,c+1) else if wSmF x.k x.b x.nm≠0 then (wSmF x.k x.b x.nm,c+1) else lkI x (d+1) (c+1)):=qbm x d c
 rw[if_pos hk] at EQ
 generalize lkS x d c=R at *
 generalize nodeW d c=nw at *
 clear hb hs hf
 generalize hA:smA x v=A at *
 generalize hW:w.alloc (.cells A 103)=W0 at *
 go_enter Tryz.func59,Tryz.ntmps59
 go_wp2_with (refine wpList_boxTo rfl 103 (.tmp 1) rfl (some 4) rfl _ rfl A rfl ?_;rw[hW])
 refine (uI NA).mono ?_
 rintro e w1 ⟨rfl,k1⟩
 have I1:=zH ((uI I0).next k1)
 have hs1:w.heap.size<w1.heap.size:=(uI I1).box.lt
 clear NA k1 I0
 by_cases h1:nw=0
 rotate_left
 ·have e1:(nw==0)=false:=zBq h1
  have E1:=uI EQ
  rw[if_pos h1] at E1
  subst E1
  go_wp2_with fail
  go_ret
  exact⟨rfl,(uI I1).ctd⟩
 subst h1
 have E1:=uI EQ
 rw[if_neg (by simp)] at E1
 subst E1
 obtain⟨c0,c1,c2,c3,c4⟩:=(uI I1).box.own
 generalize x.k=k at *
 rcases hk with hk|hk
 ·go_wp2_with fail
  go_ret
  exact⟨rfl,(uI I1).ctd⟩
 ·have hk1:¬ k<1:=by omega
  go_wp2_with fail
  go_ret
  exact⟨rfl,(uI I1).ctd⟩
theorem rstat_any:∀ x,RSm x:=by
 apply Sm.ind
 intro x J1 J2 J3 J4
 have Q:Rhs x:=⟨J1,J2,J3,J4⟩
 by_cases h0:x.k<1∨11<x.k
 ·exact rst_bad x h0
 ·have hk:x.k=1∨x.k=2∨x.k=3∨x.k=4∨x.k=5∨x.k=6∨x.k=7∨x.k=8∨x.k=9∨x.k=10∨x.k=11:=by omega
  cases hh:x.has
  ·rcases hk with hk|hk|hk|hk|hk|hk|hk|hk|hk|hk|hk
   ·exact rst_none1F x Q hk hh
   ·exact rst_declNo2 x Q hk hh
   ·exact rst_set3 x Q hk hh
   ·exact rst_expr4 x Q hk
   ·exact rst_if5 x Q hk
   ·exact rst_while6 x Q hk
   ·exact rst_forNo7 x Q hk hh
   ·exact rst_declNo8 x Q hk hh
   ·exact rst_none9F x Q hk hh
   ·exact rst_none10F x Q hk hh
   ·exact rst_block11F x Q hk hh
  ·rcases hk with hk|hk|hk|hk|hk|hk|hk|hk|hk|hk|hk
   ·exact rst_none1T x Q hk hh
   ·exact rst_decl2 x Q hk hh
   ·exact rst_setI3 x Q hk hh
   ·exact rst_expr4 x Q hk
   ·exact rst_if5 x Q hk
   ·exact rst_while6 x Q hk
   ·exact rst_for7 x Q hk hh
   ·exact rst_decl8 x Q hk hh
   ·exact rst_none9T x Q hk hh
   ·exact rst_none10T x Q hk hh
   ·exact rst_block11T x Q hk hh
end Go.Proofs.YtjpnnmkefaodoaaGreat
