/-
  LwF.
-/
import Derived.Test.YtjpnnmkefaodoaaGreatyLwEy
set_option maxHeartbeats 8000000
set_option maxRecDepth 100000
namespace Go.Proofs.YtjpnnmkefaodoaaGreat
open Go.RowKit Go.Great
set_option linter.unusedSimpArgs false
set_option linter.unusedVariables false
theorem qam (c:Nat)(f:Nat→Int × Nat):thn (0,c) f=f c:=by unfold thn;rw[if_neg (by simp)]
theorem qan {e:Int}(h:e≠0)(c:Nat)(f:Nat→Int × Nat):thn (e,c) f=(e,c):=by unfold thn;rw[if_pos h]
def lkI (x:Sm)(d c:Nat):Int × Nat :=
 thn (if x.k=7 then lkB x.init d c else (0,c)) fun c =>
 thn (if x.k=3∧x.has=true then lkE x.i d c else (0,c)) fun c =>
 thn (if hasX x.k x.has=true then lkE x.x d c else (0,c)) fun c =>
 thn (if x.k=7 then lkB x.step d c else (0,c)) fun c =>
 if x.k=5 then thn (lkSs x.body d c) fun c=>lkSs x.els d c
 else if x.k=6∨x.k=7∨x.k=11 then lkSs x.body d c else (0,c)
theorem qbm (x:Sm)(d c:Nat):lkS x d c=if nodeW d c≠0 then (nodeW d c,c+1) else if x.k<1∨11<x.k then (1,c+1) else if wSmF x.k x.b x.nm≠0 then (wSmF x.k x.b x.nm,c+1) else lkI x (d+1) (c+1):=by
 obtain⟨k,b,s,nm,has,x,i,l1,l2,l3,l4⟩:=x
 rw[lkS];rfl
theorem thn_le {r:Int × Nat}{f:Nat→Int × Nat}(hr:r.1=0→r.2≤20000)(hf:∀ c,c≤20000→(f c).1=0→(f c).2≤20000):(thn r f).1=0→(thn r f).2≤20000:=by
 unfold thn
 split
 ·rename_i h;intro e;exact absurd e h
 ·rename_i h;exact hf _ (hr (by simpa using h))
theorem qbe {xs:List Sm}(IH:∀ x∈xs,∀ d c,c≤20000→(lkS x d c).1=0→(lkS x d c).2≤20000):∀ d c,c≤20000→(lkSs xs d c).1=0→(lkSs xs d c).2≤20000:=by
 induction xs with
 | nil=>intro d c hc _;rw[lkSs];exact hc
 | cons x xs ih =>
  intro d c hc h
  rw[lkSs_cons] at h ⊢
  by_cases e:(lkS x d c).1=0
  ·rw[if_neg (by simpa using e)] at h ⊢
   exact ih (fun y hy=>IH y (List.mem_cons_of_mem _ hy)) d _ (IH x List.mem_cons_self d c hc e) h
  ·rw[if_pos e] at h;exact absurd h e
theorem lkB_le {xs:List Sm}(IH:∀ x∈xs,∀ d c,c≤20000→(lkS x d c).1=0→(lkS x d c).2≤20000):∀ d c,c≤20000→(lkB xs d c).1=0→(lkB xs d c).2≤20000:=by
 intro d c hc
 unfold lkB
 split
 ·intro h;cases h
 ·split
  ·exact qbe IH d c hc
  ·intro h;cases h
theorem qa0:∀ (x:Sm) (d c:Nat),c≤20000→(lkS x d c).1=0→(lkS x d c).2≤20000:=by
 apply Sm.ind
 intro x I1 I2 I3 I4 d c hc
 rw[qbm]
 split
 ·rename_i h;intro e;exact absurd e h
 ·rename_i h1
  have hc1:=(qaf (by simpa using h1)).1
  split
  ·intro e;cases e
  ·split
   ·rename_i h;intro e;exact absurd e h
   ·unfold lkI
    refine thn_le (by split;exact lkB_le I1 _ _ hc1;exact fun _=>hc1) fun c hc=>?_
    refine thn_le (by split;exact qa7 _ _ _ hc;exact fun _=>hc) fun c hc=>?_
    refine thn_le (by split;exact qa7 _ _ _ hc;exact fun _=>hc) fun c hc=>?_
    refine thn_le (by split;exact lkB_le I2 _ _ hc;exact fun _=>hc) fun c hc=>?_
    split
    ·exact thn_le (qbe I3 _ _ hc) fun c hc=>qbe I4 _ _ hc
    ·split
     ·exact qbe I3 _ _ hc
     ·exact fun _=>hc
structure In (w W:World)(lb c B:Nat)(x:Sm)(v:Sv):Prop where
 ctd:Ctd w W lb c
 box:SmB W w.heap.size x v
 sv:SvL B W x v
 ok:SmF x
 hB:B≤lb
 lt:lb<w.heap.size
theorem In.next {w W W':World}{lb c c' B:Nat}{x:Sm}{v:Sv}(h:In w W lb c B x v)(k:Ctd W W' lb c'):In w W' lb c' B x v:=by
 have hs:=h.ctd.kb.size
 exact⟨h.ctd.trans k,h.box.kb k.kb (by have:=h.lt;omega),h.sv.step (k.kb.below (by have:=h.lt;have:=h.hB;omega) h.hB),h.ok,h.hB,h.lt⟩
theorem In.below {w W W':World}{lb c B:Nat}{x:Sm}{v:Sv}(h:In w W lb c B x v)(k:Below W.heap.size W W'):In w W' lb c B x v:=h.next (Ctd.of h.ctd.box k)
def LIn (x:Sm):Prop:=∀ (B lb c d:Nat) (v:Sv) (w:World),Box w lb [.int .i64 (c:Int)]→B≤lb→c≤20000→d≤101→SvL B w x v→SmF x →
 Calls Tryz.prog 150 #[.pointer (some ⟨lb,0,none⟩),.agg (smA x v),.int .i64 (d:Int)] w fun e w'=>e=.returned (.int .i64 (lkI x d c).1)∧Ctd w w' lb (lkI x d c).2
structure Ihs (x:Sm):Prop where
 i1:∀ y∈x.init,LSm y
 i2:∀ y∈x.step,LSm y
 i3:∀ y∈x.body,LSm y
 i4:∀ y∈x.els,LSm y
theorem In.begin {w:World}{lb c B:Nat}{x:Sm}{v:Sv}(hb:Box w lb [.int .i64 (c:Int)])(hB:B≤lb)(hs:SvL B w x v)(hf:SmF x):In w (w.alloc (.cells (smA x v) 103)) lb c B x v:=by
 have ka:=qaa w (.cells (smA x v) 103)
 have:=hb.1
 exact⟨Ctd.of hb ka,SmB.new _ _ _,hs.step (ka.mono (by omega)),hf,hB,hb.1⟩
theorem in_X {w W:World}{lb c B d:Nat}{x:Sm}{v:Sv}(h:In w W lb c B x v)(hc:c≤20000)(hd:d≤101):Calls Tryz.prog 119 #[.pointer (some ⟨lb,0,none⟩),.agg #[.int .i64 x.x.k,.int .u64 x.x.n,.int .i64 x.x.b,.bool x.x.s,.string x.x.nm,v.xk],.int .i64 (d:Int)] W fun e w'=>e=.returned (.int .i64 (lkE x.x d c).1)∧Ctd W w' lb (lkE x.x d c).2:=lexpr_any x.x B lb c d v.xk W h.ctd.box h.hB hc hd h.sv.hx h.ok.2.1
theorem in_I {w W:World}{lb c B d:Nat}{x:Sm}{v:Sv}(h:In w W lb c B x v)(hc:c≤20000)(hd:d≤101):Calls Tryz.prog 119 #[.pointer (some ⟨lb,0,none⟩),.agg #[.int .i64 x.i.k,.int .u64 x.i.n,.int .i64 x.i.b,.bool x.i.s,.string x.i.nm,v.ik],.int .i64 (d:Int)] W fun e w'=>e=.returned (.int .i64 (lkE x.i d c).1)∧Ctd W w' lb (lkE x.i d c).2:=lexpr_any x.i B lb c d v.ik W h.ctd.box h.hB hc hd h.sv.hi h.ok.2.2
theorem in_init {w W:World}{lb c B d:Nat}{x:Sm}{v:Sv}(h:In w W lb c B x v)(q:Ihs x)(hc:c≤20000)(hd:d≤101):Calls Tryz.prog 169 #[.pointer (some ⟨lb,0,none⟩),v.init,.int .i64 (d:Int)] W fun e w'=>e=.returned (.int .i64 (lkB x.init d c).1)∧Ctd W w' lb (lkB x.init d c).2:=ldone_any x.init (fun y _=>qa0 y) q.i1 B lb c d v.init W h.ctd.box h.hB hc hd h.sv.h1
theorem in_step {w W:World}{lb c B d:Nat}{x:Sm}{v:Sv}(h:In w W lb c B x v)(q:Ihs x)(hc:c≤20000)(hd:d≤101):Calls Tryz.prog 169 #[.pointer (some ⟨lb,0,none⟩),v.step,.int .i64 (d:Int)] W fun e w'=>e=.returned (.int .i64 (lkB x.step d c).1)∧Ctd W w' lb (lkB x.step d c).2:=ldone_any x.step (fun y _=>qa0 y) q.i2 B lb c d v.step W h.ctd.box h.hB hc hd h.sv.h2
theorem in_body {w W:World}{lb c B d:Nat}{x:Sm}{v:Sv}(h:In w W lb c B x v)(q:Ihs x)(hc:c≤20000)(hd:d≤101):Calls Tryz.prog 84 #[.pointer (some ⟨lb,0,none⟩),v.body,.int .i64 (d:Int)] W fun e w'=>e=.returned (.int .i64 (lkSs x.body d c).1)∧Ctd W w' lb (lkSs x.body d c).2:=lstats_any x.body (fun y _=>qa0 y) q.i3 B lb c d v.body W h.ctd.box h.hB hc hd h.sv.h3
theorem in_els {w W:World}{lb c B d:Nat}{x:Sm}{v:Sv}(h:In w W lb c B x v)(q:Ihs x)(hc:c≤20000)(hd:d≤101):Calls Tryz.prog 84 #[.pointer (some ⟨lb,0,none⟩),v.els,.int .i64 (d:Int)] W fun e w'=>e=.returned (.int .i64 (lkSs x.els d c).1)∧Ctd W w' lb (lkSs x.els d c).2:=lstats_any x.els (fun y _=>qa0 y) q.i4 B lb c d v.els W h.ctd.box h.hB hc hd h.sv.h4
theorem lin_none1_eq {x:Sm}(hk:x.k=1)(d c:Nat):lkI x d c=(0,c):=by
 unfold lkI
 simp[hk,qam,hasX]
theorem lin_none1_hx {x:Sm}(hk:x.k=1):hasX x.k x.has=false:=by simp[hk,hasX]
theorem lin_none1 (x:Sm)(Q:Ihs x)(hk:x.k=1):LIn x:=by
 intro B lb c d v w hb hB hc hd hs hf
 have I0:=zH (In.begin hb hB hs hf)
 have HX:=zH (fun W=>qba x v W)
 rw[lin_none1_hx hk] at HX
 have EQ:=zH (lin_none1_eq hk d c)
 have hlb:=hb.1
 have hAs:=zH (qak x v)
 generalize lkI x d c=R at *
 clear hb hs hf
 generalize hA:smA x v=A at *
 generalize hW:w.alloc (.cells A 103)=W0 at *
 have hw0:w.heap.size<W0.heap.size:=(uI I0).box.lt
 have HH:=(uI I0).box.heap
 rw[hA] at HH
 obtain⟨c0,-,-,-,c4⟩:=(uI I0).box.own
 rw[hk] at c0
 go_enter Tryz.func150,Tryz.ntmps150
 go_wp2_with (first|(refine wpList_boxTo rfl 103 (.tmp 1) rfl (some 4) rfl _ rfl A rfl ?_;rw[hW])|(refine wpList_load_row rfl 103 (.tmp 4) rfl w.heap.size rfl _ A _ _ HH Tryz.underlying103 rfl (by rw[uI hAs];exact Tryz.sizeStat) ?_))
 refine (uI HX _).mono ?_
 rintro e V0 ⟨rfl,k0⟩
 have I1:=zH ((uI I0).below k0)
 clear c0 c4 HH k0 I0
 obtain⟨c0,-,-,-,c4⟩:=(uI I1).box.own
 rw[hk] at c0
 have HH:=(uI I1).box.heap
 rw[hA] at HH
 have hs0:w.heap.size<V0.heap.size:=(uI I1).box.lt
 have h2:=uI EQ
 subst h2
 go_wp2_with fail
 go_ret
 exact⟨rfl,(uI I1).ctd⟩
theorem lin_none9_eq {x:Sm}(hk:x.k=9)(d c:Nat):lkI x d c=(0,c):=by
 unfold lkI
 simp[hk,qam,hasX]
theorem lin_none9_hx {x:Sm}(hk:x.k=9):hasX x.k x.has=false:=by simp[hk,hasX]
theorem lin_none9 (x:Sm)(Q:Ihs x)(hk:x.k=9):LIn x:=by
 intro B lb c d v w hb hB hc hd hs hf
 have I0:=zH (In.begin hb hB hs hf)
 have HX:=zH (fun W=>qba x v W)
 rw[lin_none9_hx hk] at HX
 have EQ:=zH (lin_none9_eq hk d c)
 have hlb:=hb.1
 have hAs:=zH (qak x v)
 generalize lkI x d c=R at *
 clear hb hs hf
 generalize hA:smA x v=A at *
 generalize hW:w.alloc (.cells A 103)=W0 at *
 have hw0:w.heap.size<W0.heap.size:=(uI I0).box.lt
 have HH:=(uI I0).box.heap
 rw[hA] at HH
 obtain⟨c0,-,-,-,c4⟩:=(uI I0).box.own
 rw[hk] at c0
 go_enter Tryz.func150,Tryz.ntmps150
 go_wp2_with (first|(refine wpList_boxTo rfl 103 (.tmp 1) rfl (some 4) rfl _ rfl A rfl ?_;rw[hW])|(refine wpList_load_row rfl 103 (.tmp 4) rfl w.heap.size rfl _ A _ _ HH Tryz.underlying103 rfl (by rw[uI hAs];exact Tryz.sizeStat) ?_))
 refine (uI HX _).mono ?_
 rintro e V0 ⟨rfl,k0⟩
 have I1:=zH ((uI I0).below k0)
 clear c0 c4 HH k0 I0
 obtain⟨c0,-,-,-,c4⟩:=(uI I1).box.own
 rw[hk] at c0
 have HH:=(uI I1).box.heap
 rw[hA] at HH
 have hs0:w.heap.size<V0.heap.size:=(uI I1).box.lt
 have h2:=uI EQ
 subst h2
 go_wp2_with fail
 go_ret
 exact⟨rfl,(uI I1).ctd⟩
theorem lin_none10_eq {x:Sm}(hk:x.k=10)(d c:Nat):lkI x d c=(0,c):=by
 unfold lkI
 simp[hk,qam,hasX]
theorem lin_none10_hx {x:Sm}(hk:x.k=10):hasX x.k x.has=false:=by simp[hk,hasX]
theorem lin_none10 (x:Sm)(Q:Ihs x)(hk:x.k=10):LIn x:=by
 intro B lb c d v w hb hB hc hd hs hf
 have I0:=zH (In.begin hb hB hs hf)
 have HX:=zH (fun W=>qba x v W)
 rw[lin_none10_hx hk] at HX
 have EQ:=zH (lin_none10_eq hk d c)
 have hlb:=hb.1
 have hAs:=zH (qak x v)
 generalize lkI x d c=R at *
 clear hb hs hf
 generalize hA:smA x v=A at *
 generalize hW:w.alloc (.cells A 103)=W0 at *
 have hw0:w.heap.size<W0.heap.size:=(uI I0).box.lt
 have HH:=(uI I0).box.heap
 rw[hA] at HH
 obtain⟨c0,-,-,-,c4⟩:=(uI I0).box.own
 rw[hk] at c0
 go_enter Tryz.func150,Tryz.ntmps150
 go_wp2_with (first|(refine wpList_boxTo rfl 103 (.tmp 1) rfl (some 4) rfl _ rfl A rfl ?_;rw[hW])|(refine wpList_load_row rfl 103 (.tmp 4) rfl w.heap.size rfl _ A _ _ HH Tryz.underlying103 rfl (by rw[uI hAs];exact Tryz.sizeStat) ?_))
 refine (uI HX _).mono ?_
 rintro e V0 ⟨rfl,k0⟩
 have I1:=zH ((uI I0).below k0)
 clear c0 c4 HH k0 I0
 obtain⟨c0,-,-,-,c4⟩:=(uI I1).box.own
 rw[hk] at c0
 have HH:=(uI I1).box.heap
 rw[hA] at HH
 have hs0:w.heap.size<V0.heap.size:=(uI I1).box.lt
 have h2:=uI EQ
 subst h2
 go_wp2_with fail
 go_ret
 exact⟨rfl,(uI I1).ctd⟩
theorem lin_decl2_eq {x:Sm}(hk:x.k=2)(hh:x.has=true)(d c:Nat):lkI x d c=thn (lkE x.x d c) fun c=>(0,c):=by
 unfold lkI
 simp[hk,hh,qam,hasX]
theorem lin_decl2_hx {x:Sm}(hk:x.k=2)(hh:x.has=true):hasX x.k x.has=true:=by simp[hk,hh,hasX]
theorem lin_decl2 (x:Sm)(Q:Ihs x)(hk:x.k=2)(hh:x.has=true):LIn x:=by
 intro B lb c d v w hb hB hc hd hs hf
 have I0:=zH (In.begin hb hB hs hf)
 have HX:=zH (fun W=>qba x v W)
 rw[lin_decl2_hx hk hh] at HX
 have EQ:=zH (lin_decl2_eq hk hh d c)
 have hlb:=hb.1
 have hAs:=zH (qak x v)
 generalize lkI x d c=R at *
 clear hb hs hf
 generalize hA:smA x v=A at *
 generalize hW:w.alloc (.cells A 103)=W0 at *
 have hw0:w.heap.size<W0.heap.size:=(uI I0).box.lt
 have HH:=(uI I0).box.heap
 rw[hA] at HH
 obtain⟨c0,-,-,-,c4⟩:=(uI I0).box.own
 rw[hk] at c0
 rw[hh] at c4
 go_enter Tryz.func150,Tryz.ntmps150
 go_wp2_with (first|(refine wpList_boxTo rfl 103 (.tmp 1) rfl (some 4) rfl _ rfl A rfl ?_;rw[hW])|(refine wpList_load_row rfl 103 (.tmp 4) rfl w.heap.size rfl _ A _ _ HH Tryz.underlying103 rfl (by rw[uI hAs];exact Tryz.sizeStat) ?_))
 refine (uI HX _).mono ?_
 rintro e V0 ⟨rfl,k0⟩
 have I1:=zH ((uI I0).below k0)
 clear c0 c4 HH k0 I0
 obtain⟨c0,-,-,-,c4⟩:=(uI I1).box.own
 rw[hk] at c0
 rw[hh] at c4
 have HH:=(uI I1).box.heap
 rw[hA] at HH
 have hs0:w.heap.size<V0.heap.size:=(uI I1).box.lt
 obtain⟨p0,p1,p2,p3,p4,p5⟩:=(uI I1).box.exX
 have CA:=zH (in_X (uI I1) hc hd)
 have LE1:=zH (qa7 x.x d c hc)
 generalize lkE x.x d c=r1 at *
 obtain⟨er,n1⟩:=r1
 dsimp only at CA LE1 EQ
 go_wp2_with fail
 refine (uI CA).mono ?_
 rintro e V1 ⟨rfl,k1⟩
 have I2:=zH ((uI I1).next k1)
 clear c0 c4 HH k1 I1 CA p0 p1 p2 p3 p4 p5
 by_cases he1:er=0
 rotate_left
 ·have ee:(er==0)=false:=zBq he1
  have h2:=uI EQ
  rw[qan he1] at h2
  subst h2
  go_wp2_with fail
  go_ret
  exact⟨rfl,(uI I2).ctd⟩
 subst he1
 rw[qam] at EQ
 have hc1:=uI LE1 (by simp)
 obtain⟨c0,-,-,-,c4⟩:=(uI I2).box.own
 rw[hk] at c0
 rw[hh] at c4
 have HH:=(uI I2).box.heap
 rw[hA] at HH
 have hs1:w.heap.size<V1.heap.size:=(uI I2).box.lt
 have h2:=uI EQ
 subst h2
 go_wp2_with fail
 go_ret
 exact⟨rfl,(uI I2).ctd⟩
theorem lin_decl8_eq {x:Sm}(hk:x.k=8)(hh:x.has=true)(d c:Nat):lkI x d c=thn (lkE x.x d c) fun c=>(0,c):=by
 unfold lkI
 simp[hk,hh,qam,hasX]
theorem lin_decl8_hx {x:Sm}(hk:x.k=8)(hh:x.has=true):hasX x.k x.has=true:=by simp[hk,hh,hasX]
theorem lin_decl8 (x:Sm)(Q:Ihs x)(hk:x.k=8)(hh:x.has=true):LIn x:=by
 intro B lb c d v w hb hB hc hd hs hf
 have I0:=zH (In.begin hb hB hs hf)
 have HX:=zH (fun W=>qba x v W)
 rw[lin_decl8_hx hk hh] at HX
 have EQ:=zH (lin_decl8_eq hk hh d c)
 have hlb:=hb.1
 have hAs:=zH (qak x v)
 generalize lkI x d c=R at *
 clear hb hs hf
 generalize hA:smA x v=A at *
 generalize hW:w.alloc (.cells A 103)=W0 at *
 have hw0:w.heap.size<W0.heap.size:=(uI I0).box.lt
 have HH:=(uI I0).box.heap
 rw[hA] at HH
 obtain⟨c0,-,-,-,c4⟩:=(uI I0).box.own
 rw[hk] at c0
 rw[hh] at c4
 go_enter Tryz.func150,Tryz.ntmps150
 go_wp2_with (first|(refine wpList_boxTo rfl 103 (.tmp 1) rfl (some 4) rfl _ rfl A rfl ?_;rw[hW])|(refine wpList_load_row rfl 103 (.tmp 4) rfl w.heap.size rfl _ A _ _ HH Tryz.underlying103 rfl (by rw[uI hAs];exact Tryz.sizeStat) ?_))
 refine (uI HX _).mono ?_
 rintro e V0 ⟨rfl,k0⟩
 have I1:=zH ((uI I0).below k0)
 clear c0 c4 HH k0 I0
 obtain⟨c0,-,-,-,c4⟩:=(uI I1).box.own
 rw[hk] at c0
 rw[hh] at c4
 have HH:=(uI I1).box.heap
 rw[hA] at HH
 have hs0:w.heap.size<V0.heap.size:=(uI I1).box.lt
 obtain⟨p0,p1,p2,p3,p4,p5⟩:=(uI I1).box.exX
 have CA:=zH (in_X (uI I1) hc hd)
 have LE1:=zH (qa7 x.x d c hc)
 generalize lkE x.x d c=r1 at *
 obtain⟨er,n1⟩:=r1
 dsimp only at CA LE1 EQ
 go_wp2_with fail
 refine (uI CA).mono ?_
 rintro e V1 ⟨rfl,k1⟩
 have I2:=zH ((uI I1).next k1)
 clear c0 c4 HH k1 I1 CA p0 p1 p2 p3 p4 p5
 by_cases he1:er=0
 rotate_left
 ·have ee:(er==0)=false:=zBq he1
  have h2:=uI EQ
  rw[qan he1] at h2
  subst h2
  go_wp2_with fail
  go_ret
  exact⟨rfl,(uI I2).ctd⟩
 subst he1
 rw[qam] at EQ
 have hc1:=uI LE1 (by simp)
 obtain⟨c0,-,-,-,c4⟩:=(uI I2).box.own
 rw[hk] at c0
 rw[hh] at c4
 have HH:=(uI I2).box.heap
 rw[hA] at HH
 have hs1:w.heap.size<V1.heap.size:=(uI I2).box.lt
 have h2:=uI EQ
 subst h2
 go_wp2_with fail
 go_ret
 exact⟨rfl,(uI I2).ctd⟩
theorem lin_declNo2_eq {x:Sm}(hk:x.k=2)(hh:x.has=false)(d c:Nat):lkI x d c=(0,c):=by
 unfold lkI
 simp[hk,hh,qam,hasX]
theorem lin_declNo2_hx {x:Sm}(hk:x.k=2)(hh:x.has=false):hasX x.k x.has=false:=by simp[hk,hh,hasX]
theorem lin_declNo2 (x:Sm)(Q:Ihs x)(hk:x.k=2)(hh:x.has=false):LIn x:=by
 intro B lb c d v w hb hB hc hd hs hf
 have I0:=zH (In.begin hb hB hs hf)
 have HX:=zH (fun W=>qba x v W)
 rw[lin_declNo2_hx hk hh] at HX
 have EQ:=zH (lin_declNo2_eq hk hh d c)
 have hlb:=hb.1
 have hAs:=zH (qak x v)
 generalize lkI x d c=R at *
 clear hb hs hf
 generalize hA:smA x v=A at *
 generalize hW:w.alloc (.cells A 103)=W0 at *
 have hw0:w.heap.size<W0.heap.size:=(uI I0).box.lt
 have HH:=(uI I0).box.heap
 rw[hA] at HH
 obtain⟨c0,-,-,-,c4⟩:=(uI I0).box.own
 rw[hk] at c0
 rw[hh] at c4
 go_enter Tryz.func150,Tryz.ntmps150
 go_wp2_with (first|(refine wpList_boxTo rfl 103 (.tmp 1) rfl (some 4) rfl _ rfl A rfl ?_;rw[hW])|(refine wpList_load_row rfl 103 (.tmp 4) rfl w.heap.size rfl _ A _ _ HH Tryz.underlying103 rfl (by rw[uI hAs];exact Tryz.sizeStat) ?_))
 refine (uI HX _).mono ?_
 rintro e V0 ⟨rfl,k0⟩
 have I1:=zH ((uI I0).below k0)
 clear c0 c4 HH k0 I0
 obtain⟨c0,-,-,-,c4⟩:=(uI I1).box.own
 rw[hk] at c0
 rw[hh] at c4
 have HH:=(uI I1).box.heap
 rw[hA] at HH
 have hs0:w.heap.size<V0.heap.size:=(uI I1).box.lt
 have h2:=uI EQ
 subst h2
 go_wp2_with fail
 go_ret
 exact⟨rfl,(uI I1).ctd⟩
theorem lin_declNo8_eq {x:Sm}(hk:x.k=8)(hh:x.has=false)(d c:Nat):lkI x d c=(0,c):=by
 unfold lkI
 simp[hk,hh,qam,hasX]
theorem lin_declNo8_hx {x:Sm}(hk:x.k=8)(hh:x.has=false):hasX x.k x.has=false:=by simp[hk,hh,hasX]
theorem lin_declNo8 (x:Sm)(Q:Ihs x)(hk:x.k=8)(hh:x.has=false):LIn x:=by
 intro B lb c d v w hb hB hc hd hs hf
 have I0:=zH (In.begin hb hB hs hf)
 have HX:=zH (fun W=>qba x v W)
 rw[lin_declNo8_hx hk hh] at HX
 have EQ:=zH (lin_declNo8_eq hk hh d c)
 have hlb:=hb.1
 have hAs:=zH (qak x v)
 generalize lkI x d c=R at *
 clear hb hs hf
 generalize hA:smA x v=A at *
 generalize hW:w.alloc (.cells A 103)=W0 at *
 have hw0:w.heap.size<W0.heap.size:=(uI I0).box.lt
 have HH:=(uI I0).box.heap
 rw[hA] at HH
 obtain⟨c0,-,-,-,c4⟩:=(uI I0).box.own
 rw[hk] at c0
 rw[hh] at c4
 go_enter Tryz.func150,Tryz.ntmps150
 go_wp2_with (first|(refine wpList_boxTo rfl 103 (.tmp 1) rfl (some 4) rfl _ rfl A rfl ?_;rw[hW])|(refine wpList_load_row rfl 103 (.tmp 4) rfl w.heap.size rfl _ A _ _ HH Tryz.underlying103 rfl (by rw[uI hAs];exact Tryz.sizeStat) ?_))
 refine (uI HX _).mono ?_
 rintro e V0 ⟨rfl,k0⟩
 have I1:=zH ((uI I0).below k0)
 clear c0 c4 HH k0 I0
 obtain⟨c0,-,-,-,c4⟩:=(uI I1).box.own
 rw[hk] at c0
 rw[hh] at c4
 have HH:=(uI I1).box.heap
 rw[hA] at HH
 have hs0:w.heap.size<V0.heap.size:=(uI I1).box.lt
 have h2:=uI EQ
 subst h2
 go_wp2_with fail
 go_ret
 exact⟨rfl,(uI I1).ctd⟩
theorem lin_setI3_eq {x:Sm}(hk:x.k=3)(hh:x.has=true)(d c:Nat):lkI x d c=thn (lkE x.i d c) fun c=>thn (lkE x.x d c) fun c=>(0,c):=by
 unfold lkI
 simp[hk,hh,qam,hasX]
theorem lin_setI3_hx {x:Sm}(hk:x.k=3)(hh:x.has=true):hasX x.k x.has=true:=by simp[hk,hh,hasX]
theorem lin_setI3 (x:Sm)(Q:Ihs x)(hk:x.k=3)(hh:x.has=true):LIn x:=by
 intro B lb c d v w hb hB hc hd hs hf
 have I0:=zH (In.begin hb hB hs hf)
 have HX:=zH (fun W=>qba x v W)
 rw[lin_setI3_hx hk hh] at HX
 have EQ:=zH (lin_setI3_eq hk hh d c)
 have hlb:=hb.1
 have hAs:=zH (qak x v)
 generalize lkI x d c=R at *
 clear hb hs hf
 generalize hA:smA x v=A at *
 generalize hW:w.alloc (.cells A 103)=W0 at *
 have hw0:w.heap.size<W0.heap.size:=(uI I0).box.lt
 have HH:=(uI I0).box.heap
 rw[hA] at HH
 obtain⟨c0,-,-,-,c4⟩:=(uI I0).box.own
 rw[hk] at c0
 rw[hh] at c4
 go_enter Tryz.func150,Tryz.ntmps150
 obtain⟨p0,p1,p2,p3,p4,p5⟩:=(uI I0).box.exI
 have CA:=zH (in_I (uI I0) hc hd)
 have LE0:=zH (qa7 x.i d c hc)
 generalize lkE x.i d c=r0 at *
 obtain⟨er,n0⟩:=r0
 dsimp only at CA LE0 EQ
 go_wp2_with (first|(refine wpList_boxTo rfl 103 (.tmp 1) rfl (some 4) rfl _ rfl A rfl ?_;rw[hW]))
 refine (uI CA).mono ?_
 rintro e V0 ⟨rfl,k0⟩
 have I1:=zH ((uI I0).next k0)
 clear c0 c4 HH k0 I0 CA p0 p1 p2 p3 p4 p5
 by_cases he0:er=0
 rotate_left
 ·have ee:(er==0)=false:=zBq he0
  have h2:=uI EQ
  rw[qan he0] at h2
  subst h2
  go_wp2_with fail
  go_ret
  exact⟨rfl,(uI I1).ctd⟩
 subst he0
 rw[qam] at EQ
 have hc0:=uI LE0 (by simp)
 obtain⟨c0,-,-,-,c4⟩:=(uI I1).box.own
 rw[hk] at c0
 rw[hh] at c4
 have HH:=(uI I1).box.heap
 rw[hA] at HH
 have hs0:w.heap.size<V0.heap.size:=(uI I1).box.lt
 go_wp2_with (first|(refine wpList_load_row rfl 103 (.tmp 4) rfl w.heap.size rfl _ A _ _ HH Tryz.underlying103 rfl (by rw[uI hAs];exact Tryz.sizeStat) ?_))
 refine (uI HX _).mono ?_
 rintro e V1 ⟨rfl,k1⟩
 have I2:=zH ((uI I1).below k1)
 clear c0 c4 HH k1 I1
 obtain⟨c0,-,-,-,c4⟩:=(uI I2).box.own
 rw[hk] at c0
 rw[hh] at c4
 have HH:=(uI I2).box.heap
 rw[hA] at HH
 have hs1:w.heap.size<V1.heap.size:=(uI I2).box.lt
 obtain⟨p0,p1,p2,p3,p4,p5⟩:=(uI I2).box.exX
 have CA:=zH (in_X (uI I2) hc0 hd)
 have LE2:=zH (qa7 x.x d n0 hc0)
 generalize lkE x.x d n0=r2 at *
 obtain⟨er,n2⟩:=r2
 dsimp only at CA LE2 EQ
 go_wp2_with fail
 refine (uI CA).mono ?_
 rintro e V2 ⟨rfl,k2⟩
 have I3:=zH ((uI I2).next k2)
 clear c0 c4 HH k2 I2 CA p0 p1 p2 p3 p4 p5
 by_cases he2:er=0
 rotate_left
 ·have ee:(er==0)=false:=zBq he2
  have h2:=uI EQ
  rw[qan he2] at h2
  subst h2
  go_wp2_with fail
  go_ret
  exact⟨rfl,(uI I3).ctd⟩
 subst he2
 rw[qam] at EQ
 have hc2:=uI LE2 (by simp)
 obtain⟨c0,-,-,-,c4⟩:=(uI I3).box.own
 rw[hk] at c0
 rw[hh] at c4
 have HH:=(uI I3).box.heap
 rw[hA] at HH
 have hs2:w.heap.size<V2.heap.size:=(uI I3).box.lt
 have h2:=uI EQ
 subst h2
 go_wp2_with fail
 go_ret
 exact⟨rfl,(uI I3).ctd⟩
theorem lin_set3_eq {x:Sm}(hk:x.k=3)(hh:x.has=false)(d c:Nat):lkI x d c=thn (lkE x.x d c) fun c=>(0,c):=by
 unfold lkI
 simp[hk,hh,qam,hasX]
theorem lin_set3_hx {x:Sm}(hk:x.k=3)(hh:x.has=false):hasX x.k x.has=true:=by simp[hk,hh,hasX]
theorem lin_set3 (x:Sm)(Q:Ihs x)(hk:x.k=3)(hh:x.has=false):LIn x:=by
 intro B lb c d v w hb hB hc hd hs hf
 have I0:=zH (In.begin hb hB hs hf)
 have HX:=zH (fun W=>qba x v W)
 rw[lin_set3_hx hk hh] at HX
 have EQ:=zH (lin_set3_eq hk hh d c)
 have hlb:=hb.1
 have hAs:=zH (qak x v)
 generalize lkI x d c=R at *
 clear hb hs hf
 generalize hA:smA x v=A at *
 generalize hW:w.alloc (.cells A 103)=W0 at *
 have hw0:w.heap.size<W0.heap.size:=(uI I0).box.lt
 have HH:=(uI I0).box.heap
 rw[hA] at HH
 obtain⟨c0,-,-,-,c4⟩:=(uI I0).box.own
 rw[hk] at c0
 rw[hh] at c4
 go_enter Tryz.func150,Tryz.ntmps150
 go_wp2_with (first|(refine wpList_boxTo rfl 103 (.tmp 1) rfl (some 4) rfl _ rfl A rfl ?_;rw[hW])|(refine wpList_load_row rfl 103 (.tmp 4) rfl w.heap.size rfl _ A _ _ HH Tryz.underlying103 rfl (by rw[uI hAs];exact Tryz.sizeStat) ?_))
 refine (uI HX _).mono ?_
 rintro e V0 ⟨rfl,k0⟩
 have I1:=zH ((uI I0).below k0)
 clear c0 c4 HH k0 I0
 obtain⟨c0,-,-,-,c4⟩:=(uI I1).box.own
 rw[hk] at c0
 rw[hh] at c4
 have HH:=(uI I1).box.heap
 rw[hA] at HH
 have hs0:w.heap.size<V0.heap.size:=(uI I1).box.lt
 obtain⟨p0,p1,p2,p3,p4,p5⟩:=(uI I1).box.exX
 have CA:=zH (in_X (uI I1) hc hd)
 have LE1:=zH (qa7 x.x d c hc)
 generalize lkE x.x d c=r1 at *
 obtain⟨er,n1⟩:=r1
 dsimp only at CA LE1 EQ
 go_wp2_with fail
 refine (uI CA).mono ?_
 rintro e V1 ⟨rfl,k1⟩
 have I2:=zH ((uI I1).next k1)
 clear c0 c4 HH k1 I1 CA p0 p1 p2 p3 p4 p5
 by_cases he1:er=0
 rotate_left
 ·have ee:(er==0)=false:=zBq he1
  have h2:=uI EQ
  rw[qan he1] at h2
  subst h2
  go_wp2_with fail
  go_ret
  exact⟨rfl,(uI I2).ctd⟩
 subst he1
 rw[qam] at EQ
 have hc1:=uI LE1 (by simp)
 obtain⟨c0,-,-,-,c4⟩:=(uI I2).box.own
 rw[hk] at c0
 rw[hh] at c4
 have HH:=(uI I2).box.heap
 rw[hA] at HH
 have hs1:w.heap.size<V1.heap.size:=(uI I2).box.lt
 have h2:=uI EQ
 subst h2
 go_wp2_with fail
 go_ret
 exact⟨rfl,(uI I2).ctd⟩
theorem lin_expr4_eq {x:Sm}(hk:x.k=4)(d c:Nat):lkI x d c=thn (lkE x.x d c) fun c=>(0,c):=by
 unfold lkI
 simp[hk,qam,hasX]
theorem lin_expr4_hx {x:Sm}(hk:x.k=4):hasX x.k x.has=true:=by simp[hk,hasX]
theorem lin_expr4 (x:Sm)(Q:Ihs x)(hk:x.k=4):LIn x:=by
 intro B lb c d v w hb hB hc hd hs hf
 have I0:=zH (In.begin hb hB hs hf)
 have HX:=zH (fun W=>qba x v W)
 rw[lin_expr4_hx hk] at HX
 have EQ:=zH (lin_expr4_eq hk d c)
 have hlb:=hb.1
 have hAs:=zH (qak x v)
 generalize lkI x d c=R at *
 clear hb hs hf
 generalize hA:smA x v=A at *
 generalize hW:w.alloc (.cells A 103)=W0 at *
 have hw0:w.heap.size<W0.heap.size:=(uI I0).box.lt
 have HH:=(uI I0).box.heap
 rw[hA] at HH
 obtain⟨c0,-,-,-,c4⟩:=(uI I0).box.own
 rw[hk] at c0
 go_enter Tryz.func150,Tryz.ntmps150
 go_wp2_with (first|(refine wpList_boxTo rfl 103 (.tmp 1) rfl (some 4) rfl _ rfl A rfl ?_;rw[hW])|(refine wpList_load_row rfl 103 (.tmp 4) rfl w.heap.size rfl _ A _ _ HH Tryz.underlying103 rfl (by rw[uI hAs];exact Tryz.sizeStat) ?_))
 refine (uI HX _).mono ?_
 rintro e V0 ⟨rfl,k0⟩
 have I1:=zH ((uI I0).below k0)
 clear c0 c4 HH k0 I0
 obtain⟨c0,-,-,-,c4⟩:=(uI I1).box.own
 rw[hk] at c0
 have HH:=(uI I1).box.heap
 rw[hA] at HH
 have hs0:w.heap.size<V0.heap.size:=(uI I1).box.lt
 obtain⟨p0,p1,p2,p3,p4,p5⟩:=(uI I1).box.exX
 have CA:=zH (in_X (uI I1) hc hd)
 have LE1:=zH (qa7 x.x d c hc)
 generalize lkE x.x d c=r1 at *
 obtain⟨er,n1⟩:=r1
 dsimp only at CA LE1 EQ
 go_wp2_with fail
 refine (uI CA).mono ?_
 rintro e V1 ⟨rfl,k1⟩
 have I2:=zH ((uI I1).next k1)
 clear c0 c4 HH k1 I1 CA p0 p1 p2 p3 p4 p5
 by_cases he1:er=0
 rotate_left
 ·have ee:(er==0)=false:=zBq he1
  have h2:=uI EQ
  rw[qan he1] at h2
  subst h2
  go_wp2_with fail
  go_ret
  exact⟨rfl,(uI I2).ctd⟩
 subst he1
 rw[qam] at EQ
 have hc1:=uI LE1 (by simp)
 obtain⟨c0,-,-,-,c4⟩:=(uI I2).box.own
 rw[hk] at c0
 have HH:=(uI I2).box.heap
 rw[hA] at HH
 have hs1:w.heap.size<V1.heap.size:=(uI I2).box.lt
 have h2:=uI EQ
 subst h2
 go_wp2_with fail
 go_ret
 exact⟨rfl,(uI I2).ctd⟩
theorem lin_if5_eq {x:Sm}(hk:x.k=5)(d c:Nat):lkI x d c=thn (lkE x.x d c) fun c=>thn (lkSs x.body d c) fun c=>lkSs x.els d c:=by
 unfold lkI
 simp[hk,qam,hasX]
theorem lin_if5_hx {x:Sm}(hk:x.k=5):hasX x.k x.has=true:=by simp[hk,hasX]
theorem lin_if5 (x:Sm)(Q:Ihs x)(hk:x.k=5):LIn x:=by
 intro B lb c d v w hb hB hc hd hs hf
 have I0:=zH (In.begin hb hB hs hf)
 have HX:=zH (fun W=>qba x v W)
 rw[lin_if5_hx hk] at HX
 have EQ:=zH (lin_if5_eq hk d c)
 have hlb:=hb.1
 have hAs:=zH (qak x v)
 generalize lkI x d c=R at *
 clear hb hs hf
 generalize hA:smA x v=A at *
 generalize hW:w.alloc (.cells A 103)=W0 at *
 have hw0:w.heap.size<W0.heap.size:=(uI I0).box.lt
 have HH:=(uI I0).box.heap
 rw[hA] at HH
 obtain⟨c0,-,-,-,c4⟩:=(uI I0).box.own
 rw[hk] at c0
 go_enter Tryz.func150,Tryz.ntmps150
 go_wp2_with (first|(refine wpList_boxTo rfl 103 (.tmp 1) rfl (some 4) rfl _ rfl A rfl ?_;rw[hW])|(refine wpList_load_row rfl 103 (.tmp 4) rfl w.heap.size rfl _ A _ _ HH Tryz.underlying103 rfl (by rw[uI hAs];exact Tryz.sizeStat) ?_))
 refine (uI HX _).mono ?_
 rintro e V0 ⟨rfl,k0⟩
 have I1:=zH ((uI I0).below k0)
 clear c0 c4 HH k0 I0
 obtain⟨c0,-,-,-,c4⟩:=(uI I1).box.own
 rw[hk] at c0
 have HH:=(uI I1).box.heap
 rw[hA] at HH
 have hs0:w.heap.size<V0.heap.size:=(uI I1).box.lt
 obtain⟨p0,p1,p2,p3,p4,p5⟩:=(uI I1).box.exX
 have CA:=zH (in_X (uI I1) hc hd)
 have LE1:=zH (qa7 x.x d c hc)
 generalize lkE x.x d c=r1 at *
 obtain⟨er,n1⟩:=r1
 dsimp only at CA LE1 EQ
 go_wp2_with fail
 refine (uI CA).mono ?_
 rintro e V1 ⟨rfl,k1⟩
 have I2:=zH ((uI I1).next k1)
 clear c0 c4 HH k1 I1 CA p0 p1 p2 p3 p4 p5
 by_cases he1:er=0
 rotate_left
 ·have ee:(er==0)=false:=zBq he1
  have h2:=uI EQ
  rw[qan he1] at h2
  subst h2
  go_wp2_with fail
  go_ret
  exact⟨rfl,(uI I2).ctd⟩
 subst he1
 rw[qam] at EQ
 have hc1:=uI LE1 (by simp)
 obtain⟨c0,-,-,-,c4⟩:=(uI I2).box.own
 rw[hk] at c0
 have HH:=(uI I2).box.heap
 rw[hA] at HH
 have hs1:w.heap.size<V1.heap.size:=(uI I2).box.lt
 obtain⟨p0,p1,p2,p3⟩:=(uI I2).box.lists
 have CA:=zH (in_body (uI I2) Q hc1 hd)
 have LE2:=zH (qbe (xs:=x.body) (fun y _=>qa0 y) d n1 hc1)
 generalize lkSs x.body d n1=r2 at *
 obtain⟨er,n2⟩:=r2
 dsimp only at CA LE2 EQ
 go_wp2_with fail
 refine (uI CA).mono ?_
 rintro e V2 ⟨rfl,k2⟩
 have I3:=zH ((uI I2).next k2)
 clear c0 c4 HH k2 I2 CA p0 p1 p2 p3
 by_cases he2:er=0
 rotate_left
 ·have ee:(er==0)=false:=zBq he2
  have h2:=uI EQ
  rw[qan he2] at h2
  subst h2
  go_wp2_with fail
  go_ret
  exact⟨rfl,(uI I3).ctd⟩
 subst he2
 rw[qam] at EQ
 have hc2:=uI LE2 (by simp)
 obtain⟨c0,-,-,-,c4⟩:=(uI I3).box.own
 rw[hk] at c0
 have HH:=(uI I3).box.heap
 rw[hA] at HH
 have hs2:w.heap.size<V2.heap.size:=(uI I3).box.lt
 obtain⟨p0,p1,p2,p3⟩:=(uI I3).box.lists
 have CA:=zH (in_els (uI I3) Q hc2 hd)
 have LE3:=zH (qbe (xs:=x.els) (fun y _=>qa0 y) d n2 hc2)
 generalize lkSs x.els d n2=r3 at *
 obtain⟨er,n3⟩:=r3
 dsimp only at CA LE3 EQ
 go_wp2_with fail
 refine (uI CA).mono ?_
 rintro e V3 ⟨rfl,k3⟩
 have I4:=zH ((uI I3).next k3)
 clear c0 c4 HH k3 I3 CA p0 p1 p2 p3
 have h2:=uI EQ
 subst h2
 go_wp2_with fail
 go_ret
 exact⟨rfl,(uI I4).ctd⟩
theorem lin_while6_eq {x:Sm}(hk:x.k=6)(d c:Nat):lkI x d c=thn (lkE x.x d c) fun c=>lkSs x.body d c:=by
 unfold lkI
 simp[hk,qam,hasX]
theorem lin_while6_hx {x:Sm}(hk:x.k=6):hasX x.k x.has=true:=by simp[hk,hasX]
theorem lin_while6 (x:Sm)(Q:Ihs x)(hk:x.k=6):LIn x:=by
 intro B lb c d v w hb hB hc hd hs hf
 have I0:=zH (In.begin hb hB hs hf)
 have HX:=zH (fun W=>qba x v W)
 rw[lin_while6_hx hk] at HX
 have EQ:=zH (lin_while6_eq hk d c)
 have hlb:=hb.1
 have hAs:=zH (qak x v)
 generalize lkI x d c=R at *
 clear hb hs hf
 generalize hA:smA x v=A at *
 generalize hW:w.alloc (.cells A 103)=W0 at *
 have hw0:w.heap.size<W0.heap.size:=(uI I0).box.lt
 have HH:=(uI I0).box.heap
 rw[hA] at HH
 obtain⟨c0,-,-,-,c4⟩:=(uI I0).box.own
 rw[hk] at c0
 go_enter Tryz.func150,Tryz.ntmps150
 go_wp2_with (first|(refine wpList_boxTo rfl 103 (.tmp 1) rfl (some 4) rfl _ rfl A rfl ?_;rw[hW])|(refine wpList_load_row rfl 103 (.tmp 4) rfl w.heap.size rfl _ A _ _ HH Tryz.underlying103 rfl (by rw[uI hAs];exact Tryz.sizeStat) ?_))
 refine (uI HX _).mono ?_
 rintro e V0 ⟨rfl,k0⟩
 have I1:=zH ((uI I0).below k0)
 clear c0 c4 HH k0 I0
 obtain⟨c0,-,-,-,c4⟩:=(uI I1).box.own
 rw[hk] at c0
 have HH:=(uI I1).box.heap
 rw[hA] at HH
 have hs0:w.heap.size<V0.heap.size:=(uI I1).box.lt
 obtain⟨p0,p1,p2,p3,p4,p5⟩:=(uI I1).box.exX
 have CA:=zH (in_X (uI I1) hc hd)
 have LE1:=zH (qa7 x.x d c hc)
 generalize lkE x.x d c=r1 at *
 obtain⟨er,n1⟩:=r1
 dsimp only at CA LE1 EQ
 go_wp2_with fail
 refine (uI CA).mono ?_
 rintro e V1 ⟨rfl,k1⟩
 have I2:=zH ((uI I1).next k1)
 clear c0 c4 HH k1 I1 CA p0 p1 p2 p3 p4 p5
 by_cases he1:er=0
 rotate_left
 ·have ee:(er==0)=false:=zBq he1
  have h2:=uI EQ
  rw[qan he1] at h2
  subst h2
  go_wp2_with fail
  go_ret
  exact⟨rfl,(uI I2).ctd⟩
 subst he1
 rw[qam] at EQ
 have hc1:=uI LE1 (by simp)
 obtain⟨c0,-,-,-,c4⟩:=(uI I2).box.own
 rw[hk] at c0
 have HH:=(uI I2).box.heap
 rw[hA] at HH
 have hs1:w.heap.size<V1.heap.size:=(uI I2).box.lt
 obtain⟨p0,p1,p2,p3⟩:=(uI I2).box.lists
 have CA:=zH (in_body (uI I2) Q hc1 hd)
 have LE2:=zH (qbe (xs:=x.body) (fun y _=>qa0 y) d n1 hc1)
 generalize lkSs x.body d n1=r2 at *
 obtain⟨er,n2⟩:=r2
 dsimp only at CA LE2 EQ
 go_wp2_with fail
 refine (uI CA).mono ?_
 rintro e V2 ⟨rfl,k2⟩
 have I3:=zH ((uI I2).next k2)
 clear c0 c4 HH k2 I2 CA p0 p1 p2 p3
 have h2:=uI EQ
 subst h2
 go_wp2_with fail
 go_ret
 exact⟨rfl,(uI I3).ctd⟩
theorem lin_for7_eq {x:Sm}(hk:x.k=7)(hh:x.has=true)(d c:Nat):lkI x d c=thn (lkB x.init d c) fun c=>thn (lkE x.x d c) fun c=>thn (lkB x.step d c) fun c=>lkSs x.body d c:=by
 unfold lkI
 simp[hk,hh,qam,hasX]
theorem lin_for7_hx {x:Sm}(hk:x.k=7)(hh:x.has=true):hasX x.k x.has=true:=by simp[hk,hh,hasX]
theorem lin_for7 (x:Sm)(Q:Ihs x)(hk:x.k=7)(hh:x.has=true):LIn x:=by
 intro B lb c d v w hb hB hc hd hs hf
 have I0:=zH (In.begin hb hB hs hf)
 have HX:=zH (fun W=>qba x v W)
 rw[lin_for7_hx hk hh] at HX
 have EQ:=zH (lin_for7_eq hk hh d c)
 have hlb:=hb.1
 have hAs:=zH (qak x v)
 generalize lkI x d c=R at *
 clear hb hs hf
 generalize hA:smA x v=A at *
 generalize hW:w.alloc (.cells A 103)=W0 at *
 have hw0:w.heap.size<W0.heap.size:=(uI I0).box.lt
 have HH:=(uI I0).box.heap
 rw[hA] at HH
 obtain⟨c0,-,-,-,c4⟩:=(uI I0).box.own
 rw[hk] at c0
 rw[hh] at c4
 go_enter Tryz.func150,Tryz.ntmps150
 obtain⟨p0,p1,p2,p3⟩:=(uI I0).box.lists
 have CA:=zH (in_init (uI I0) Q hc hd)
 have LE0:=zH (lkB_le (xs:=x.init) (fun y _=>qa0 y) d c hc)
 generalize lkB x.init d c=r0 at *
 obtain⟨er,n0⟩:=r0
 dsimp only at CA LE0 EQ
 go_wp2_with (first|(refine wpList_boxTo rfl 103 (.tmp 1) rfl (some 4) rfl _ rfl A rfl ?_;rw[hW]))
 refine (uI CA).mono ?_
 rintro e V0 ⟨rfl,k0⟩
 have I1:=zH ((uI I0).next k0)
 clear c0 c4 HH k0 I0 CA p0 p1 p2 p3
 by_cases he0:er=0
 rotate_left
 ·have ee:(er==0)=false:=zBq he0
  have h2:=uI EQ
  rw[qan he0] at h2
  subst h2
  go_wp2_with fail
  go_ret
  exact⟨rfl,(uI I1).ctd⟩
 subst he0
 rw[qam] at EQ
 have hc0:=uI LE0 (by simp)
 obtain⟨c0,-,-,-,c4⟩:=(uI I1).box.own
 rw[hk] at c0
 rw[hh] at c4
 have HH:=(uI I1).box.heap
 rw[hA] at HH
 have hs0:w.heap.size<V0.heap.size:=(uI I1).box.lt
 go_wp2_with (first|(refine wpList_load_row rfl 103 (.tmp 4) rfl w.heap.size rfl _ A _ _ HH Tryz.underlying103 rfl (by rw[uI hAs];exact Tryz.sizeStat) ?_))
 refine (uI HX _).mono ?_
 rintro e V1 ⟨rfl,k1⟩
 have I2:=zH ((uI I1).below k1)
 clear c0 c4 HH k1 I1
 obtain⟨c0,-,-,-,c4⟩:=(uI I2).box.own
 rw[hk] at c0
 rw[hh] at c4
 have HH:=(uI I2).box.heap
 rw[hA] at HH
 have hs1:w.heap.size<V1.heap.size:=(uI I2).box.lt
 obtain⟨p0,p1,p2,p3,p4,p5⟩:=(uI I2).box.exX
 have CA:=zH (in_X (uI I2) hc0 hd)
 have LE2:=zH (qa7 x.x d n0 hc0)
 generalize lkE x.x d n0=r2 at *
 obtain⟨er,n2⟩:=r2
 dsimp only at CA LE2 EQ
 go_wp2_with fail
 refine (uI CA).mono ?_
 rintro e V2 ⟨rfl,k2⟩
 have I3:=zH ((uI I2).next k2)
 clear c0 c4 HH k2 I2 CA p0 p1 p2 p3 p4 p5
 by_cases he2:er=0
 rotate_left
 ·have ee:(er==0)=false:=zBq he2
  have h2:=uI EQ
  rw[qan he2] at h2
  subst h2
  go_wp2_with fail
  go_ret
  exact⟨rfl,(uI I3).ctd⟩
 subst he2
 rw[qam] at EQ
 have hc2:=uI LE2 (by simp)
 obtain⟨c0,-,-,-,c4⟩:=(uI I3).box.own
 rw[hk] at c0
 rw[hh] at c4
 have HH:=(uI I3).box.heap
 rw[hA] at HH
 have hs2:w.heap.size<V2.heap.size:=(uI I3).box.lt
 obtain⟨p0,p1,p2,p3⟩:=(uI I3).box.lists
 have CA:=zH (in_step (uI I3) Q hc2 hd)
 have LE3:=zH (lkB_le (xs:=x.step) (fun y _=>qa0 y) d n2 hc2)
 generalize lkB x.step d n2=r3 at *
 obtain⟨er,n3⟩:=r3
 dsimp only at CA LE3 EQ
 go_wp2_with fail
 refine (uI CA).mono ?_
 rintro e V3 ⟨rfl,k3⟩
 have I4:=zH ((uI I3).next k3)
 clear c0 c4 HH k3 I3 CA p0 p1 p2 p3
 by_cases he3:er=0
 rotate_left
 ·have ee:(er==0)=false:=zBq he3
  have h2:=uI EQ
  rw[qan he3] at h2
  subst h2
  go_wp2_with fail
  go_ret
  exact⟨rfl,(uI I4).ctd⟩
 subst he3
 rw[qam] at EQ
 have hc3:=uI LE3 (by simp)
 obtain⟨c0,-,-,-,c4⟩:=(uI I4).box.own
 rw[hk] at c0
 rw[hh] at c4
 have HH:=(uI I4).box.heap
 rw[hA] at HH
 have hs3:w.heap.size<V3.heap.size:=(uI I4).box.lt
 obtain⟨p0,p1,p2,p3⟩:=(uI I4).box.lists
 have CA:=zH (in_body (uI I4) Q hc3 hd)
 have LE4:=zH (qbe (xs:=x.body) (fun y _=>qa0 y) d n3 hc3)
 generalize lkSs x.body d n3=r4 at *
 obtain⟨er,n4⟩:=r4
 dsimp only at CA LE4 EQ
 go_wp2_with fail
 refine (uI CA).mono ?_
 rintro e V4 ⟨rfl,k4⟩
 have I5:=zH ((uI I4).next k4)
 clear c0 c4 HH k4 I4 CA p0 p1 p2 p3
 have h2:=uI EQ
 subst h2
 go_wp2_with fail
 go_ret
 exact⟨rfl,(uI I5).ctd⟩
theorem lin_forNo7_eq {x:Sm}(hk:x.k=7)(hh:x.has=false)(d c:Nat):lkI x d c=thn (lkB x.init d c) fun c=>thn (lkB x.step d c) fun c=>lkSs x.body d c:=by
 unfold lkI
 simp[hk,hh,qam,hasX]
theorem lin_forNo7_hx {x:Sm}(hk:x.k=7)(hh:x.has=false):hasX x.k x.has=false:=by simp[hk,hh,hasX]
theorem lin_forNo7 (x:Sm)(Q:Ihs x)(hk:x.k=7)(hh:x.has=false):LIn x:=by
 intro B lb c d v w hb hB hc hd hs hf
 have I0:=zH (In.begin hb hB hs hf)
 have HX:=zH (fun W=>qba x v W)
 rw[lin_forNo7_hx hk hh] at HX
 have EQ:=zH (lin_forNo7_eq hk hh d c)
 have hlb:=hb.1
 have hAs:=zH (qak x v)
 generalize lkI x d c=R at *
 clear hb hs hf
 generalize hA:smA x v=A at *
 generalize hW:w.alloc (.cells A 103)=W0 at *
 have hw0:w.heap.size<W0.heap.size:=(uI I0).box.lt
 have HH:=(uI I0).box.heap
 rw[hA] at HH
 obtain⟨c0,-,-,-,c4⟩:=(uI I0).box.own
 rw[hk] at c0
 rw[hh] at c4
 go_enter Tryz.func150,Tryz.ntmps150
 obtain⟨p0,p1,p2,p3⟩:=(uI I0).box.lists
 have CA:=zH (in_init (uI I0) Q hc hd)
 have LE0:=zH (lkB_le (xs:=x.init) (fun y _=>qa0 y) d c hc)
 generalize lkB x.init d c=r0 at *
 obtain⟨er,n0⟩:=r0
 dsimp only at CA LE0 EQ
 go_wp2_with (first|(refine wpList_boxTo rfl 103 (.tmp 1) rfl (some 4) rfl _ rfl A rfl ?_;rw[hW]))
 refine (uI CA).mono ?_
 rintro e V0 ⟨rfl,k0⟩
 have I1:=zH ((uI I0).next k0)
 clear c0 c4 HH k0 I0 CA p0 p1 p2 p3
 by_cases he0:er=0
 rotate_left
 ·have ee:(er==0)=false:=zBq he0
  have h2:=uI EQ
  rw[qan he0] at h2
  subst h2
  go_wp2_with fail
  go_ret
  exact⟨rfl,(uI I1).ctd⟩
 subst he0
 rw[qam] at EQ
 have hc0:=uI LE0 (by simp)
 obtain⟨c0,-,-,-,c4⟩:=(uI I1).box.own
 rw[hk] at c0
 rw[hh] at c4
 have HH:=(uI I1).box.heap
 rw[hA] at HH
 have hs0:w.heap.size<V0.heap.size:=(uI I1).box.lt
 go_wp2_with (first|(refine wpList_load_row rfl 103 (.tmp 4) rfl w.heap.size rfl _ A _ _ HH Tryz.underlying103 rfl (by rw[uI hAs];exact Tryz.sizeStat) ?_))
 refine (uI HX _).mono ?_
 rintro e V1 ⟨rfl,k1⟩
 have I2:=zH ((uI I1).below k1)
 clear c0 c4 HH k1 I1
 obtain⟨c0,-,-,-,c4⟩:=(uI I2).box.own
 rw[hk] at c0
 rw[hh] at c4
 have HH:=(uI I2).box.heap
 rw[hA] at HH
 have hs1:w.heap.size<V1.heap.size:=(uI I2).box.lt
 obtain⟨p0,p1,p2,p3⟩:=(uI I2).box.lists
 have CA:=zH (in_step (uI I2) Q hc0 hd)
 have LE2:=zH (lkB_le (xs:=x.step) (fun y _=>qa0 y) d n0 hc0)
 generalize lkB x.step d n0=r2 at *
 obtain⟨er,n2⟩:=r2
 dsimp only at CA LE2 EQ
 go_wp2_with fail
 refine (uI CA).mono ?_
 rintro e V2 ⟨rfl,k2⟩
 have I3:=zH ((uI I2).next k2)
 clear c0 c4 HH k2 I2 CA p0 p1 p2 p3
 by_cases he2:er=0
 rotate_left
 ·have ee:(er==0)=false:=zBq he2
  have h2:=uI EQ
  rw[qan he2] at h2
  subst h2
  go_wp2_with fail
  go_ret
  exact⟨rfl,(uI I3).ctd⟩
 subst he2
 rw[qam] at EQ
 have hc2:=uI LE2 (by simp)
 obtain⟨c0,-,-,-,c4⟩:=(uI I3).box.own
 rw[hk] at c0
 rw[hh] at c4
 have HH:=(uI I3).box.heap
 rw[hA] at HH
 have hs2:w.heap.size<V2.heap.size:=(uI I3).box.lt
 obtain⟨p0,p1,p2,p3⟩:=(uI I3).box.lists
 have CA:=zH (in_body (uI I3) Q hc2 hd)
 have LE3:=zH (qbe (xs:=x.body) (fun y _=>qa0 y) d n2 hc2)
 generalize lkSs x.body d n2=r3 at *
 obtain⟨er,n3⟩:=r3
 dsimp only at CA LE3 EQ
 go_wp2_with fail
 refine (uI CA).mono ?_
 rintro e V3 ⟨rfl,k3⟩
 have I4:=zH ((uI I3).next k3)
 clear c0 c4 HH k3 I3 CA p0 p1 p2 p3
 have h2:=uI EQ
 subst h2
 go_wp2_with fail
 go_ret
 exact⟨rfl,(uI I4).ctd⟩
theorem lin_block11_eq {x:Sm}(hk:x.k=11)(d c:Nat):lkI x d c=lkSs x.body d c:=by
 unfold lkI
 simp[hk,qam,hasX]
theorem lin_block11_hx {x:Sm}(hk:x.k=11):hasX x.k x.has=false:=by simp[hk,hasX]
theorem lin_block11 (x:Sm)(Q:Ihs x)(hk:x.k=11):LIn x:=by
 intro B lb c d v w hb hB hc hd hs hf
 have I0:=zH (In.begin hb hB hs hf)
 have HX:=zH (fun W=>qba x v W)
 rw[lin_block11_hx hk] at HX
 have EQ:=zH (lin_block11_eq hk d c)
 have hlb:=hb.1
 have hAs:=zH (qak x v)
 generalize lkI x d c=R at *
 clear hb hs hf
 generalize hA:smA x v=A at *
 generalize hW:w.alloc (.cells A 103)=W0 at *
 have hw0:w.heap.size<W0.heap.size:=(uI I0).box.lt
 have HH:=(uI I0).box.heap
 rw[hA] at HH
 obtain⟨c0,-,-,-,c4⟩:=(uI I0).box.own
 rw[hk] at c0
 go_enter Tryz.func150,Tryz.ntmps150
 go_wp2_with (first|(refine wpList_boxTo rfl 103 (.tmp 1) rfl (some 4) rfl _ rfl A rfl ?_;rw[hW])|(refine wpList_load_row rfl 103 (.tmp 4) rfl w.heap.size rfl _ A _ _ HH Tryz.underlying103 rfl (by rw[uI hAs];exact Tryz.sizeStat) ?_))
 refine (uI HX _).mono ?_
 rintro e V0 ⟨rfl,k0⟩
 have I1:=zH ((uI I0).below k0)
 clear c0 c4 HH k0 I0
 obtain⟨c0,-,-,-,c4⟩:=(uI I1).box.own
 rw[hk] at c0
 have HH:=(uI I1).box.heap
 rw[hA] at HH
 have hs0:w.heap.size<V0.heap.size:=(uI I1).box.lt
 obtain⟨p0,p1,p2,p3⟩:=(uI I1).box.lists
 have CA:=zH (in_body (uI I1) Q hc hd)
 have LE1:=zH (qbe (xs:=x.body) (fun y _=>qa0 y) d c hc)
 generalize lkSs x.body d c=r1 at *
 obtain⟨er,n1⟩:=r1
 dsimp only at CA LE1 EQ
 go_wp2_with fail
 refine (uI CA).mono ?_
 rintro e V1 ⟨rfl,k1⟩
 have I2:=zH ((uI I1).next k1)
 clear c0 c4 HH k1 I1 CA p0 p1 p2 p3
 have h2:=uI EQ
 subst h2
 go_wp2_with fail
 go_ret
 exact⟨rfl,(uI I2).ctd⟩
theorem lin_any (x:Sm)(Q:Ihs x)(h1:1≤x.k)(h2:x.k≤11):LIn x:=by
 have hk:x.k=1∨x.k=2∨x.k=3∨x.k=4∨x.k=5∨x.k=6∨x.k=7∨x.k=8∨x.k=9∨x.k=10∨x.k=11:=by omega
 cases hh:x.has
 ·rcases hk with hk|hk|hk|hk|hk|hk|hk|hk|hk|hk|hk
  ·exact lin_none1 x Q hk
  ·exact lin_declNo2 x Q hk hh
  ·exact lin_set3 x Q hk hh
  ·exact lin_expr4 x Q hk
  ·exact lin_if5 x Q hk
  ·exact lin_while6 x Q hk
  ·exact lin_forNo7 x Q hk hh
  ·exact lin_declNo8 x Q hk hh
  ·exact lin_none9 x Q hk
  ·exact lin_none10 x Q hk
  ·exact lin_block11 x Q hk
 ·rcases hk with hk|hk|hk|hk|hk|hk|hk|hk|hk|hk|hk
  ·exact lin_none1 x Q hk
  ·exact lin_decl2 x Q hk hh
  ·exact lin_setI3 x Q hk hh
  ·exact lin_expr4 x Q hk
  ·exact lin_if5 x Q hk
  ·exact lin_while6 x Q hk
  ·exact lin_for7 x Q hk hh
  ·exact lin_decl8 x Q hk hh
  ·exact lin_none9 x Q hk
  ·exact lin_none10 x Q hk
  ·exact lin_block11 x Q hk
theorem lstat_any:∀ x,LSm x:=by
 apply Sm.ind
 intro x J1 J2 J3 J4 B lb c d v w hb hB hc hd hs hf
 have I0:=zH (In.begin hb hB hs hf)
 have NA:=zH (lnode_any lb c d _ (uI I0).ctd.box hc hd)
 have WA:=zH (fun W=>swstat_any x v W)
 have LA:=zH (fun h1 h2=>lin_any x ⟨J1,J2,J3,J4⟩ h1 h2)
 have hlb:=hb.1
 have hAs:=zH (qak x v)
 have EQ:Hid (lkS x d c=if nodeW d c≠0 then (nodeW d c,c+1) else if x.k<1∨11<x.k then (1,c+1) else if wSmF x.k x.b x.nm≠0 then (wSmF x.k x.b x.nm,c+1) else lkI x (d+1) (c+1)):=qbm x d c
 have HN:=zH (fun h=>qaf (d:=d) (c:=c) h)
 generalize lkS x d c=R at *
 generalize nodeW d c=nw at *
 clear hb hs hf J1 J2 J3 J4
 generalize hWS:wSmF x.k x.b x.nm=we at *
 generalize hk:x.k=k at *
 have LA2:=zH (fun W c' hc' hd' hI=>(fun (h1:1≤k) (h2:k≤11)=>uI LA h1 h2 B lb c' (d+1) v W (In.ctd hI:Ctd w W lb c').box hB hc' hd' (In.sv hI) (In.ok hI)))
 generalize hA:smA x v=A at *
 generalize hW:w.alloc (.cells A 103)=W0 at *
 go_enter Tryz.func121,Tryz.ntmps121
 go_wp2_with (refine wpList_boxTo rfl 103 (.tmp 1) rfl (some 4) rfl _ rfl A rfl ?_;rw[hW])
 refine (uI NA).mono ?_
 rintro e w1 ⟨rfl,k1⟩
 have I1:=zH ((uI I0).next k1)
 obtain⟨c0,-,-,-,-⟩:=(uI I1).box.own
 rw[hk] at c0
 have HH:=(uI I1).box.heap
 rw[hA] at HH
 have hs1:w.heap.size<w1.heap.size:=(uI I1).box.lt
 clear NA k1 I0
 by_cases h1:nw=0
 ·subst h1
  obtain⟨hc1,hd1⟩:=uI HN rfl
  clear HN
  have E1:=uI EQ
  rw[if_neg (by simp)] at E1
  clear EQ
  by_cases h2:k<1
  ·rw[if_pos (.inl h2)] at E1
   subst E1
   go_wp2_with fail
   go_ret
   exact⟨rfl,(uI I1).ctd⟩
  ·by_cases h3:11<k
   ·rw[if_pos (.inr h3)] at E1
    subst E1
    go_wp2_with fail
    go_ret
    exact⟨rfl,(uI I1).ctd⟩
   ·rw[if_neg (by omega)] at E1
    have E2:=zH E1
    clear E1
    go_wp2_with (refine wpList_load_row rfl 103 (.tmp 4) rfl w.heap.size rfl _ A _ _ HH Tryz.underlying103 rfl (by rw[uI hAs];exact Tryz.sizeStat) ?_)
    refine (uI WA _).mono ?_
    rintro e w2 ⟨rfl,k2⟩
    have I2:=zH ((uI I1).below k2)
    have HH2:=(uI I2).box.heap
    rw[hA] at HH2
    have hs2:w.heap.size<w2.heap.size:=(uI I2).box.lt
    clear WA k2 I1 HH c0
    by_cases h4:we=0
    ·subst h4
     have E3:=uI E2
     rw[if_neg (by simp)] at E3
     clear E2
     have CA:=zH (uI LA2 _ (c+1) hc1 (by omega) (uI I2) (by omega) (by omega))
     rw[← E3] at CA
     clear E3 LA2 LA
     go_wp2_with (refine wpList_load_row rfl 103 (.tmp 4) rfl w.heap.size rfl _ A _ _ HH2 Tryz.underlying103 rfl (by rw[uI hAs];exact Tryz.sizeStat) ?_)
     refine (uI CA).mono ?_
     rintro e w4 ⟨rfl,k4⟩
     go_wp2_with fail
     go_ret
     exact⟨rfl,(uI I2).ctd.trans k4⟩
    ·have e4:(we==0)=false:=zBq h4
     have E3:=uI E2
     rw[if_pos h4] at E3
     subst E3
     go_wp2_with fail
     go_ret
     exact⟨rfl,(uI I2).ctd⟩
 ·have e1:(nw==0)=false:=zBq h1
  have E1:=uI EQ
  rw[if_pos h1] at E1
  subst E1
  go_wp2_with fail
  go_ret
  exact⟨rfl,(uI I1).ctd⟩
end Go.Proofs.YtjpnnmkefaodoaaGreat
