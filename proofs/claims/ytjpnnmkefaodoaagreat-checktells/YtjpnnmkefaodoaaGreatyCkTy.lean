/-
  CkT, CkU, CkV, CkW, CkX, CkY.
-/
import Derived.Test.YtjpnnmkefaodoaaGreatyCkPy
set_option maxHeartbeats 8000000
set_option maxRecDepth 100000
namespace Go.Proofs.YtjpnnmkefaodoaaGreat
open Go.RowKit Go.Maps Go.Great
set_option linter.unusedSimpArgs false
set_option linter.unusedVariables false
theorem cfor_any (E:Nev)(res:Int × Bool)(x:Sm)(v:Sv)(I1:∀ y∈x.init,CkSm E res y)(I2:∀ y∈x.step,CkSm E res y)(I3:∀ y∈x.body,CkSm E res y)(N1:∀ y∈x.init,NmS y)(N2:∀ y∈x.step,NmS y)(N3:∀ y∈x.body,NmS y)(B:Nat)(w:World)(sb vb fb lb:Nat)(wd:Int)(L:Loc)(lp:Nat)(h:Sc B w sb vb fb lb wd E L res lp)(hs:SvL B w x v)(hf:SmF x)(ho:x.has=true→TyC x.x)(ok:OpOk L)(hfr:L.fr+4*((szL x.init+szL x.step+szL x.body:Nat):Int)≤1000000)(hlp:lp+1+(szL x.init+szL x.step+szL x.body)≤1000000) :
  Calls Tryz.prog 97 #[.pointer (some ⟨sb,0,none⟩),.agg (smA x v)] w fun e w'=>ScR B w sb vb fb lb wd E res lp (thc (hid L (ckL E res x.init lp L)) fun L=>thc (perC E L x.has x.x,L) fun L=>thc (hid L (ckL E res x.step lp L)) fun L=>hid L (ckL E res x.body (lp+1) L)) e w':=by
 have S:=zH (Sk.begin h hs hf)
 have hAs:=zH (qak x v)
 have GD:=zH (gd_hid (ckL_gd E res x.init N1 lp L))
 have GE:=zH (fun M=>gd_hid (ckL_gd E res x.step N2 lp M))
 have CI:=zH (fun (W:World) (s:Sk B w W sb vb fb lb wd E L res lp x v)=>cblock_any E res x.init I1 N1 B W sb vb fb lb wd L lp v.init s.sc s.sv.h1 ok (by omega) (by omega))
 have CP:=zH (fun (W:World) (M:Loc) (s:Sk B w W sb vb fb lb wd E M res lp x v)=>cperhaps_any x v B W sb vb fb lb wd E M res lp s.sc s.sv s.ok ho)
 have CS:=zH (fun (W:World) (M:Loc) (s:Sk B w W sb vb fb lb wd E M res lp x v) (g:Gd (szL x.init) L M)=>cblock_any E res x.step I2 N2 B W sb vb fb lb wd M lp v.step s.sc s.sv.h2 (g.2.2.1 ok) (by have:=g.2.1;omega) (by omega))
 have CB:=zH (fun (W:World) (M:Loc) (s:Sk B w W sb vb fb lb wd E M res lp x v) (g:Gd (szL x.init+szL x.step) L M)=>cloop_any E res x.body I3 N3 B W sb vb fb lb wd M lp v.body s.sc s.sv.h3 (g.2.2.1 ok) (by have:=g.2.1;omega) (by omega))
 clear h hs hf ho I1 I2 I3 N1 N2 N3 hfr hlp ok
 obtain⟨R,hR⟩:∃ R,R=thc (hid L (ckL E res x.init lp L)) fun L=>thc (perC E L x.has x.x,L) fun L=>thc (hid L (ckL E res x.step lp L)) fun L=>hid L (ckL E res x.body (lp+1) L):=⟨_,rfl⟩
 rw[← hR]
 obtain⟨T,hT⟩:∃ T,T=hid L (ckL E res x.init lp L):=⟨_,rfl⟩
 have g1:Gd (szL x.init) L T.2:=by rw[hT];exact uI GD
 rw[← hT] at hR CI
 have HR:=zH hR
 have G1:=zH g1
 obtain⟨er,N⟩:=T
 clear hR GD hT g1
 have HH:=(uI S).bx.heap
 generalize hA:smA x v=A at *
 generalize hW:w.alloc (.cells A 103)=W0 at *
 have hs0:w.heap.size<W0.heap.size:=(uI S).bx.lt
 obtain⟨c0,c1,c2,c3⟩:=(uI S).bx.lists
 have C0:=zH (uI CI W0 (uI S))
 clear CI
 go_enter Tryz.func97,Tryz.ntmps97
 go_wp2_with (first|(refine wpList_boxTo rfl 103 (.tmp 1) rfl (some 3) rfl _ rfl A rfl ?_;rw[hW]))
 refine (uI C0).mono ?_
 rintro e W1 ⟨rfl,sc1,k1⟩
 have S1:=zH (show Sk B w W1 sb vb fb lb wd E N res lp x v from (uI S).next k1 sc1)
 clear C0 S k1 sc1 HH hs0 c0 c1 c2 c3
 by_cases h1:er=0
 rotate_left
 ·obtain rfl:R=(er,N):=by rw[uI HR];exact if_pos h1
  have b1:(er != 0)=true:=bne_iff_ne.2 h1
  clear h1 HR CP CS CB
  go_wp2_with fail
  go_ret
  exact⟨rfl,(uI S1).sc,(uI S1).wk⟩
 subst h1
 have hR2:R=thc (perC E N x.has x.x,N) fun L=>thc (hid L (ckL E res x.step lp L)) fun L=>hid L (ckL E res x.body (lp+1) L):=by rw[uI HR];exact if_neg (show ¬ ((0:Int)≠0) by decide)
 have C0:=uI CP W1 N (uI S1)
 generalize perC E N x.has x.x=P at *
 have HR2:=zH hR2
 have C1:=zH C0
 clear C0
 have HH:=(uI S1).bx.heap
 rw[hA] at HH
 have hs1:w.heap.size<W1.heap.size:=(uI S1).bx.lt
 clear HR hR2 CP
 go_wp2_with (refine wpList_load_row rfl 103 (.tmp 3) rfl w.heap.size rfl _ A _ _ HH Tryz.underlying103 rfl (by rw[uI hAs];exact Tryz.sizeStat) ?_)
 refine (uI C1).mono ?_
 rintro e W2 ⟨rfl,k2⟩
 have S2:=zH ((uI S1).step k2)
 clear C1 S1 k2 HH hs1
 by_cases h1:P=0
 rotate_left
 ·obtain rfl:R=(P,N):=by rw[uI HR2];exact if_pos h1
  have b1:(P != 0)=true:=bne_iff_ne.2 h1
  clear h1 HR2 CS CB
  go_wp2_with fail
  go_ret
  exact⟨rfl,(uI S2).sc,(uI S2).wk⟩
 subst h1
 have hR3:R=thc (hid N (ckL E res x.step lp N)) fun L=>hid L (ckL E res x.body (lp+1) L):=by rw[uI HR2];exact if_neg (show ¬ ((0:Int)≠0) by decide)
 have C0:=uI CS W2 N (uI S2) (uI G1)
 have g2:Gd (szL x.init+szL x.step) L (hid N (ckL E res x.step lp N)).2:=(uI G1).trans (uI GE N)
 generalize hid N (ckL E res x.step lp N)=T at *
 obtain⟨er,O⟩:=T
 have C1:=zH C0
 have HR3:=zH hR3
 have G2:=zH (show Gd (szL x.init+szL x.step) L O from g2)
 obtain⟨c0,c1,c2,c3⟩:=(uI S2).bx.lists
 have hs1:w.heap.size<W2.heap.size:=(uI S2).bx.lt
 clear C0 hR3 HR2 CS GE G1 g2
 go_wp2_with fail
 refine (uI C1).mono ?_
 rintro e W3 ⟨rfl,sc3,k3⟩
 have S3:=zH (show Sk B w W3 sb vb fb lb wd E O res lp x v from (uI S2).next k3 sc3)
 clear C1 S2 sc3 k3 c0 c1 c2 c3 hs1
 by_cases h1:er=0
 rotate_left
 ·obtain rfl:R=(er,O):=by rw[uI HR3];exact if_pos h1
  have b1:(er != 0)=true:=bne_iff_ne.2 h1
  clear h1 HR3 CB
  go_wp2_with fail
  go_ret
  exact⟨rfl,(uI S3).sc,(uI S3).wk⟩
 subst h1
 have hR4:R=hid O (ckL E res x.body (lp+1) O):=by rw[uI HR3];exact if_neg (show ¬ ((0:Int)≠0) by decide)
 have D0:=uI CB W3 O (uI S3) (uI G2)
 rw[← hR4] at D0
 have D1:=zH D0
 obtain⟨c0,c1,c2,c3⟩:=(uI S3).bx.lists
 have hs1:w.heap.size<W3.heap.size:=(uI S3).bx.lt
 clear hR4 D0 HR3 CB G2
 go_wp2_with fail
 refine (uI D1).mono ?_
 rintro e W4 ⟨rfl,sc4,k4⟩
 have Z:=zH (And.intro sc4 ((uI S3).wk.trans k4))
 clear D1 S3 sc4 k4 c0 c1 c2 c3 hs1
 go_wp2_with fail
 go_ret
 exact⟨rfl,(uI Z).1,(uI Z).2⟩
theorem creturns_any (E:Nev)(res:Int × Bool)(x:Sm)(v:Sv)(B:Nat)(w:World)(sb vb fb lb:Nat)(wd:Int)(L:Loc)(lp:Nat)(h:Sc B w sb vb fb lb wd E L res lp)(hs:SvL B w x v)(hf:SmF x)(ho:x.has=true→TyC x.x) :
  Calls Tryz.prog 93 #[.pointer (some ⟨sb,0,none⟩),.agg (smA x v)] w fun e w'=>e=.returned (.int .i64 (if x.has=decide (res≠(0,false)) then perC E L x.has x.x else 9))∧Below w.heap.size w w':=by
 have S:=zH (Sk.begin h hs hf)
 have K0:=zH (qaa w (.cells (smA x v) 103))
 have hAs:=zH (qak x v)
 have CP:=zH (fun (W:World) (s:Sk B w W sb vb fb lb wd E L res lp x v)=>cperhaps_any x v B W sb vb fb lb wd E L res lp s.sc s.sv s.ok ho)
 clear h hs hf ho
 have HH:=(uI S).bx.heap
 generalize hA:smA x v=A at *
 generalize hW:w.alloc (.cells A 103)=W0 at *
 have hs0:w.heap.size<W0.heap.size:=(uI S).bx.lt
 obtain⟨c0,c1,c2,c3,c4⟩:=(uI S).bx.own
 obtain⟨va,n,h0,-⟩:=(uI S).sc.has
 have d7:=zC h0 7 _ rfl
 have d8:=zC h0 8 _ rfl
 have hsb:=h0.lt
 obtain⟨rb,rs⟩:=res
 dsimp only at d7 d8
 clear h0
 generalize perC E L x.has x.x=P at *
 generalize x.has=hh at *
 by_cases hz:rb=0
 ·subst hz
  cases rs <;> cases hh
  ·rw[if_pos (show false=decide (((0:Int),false)≠(0,false)) from by simp)]
   go_enter Tryz.func93,Tryz.ntmps93
   go_wp2_with (first|(refine wpList_boxTo rfl 103 (.tmp 1) rfl (some 3) rfl _ rfl A rfl ?_;rw[hW]))
   go_quiet (fail)
   have kq:=below_drewN W0 nq
   have S1:=(uI S).step kq
   have K1:=zH (bT (uI K0) kq)
   have C0:=zH (uI CP _ S1)
   have HH1:=S1.bx.heap
   rw[hA] at HH1
   clear kq S S1 K0 CP HH hs0 c0 c1 c2 c3 c4 d7 d8 hsb
   generalize W0.drewN nq=W1 at *
   go_wp2_with (refine wpList_load_row rfl 103 (.tmp 3) rfl w.heap.size rfl _ A _ _ HH1 Tryz.underlying103 rfl (by rw[uI hAs];exact Tryz.sizeStat) ?_)
   refine (uI C0).mono ?_
   rintro e W2 ⟨rfl,k2⟩
   have K2:=zH (bT (uI K1) k2)
   clear C0 k2 K1 HH1
   go_wp2_with fail
   go_ret
   exact⟨rfl,uI K2⟩
  ·rw[if_neg (show ¬ (true=decide (((0:Int),false)≠(0,false))) from by simp)]
   go_enter Tryz.func93,Tryz.ntmps93
   go_wp2_with (first|(refine wpList_boxTo rfl 103 (.tmp 1) rfl (some 3) rfl _ rfl A rfl ?_;rw[hW]))
   go_quiet (fail)
   have kq:=below_drewN W0 nq
   have S1:=(uI S).step kq
   have K1:=zH (bT (uI K0) kq)
   clear kq S S1 K0 CP HH hs0 c0 c1 c2 c3 c4 d7 d8 hsb
   generalize W0.drewN nq=W1 at *
   go_wp2_with fail
   go_ret
   exact⟨rfl,uI K1⟩
  ·rw[if_neg (show ¬ (false=decide (((0:Int),true)≠(0,false))) from by simp)]
   go_enter Tryz.func93,Tryz.ntmps93
   go_wp2_with (first|(refine wpList_boxTo rfl 103 (.tmp 1) rfl (some 3) rfl _ rfl A rfl ?_;rw[hW]))
   go_quiet (fail)
   have kq:=below_drewN W0 nq
   have S1:=(uI S).step kq
   have K1:=zH (bT (uI K0) kq)
   clear kq S S1 K0 CP HH hs0 c0 c1 c2 c3 c4 d7 d8 hsb
   generalize W0.drewN nq=W1 at *
   go_wp2_with fail
   go_ret
   exact⟨rfl,uI K1⟩
  ·rw[if_pos (show true=decide (((0:Int),true)≠(0,false)) from by simp)]
   go_enter Tryz.func93,Tryz.ntmps93
   go_wp2_with (first|(refine wpList_boxTo rfl 103 (.tmp 1) rfl (some 3) rfl _ rfl A rfl ?_;rw[hW]))
   go_quiet (fail)
   have kq:=below_drewN W0 nq
   have S1:=(uI S).step kq
   have K1:=zH (bT (uI K0) kq)
   have C0:=zH (uI CP _ S1)
   have HH1:=S1.bx.heap
   rw[hA] at HH1
   clear kq S S1 K0 CP HH hs0 c0 c1 c2 c3 c4 d7 d8 hsb
   generalize W0.drewN nq=W1 at *
   go_wp2_with (refine wpList_load_row rfl 103 (.tmp 3) rfl w.heap.size rfl _ A _ _ HH1 Tryz.underlying103 rfl (by rw[uI hAs];exact Tryz.sizeStat) ?_)
   refine (uI C0).mono ?_
   rintro e W2 ⟨rfl,k2⟩
   have K2:=zH (bT (uI K1) k2)
   clear C0 k2 K1 HH1
   go_wp2_with fail
   go_ret
   exact⟨rfl,uI K2⟩
 ·cases hh
  ·rw[if_neg (show ¬ (false=decide ((rb,rs)≠(0,false))) from by simp[hz])]
   go_enter Tryz.func93,Tryz.ntmps93
   go_wp2_with (first|(refine wpList_boxTo rfl 103 (.tmp 1) rfl (some 3) rfl _ rfl A rfl ?_;rw[hW]))
   go_quiet (fail)
   have kq:=below_drewN W0 nq
   have S1:=(uI S).step kq
   have K1:=zH (bT (uI K0) kq)
   clear kq S S1 K0 CP HH hs0 c0 c1 c2 c3 c4 d7 d8 hsb
   generalize W0.drewN nq=W1 at *
   go_wp2_with fail
   go_ret
   exact⟨rfl,uI K1⟩
  ·rw[if_pos (show true=decide ((rb,rs)≠(0,false)) from by simp[hz])]
   go_enter Tryz.func93,Tryz.ntmps93
   go_wp2_with (first|(refine wpList_boxTo rfl 103 (.tmp 1) rfl (some 3) rfl _ rfl A rfl ?_;rw[hW]))
   go_quiet (fail)
   have kq:=below_drewN W0 nq
   have S1:=(uI S).step kq
   have K1:=zH (bT (uI K0) kq)
   have C0:=zH (uI CP _ S1)
   have HH1:=S1.bx.heap
   rw[hA] at HH1
   clear kq S S1 K0 CP HH hs0 c0 c1 c2 c3 c4 d7 d8 hsb
   generalize W0.drewN nq=W1 at *
   go_wp2_with (refine wpList_load_row rfl 103 (.tmp 3) rfl w.heap.size rfl _ A _ _ HH1 Tryz.underlying103 rfl (by rw[uI hAs];exact Tryz.sizeStat) ?_)
   refine (uI C0).mono ?_
   rintro e W2 ⟨rfl,k2⟩
   have K2:=zH (bT (uI K1) k2)
   clear C0 k2 K1 HH1
   go_wp2_with fail
   go_ret
   exact⟨rfl,uI K2⟩
theorem cst_2 (E:Nev)(res:Int × Bool)(x:Sm)(v:Sv)(hk:x.k=2)(B:Nat)(w:World)(sb vb fb lb:Nat)(wd:Int)(L:Loc)(lp:Nat)(ho:x.has=true→TyC x.x)(hb:IsW x.b)(hfr:L.fr≤1000000)(h:Sc B w sb vb fb lb wd E L res lp)(hs:SvL B w x v)(hf:SmF x) :
  Calls Tryz.prog 52 #[.pointer (some ⟨sb,0,none⟩),.agg (smA x v)] w fun e w'=>ScR B w sb vb fb lb wd E res lp (thc (perC E L x.has x.x,L) fun L=>declC L x.b x.s x.nm) e w':=by
 have S:=zH (Sk.begin h hs hf)
 have hAs:=zH (qak x v)
 have CC:=zH (show ∀ (W:World),Sk B w W sb vb fb lb wd E L res lp x v→Calls Tryz.prog 90 #[.pointer (some ⟨sb,0,none⟩),.agg (smA x v)] W fun e w'=>ScR B W sb vb fb lb wd E res lp (thc (perC E L x.has x.x,L) fun L=>declC L x.b x.s x.nm) e w' from fun W s=>cdeclaration_any x v B W sb vb fb lb wd E L res lp s.sc s.sv s.ok ho hb hfr)
 clear h hs hf ho
 have HH:=(uI S).bx.heap
 generalize hA:smA x v=A at *
 generalize hW:w.alloc (.cells A 103)=W0 at *
 have hs0:w.heap.size<W0.heap.size:=(uI S).bx.lt
 obtain⟨c0,c1,c2,c3,c4⟩:=(uI S).bx.own
 rw[hk] at c0
 have C0:=zH (uI CC W0 (uI S))
 clear CC hk
 generalize (thc (perC E L x.has x.x,L) fun L=>declC L x.b x.s x.nm)=R at *
 go_enter Tryz.func52,Tryz.ntmps52
 go_wp2_with (first|(refine wpList_boxTo rfl 103 (.tmp 1) rfl (some 3) rfl _ rfl A rfl ?_;rw[hW])|(refine wpList_load_row rfl 103 (.tmp 3) rfl w.heap.size rfl _ A _ _ HH Tryz.underlying103 rfl (by rw[uI hAs];exact Tryz.sizeStat) ?_))
 refine (uI C0).mono ?_
 rintro e W2 ⟨rfl,sc2,k2⟩
 have Z:=zH (And.intro sc2 ((uI S).wk.trans k2))
 clear C0 S sc2 k2 c0 c1 c2 c3 c4 hs0 HH
 go_wp2_with fail
 go_ret
 exact⟨rfl,(uI Z).1,(uI Z).2⟩
theorem cst_3 (E:Nev)(res:Int × Bool)(x:Sm)(v:Sv)(hk:x.k=3)(B:Nat)(w:World)(sb vb fb lb:Nat)(wd:Int)(L:Loc)(lp:Nat)(ho:TyC x.x)(hi:x.has=true→TyC x.i)(h:Sc B w sb vb fb lb wd E L res lp)(hs:SvL B w x v)(hf:SmF x) :
  Calls Tryz.prog 52 #[.pointer (some ⟨sb,0,none⟩),.agg (smA x v)] w fun e w'=>ScR B w sb vb fb lb wd E res lp ((setC E L x.has x.nm x.i x.x,L)) e w':=by
 have S:=zH (Sk.begin h hs hf)
 have hAs:=zH (qak x v)
 have CC:=zH (show ∀ (W:World),Sk B w W sb vb fb lb wd E L res lp x v→Calls Tryz.prog 91 #[.pointer (some ⟨sb,0,none⟩),.agg (smA x v)] W fun e w'=>e=.returned (.int .i64 (setC E L x.has x.nm x.i x.x))∧Below W.heap.size W w' from fun W s=>cset_any x v B W sb vb fb lb wd E L res lp s.sc s.sv s.ok ho hi)
 clear h hs hf ho
 have HH:=(uI S).bx.heap
 generalize hA:smA x v=A at *
 generalize hW:w.alloc (.cells A 103)=W0 at *
 have hs0:w.heap.size<W0.heap.size:=(uI S).bx.lt
 obtain⟨c0,c1,c2,c3,c4⟩:=(uI S).bx.own
 rw[hk] at c0
 have C0:=zH (uI CC W0 (uI S))
 clear CC hk
 generalize (setC E L x.has x.nm x.i x.x)=R at *
 go_enter Tryz.func52,Tryz.ntmps52
 go_wp2_with (first|(refine wpList_boxTo rfl 103 (.tmp 1) rfl (some 3) rfl _ rfl A rfl ?_;rw[hW])|(refine wpList_load_row rfl 103 (.tmp 3) rfl w.heap.size rfl _ A _ _ HH Tryz.underlying103 rfl (by rw[uI hAs];exact Tryz.sizeStat) ?_))
 refine (uI C0).mono ?_
 rintro e W2 ⟨rfl,k2⟩
 have S2:=zH ((uI S).step k2)
 clear C0 S k2 c0 c1 c2 c3 c4 hs0 HH
 go_wp2_with fail
 go_ret
 exact⟨rfl,(uI S2).sc,(uI S2).wk⟩
theorem cst_8 (E:Nev)(res:Int × Bool)(x:Sm)(v:Sv)(hk:x.k=8)(B:Nat)(w:World)(sb vb fb lb:Nat)(wd:Int)(L:Loc)(lp:Nat)(ho:x.has=true→TyC x.x)(h:Sc B w sb vb fb lb wd E L res lp)(hs:SvL B w x v)(hf:SmF x) :
  Calls Tryz.prog 52 #[.pointer (some ⟨sb,0,none⟩),.agg (smA x v)] w fun e w'=>ScR B w sb vb fb lb wd E res lp ((if x.has=decide (res≠(0,false)) then perC E L x.has x.x else 9,L)) e w':=by
 have S:=zH (Sk.begin h hs hf)
 have hAs:=zH (qak x v)
 have CC:=zH (show ∀ (W:World),Sk B w W sb vb fb lb wd E L res lp x v→Calls Tryz.prog 93 #[.pointer (some ⟨sb,0,none⟩),.agg (smA x v)] W fun e w'=>e=.returned (.int .i64 (if x.has=decide (res≠(0,false)) then perC E L x.has x.x else 9))∧Below W.heap.size W w' from fun W s=>creturns_any E res x v B W sb vb fb lb wd L lp s.sc s.sv s.ok ho)
 clear h hs hf ho
 have HH:=(uI S).bx.heap
 generalize hA:smA x v=A at *
 generalize hW:w.alloc (.cells A 103)=W0 at *
 have hs0:w.heap.size<W0.heap.size:=(uI S).bx.lt
 obtain⟨c0,c1,c2,c3,c4⟩:=(uI S).bx.own
 rw[hk] at c0
 have C0:=zH (uI CC W0 (uI S))
 clear CC hk
 generalize (if x.has=decide (res≠(0,false)) then perC E L x.has x.x else 9)=R at *
 go_enter Tryz.func52,Tryz.ntmps52
 go_wp2_with (first|(refine wpList_boxTo rfl 103 (.tmp 1) rfl (some 3) rfl _ rfl A rfl ?_;rw[hW])|(refine wpList_load_row rfl 103 (.tmp 3) rfl w.heap.size rfl _ A _ _ HH Tryz.underlying103 rfl (by rw[uI hAs];exact Tryz.sizeStat) ?_))
 refine (uI C0).mono ?_
 rintro e W2 ⟨rfl,k2⟩
 have S2:=zH ((uI S).step k2)
 clear C0 S k2 c0 c1 c2 c3 c4 hs0 HH
 go_wp2_with fail
 go_ret
 exact⟨rfl,(uI S2).sc,(uI S2).wk⟩
theorem cst_5 (E:Nev)(res:Int × Bool)(x:Sm)(v:Sv)(hk:x.k=5)(B:Nat)(w:World)(sb vb fb lb:Nat)(wd:Int)(L:Loc)(lp:Nat)(I3:∀ y∈x.body,CkSm E res y)(I4:∀ y∈x.els,CkSm E res y)(N3:∀ y∈x.body,NmS y)(N4:∀ y∈x.els,NmS y)(ok:OpOk L)(ho:TyC x.x)(hfr:L.fr+4*((szL x.body+szL x.els:Nat):Int)≤1000000)(hlp:lp+(szL x.body+szL x.els)≤1000000)(h:Sc B w sb vb fb lb wd E L res lp)(hs:SvL B w x v)(hf:SmF x) :
  Calls Tryz.prog 52 #[.pointer (some ⟨sb,0,none⟩),.agg (smA x v)] w fun e w'=>ScR B w sb vb fb lb wd E res lp (thc (tellC E L x.x,L) fun L=>thc (hid L (ckL E res x.body lp L)) fun L=>hid L (ckL E res x.els lp L)) e w':=by
 have S:=zH (Sk.begin h hs hf)
 have hAs:=zH (qak x v)
 have CC:=zH (show ∀ (W:World),Sk B w W sb vb fb lb wd E L res lp x v→Calls Tryz.prog 94 #[.pointer (some ⟨sb,0,none⟩),.agg (smA x v)] W fun e w'=>ScR B W sb vb fb lb wd E res lp (thc (tellC E L x.x,L) fun L=>thc (hid L (ckL E res x.body lp L)) fun L=>hid L (ckL E res x.els lp L)) e w' from fun W s=>cchoice_any E res x v I3 I4 N3 N4 B W sb vb fb lb wd L lp s.sc s.sv s.ok ho ok hfr hlp)
 clear h hs hf ho
 have HH:=(uI S).bx.heap
 generalize hA:smA x v=A at *
 generalize hW:w.alloc (.cells A 103)=W0 at *
 have hs0:w.heap.size<W0.heap.size:=(uI S).bx.lt
 obtain⟨c0,c1,c2,c3,c4⟩:=(uI S).bx.own
 rw[hk] at c0
 have C0:=zH (uI CC W0 (uI S))
 clear CC hk
 generalize (thc (tellC E L x.x,L) fun L=>thc (hid L (ckL E res x.body lp L)) fun L=>hid L (ckL E res x.els lp L))=R at *
 go_enter Tryz.func52,Tryz.ntmps52
 go_wp2_with (first|(refine wpList_boxTo rfl 103 (.tmp 1) rfl (some 3) rfl _ rfl A rfl ?_;rw[hW])|(refine wpList_load_row rfl 103 (.tmp 3) rfl w.heap.size rfl _ A _ _ HH Tryz.underlying103 rfl (by rw[uI hAs];exact Tryz.sizeStat) ?_))
 refine (uI C0).mono ?_
 rintro e W2 ⟨rfl,sc2,k2⟩
 have Z:=zH (And.intro sc2 ((uI S).wk.trans k2))
 clear C0 S sc2 k2 c0 c1 c2 c3 c4 hs0 HH
 go_wp2_with fail
 go_ret
 exact⟨rfl,(uI Z).1,(uI Z).2⟩
theorem cst_7 (E:Nev)(res:Int × Bool)(x:Sm)(v:Sv)(hk:x.k=7)(B:Nat)(w:World)(sb vb fb lb:Nat)(wd:Int)(L:Loc)(lp:Nat)(I1:∀ y∈x.init,CkSm E res y)(I2:∀ y∈x.step,CkSm E res y)(I3:∀ y∈x.body,CkSm E res y)(N1:∀ y∈x.init,NmS y)(N2:∀ y∈x.step,NmS y)(N3:∀ y∈x.body,NmS y)(ok:OpOk L)(ho:x.has=true→TyC x.x)(hfr:L.fr+4*((szL x.init+szL x.step+szL x.body:Nat):Int)≤1000000)(hlp:lp+1+(szL x.init+szL x.step+szL x.body)≤1000000)(h:Sc B w sb vb fb lb wd E L res lp)(hs:SvL B w x v)(hf:SmF x) :
  Calls Tryz.prog 52 #[.pointer (some ⟨sb,0,none⟩),.agg (smA x v)] w fun e w'=>ScR B w sb vb fb lb wd E res lp (thc (hid L (ckL E res x.init lp L)) fun L=>thc (perC E L x.has x.x,L) fun L=>thc (hid L (ckL E res x.step lp L)) fun L=>hid L (ckL E res x.body (lp+1) L)) e w':=by
 have S:=zH (Sk.begin h hs hf)
 have hAs:=zH (qak x v)
 have CC:=zH (show ∀ (W:World),Sk B w W sb vb fb lb wd E L res lp x v→Calls Tryz.prog 97 #[.pointer (some ⟨sb,0,none⟩),.agg (smA x v)] W fun e w'=>ScR B W sb vb fb lb wd E res lp (thc (hid L (ckL E res x.init lp L)) fun L=>thc (perC E L x.has x.x,L) fun L=>thc (hid L (ckL E res x.step lp L)) fun L=>hid L (ckL E res x.body (lp+1) L)) e w' from fun W s=>cfor_any E res x v I1 I2 I3 N1 N2 N3 B W sb vb fb lb wd L lp s.sc s.sv s.ok ho ok hfr hlp)
 clear h hs hf ho
 have HH:=(uI S).bx.heap
 generalize hA:smA x v=A at *
 generalize hW:w.alloc (.cells A 103)=W0 at *
 have hs0:w.heap.size<W0.heap.size:=(uI S).bx.lt
 obtain⟨c0,c1,c2,c3,c4⟩:=(uI S).bx.own
 rw[hk] at c0
 have C0:=zH (uI CC W0 (uI S))
 clear CC hk
 generalize (thc (hid L (ckL E res x.init lp L)) fun L=>thc (perC E L x.has x.x,L) fun L=>thc (hid L (ckL E res x.step lp L)) fun L=>hid L (ckL E res x.body (lp+1) L))=R at *
 go_enter Tryz.func52,Tryz.ntmps52
 go_wp2_with (first|(refine wpList_boxTo rfl 103 (.tmp 1) rfl (some 3) rfl _ rfl A rfl ?_;rw[hW])|(refine wpList_load_row rfl 103 (.tmp 3) rfl w.heap.size rfl _ A _ _ HH Tryz.underlying103 rfl (by rw[uI hAs];exact Tryz.sizeStat) ?_))
 refine (uI C0).mono ?_
 rintro e W2 ⟨rfl,sc2,k2⟩
 have Z:=zH (And.intro sc2 ((uI S).wk.trans k2))
 clear C0 S sc2 k2 c0 c1 c2 c3 c4 hs0 HH
 go_wp2_with fail
 go_ret
 exact⟨rfl,(uI Z).1,(uI Z).2⟩
theorem cst_6 (E:Nev)(res:Int × Bool)(x:Sm)(v:Sv)(hk:x.k=6)(B:Nat)(w:World)(sb vb fb lb:Nat)(wd:Int)(L:Loc)(lp:Nat)(I3:∀ y∈x.body,CkSm E res y)(N3:∀ y∈x.body,NmS y)(ok:OpOk L)(ho:TyC x.x)(hfr:L.fr+4*(szL x.body:Int)≤1000000)(hlp:lp+1+szL x.body≤1000000)(h:Sc B w sb vb fb lb wd E L res lp)(hs:SvL B w x v)(hf:SmF x) :
  Calls Tryz.prog 52 #[.pointer (some ⟨sb,0,none⟩),.agg (smA x v)] w fun e w'=>ScR B w sb vb fb lb wd E res lp (thc (tellC E L x.x,L) fun L=>hid L (ckL E res x.body (lp+1) L)) e w':=by
 have S:=zH (Sk.begin h hs hf)
 have CT:=zH (fun (W:World) (s:Sk B w W sb vb fb lb wd E L res lp x v)=>tells_any x.x ho B W sb vb fb lb wd E L res lp v.xk s.sc s.sv.hx s.ok.2.1)
 have CB:=zH (fun (W:World) (s:Sk B w W sb vb fb lb wd E L res lp x v)=>cloop_any E res x.body I3 N3 B W sb vb fb lb wd L lp v.body s.sc s.sv.h3 ok hfr hlp)
 clear h hs hf ho I3 N3 hfr hlp ok
 obtain⟨R,hR⟩:∃ R,R=thc (tellC E L x.x,L) fun L=>hid L (ckL E res x.body (lp+1) L):=⟨_,rfl⟩
 rw[← hR]
 generalize hA:smA x v=A at *
 generalize hW:w.alloc (.cells A 103)=W0 at *
 have hs0:w.heap.size<W0.heap.size:=(uI S).bx.lt
 have c0:=(uI S).bx.own.1
 rw[hk] at c0
 obtain⟨p0,p1,p2,p3,p4,p5⟩:=(uI S).bx.exX
 have C0:=zH (uI CT W0 (uI S))
 generalize tellC E L x.x=P at *
 have HR:=zH hR
 clear hR CT
 go_enter Tryz.func52,Tryz.ntmps52
 go_wp2_with (first|(refine wpList_boxTo rfl 103 (.tmp 1) rfl (some 3) rfl _ rfl A rfl ?_;rw[hW]))
 refine (uI C0).mono ?_
 rintro e W1 ⟨rfl,k1⟩
 have S1:=zH ((uI S).step k1)
 clear C0 S k1 hs0 c0 p0 p1 p2 p3 p4 p5
 by_cases h1:P=0
 rotate_left
 ·obtain rfl:R=(P,L):=by rw[uI HR];exact if_pos h1
  have b1:(P != 0)=true:=bne_iff_ne.2 h1
  clear h1 HR CB
  go_wp2_with fail
  go_ret
  exact⟨rfl,(uI S1).sc,(uI S1).wk⟩
 subst h1
 have hR4:R=hid L (ckL E res x.body (lp+1) L):=by rw[uI HR];exact if_neg (show ¬ ((0:Int)≠0) by decide)
 have D0:=uI CB W1 (uI S1)
 rw[← hR4] at D0
 have D1:=zH D0
 obtain⟨c0,c1,c2,c3⟩:=(uI S1).bx.lists
 have hs1:w.heap.size<W1.heap.size:=(uI S1).bx.lt
 clear hR4 D0 HR CB
 go_wp2_with fail
 refine (uI D1).mono ?_
 rintro e W3 ⟨rfl,sc3,k3⟩
 have Z:=zH (And.intro sc3 ((uI S1).wk.trans k3))
 clear D1 S1 sc3 k3 c0 c1 c2 c3 hs1
 go_wp2_with fail
 go_ret
 exact⟨rfl,(uI Z).1,(uI Z).2⟩
theorem cst_11 (E:Nev)(res:Int × Bool)(x:Sm)(v:Sv)(hk:x.k=11)(B:Nat)(w:World)(sb vb fb lb:Nat)(wd:Int)(L:Loc)(lp:Nat)(I3:∀ y∈x.body,CkSm E res y)(N3:∀ y∈x.body,NmS y)(ok:OpOk L)(hfr:L.fr+4*(szL x.body:Int)≤1000000)(hlp:lp+szL x.body≤1000000)(h:Sc B w sb vb fb lb wd E L res lp)(hs:SvL B w x v)(hf:SmF x) :
  Calls Tryz.prog 52 #[.pointer (some ⟨sb,0,none⟩),.agg (smA x v)] w fun e w'=>ScR B w sb vb fb lb wd E res lp (hid L (ckL E res x.body lp L)) e w':=by
 have S:=zH (Sk.begin h hs hf)
 have CB:=zH (fun (W:World) (s:Sk B w W sb vb fb lb wd E L res lp x v)=>cblock_any E res x.body I3 N3 B W sb vb fb lb wd L lp v.body s.sc s.sv.h3 ok hfr hlp)
 clear h hs hf I3 N3 hfr hlp ok
 generalize hid L (ckL E res x.body lp L)=R at *
 generalize hA:smA x v=A at *
 generalize hW:w.alloc (.cells A 103)=W0 at *
 have hs0:w.heap.size<W0.heap.size:=(uI S).bx.lt
 have k0:=(uI S).bx.own.1
 rw[hk] at k0
 obtain⟨c0,c1,c2,c3⟩:=(uI S).bx.lists
 have D1:=zH (uI CB W0 (uI S))
 clear CB
 go_enter Tryz.func52,Tryz.ntmps52
 go_wp2_with (first|(refine wpList_boxTo rfl 103 (.tmp 1) rfl (some 3) rfl _ rfl A rfl ?_;rw[hW]))
 refine (uI D1).mono ?_
 rintro e W3 ⟨rfl,sc3,k3⟩
 have Z:=zH (And.intro sc3 ((uI S).wk.trans k3))
 clear D1 S sc3 k3 c0 c1 c2 c3 hs0 k0
 go_wp2_with fail
 go_ret
 exact⟨rfl,(uI Z).1,(uI Z).2⟩
theorem cst_4 (E:Nev)(res:Int × Bool)(x:Sm)(v:Sv)(hk:x.k=4)(B:Nat)(w:World)(sb vb fb lb:Nat)(wd:Int)(L:Loc)(lp:Nat)(ho:TyC x.x)(h:Sc B w sb vb fb lb wd E L res lp)(hs:SvL B w x v)(hf:SmF x) :
  Calls Tryz.prog 52 #[.pointer (some ⟨sb,0,none⟩),.agg (smA x v)] w fun e w'=>ScR B w sb vb fb lb wd E res lp ((tyE E L x.x).2,L) e w':=by
 have S:=zH (Sk.begin h hs hf)
 have CT:=zH (fun (W:World) (s:Sk B w W sb vb fb lb wd E L res lp x v)=>ho B W sb vb fb lb wd E L res lp v.xk s.sc s.sv.hx s.ok.2.1)
 clear h hs hf ho
 generalize hA:smA x v=A at *
 generalize hW:w.alloc (.cells A 103)=W0 at *
 have hs0:w.heap.size<W0.heap.size:=(uI S).bx.lt
 have c0:=(uI S).bx.own.1
 rw[hk] at c0
 obtain⟨p0,p1,p2,p3,p4,p5⟩:=(uI S).bx.exX
 have C0:=zH (uI CT W0 (uI S))
 generalize tyE E L x.x=P at *
 obtain⟨⟨tb,ts⟩,er⟩:=P
 clear CT
 go_enter Tryz.func52,Tryz.ntmps52
 go_wp2_with (first|(refine wpList_boxTo rfl 103 (.tmp 1) rfl (some 3) rfl _ rfl A rfl ?_;rw[hW]))
 refine (uI C0).mono ?_
 rintro e W1 ⟨rfl,k1⟩
 have S1:=zH ((uI S).step k1)
 clear C0 S k1 hs0 c0 p0 p1 p2 p3 p4 p5
 go_wp2_with fail
 go_ret
 have S3:=(uI S1).step (qaa W1 (.cells #[.int .i64 tb,.bool ts] 34))
 exact⟨rfl,S3.sc,S3.wk⟩
theorem cst_9 (E:Nev)(res:Int × Bool)(x:Sm)(v:Sv)(hk:x.k=9∨x.k=10)(B:Nat)(w:World)(sb vb fb lb:Nat)(wd:Int)(L:Loc)(lp:Nat)(h:Sc B w sb vb fb lb wd E L res lp)(hs:SvL B w x v)(hf:SmF x) :
  Calls Tryz.prog 52 #[.pointer (some ⟨sb,0,none⟩),.agg (smA x v)] w fun e w'=>ScR B w sb vb fb lb wd E res lp (if lp=0 then 8 else 0,L) e w':=by
 have S:=zH (Sk.begin h hs hf)
 clear h hs hf
 generalize hA:smA x v=A at *
 generalize hW:w.alloc (.cells A 103)=W0 at *
 have hs0:w.heap.size<W0.heap.size:=(uI S).bx.lt
 have c0:=(uI S).bx.own.1
 obtain⟨va,n,h0,-⟩:=(uI S).sc.has
 have d6:=zC h0 6 _ rfl
 have hsb:=h0.lt
 have hl0:(0:Int)≤(lp:Int):=by omega
 clear h0
 by_cases hz:lp=0
 ·rw[if_pos hz]
  rw[hz] at d6
  rcases hk with hk|hk <;> rw[hk] at c0
  ·go_enter Tryz.func52,Tryz.ntmps52
   go_wp2_with (first|(refine wpList_boxTo rfl 103 (.tmp 1) rfl (some 3) rfl _ rfl A rfl ?_;rw[hW]))
   go_ret
   exact⟨rfl,(uI S).sc,(uI S).wk⟩
  ·go_enter Tryz.func52,Tryz.ntmps52
   go_wp2_with (first|(refine wpList_boxTo rfl 103 (.tmp 1) rfl (some 3) rfl _ rfl A rfl ?_;rw[hW]))
   go_ret
   exact⟨rfl,(uI S).sc,(uI S).wk⟩
 ·rw[if_neg hz]
  have hzI:¬ (lp:Int)=0:=by omega
  clear hz
  rcases hk with hk|hk <;> rw[hk] at c0
  ·go_enter Tryz.func52,Tryz.ntmps52
   go_wp2_with (first|(refine wpList_boxTo rfl 103 (.tmp 1) rfl (some 3) rfl _ rfl A rfl ?_;rw[hW]))
   go_ret
   exact⟨rfl,(uI S).sc,(uI S).wk⟩
  ·go_enter Tryz.func52,Tryz.ntmps52
   go_wp2_with (first|(refine wpList_boxTo rfl 103 (.tmp 1) rfl (some 3) rfl _ rfl A rfl ?_;rw[hW]))
   go_ret
   exact⟨rfl,(uI S).sc,(uI S).wk⟩
theorem cst_0 (E:Nev)(res:Int × Bool)(x:Sm)(v:Sv)(h2:x.k≠2)(h3:x.k≠3)(h4:x.k≠4)(h5:x.k≠5)(h6:x.k≠6)(h7:x.k≠7)(h8:x.k≠8)(h9:x.k≠9)(h10:x.k≠10)(h11:x.k≠11)(B:Nat)(w:World)(sb vb fb lb:Nat)(wd:Int)(L:Loc)(lp:Nat)(h:Sc B w sb vb fb lb wd E L res lp)(hs:SvL B w x v)(hf:SmF x) :
  Calls Tryz.prog 52 #[.pointer (some ⟨sb,0,none⟩),.agg (smA x v)] w fun e w'=>ScR B w sb vb fb lb wd E res lp (0,L) e w':=by
 have S:=zH (Sk.begin h hs hf)
 clear h hs hf
 generalize hA:smA x v=A at *
 generalize hW:w.alloc (.cells A 103)=W0 at *
 have hs0:w.heap.size<W0.heap.size:=(uI S).bx.lt
 have c0:=(uI S).bx.own.1
 generalize x.k=k at *
 go_enter Tryz.func52,Tryz.ntmps52
 go_wp2_with (first|(refine wpList_boxTo rfl 103 (.tmp 1) rfl (some 3) rfl _ rfl A rfl ?_;rw[hW]))
 go_ret
 exact⟨rfl,(uI S).sc,(uI S).wk⟩
inductive TvS:Sm→Prop
 | mk (x:Sm) (hx:(x.k=3∨x.k=4∨x.k=5∨x.k=6)∨((x.k=2∨x.k=7∨x.k=8)∧x.has=true)→TvE x.x) (hi:x.k=3→x.has=true→TvE x.i) (hb:x.k=2→IsW x.b)
   (h1:x.k=7→∀ y∈x.init,TvS y) (h2:x.k=7→∀ y∈x.step,TvS y) (h3:x.k=5∨x.k=6∨x.k=7∨x.k=11→∀ y∈x.body,TvS y) (h4:x.k=5→∀ y∈x.els,TvS y):TvS x
theorem ckS_eq (E:Nev)(res:Int × Bool)(x:Sm)(lp:Nat)(L:Loc):ckS E res x lp L =
  if x.k=2 then thc (perC E L x.has x.x,L) fun L=>declC L x.b x.s x.nm
  else if x.k=3 then (setC E L x.has x.nm x.i x.x,L)
  else if x.k=4 then ((tyE E L x.x).2,L)
  else if x.k=8 then (if x.has=decide (res≠(0,false)) then perC E L x.has x.x else 9,L)
  else if x.k=9∨x.k=10 then (if lp=0 then 8 else 0,L)
  else if x.k=5 then thc (tellC E L x.x,L) fun L=>thc (hid L (ckL E res x.body lp L)) fun L=>hid L (ckL E res x.els lp L)
  else if x.k=6 then thc (tellC E L x.x,L) fun L=>hid L (ckL E res x.body (lp+1) L)
  else if x.k=7 then thc (hid L (ckL E res x.init lp L)) fun L=>thc (perC E L x.has x.x,L) fun L=>thc (hid L (ckL E res x.step lp L)) fun L=>hid L (ckL E res x.body (lp+1) L)
  else if x.k=11 then hid L (ckL E res x.body lp L)
  else (0,L):=by
 obtain⟨k,b,s,nm,has,x,i,init,step,body,els⟩:=x
 rw[ckS]
 rfl
theorem cstat_any (E:Nev)(res:Int × Bool):∀ x:Sm,TvS x→NmS x→CkSm E res x:=by
 apply Sm.ind
 intro x I1 I2 I3 I4 ht hn B w sb vb fb lb wd L lp v h hs hf ok hfr hlp
 obtain⟨_,hx,hi,hb,h1,h2,h3,h4⟩:=ht
 obtain⟨_,hnm,n1,n2,n3,n4⟩:=hn
 obtain⟨z1,z5,z6,z7⟩:=szS_at x
 generalize szS x=z at *
 rw[ckS_eq]
 by_cases k2:x.k=2
 ·rw[if_pos k2]
  exact cst_2 E res x v k2 B w sb vb fb lb wd L lp (fun o=>tyC_any _ (hx (.inr ⟨.inl k2,o⟩))) (hb k2) (by omega) h hs hf
 rw[if_neg k2]
 by_cases k3:x.k=3
 ·rw[if_pos k3]
  exact cst_3 E res x v k3 B w sb vb fb lb wd L lp (tyC_any _ (hx (.inl (.inl k3)))) (fun o=>tyC_any _ (hi k3 o)) h hs hf
 rw[if_neg k3]
 by_cases k4:x.k=4
 ·rw[if_pos k4]
  exact cst_4 E res x v k4 B w sb vb fb lb wd L lp (tyC_any _ (hx (.inl (.inr (.inl k4))))) h hs hf
 rw[if_neg k4]
 by_cases k8:x.k=8
 ·rw[if_pos k8]
  exact cst_8 E res x v k8 B w sb vb fb lb wd L lp (fun o=>tyC_any _ (hx (.inr ⟨.inr (.inr k8),o⟩))) h hs hf
 rw[if_neg k8]
 by_cases k9:x.k=9∨x.k=10
 ·rw[if_pos k9]
  exact cst_9 E res x v k9 B w sb vb fb lb wd L lp h hs hf
 rw[if_neg k9]
 by_cases k5:x.k=5
 ·rw[if_pos k5]
  exact cst_5 E res x v k5 B w sb vb fb lb wd L lp (fun y hy=>I3 y hy (h3 (.inl k5) y hy) (n3 y hy)) (fun y hy=>I4 y hy (h4 k5 y hy) (n4 y hy)) n3 n4 ok (tyC_any _ (hx (.inl (.inr (.inr (.inl k5)))))) (by omega) (by omega) h hs hf
 rw[if_neg k5]
 by_cases k6:x.k=6
 ·rw[if_pos k6]
  exact cst_6 E res x v k6 B w sb vb fb lb wd L lp (fun y hy=>I3 y hy (h3 (.inr (.inl k6)) y hy) (n3 y hy)) n3 ok (tyC_any _ (hx (.inl (.inr (.inr (.inr k6)))))) (by omega) (by omega) h hs hf
 rw[if_neg k6]
 by_cases k7:x.k=7
 ·rw[if_pos k7]
  exact cst_7 E res x v k7 B w sb vb fb lb wd L lp (fun y hy=>I1 y hy (h1 k7 y hy) (n1 y hy)) (fun y hy=>I2 y hy (h2 k7 y hy) (n2 y hy)) (fun y hy=>I3 y hy (h3 (.inr (.inr (.inl k7))) y hy) (n3 y hy)) n1 n2 n3 ok (fun o=>tyC_any _ (hx (.inr ⟨.inr (.inl k7),o⟩))) (by omega) (by omega) h hs hf
 rw[if_neg k7]
 by_cases k11:x.k=11
 ·rw[if_pos k11]
  exact cst_11 E res x v k11 B w sb vb fb lb wd L lp (fun y hy=>I3 y hy (h3 (.inr (.inr (.inr k11))) y hy) (n3 y hy)) n3 ok (by omega) (by omega) h hs hf
 rw[if_neg k11]
 exact cst_0 E res x v k2 k3 k4 k5 k6 k7 k8 (fun q=>k9 (.inl q)) (fun q=>k9 (.inr q)) k11 B w sb vb fb lb wd L lp h hs hf
end Go.Proofs.YtjpnnmkefaodoaaGreat
