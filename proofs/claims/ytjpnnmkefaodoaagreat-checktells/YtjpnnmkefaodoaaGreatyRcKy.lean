/-
  RcK.
-/
import Derived.Test.YtjpnnmkefaodoaaGreatyRcHy
set_option maxHeartbeats 8000000
set_option maxRecDepth 100000
namespace Go.Proofs.YtjpnnmkefaodoaaGreat
open Go.RowKit Go.Maps Go.Great
set_option linter.unusedSimpArgs false
set_option linter.unusedVariables false
theorem qbq {M:Loc}(f:Loc→Int × Loc):thc (0,M) f=f M:=by unfold thc;rw[if_neg (by simp)]
theorem thc_no9 {r:Int × Loc}(h:r.1≠0)(f:Loc→Int × Loc):thc r f=r:=by unfold thc;rw[if_pos h]
theorem st9_4 (E:Nev)(res:Int × Bool)(x:Sm)(v:Sv)(hk:x.k=4)(B:Nat)(w:World)(rb:Nat)(K:Rk)(L:Loc)(lp:Nat)(ht:TvE x.x)(h:Rm B w rb K L lp)(hE:EvP K.p E)(hL:LocW L)(hres:(K.f.b,K.f.s)=res)(hs:SvL B w x v)(hf:SmF x) :
  Calls Tryz.prog 44 #[.pointer (some ⟨rb,0,none⟩),.agg (smA x v)] w (StR B rb K lp (((tyE E L x.x).2,L)) w):=by
 have S0:=zH (Sx.begin h hs hf)
 obtain⟨R,hR⟩:∃ R:Int × Loc,R=((tyE E L x.x).2,L):=⟨_,rfl⟩
 rw[← hR]
 obtain⟨Q,hQ⟩:∃ Q,Q=StR B rb K lp R w:=⟨_,rfl⟩
 rw[← hQ]
 have HQ:=zH hQ
 have HR:=zH hR
 clear hQ hR
 generalize hA:smA x v=A at *
 generalize hW:w.alloc (.cells A 103)=W0 at *
 have CT:=rtype_any x.x ht B W0 rb K E L lp v.xk (uI S0).rm hE hL (uI S0).sv.hx (uI S0).ok.2.1
 unfold ExpR at CT
 have CT:=zH CT
 clear h hE hL hres hs hf ht
 obtain⟨c0,c1,c2,c3,c4⟩:=(uI S0).bx.own
 have hs0:w.heap.size<W0.heap.size:=(uI S0).bx.lt
 rw[hk] at c0
 obtain⟨p0,p1,p2,p3,p4,p5⟩:=(uI S0).bx.exX
 have HK:=zH hk
 clear hk
 generalize tyE E L x.x=T at *
 obtain⟨⟨tb,ts⟩,er⟩:=T
 dsimp only at CT HR
 go_enter Tryz.func44,Tryz.ntmps44
 go_upto_region 1 with (refine wpList_boxTo rfl 103 (.tmp 1) rfl (some 3) rfl _ rfl A rfl ?_;rw[hW])
 go_wp2_with fail
 refine (uI CT).mono ?_
 rintro e W1 ⟨rfl,k1⟩
 have S1:=zH ((uI S0).step k1)
 clear CT S0 k1 c0 c1 c2 c3 c4 p0 p1 p2 p3 p4 p5 hs0
 go_wp2_with fail
 rw[uI HQ]
 exact ((uI S1).step (qaa _ _)).done er R (uI HR)
theorem st9_9 (E:Nev)(res:Int × Bool)(x:Sm)(v:Sv)(hk:x.k=9∨x.k=10)(B:Nat)(w:World)(rb:Nat)(K:Rk)(L:Loc)(lp:Nat)(hlp:lp≤1000000)(h:Rm B w rb K L lp)(hE:EvP K.p E)(hL:LocW L)(hres:(K.f.b,K.f.s)=res)(hs:SvL B w x v)(hf:SmF x) :
  Calls Tryz.prog 44 #[.pointer (some ⟨rb,0,none⟩),.agg (smA x v)] w (StR B rb K lp ((if lp=0 then 8 else 0,L)) w):=by
 have S0:=zH (Sx.begin h hs hf)
 obtain⟨R,hR⟩:∃ R:Int × Loc,R=(if lp=0 then 8 else 0,L):=⟨_,rfl⟩
 rw[← hR]
 obtain⟨Q,hQ⟩:∃ Q,Q=StR B rb K lp R w:=⟨_,rfl⟩
 rw[← hQ]
 have HQ:=zH hQ
 have HR:=zH hR
 clear hQ hR
 generalize hA:smA x v=A at *
 generalize hW:w.alloc (.cells A 103)=W0 at *
 have hlp9:lp≤9223372036854775807:=Nat.le_trans hlp (by omega)
 clear h hE hL hres hs hf
 obtain⟨c0,c1,c2,c3,c4⟩:=(uI S0).bx.own
 have hs0:w.heap.size<W0.heap.size:=(uI S0).bx.lt
 have c10:W0.cell? ⟨rb,10,none⟩=some (.int .i64 (lp:Int)):=by
  obtain⟨sv,hv,mv,h1⟩:=(uI S0).rm.box
  exact zC h1 10 _ rfl
 have hrb:=(uI S0).rm.lt
 by_cases h0:lp=0
 ·obtain rfl:R=(8,L):=by rw[uI HR,if_pos h0]
  subst h0
  have c10:W0.cell? ⟨rb,10,none⟩=some (.int .i64 0):=c10
  rcases hk with hk|hk
  all_goals
   rw[hk] at c0
   have HK:=zH hk
   clear hk
   go_enter Tryz.func44,Tryz.ntmps44
   go_upto_region 1 with (refine wpList_boxTo rfl 103 (.tmp 1) rfl (some 3) rfl _ rfl A rfl ?_;rw[hW])
   go_wp2_with fail
   rw[uI HQ]
   exact (uI S0).done 8 _ rfl
 ·obtain rfl:R=(0,L):=by rw[uI HR,if_neg h0]
  have e0:((lp:Int)==0)=false:=zBq (by omega)
  have HL0:=zH h0
  clear h0
  rcases hk with hk|hk
  all_goals
   rw[hk] at c0
   have HK:=zH hk
   clear hk
   go_enter Tryz.func44,Tryz.ntmps44
   go_upto_region 1 with (refine wpList_boxTo rfl 103 (.tmp 1) rfl (some 3) rfl _ rfl A rfl ?_;rw[hW])
   go_wp2_with fail
   rw[uI HQ]
   exact (uI S0).done 0 _ rfl
theorem st9_11 (E:Nev)(res:Int × Bool)(x:Sm)(v:Sv)(hk:x.k=11)(B:Nat)(w:World)(rb:Nat)(K:Rk)(L:Loc)(lp:Nat)(ICB:∀ y∈x.body,RsSm E res y)(TCB:∀ y∈x.body,TvS y)(NCB:∀ y∈x.body,NmS y)(hCB:lp+szL x.body≤1000000)(hfr:L.fr+4*(szL x.body:Int)≤1000000)(h:Rm B w rb K L lp)(hE:EvP K.p E)(hL:LocW L)(hres:(K.f.b,K.f.s)=res)(hs:SvL B w x v)(hf:SmF x) :
  Calls Tryz.prog 44 #[.pointer (some ⟨rb,0,none⟩),.agg (smA x v)] w (StR B rb K lp (hid L (ckL E res x.body lp L)) w):=by
 have S0:=zH (Sx.begin h hs hf)
 have CB:=zH (fun (W:World) (M:Loc) (lm:LocW M) (S:Sx B w W rb K M lp x v) (q:M.fr+4*(szL x.body:Int)≤1000000)=>stats9_any E res x.body ICB TCB NCB B W rb K M lp v.body S.rm hE lm hres S.sv.h3 q hCB)
 obtain⟨R,hR⟩:∃ R:Int × Loc,R=hid L (ckL E res x.body lp L):=⟨_,rfl⟩
 rw[← hR]
 obtain⟨Q,hQ⟩:∃ Q,Q=StR B rb K lp R w:=⟨_,rfl⟩
 rw[← hQ]
 have HQ:=zH hQ
 have HR:=zH hR
 clear hQ hR
 generalize hA:smA x v=A at *
 generalize hW:w.alloc (.cells A 103)=W0 at *
 have CC:=(uI CB) W0 L hL (uI S0) hfr
 rw[← uI HR] at CC
 clear CB h hE hL hres hs hf ICB TCB NCB hCB hfr
 obtain⟨c0,c1,c2,c3,c4⟩:=(uI S0).bx.own
 have hs0:w.heap.size<W0.heap.size:=(uI S0).bx.lt
 rw[hk] at c0
 obtain⟨l1,l2,l3,l4⟩:=(uI S0).bx.lists
 have HK:=zH hk
 have CC:=zH CC
 clear hk
 cases hh:x.has
 all_goals
  rw[hh] at c4
  have HHH:=zH hh
  clear hh
  go_enter Tryz.func44,Tryz.ntmps44
  go_upto_region 1 with (refine wpList_boxTo rfl 103 (.tmp 1) rfl (some 3) rfl _ rfl A rfl ?_;rw[hW])
  go_wp2_with fail
  refine (uI CC).mono ?_
  rintro e W1 ⟨rfl,hbx,hrm,k1⟩
  have Z:=zH (show StR B rb K lp R w (.returned (.int .i64 R.1)) W1 from⟨rfl,hbx,hrm,(uI S0).wr.trans k1⟩)
  clear CC S0 hbx hrm k1 c0 c1 c2 c3 c4 l1 l2 l3 l4 hs0
  go_wp2_with fail
  rw[uI HQ]
  exact uI Z
theorem st9_6 (E:Nev)(res:Int × Bool)(x:Sm)(v:Sv)(hk:x.k=6)(B:Nat)(w:World)(rb:Nat)(K:Rk)(L:Loc)(lp:Nat)(ht:TvE x.x)(ICB:∀ y∈x.body,RsSm E res y)(TCB:∀ y∈x.body,TvS y)(NCB:∀ y∈x.body,NmS y)(hCB:lp+1+szL x.body≤1000000)(hfr:L.fr+4*(szL x.body:Int)≤1000000)(h:Rm B w rb K L lp)(hE:EvP K.p E)(hL:LocW L)(hres:(K.f.b,K.f.s)=res)(hs:SvL B w x v)(hf:SmF x) :
  Calls Tryz.prog 44 #[.pointer (some ⟨rb,0,none⟩),.agg (smA x v)] w (StR B rb K lp (thc (tellC E L x.x,L) fun L=>hid L (ckL E res x.body (lp+1) L)) w):=by
 have S0:=zH (Sx.begin h hs hf)
 have CX:=zH (fun (W:World) (M:Loc) (lm:LocW M) (S:Sx B w W rb K M lp x v)=>qbd x.x ht B W rb K E M lp v.xk S.rm hE lm S.sv.hx S.ok.2.1)
 have CB:=zH (fun (W:World) (M:Loc) (lm:LocW M) (S:Sx B w W rb K M lp x v) (q:M.fr+4*(szL x.body:Int)≤1000000)=>again9_any E res x.body ICB TCB NCB B W rb K M lp v.body S.rm hE lm hres S.sv.h3 q hCB)
 obtain⟨R,hR⟩:∃ R:Int × Loc,R=thc (tellC E L x.x,L) fun L=>hid L (ckL E res x.body (lp+1) L):=⟨_,rfl⟩
 rw[← hR]
 obtain⟨Q,hQ⟩:∃ Q,Q=StR B rb K lp R w:=⟨_,rfl⟩
 rw[← hQ]
 have HQ:=zH hQ
 have HR:=zH hR
 clear hQ hR
 generalize hA:smA x v=A at *
 generalize hW:w.alloc (.cells A 103)=W0 at *
 have C1:=(uI CX) W0 L hL (uI S0)
 unfold ValR at C1
 have C1:=zH C1
 have HLW:=zH hL
 have HFR:=zH hfr
 clear CX h hE hL hres hs hf ICB TCB NCB hCB hfr ht
 obtain⟨c0,c1,c2,c3,c4⟩:=(uI S0).bx.own
 have hs0:w.heap.size<W0.heap.size:=(uI S0).bx.lt
 rw[hk] at c0
 obtain⟨p0,p1,p2,p3,p4,p5⟩:=(uI S0).bx.exX
 have HK:=zH hk
 clear hk
 have HT:=zH (show tellC E L x.x=(told (tyE E L x.x)).2 from rfl)
 rw[uI HT] at HR
 clear HT
 generalize told (tyE E L x.x)=T at *
 obtain⟨⟨tb,ts⟩,er⟩:=T
 dsimp only at C1 HR
 go_enter Tryz.func44,Tryz.ntmps44
 go_upto_region 1 with (refine wpList_boxTo rfl 103 (.tmp 1) rfl (some 3) rfl _ rfl A rfl ?_;rw[hW])
 go_wp2_with fail
 refine (uI C1).mono ?_
 rintro e W1 ⟨rfl,k1⟩
 have S1:=zH ((uI S0).step k1)
 clear C1 S0 k1 c0 c1 c2 c3 c4 p0 p1 p2 p3 p4 p5 hs0
 have S2:=zH ((uI S1).step (qaa W1 (.cells #[.int .i64 tb,.bool ts] 34)))
 obtain⟨c0,c1,c2,c3,c4⟩:=(uI S1).bx.own
 obtain⟨l1,l2,l3,l4⟩:=(uI S1).bx.lists
 rw[uI HK] at c0
 have hs1:w.heap.size<W1.heap.size:=(uI S1).bx.lt
 by_cases he:er=0
 rotate_left
 ·have ee:(er==0)=false:=zBq he
  obtain rfl:R=(er,L):=by rw[uI HR];exact thc_no9 he _
  have HE:=zH he
  clear he
  go_wp2_with fail
  rw[uI HQ]
  exact (uI S2).done er _ rfl
 subst he
 have HR2:=zH (show R=hid L (ckL E res x.body (lp+1) L) from (uI HR).trans (qbq _))
 have C2:=(uI CB) _ L (uI HLW) (uI S2) (uI HFR)
 rw[← uI HR2] at C2
 have C2:=zH C2
 go_wp2_with fail
 refine (uI C2).mono ?_
 rintro e W2 ⟨rfl,hbx,hrm,k2⟩
 have Z:=zH (show StR B rb K lp R w (.returned (.int .i64 R.1)) W2 from⟨rfl,hbx,hrm,(uI S2).wr.trans k2⟩)
 clear C2 S1 S2 hbx hrm k2 c0 c1 c2 c3 c4 l1 l2 l3 l4 hs1
 go_wp2_with fail
 rw[uI HQ]
 exact uI Z
theorem st9_5 (E:Nev)(res:Int × Bool)(x:Sm)(v:Sv)(hk:x.k=5)(B:Nat)(w:World)(rb:Nat)(K:Rk)(L:Loc)(lp:Nat)(ht:TvE x.x)(ICB:∀ y∈x.body,RsSm E res y)(TCB:∀ y∈x.body,TvS y)(NCB:∀ y∈x.body,NmS y)(hCB:lp+szL x.body≤1000000)(ICE:∀ y∈x.els,RsSm E res y)(TCE:∀ y∈x.els,TvS y)(NCE:∀ y∈x.els,NmS y)(hCE:lp+szL x.els≤1000000)(hfr:L.fr+4*(szL x.body:Int)+4*(szL x.els:Int)≤1000000)(h:Rm B w rb K L lp)(hE:EvP K.p E)(hL:LocW L)(hres:(K.f.b,K.f.s)=res)(hs:SvL B w x v)(hf:SmF x) :
  Calls Tryz.prog 44 #[.pointer (some ⟨rb,0,none⟩),.agg (smA x v)] w (StR B rb K lp (thc (tellC E L x.x,L) fun L=>thc (hid L (ckL E res x.body lp L)) fun L=>hid L (ckL E res x.els lp L)) w):=by
 have S0:=zH (Sx.begin h hs hf)
 have CX:=zH (fun (W:World) (M:Loc) (lm:LocW M) (S:Sx B w W rb K M lp x v)=>qbd x.x ht B W rb K E M lp v.xk S.rm hE lm S.sv.hx S.ok.2.1)
 have CB:=zH (fun (W:World) (M:Loc) (lm:LocW M) (S:Sx B w W rb K M lp x v) (q:M.fr+4*(szL x.body:Int)≤1000000)=>stats9_any E res x.body ICB TCB NCB B W rb K M lp v.body S.rm hE lm hres S.sv.h3 q hCB)
 have CE:=zH (fun (W:World) (M:Loc) (lm:LocW M) (S:Sx B w W rb K M lp x v) (q:M.fr+4*(szL x.els:Int)≤1000000)=>stats9_any E res x.els ICE TCE NCE B W rb K M lp v.els S.rm hE lm hres S.sv.h4 q hCE)
 obtain⟨R,hR⟩:∃ R:Int × Loc,R=thc (tellC E L x.x,L) fun L=>thc (hid L (ckL E res x.body lp L)) fun L=>hid L (ckL E res x.els lp L):=⟨_,rfl⟩
 rw[← hR]
 obtain⟨Q,hQ⟩:∃ Q,Q=StR B rb K lp R w:=⟨_,rfl⟩
 rw[← hQ]
 have HQ:=zH hQ
 have HR:=zH hR
 clear hQ hR
 generalize hA:smA x v=A at *
 generalize hW:w.alloc (.cells A 103)=W0 at *
 have C1:=(uI CX) W0 L hL (uI S0)
 unfold ValR at C1
 have C1:=zH C1
 have HLW:=zH hL
 have HFR:=zH (show L.fr+4*(szL x.body:Int)≤1000000 by omega)
 have HFR2:=zH hfr
 have GB:=zH (gd_list E res x.body (fun y hy=>ckS_gd E res y (NCB y hy)) lp L)
 have LB:=zH (qbh (qbi E res x.body (fun y hy=>locW_ckS E res y (TCB y hy)) lp L hL) L.op.length)
 clear CX h hE hL hres hs hf ICB TCB NCB hCB hfr ht ICE TCE NCE hCE
 obtain⟨c0,c1,c2,c3,c4⟩:=(uI S0).bx.own
 have hs0:w.heap.size<W0.heap.size:=(uI S0).bx.lt
 rw[hk] at c0
 obtain⟨p0,p1,p2,p3,p4,p5⟩:=(uI S0).bx.exX
 have HK:=zH hk
 clear hk
 have HT:=zH (show tellC E L x.x=(told (tyE E L x.x)).2 from rfl)
 rw[uI HT] at HR
 clear HT
 generalize told (tyE E L x.x)=T at *
 obtain⟨⟨tb,ts⟩,er⟩:=T
 dsimp only at C1 HR
 go_enter Tryz.func44,Tryz.ntmps44
 go_upto_region 1 with (refine wpList_boxTo rfl 103 (.tmp 1) rfl (some 3) rfl _ rfl A rfl ?_;rw[hW])
 go_wp2_with fail
 refine (uI C1).mono ?_
 rintro e W1 ⟨rfl,k1⟩
 have S1:=zH ((uI S0).step k1)
 clear C1 S0 k1 c0 c1 c2 c3 c4 p0 p1 p2 p3 p4 p5 hs0
 have S2:=zH ((uI S1).step (qaa W1 (.cells #[.int .i64 tb,.bool ts] 34)))
 obtain⟨c0,c1,c2,c3,c4⟩:=(uI S1).bx.own
 obtain⟨l1,l2,l3,l4⟩:=(uI S1).bx.lists
 rw[uI HK] at c0
 have hs1:w.heap.size<W1.heap.size:=(uI S1).bx.lt
 by_cases he:er=0
 rotate_left
 ·have ee:(er==0)=false:=zBq he
  obtain rfl:R=(er,L):=by rw[uI HR];exact thc_no9 he _
  have HE:=zH he
  clear he
  go_wp2_with fail
  rw[uI HQ]
  exact (uI S2).done er _ rfl
 subst he
 have HR2:=zH ((uI HR).trans (qbq _))
 have C2:=(uI CB) _ L (uI HLW) (uI S2) (uI HFR)
 have GB2:=zH (gd_hid (uI GB))
 clear GB
 have LB2:=zH (show LocW (hid L (ckL E res x.body lp L)).2 from uI LB)
 have GB3:=zH (show Gd (szL x.body) L (hid L (ckL E res x.body lp L)).2 from uI GB2)
 clear LB GB2
 generalize hid L (ckL E res x.body lp L)=T at *
 obtain⟨e2,N⟩:=T
 unfold StR at C2
 dsimp only at C2
 have C2:=zH C2
 go_wp2_with fail
 refine (uI C2).mono ?_
 rintro e W2 ⟨rfl,hbx,hrm,k2⟩
 have HBX:=zH hbx
 have HRM:=zH hrm
 have K2:=zH ((uI S2).wr.trans k2)
 have KK:=zH k2
 clear C2 hbx hrm k2 c0 c1 c2 c3 c4 l1 l2 l3 l4 hs1
 by_cases he2:e2=0
 rotate_left
 ·have ee:(e2==0)=false:=zBq he2
  obtain rfl:R=(e2,N):=by rw[uI HR2];exact thc_no9 he2 _
  have HE2:=zH he2
  clear he2
  go_wp2_with fail
  rw[uI HQ]
  exact⟨rfl,uI HBX,fun q=>absurd q (uI HE2),uI K2⟩
 subst he2
 have S3:=zH ((uI S2).next (uI KK) (uI HRM rfl))
 have HR3:=zH ((uI HR2).trans (qbq _))
 obtain⟨c0,c1,c2,c3,c4⟩:=(uI S3).bx.own
 obtain⟨l1,l2,l3,l4⟩:=(uI S3).bx.lists
 rw[uI HK] at c0
 have hs3:w.heap.size<W2.heap.size:=(uI S3).bx.lt
 have C3:=(uI CE) _ N (uI LB2) (uI S3) (by have:=(uI GB3).2.1;have:=uI HFR2;omega)
 rw[← uI HR3] at C3
 have C3:=zH C3
 go_wp2_with fail
 refine (uI C3).mono ?_
 rintro e W3 ⟨rfl,hbx,hrm,k3⟩
 have Z:=zH (show StR B rb K lp R w (.returned (.int .i64 R.1)) W3 from⟨rfl,hbx,hrm,(uI S3).wr.trans k3⟩)
 clear C3 S1 S2 S3 hbx hrm k3 c0 c1 c2 c3 c4 l1 l2 l3 l4 hs3
 go_wp2_with fail
 rw[uI HQ]
 exact uI Z
theorem st9_8 (E:Nev)(res:Int × Bool)(x:Sm)(v:Sv)(hk:x.k=8)(B:Nat)(w:World)(rb:Nat)(K:Rk)(L:Loc)(lp:Nat)(ht:x.has=true→TvE x.x)(hfw:IsW K.f.b∨(K.f.b=0∧K.f.s=false))(h:Rm B w rb K L lp)(hE:EvP K.p E)(hL:LocW L)(hres:(K.f.b,K.f.s)=res)(hs:SvL B w x v)(hf:SmF x) :
  Calls Tryz.prog 44 #[.pointer (some ⟨rb,0,none⟩),.agg (smA x v)] w (StR B rb K lp ((if x.has=decide (res≠(0,false)) then perC E L x.has x.x else 9,L)) w):=by
 have S0:=zH (Sx.begin h hs hf)
 obtain⟨R,hR⟩:∃ R:Int × Loc,R=(if x.has=decide (res≠(0,false)) then perC E L x.has x.x else 9,L):=⟨_,rfl⟩
 rw[← hR]
 obtain⟨Q,hQ⟩:∃ Q,Q=StR B rb K lp R w:=⟨_,rfl⟩
 rw[← hQ]
 have HQ:=zH hQ
 have HR:=zH hR
 clear hQ hR
 generalize hA:smA x v=A at *
 generalize hW:w.alloc (.cells A 103)=W0 at *
 have CX:=zH (fun (u:x.has=true)=>qbd x.x (ht u) B W0 rb K E L lp v.xk (uI S0).rm hE hL (uI S0).sv.hx (uI S0).ok.2.1)
 have CX8:=zH (fun (u:x.has=true) (W:World) (S:Sx B w W rb K L lp x v)=>qbd x.x (ht u) B W rb K E L lp v.xk S.rm hE hL S.sv.hx S.ok.2.1)
 have HRB:=zH (show decide (res≠(0,false))=!(K.f.b==0) from by
  rw[← hres]
  rcases hfw with hw|⟨h1,h2⟩
  ·have h0:K.f.b≠0:=by rintro h0;rw[h0] at hw;rcases hw with hw|hw|hw|hw <;> cases hw
   rw[zBq h0]
   exact decide_eq_true (fun e=>h0 (by injection e))
  ·rw[h1,h2];rfl)
 clear h hE hL hres hs hf ht hfw
 obtain⟨c0,c1,c2,c3,c4⟩:=(uI S0).bx.own
 have hs0:w.heap.size<W0.heap.size:=(uI S0).bx.lt
 rw[hk] at c0
 have c3r:W0.cell? ⟨rb,3,none⟩=some (.int .i64 K.f.b):=by
  obtain⟨sv,hv,mv,h1⟩:=(uI S0).rm.box
  exact zC h1 3 _ rfl
 have hrb:=(uI S0).rm.lt
 obtain⟨p0,p1,p2,p3,p4,p5⟩:=(uI S0).bx.exX
 have HK:=zH hk
 clear hk
 rw[uI HRB] at HR
 generalize K.f.b=fb at *
 cases hz:(fb==0)
 ·cases hh:x.has
  ·rw[hh] at c4 HR CX
   rw[hz] at HR
   have HHH:=zH hh
   clear hh
   go_enter Tryz.func44,Tryz.ntmps44
   go_upto_region 1 with (refine wpList_boxTo rfl 103 (.tmp 1) rfl (some 3) rfl _ rfl A rfl ?_;rw[hW])
   go_wp2_with fail
   have CL:=zH (fun (W:World) (S:Sx B w W rb K L lp x v) (c:W.cell? ⟨rb,3,none⟩=some (.int .i64 fb))=>(⟨by rw[← uI HHH];exact S.bx.own.2.2.2.2,c,S.rm.lt⟩:W.cell? ⟨w.heap.size,4,none⟩=some (.bool false)∧W.cell? ⟨rb,3,none⟩=some (.int .i64 fb)∧rb<W.heap.size))
   refine zU (fun W=>W.cell? ⟨w.heap.size,4,none⟩=some (.bool false)∧W.cell? ⟨rb,3,none⟩=some (.int .i64 fb)∧rb<W.heap.size) (by kernel_rfl) ?_
   have S9:=zH ((uI S0).step (Below.refl _ _).drew)
   have c39:W0.drew.cell? ⟨rb,3,none⟩=some (.int .i64 fb):=c3r
   clear S0 c0 c1 c2 c3 c4 c3r hrb hs0 p0 p1 p2 p3 p4 p5
   generalize W0.drew=W8 at *
   refine qR 0 10 0 ?_
   simp only[zTD]
   repeat (refine zS (fun K hK=>?_);go_simp;first|(refine zQ ?_ (fun W hW=>?_) (hK _ ?_);rotate_left;(obtain⟨d0,d1,d2⟩:=hW;go_simp;first|done|rfl);clear hK K)|(refine hK _ ?_;clear hK K))
   refine zO ?_
   refine zE (by kernel_rfl) (uI CL _ (uI S9) c39) ?_
   obtain⟨c0,c1,c2,c3,c4⟩:=(uI S9).bx.own
   have hs0:w.heap.size<W8.heap.size:=(uI S9).bx.lt
   obtain⟨p0,p1,p2,p3,p4,p5⟩:=(uI S9).bx.exX
   rw[uI HK] at c0
   rw[uI HHH] at c4
   obtain rfl:R=(9,L):=(uI HR).trans (by simp)
   clear CL CX c39
   go_wp2_with fail
   rw[uI HQ]
   exact (uI S9).done 9 _ rfl
  ·rw[hh] at c4 HR CX
   rw[hz] at HR
   have HHH:=zH hh
   clear hh
   go_enter Tryz.func44,Tryz.ntmps44
   go_upto_region 1 with (refine wpList_boxTo rfl 103 (.tmp 1) rfl (some 3) rfl _ rfl A rfl ?_;rw[hW])
   go_wp2_with fail
   have CL:=zH (fun (W:World) (S:Sx B w W rb K L lp x v) (c:W.cell? ⟨rb,3,none⟩=some (.int .i64 fb))=>(⟨by rw[← uI HHH];exact S.bx.own.2.2.2.2,c,S.rm.lt⟩:W.cell? ⟨w.heap.size,4,none⟩=some (.bool true)∧W.cell? ⟨rb,3,none⟩=some (.int .i64 fb)∧rb<W.heap.size))
   refine zU (fun W=>W.cell? ⟨w.heap.size,4,none⟩=some (.bool true)∧W.cell? ⟨rb,3,none⟩=some (.int .i64 fb)∧rb<W.heap.size) (by kernel_rfl) ?_
   have S9:=zH ((uI S0).step (Below.refl _ _).drew)
   have c39:W0.drew.cell? ⟨rb,3,none⟩=some (.int .i64 fb):=c3r
   clear S0 c0 c1 c2 c3 c4 c3r hrb hs0 p0 p1 p2 p3 p4 p5
   generalize W0.drew=W8 at *
   refine qR 0 10 0 ?_
   simp only[zTD]
   repeat (refine zS (fun K hK=>?_);go_simp;first|(refine zQ ?_ (fun W hW=>?_) (hK _ ?_);rotate_left;(obtain⟨d0,d1,d2⟩:=hW;go_simp;first|done|rfl);clear hK K)|(refine hK _ ?_;clear hK K))
   refine zO ?_
   refine zE (by kernel_rfl) (uI CL _ (uI S9) c39) ?_
   obtain⟨c0,c1,c2,c3,c4⟩:=(uI S9).bx.own
   have hs0:w.heap.size<W8.heap.size:=(uI S9).bx.lt
   obtain⟨p0,p1,p2,p3,p4,p5⟩:=(uI S9).bx.exX
   rw[uI HK] at c0
   rw[uI HHH] at c4
   have HR:=zH (show R=((told (tyE E L x.x)).2,L) from (uI HR).trans (by simp[perC,tellC]))
   have C1:=(uI CX8) (uI HHH) W8 (uI S9)
   unfold ValR at C1
   have C1:=zH C1
   clear CL CX c39
   generalize told (tyE E L x.x)=T at *
   obtain⟨⟨tb,ts⟩,er⟩:=T
   dsimp only at C1 HR
   go_wp2_with fail
   refine (uI C1).mono ?_
   rintro e W1 ⟨rfl,k1⟩
   have S1:=zH ((uI S9).step k1)
   clear C1 k1 c0 c1 c2 c3 c4 p0 p1 p2 p3 p4 p5 hs0
   have S2:=zH ((uI S1).step (qaa W1 (.cells #[.int .i64 tb,.bool ts] 34)))
   obtain⟨c0,c1,c2,c3,c4⟩:=(uI S1).bx.own
   rw[uI HK] at c0
   have hs1:w.heap.size<W1.heap.size:=(uI S1).bx.lt
   by_cases he:er=0
   rotate_left
   ·have ee:(er==0)=false:=zBq he
    have HE:=zH he
    clear he
    go_wp2_with fail
    rw[uI HQ]
    exact (uI S2).done er _ (uI HR)
   ·subst he
    go_wp2_with fail
    rw[uI HQ]
    exact (uI S2).done 0 _ (uI HR)
 ·cases hh:x.has
  ·rw[hh] at c4 HR CX
   rw[hz] at HR
   have HHH:=zH hh
   clear hh
   go_enter Tryz.func44,Tryz.ntmps44
   go_upto_region 1 with (refine wpList_boxTo rfl 103 (.tmp 1) rfl (some 3) rfl _ rfl A rfl ?_;rw[hW])
   go_wp2_with fail
   have CL:=zH (fun (W:World) (S:Sx B w W rb K L lp x v) (c:W.cell? ⟨rb,3,none⟩=some (.int .i64 fb))=>(⟨by rw[← uI HHH];exact S.bx.own.2.2.2.2,c,S.rm.lt⟩:W.cell? ⟨w.heap.size,4,none⟩=some (.bool false)∧W.cell? ⟨rb,3,none⟩=some (.int .i64 fb)∧rb<W.heap.size))
   refine zU (fun W=>W.cell? ⟨w.heap.size,4,none⟩=some (.bool false)∧W.cell? ⟨rb,3,none⟩=some (.int .i64 fb)∧rb<W.heap.size) (by kernel_rfl) ?_
   have S9:=zH ((uI S0).step (Below.refl _ _).drew)
   have c39:W0.drew.cell? ⟨rb,3,none⟩=some (.int .i64 fb):=c3r
   clear S0 c0 c1 c2 c3 c4 c3r hrb hs0 p0 p1 p2 p3 p4 p5
   generalize W0.drew=W8 at *
   refine qR 0 10 0 ?_
   simp only[zTD]
   repeat (refine zS (fun K hK=>?_);go_simp;first|(refine zQ ?_ (fun W hW=>?_) (hK _ ?_);rotate_left;(obtain⟨d0,d1,d2⟩:=hW;go_simp;first|done|rfl);clear hK K)|(refine hK _ ?_;clear hK K))
   refine zO ?_
   refine zE (by kernel_rfl) (uI CL _ (uI S9) c39) ?_
   obtain⟨c0,c1,c2,c3,c4⟩:=(uI S9).bx.own
   have hs0:w.heap.size<W8.heap.size:=(uI S9).bx.lt
   obtain⟨p0,p1,p2,p3,p4,p5⟩:=(uI S9).bx.exX
   rw[uI HK] at c0
   rw[uI HHH] at c4
   obtain rfl:R=(0,L):=(uI HR).trans (by simp[perC])
   clear CL CX c39
   go_wp2_with fail
   rw[uI HQ]
   exact (uI S9).done 0 _ rfl
  ·rw[hh] at c4 HR CX
   rw[hz] at HR
   have HHH:=zH hh
   clear hh
   go_enter Tryz.func44,Tryz.ntmps44
   go_upto_region 1 with (refine wpList_boxTo rfl 103 (.tmp 1) rfl (some 3) rfl _ rfl A rfl ?_;rw[hW])
   go_wp2_with fail
   have CL:=zH (fun (W:World) (S:Sx B w W rb K L lp x v) (c:W.cell? ⟨rb,3,none⟩=some (.int .i64 fb))=>(⟨by rw[← uI HHH];exact S.bx.own.2.2.2.2,c,S.rm.lt⟩:W.cell? ⟨w.heap.size,4,none⟩=some (.bool true)∧W.cell? ⟨rb,3,none⟩=some (.int .i64 fb)∧rb<W.heap.size))
   refine zU (fun W=>W.cell? ⟨w.heap.size,4,none⟩=some (.bool true)∧W.cell? ⟨rb,3,none⟩=some (.int .i64 fb)∧rb<W.heap.size) (by kernel_rfl) ?_
   have S9:=zH ((uI S0).step (Below.refl _ _).drew)
   have c39:W0.drew.cell? ⟨rb,3,none⟩=some (.int .i64 fb):=c3r
   clear S0 c0 c1 c2 c3 c4 c3r hrb hs0 p0 p1 p2 p3 p4 p5
   generalize W0.drew=W8 at *
   refine qR 0 10 0 ?_
   simp only[zTD]
   repeat (refine zS (fun K hK=>?_);go_simp;first|(refine zQ ?_ (fun W hW=>?_) (hK _ ?_);rotate_left;(obtain⟨d0,d1,d2⟩:=hW;go_simp;first|done|rfl);clear hK K)|(refine hK _ ?_;clear hK K))
   refine zO ?_
   refine zE (by kernel_rfl) (uI CL _ (uI S9) c39) ?_
   obtain⟨c0,c1,c2,c3,c4⟩:=(uI S9).bx.own
   have hs0:w.heap.size<W8.heap.size:=(uI S9).bx.lt
   obtain⟨p0,p1,p2,p3,p4,p5⟩:=(uI S9).bx.exX
   rw[uI HK] at c0
   rw[uI HHH] at c4
   obtain rfl:R=(9,L):=(uI HR).trans (by simp)
   clear CL CX c39
   go_wp2_with fail
   rw[uI HQ]
   exact (uI S9).done 9 _ rfl
theorem st9_0 (E:Nev)(res:Int × Bool)(x:Sm)(v:Sv)(k2:x.k≠2)(k3:x.k≠3)(k4:x.k≠4)(k5:x.k≠5)(k6:x.k≠6)(k7:x.k≠7)(k8:x.k≠8)(k9:x.k≠9)(k10:x.k≠10)(k11:x.k≠11)(B:Nat)(w:World)(rb:Nat)(K:Rk)(L:Loc)(lp:Nat)(h:Rm B w rb K L lp)(hE:EvP K.p E)(hL:LocW L)(hres:(K.f.b,K.f.s)=res)(hs:SvL B w x v)(hf:SmF x) :
  Calls Tryz.prog 44 #[.pointer (some ⟨rb,0,none⟩),.agg (smA x v)] w (StR B rb K lp ((0,L)) w):=by
 have S0:=zH (Sx.begin h hs hf)
 obtain⟨R,hR⟩:∃ R:Int × Loc,R=(0,L):=⟨_,rfl⟩
 rw[← hR]
 obtain⟨Q,hQ⟩:∃ Q,Q=StR B rb K lp R w:=⟨_,rfl⟩
 rw[← hQ]
 have HQ:=zH hQ
 have HR:=zH hR
 clear hQ hR
 generalize hA:smA x v=A at *
 generalize hW:w.alloc (.cells A 103)=W0 at *
 clear h hE hL hres hs hf
 obtain⟨c0,c1,c2,c3,c4⟩:=(uI S0).bx.own
 have hs0:w.heap.size<W0.heap.size:=(uI S0).bx.lt
 have e2:(x.k==2)=false:=zBq k2
 have e3:(x.k==3)=false:=zBq k3
 have e4:(x.k==4)=false:=zBq k4
 have e5:(x.k==5)=false:=zBq k5
 have e6:(x.k==6)=false:=zBq k6
 have e7:(x.k==7)=false:=zBq k7
 have e8:(x.k==8)=false:=zBq k8
 have e9:(x.k==9)=false:=zBq k9
 have e10:(x.k==10)=false:=zBq k10
 have e11:(x.k==11)=false:=zBq k11
 clear k2 k3 k4 k5 k6 k7 k8 k9 k10 k11
 cases hh:x.has
 all_goals
  rw[hh] at c4
  have HHH:=zH hh
  clear hh
  go_enter Tryz.func44,Tryz.ntmps44
  go_upto_region 1 with (refine wpList_boxTo rfl 103 (.tmp 1) rfl (some 3) rfl _ rfl A rfl ?_;rw[hW])
  go_wp2_with fail
  rw[uI HQ]
  exact (uI S0).done 0 R (uI HR)
theorem st9_2 (E:Nev)(res:Int × Bool)(x:Sm)(v:Sv)(hk:x.k=2)(B:Nat)(w:World)(rb:Nat)(K:Rk)(L:Loc)(lp:Nat)(ht:x.has=true→TvE x.x)(hfr:L.fr≤1000000)(hb:IsW x.b)(h:Rm B w rb K L lp)(hE:EvP K.p E)(hL:LocW L)(hres:(K.f.b,K.f.s)=res)(hs:SvL B w x v)(hf:SmF x) :
  Calls Tryz.prog 44 #[.pointer (some ⟨rb,0,none⟩),.agg (smA x v)] w (StR B rb K lp (thc (perC E L x.has x.x,L) fun L=>declC L x.b x.s x.nm) w):=by
 have S0:=zH (Sx.begin h hs hf)
 obtain⟨R,hR⟩:∃ R:Int × Loc,R=thc (perC E L x.has x.x,L) fun L=>declC L x.b x.s x.nm:=⟨_,rfl⟩
 rw[← hR]
 obtain⟨Q,hQ⟩:∃ Q,Q=StR B rb K lp R w:=⟨_,rfl⟩
 rw[← hQ]
 have HQ:=zH hQ
 have HR:=zH hR
 clear hQ hR
 generalize hA:smA x v=A at *
 generalize hW:w.alloc (.cells A 103)=W0 at *
 have CX:=zH (fun (u:x.has=true)=>qbd x.x (ht u) B W0 rb K E L lp v.xk (uI S0).rm hE hL (uI S0).sv.hx (uI S0).ok.2.1)
 have HFR:=zH hfr
 have HIB:=zH hb
 clear h hE hL hres hs hf ht hfr hb
 obtain⟨c0,c1,c2,c3,c4⟩:=(uI S0).bx.own
 have hs0:w.heap.size<W0.heap.size:=(uI S0).bx.lt
 rw[hk] at c0
 obtain⟨p0,p1,p2,p3,p4,p5⟩:=(uI S0).bx.exX
 have HK:=zH hk
 clear hk
 cases hh:x.has
 ·rw[hh] at c4 HR
  have HHH:=zH hh
  clear hh CX p0 p1 p2 p3 p4 p5
  have HR2:=zH (show R=declC L x.b x.s x.nm from (uI HR).trans (qbq _))
  have hs1:=hs0
  go_enter Tryz.func44,Tryz.ntmps44
  go_upto_region 1 with (refine wpList_boxTo rfl 103 (.tmp 1) rfl (some 3) rfl _ rfl A rfl ?_;rw[hW])
  have CA:=zH (radd9_any B W0 rb K L lp (uI S0).rm x.b x.s x.nm (uI S0).ok.1 (uI HFR) (uI HIB))
  go_wp2_with fail
  refine (uI CA).mono ?_
  rintro e W3 ⟨rfl,hrm,k3⟩
  have HRM:=zH hrm
  have K3:=zH ((uI S0).wr.trans k3)
  clear CA hrm k3 c0 c1 c2 c3 c4 hs1
  cases hd:(L.m x.nm).isSome
  ·obtain rfl:R=(0,(declC L x.b x.s x.nm).2):=by rw[uI HR2];unfold declC;rw[if_neg (by simp[hd])]
   have HD:=zH hd
   clear hd
   go_wp2_with fail
   rw[uI HQ]
   exact⟨rfl,(uI HRM).box,fun _=>uI HRM,uI K3⟩
  ·obtain rfl:R=(7,(declC L x.b x.s x.nm).2):=by rw[uI HR2];unfold declC;rw[if_pos hd]
   have HD:=zH hd
   clear hd
   go_wp2_with fail
   rw[uI HQ]
   exact⟨rfl,(uI HRM).box,fun _=>uI HRM,uI K3⟩
 ·rw[hh] at c4 HR
  have C1:=(uI CX) hh
  unfold ValR at C1
  have C1:=zH C1
  have HHH:=zH hh
  clear hh CX
  have HR:=zH (show R=thc ((told (tyE E L x.x)).2,L) fun L=>declC L x.b x.s x.nm from uI HR)
  generalize told (tyE E L x.x)=T at *
  obtain⟨⟨tb,ts⟩,er⟩:=T
  dsimp only at C1 HR
  go_enter Tryz.func44,Tryz.ntmps44
  go_upto_region 1 with (refine wpList_boxTo rfl 103 (.tmp 1) rfl (some 3) rfl _ rfl A rfl ?_;rw[hW])
  go_wp2_with fail
  refine (uI C1).mono ?_
  rintro e W1 ⟨rfl,k1⟩
  have S1:=zH ((uI S0).step k1)
  clear C1 S0 k1 c0 c1 c2 c3 c4 p0 p1 p2 p3 p4 p5 hs0
  have S2:=zH ((uI S1).step (qaa W1 (.cells #[.int .i64 tb,.bool ts] 34)))
  obtain⟨c0,c1,c2,c3,c4⟩:=(uI S1).bx.own
  rw[uI HK] at c0
  rw[uI HHH] at c4
  have hs1:w.heap.size<W1.heap.size:=(uI S1).bx.lt
  by_cases he:er=0
  rotate_left
  ·have ee:(er==0)=false:=zBq he
   obtain rfl:R=(er,L):=by rw[uI HR];exact thc_no9 he _
   have HE:=zH he
   clear he
   go_wp2_with fail
   rw[uI HQ]
   exact (uI S2).done er _ rfl
  subst he
  have HR2:=zH (show R=declC L x.b x.s x.nm from (uI HR).trans (qbq _))
  have CA:=zH (radd9_any B _ rb K L lp (uI S2).rm x.b x.s x.nm (uI S2).ok.1 (uI HFR) (uI HIB))
  go_wp2_with fail
  refine (uI CA).mono ?_
  rintro e W3 ⟨rfl,hrm,k3⟩
  have HRM:=zH hrm
  have K3:=zH ((uI S2).wr.trans k3)
  clear CA hrm k3 c0 c1 c2 c3 c4 hs1
  cases hd:(L.m x.nm).isSome
  ·obtain rfl:R=(0,(declC L x.b x.s x.nm).2):=by rw[uI HR2];unfold declC;rw[if_neg (by simp[hd])]
   have HD:=zH hd
   clear hd
   go_wp2_with fail
   rw[uI HQ]
   exact⟨rfl,(uI HRM).box,fun _=>uI HRM,uI K3⟩
  ·obtain rfl:R=(7,(declC L x.b x.s x.nm).2):=by rw[uI HR2];unfold declC;rw[if_pos hd]
   have HD:=zH hd
   clear hd
   go_wp2_with fail
   rw[uI HQ]
   exact⟨rfl,(uI HRM).box,fun _=>uI HRM,uI K3⟩
theorem st9_3 (E:Nev)(res:Int × Bool)(x:Sm)(v:Sv)(hk:x.k=3)(B:Nat)(w:World)(rb:Nat)(K:Rk)(L:Loc)(lp:Nat)(ht:TvE x.x)(hi:x.has=true→TvE x.i)(h:Rm B w rb K L lp)(hE:EvP K.p E)(hL:LocW L)(hres:(K.f.b,K.f.s)=res)(hs:SvL B w x v)(hf:SmF x) :
  Calls Tryz.prog 44 #[.pointer (some ⟨rb,0,none⟩),.agg (smA x v)] w (StR B rb K lp ((setC E L x.has x.nm x.i x.x,L)) w):=by
 have S0:=zH (Sx.begin h hs hf)
 have CX:=zH (fun (W:World) (M:Loc) (lm:LocW M) (S:Sx B w W rb K M lp x v)=>qbd x.x ht B W rb K E M lp v.xk S.rm hE lm S.sv.hx S.ok.2.1)
 obtain⟨R,hR⟩:∃ R:Int × Loc,R=(setC E L x.has x.nm x.i x.x,L):=⟨_,rfl⟩
 rw[← hR]
 obtain⟨Q,hQ⟩:∃ Q,Q=StR B rb K lp R w:=⟨_,rfl⟩
 rw[← hQ]
 have HQ:=zH hQ
 have HR:=zH hR
 clear hQ hR
 generalize hA:smA x v=A at *
 generalize hW:w.alloc (.cells A 103)=W0 at *
 have CI:=zH (fun (u:x.has=true)=>qbd x.i (hi u) B W0 rb K E L lp v.ik (uI S0).rm hE hL (uI S0).sv.hi (uI S0).ok.2.2)
 have HEV:=zH hE.v
 have HLW:=zH hL
 clear h hE hL hres hs hf ht hi
 obtain⟨c0,c1,c2,c3,c4⟩:=(uI S0).bx.own
 have hs0:w.heap.size<W0.heap.size:=(uI S0).bx.lt
 rw[hk] at c0
 have HK:=zH hk
 clear hk
 cases hh:x.has
 ·rw[hh] at c4 HR
  have HHH:=zH hh
  clear hh CI
  have HR2:=zH (show R=(if (askC E L x.nm false).2≠0 then (askC E L x.nm false).2 else tellC E L x.x,L) from uI HR)
  have hs1:=hs0
  go_enter Tryz.func44,Tryz.ntmps44
  go_upto_region 1 with (refine wpList_boxTo rfl 103 (.tmp 1) rfl (some 3) rfl _ rfl A rfl ?_;rw[hW])
  have CF:=zH (find_any E B W0 rb K L lp (uI S0).rm (uI HEV) x.nm)
  go_wp2_with fail
  refine (uI CF).mono ?_
  rintro e V1 ⟨nm',fb,fs,sz,gl,rfl,hfy,k5⟩
  have HFY:=zH hfy
  have S5:=zH ((uI S0).step k5)
  have S6:=zH ((uI S5).step (qaa V1 (.cells #[.string nm',.int .i64 fb,.bool fs,.int .i64 sz,.bool gl] 138)))
  clear CF hfy k5 c0 c1 c2 c3 c4 hs1
  obtain⟨c0,c1,c2,c3,c4⟩:=(uI S5).bx.own
  obtain⟨p0,p1,p2,p3,p4,p5⟩:=(uI S5).bx.exX
  rw[uI HK] at c0
  rw[uI HHH] at c4
  have hs5:w.heap.size<V1.heap.size:=(uI S5).bx.lt
  rcases hv:varC E L x.nm with _|⟨vb,vs,va⟩
  ·have HV:=zH hv
   obtain rfl:R=(7,L):=by rw[uI HR2];unfold askC;rw[hv];rfl
   clear hv
   simp only[Option.isSome_none]
   go_wp2_with fail
   rw[uI HQ]
   exact (uI S6).done 7 _ rfl
  have hy:=uI HFY _ hv
  injection hy with hy1 hy2
  injection hy2 with hy2 hy3
  subst hy1 hy2
  have HV:=zH hv
  have H3:=zH hy3
  have HR3:=zH (show R=(if va=false then tellC E L x.x else 9,L) from by
   have e:askC E L x.nm false=if va=false then ((vb,vs),0) else ((0,false),9):=by unfold askC;rw[hv]
   rw[uI HR2,e]
   by_cases q:va=false
   ·simp[q]
   ·simp[q])
  clear hv hy3
  simp only[Option.isSome_some]
  by_cases hz:0<sz
  ·have hva:=zH (show va=true from (uI H3).trans (decide_eq_true hz))
   obtain rfl:R=(9,L):=by rw[uI HR3,uI hva];rfl
   go_wp2_with fail
   rw[uI HQ]
   exact (uI S6).done 9 _ rfl
  ·have hva:=zH (show va=false from (uI H3).trans (decide_eq_false hz))
   have C9:=(uI CX) (V1.alloc (.cells #[.string nm',.int .i64 vb,.bool vs,.int .i64 sz,.bool gl] 138)) L (uI HLW) (uI S6)
   unfold ValR at C9
   have C9:=zH C9
   have HR4:=zH (show R=((told (tyE E L x.x)).2,L) from by rw[uI HR3,uI hva];rfl)
   generalize told (tyE E L x.x)=T at *
   obtain⟨⟨tb,ts⟩,er⟩:=T
   dsimp only at C9 HR4
   go_wp2_with fail
   refine (uI C9).mono ?_
   rintro e V2 ⟨rfl,k6⟩
   have S7:=zH ((uI S6).step k6)
   clear C9 k6 c0 c1 c2 c3 c4 p0 p1 p2 p3 p4 p5 hs5
   go_wp2_with fail
   rw[uI HQ]
   exact ((uI S7).step (qaa _ _)).done er _ (uI HR4)
 ·rw[hh] at c4 HR
  have C1:=(uI CI) hh
  unfold ValR at C1
  have C1:=zH C1
  have HHH:=zH hh
  obtain⟨p0,p1,p2,p3,p4,p5⟩:=(uI S0).bx.exI
  clear hh CI
  have HR:=zH (show R=(if (told (tyE E L x.i)).2≠0 then (told (tyE E L x.i)).2 else if (askC E L x.nm true).2≠0 then (askC E L x.nm true).2 else tellC E L x.x,L) from uI HR)
  generalize told (tyE E L x.i)=T at *
  obtain⟨⟨tb,ts⟩,er⟩:=T
  dsimp only at C1 HR
  go_enter Tryz.func44,Tryz.ntmps44
  go_upto_region 1 with (refine wpList_boxTo rfl 103 (.tmp 1) rfl (some 3) rfl _ rfl A rfl ?_;rw[hW])
  go_wp2_with fail
  refine (uI C1).mono ?_
  rintro e W1 ⟨rfl,k1⟩
  have S1:=zH ((uI S0).step k1)
  clear C1 S0 k1 c0 c1 c2 c3 c4 p0 p1 p2 p3 p4 p5 hs0
  have S2:=zH ((uI S1).step (qaa W1 (.cells #[.int .i64 tb,.bool ts] 34)))
  obtain⟨c0,c1,c2,c3,c4⟩:=(uI S1).bx.own
  rw[uI HK] at c0
  rw[uI HHH] at c4
  have hs1:w.heap.size<W1.heap.size:=(uI S1).bx.lt
  by_cases he:er=0
  rotate_left
  ·have ee:(er==0)=false:=zBq he
   obtain rfl:R=(er,L):=by rw[uI HR];rw[if_pos he]
   have HE:=zH he
   clear he
   go_wp2_with fail
   rw[uI HQ]
   exact (uI S2).done er _ rfl
  subst he
  have HR2:=zH (show R=(if (askC E L x.nm true).2≠0 then (askC E L x.nm true).2 else tellC E L x.x,L) from by rw[uI HR,if_neg (by simp)])
  have CF:=zH (find_any E B _ rb K L lp (uI S2).rm (uI HEV) x.nm)
  go_wp2_with fail
  refine (uI CF).mono ?_
  rintro e V1 ⟨nm',fb,fs,sz,gl,rfl,hfy,k5⟩
  have HFY:=zH hfy
  have S5:=zH ((uI S2).step k5)
  have S6:=zH ((uI S5).step (qaa V1 (.cells #[.string nm',.int .i64 fb,.bool fs,.int .i64 sz,.bool gl] 138)))
  clear CF hfy k5 c0 c1 c2 c3 c4 hs1
  obtain⟨c0,c1,c2,c3,c4⟩:=(uI S5).bx.own
  obtain⟨p0,p1,p2,p3,p4,p5⟩:=(uI S5).bx.exX
  rw[uI HK] at c0
  rw[uI HHH] at c4
  have hs5:w.heap.size<V1.heap.size:=(uI S5).bx.lt
  rcases hv:varC E L x.nm with _|⟨vb,vs,va⟩
  ·have HV:=zH hv
   obtain rfl:R=(7,L):=by rw[uI HR2];unfold askC;rw[hv];rfl
   clear hv
   simp only[Option.isSome_none]
   go_wp2_with fail
   rw[uI HQ]
   exact (uI S6).done 7 _ rfl
  have hy:=uI HFY _ hv
  injection hy with hy1 hy2
  injection hy2 with hy2 hy3
  subst hy1 hy2
  have HV:=zH hv
  have H3:=zH hy3
  have HR3:=zH (show R=(if va=true then tellC E L x.x else 9,L) from by
   have e:askC E L x.nm true=if va=true then ((vb,vs),0) else ((0,false),9):=by unfold askC;rw[hv]
   rw[uI HR2,e]
   by_cases q:va=true
   ·simp[q]
   ·simp[q])
  clear hv hy3
  simp only[Option.isSome_some]
  by_cases hz:0<sz
  ·have hva:=zH (show va=true from (uI H3).trans (decide_eq_true hz))
   have C9:=(uI CX) (V1.alloc (.cells #[.string nm',.int .i64 vb,.bool vs,.int .i64 sz,.bool gl] 138)) L (uI HLW) (uI S6)
   unfold ValR at C9
   have C9:=zH C9
   have HR4:=zH (show R=((told (tyE E L x.x)).2,L) from by rw[uI HR3,uI hva];rfl)
   generalize told (tyE E L x.x)=T at *
   obtain⟨⟨tb,ts⟩,er⟩:=T
   dsimp only at C9 HR4
   go_wp2_with fail
   refine (uI C9).mono ?_
   rintro e V2 ⟨rfl,k6⟩
   have S7:=zH ((uI S6).step k6)
   clear C9 k6 c0 c1 c2 c3 c4 p0 p1 p2 p3 p4 p5 hs5
   go_wp2_with fail
   rw[uI HQ]
   exact ((uI S7).step (qaa _ _)).done er _ (uI HR4)
  ·have hva:=zH (show va=false from (uI H3).trans (decide_eq_false hz))
   obtain rfl:R=(9,L):=by rw[uI HR3,uI hva];rfl
   go_wp2_with fail
   rw[uI HQ]
   exact (uI S6).done 9 _ rfl
theorem st9_7 (E:Nev)(res:Int × Bool)(x:Sm)(v:Sv)(hk:x.k=7)(B:Nat)(w:World)(rb:Nat)(K:Rk)(L:Loc)(lp:Nat)(ht:x.has=true→TvE x.x)(ICI:∀ y∈x.init,RsSm E res y)(TCI:∀ y∈x.init,TvS y)(NCI:∀ y∈x.init,NmS y)(hCI:lp+szL x.init≤1000000)(ICS:∀ y∈x.step,RsSm E res y)(TCS:∀ y∈x.step,TvS y)(NCS:∀ y∈x.step,NmS y)(hCS:lp+szL x.step≤1000000)(ICB:∀ y∈x.body,RsSm E res y)(TCB:∀ y∈x.body,TvS y)(NCB:∀ y∈x.body,NmS y)(hCB:lp+1+szL x.body≤1000000)(hfr:L.fr+4*(szL x.init:Int)+4*(szL x.step:Int)+4*(szL x.body:Int)≤1000000)(h:Rm B w rb K L lp)(hE:EvP K.p E)(hL:LocW L)(hres:(K.f.b,K.f.s)=res)(hs:SvL B w x v)(hf:SmF x) :
  Calls Tryz.prog 44 #[.pointer (some ⟨rb,0,none⟩),.agg (smA x v)] w (StR B rb K lp (thc (hid L (ckL E res x.init lp L)) fun L=>thc (perC E L x.has x.x,L) fun L=>thc (hid L (ckL E res x.step lp L)) fun L=>hid L (ckL E res x.body (lp+1) L)) w):=by
 have S0:=zH (Sx.begin h hs hf)
 have CI:=zH (fun (W:World) (M:Loc) (lm:LocW M) (S:Sx B w W rb K M lp x v) (q:M.fr+4*(szL x.init:Int)≤1000000)=>stats9_any E res x.init ICI TCI NCI B W rb K M lp v.init S.rm hE lm hres S.sv.h1 q hCI)
 have CS:=zH (fun (W:World) (M:Loc) (lm:LocW M) (S:Sx B w W rb K M lp x v) (q:M.fr+4*(szL x.step:Int)≤1000000)=>stats9_any E res x.step ICS TCS NCS B W rb K M lp v.step S.rm hE lm hres S.sv.h2 q hCS)
 have CB:=zH (fun (W:World) (M:Loc) (lm:LocW M) (S:Sx B w W rb K M lp x v) (q:M.fr+4*(szL x.body:Int)≤1000000)=>again9_any E res x.body ICB TCB NCB B W rb K M lp v.body S.rm hE lm hres S.sv.h3 q hCB)
 obtain⟨R,hR⟩:∃ R:Int × Loc,R=thc (hid L (ckL E res x.init lp L)) fun L=>thc (perC E L x.has x.x,L) fun L=>thc (hid L (ckL E res x.step lp L)) fun L=>hid L (ckL E res x.body (lp+1) L):=⟨_,rfl⟩
 rw[← hR]
 obtain⟨Q,hQ⟩:∃ Q,Q=StR B rb K lp R w:=⟨_,rfl⟩
 rw[← hQ]
 have HQ:=zH hQ
 have HR:=zH hR
 clear hQ hR
 generalize hA:smA x v=A at *
 generalize hW:w.alloc (.cells A 103)=W0 at *
 have C1:=(uI CI) W0 L hL (uI S0) (by omega)
 have HFR:=zH hfr
 have NMS:=zH NCS
 have TVS:=zH TCS
 have G1:=zH (show Gd (szL x.init) L (hid L (ckL E res x.init lp L)).2 from gd_hid (gd_list E res x.init (fun y hy=>ckS_gd E res y (NCI y hy)) lp L))
 have LN1:=zH (show LocW (hid L (ckL E res x.init lp L)).2 from qbh (qbi E res x.init (fun y hy=>locW_ckS E res y (TCI y hy)) lp L hL) _)
 have CX:=zH (fun (u:x.has=true) (W:World) (M:Loc) (lm:LocW M) (S:Sx B w W rb K M lp x v)=>qbd x.x (ht u) B W rb K E M lp v.xk S.rm hE lm S.sv.hx S.ok.2.1)
 clear CI h hE hL hres hs hf ht ICI TCI NCI hCI ICS TCS NCS hCS ICB TCB NCB hCB hfr
 obtain⟨c0,c1,c2,c3,c4⟩:=(uI S0).bx.own
 have hs0:w.heap.size<W0.heap.size:=(uI S0).bx.lt
 rw[hk] at c0
 obtain⟨l1,l2,l3,l4⟩:=(uI S0).bx.lists
 have HK:=zH hk
 clear hk
 generalize hid L (ckL E res x.init lp L)=T1 at *
 obtain⟨e1,N1⟩:=T1
 unfold StR at C1
 dsimp only at C1
 have C1:=zH C1
 go_enter Tryz.func44,Tryz.ntmps44
 go_upto_region 1 with (refine wpList_boxTo rfl 103 (.tmp 1) rfl (some 3) rfl _ rfl A rfl ?_;rw[hW])
 go_wp2_with fail
 refine (uI C1).mono ?_
 rintro e W1 ⟨rfl,hbx,hrm,k1⟩
 have HBX:=zH hbx
 have HRM:=zH hrm
 have K1:=zH ((uI S0).wr.trans k1)
 have KK:=zH k1
 clear C1 hbx hrm k1 c0 c1 c2 c3 c4 l1 l2 l3 l4 hs0
 by_cases he1:e1=0
 rotate_left
 ·have ee:(e1==0)=false:=zBq he1
  obtain rfl:R=(e1,N1):=by rw[uI HR];exact thc_no9 he1 _
  have HE1:=zH he1
  clear he1
  go_wp2_with fail
  rw[uI HQ]
  exact⟨rfl,uI HBX,fun q=>absurd q (uI HE1),uI K1⟩
 subst he1
 have S2:=zH ((uI S0).next (uI KK) (uI HRM rfl))
 have HR2:=zH ((uI HR).trans (qbq _))
 clear HBX HRM K1 KK S0 HR
 obtain⟨c0,c1,c2,c3,c4⟩:=(uI S2).bx.own
 obtain⟨l1,l2,l3,l4⟩:=(uI S2).bx.lists
 rw[uI HK] at c0
 have hs3:w.heap.size<W1.heap.size:=(uI S2).bx.lt
 cases hh:x.has
 ·rw[hh] at c4 HR2
  have HHH:=zH hh
  clear hh CX
  have HR3:=zH ((uI HR2).trans (qbq _))
  have HR4:=zH (show R=thc (hid N1 (ckL E res x.step lp N1)) fun L=>hid L (ckL E res x.body (lp+1) L) from uI HR3)
  have C4:=(uI CS) _ N1 (uI LN1) (uI S2) (by have:=(uI G1).2.1;have:=uI HFR;omega)
  have G2:=zH (show Gd (szL x.step) N1 (hid N1 (ckL E res x.step lp N1)).2 from gd_hid (gd_list E res x.step (fun y hy=>ckS_gd E res y (uI NMS y hy)) lp N1))
  have LN2:=zH (show LocW (hid N1 (ckL E res x.step lp N1)).2 from qbh (qbi E res x.step (fun y hy=>locW_ckS E res y (uI TVS y hy)) lp N1 (uI LN1)) _)
  generalize hid N1 (ckL E res x.step lp N1)=T2 at *
  obtain⟨e2,N2⟩:=T2
  unfold StR at C4
  dsimp only at C4
  have C4:=zH C4
  go_wp2_with fail
  refine (uI C4).mono ?_
  rintro e W4 ⟨rfl,hbx,hrm,k4⟩
  have HBX:=zH hbx
  have HRM:=zH hrm
  have K4:=zH ((uI S2).wr.trans k4)
  have KK:=zH k4
  clear C4 hbx hrm k4 c0 c1 c2 c3 c4 l1 l2 l3 l4 hs3
  by_cases he2:e2=0
  rotate_left
  ·have ee:(e2==0)=false:=zBq he2
   obtain rfl:R=(e2,N2):=by rw[uI HR4];exact thc_no9 he2 _
   have HE2:=zH he2
   clear he2
   go_wp2_with fail
   rw[uI HQ]
   exact⟨rfl,uI HBX,fun q=>absurd q (uI HE2),uI K4⟩
  subst he2
  have S5:=zH ((uI S2).next (uI KK) (uI HRM rfl))
  have HR5:=zH ((uI HR4).trans (qbq _))
  obtain⟨c0,c1,c2,c3,c4⟩:=(uI S5).bx.own
  obtain⟨l1,l2,l3,l4⟩:=(uI S5).bx.lists
  rw[uI HK] at c0
  have hs5:w.heap.size<W4.heap.size:=(uI S5).bx.lt
  have C5:=(uI CB) _ N2 (uI LN2) (uI S5) (by have:=(uI G1).2.1;have:=(uI G2).2.1;have:=uI HFR;omega)
  rw[← uI HR5] at C5
  have C5:=zH C5
  go_wp2_with fail
  refine (uI C5).mono ?_
  rintro e W5 ⟨rfl,hbx,hrm,k5⟩
  have Z:=zH (show StR B rb K lp R w (.returned (.int .i64 R.1)) W5 from⟨rfl,hbx,hrm,(uI S5).wr.trans k5⟩)
  clear C5 S5 S2 hbx hrm k5 c0 c1 c2 c3 c4 l1 l2 l3 l4 hs5
  go_wp2_with fail
  rw[uI HQ]
  exact uI Z
 ·rw[hh] at c4 HR2
  have C3:=(uI CX) hh W1 N1 (uI LN1) (uI S2)
  unfold ValR at C3
  have C3:=zH C3
  have HHH:=zH hh
  obtain⟨p0,p1,p2,p3,p4,p5⟩:=(uI S2).bx.exX
  clear hh CX
  have HRV:=zH (show R=thc ((told (tyE E N1 x.x)).2,N1) fun L=>thc (hid L (ckL E res x.step lp L)) fun L=>hid L (ckL E res x.body (lp+1) L) from uI HR2)
  generalize told (tyE E N1 x.x)=T at *
  obtain⟨⟨tb,ts⟩,er⟩:=T
  dsimp only at C3 HRV
  go_wp2_with fail
  refine (uI C3).mono ?_
  rintro e W3 ⟨rfl,k3⟩
  have S3a:=zH ((uI S2).step k3)
  have S3:=zH ((uI S3a).step (qaa W3 (.cells #[.int .i64 tb,.bool ts] 34)))
  clear C3 k3 c0 c1 c2 c3 c4 l1 l2 l3 l4 p0 p1 p2 p3 p4 p5 hs3
  obtain⟨c0,c1,c2,c3,c4⟩:=(uI S3a).bx.own
  obtain⟨l1,l2,l3,l4⟩:=(uI S3a).bx.lists
  rw[uI HK] at c0
  rw[uI HHH] at c4
  have hs3:w.heap.size<W3.heap.size:=(uI S3a).bx.lt
  by_cases he:er=0
  rotate_left
  ·have ee:(er==0)=false:=zBq he
   obtain rfl:R=(er,N1):=by rw[uI HRV];exact thc_no9 he _
   have HE:=zH he
   clear he
   go_wp2_with fail
   rw[uI HQ]
   exact (uI S3).done er _ rfl
  subst he
  have HR3:=zH ((uI HRV).trans (qbq _))
  have HR4:=zH (show R=thc (hid N1 (ckL E res x.step lp N1)) fun L=>hid L (ckL E res x.body (lp+1) L) from uI HR3)
  have C4:=(uI CS) _ N1 (uI LN1) (uI S3) (by have:=(uI G1).2.1;have:=uI HFR;omega)
  have G2:=zH (show Gd (szL x.step) N1 (hid N1 (ckL E res x.step lp N1)).2 from gd_hid (gd_list E res x.step (fun y hy=>ckS_gd E res y (uI NMS y hy)) lp N1))
  have LN2:=zH (show LocW (hid N1 (ckL E res x.step lp N1)).2 from qbh (qbi E res x.step (fun y hy=>locW_ckS E res y (uI TVS y hy)) lp N1 (uI LN1)) _)
  generalize hid N1 (ckL E res x.step lp N1)=T2 at *
  obtain⟨e2,N2⟩:=T2
  unfold StR at C4
  dsimp only at C4
  have C4:=zH C4
  go_wp2_with fail
  refine (uI C4).mono ?_
  rintro e W4 ⟨rfl,hbx,hrm,k4⟩
  have HBX:=zH hbx
  have HRM:=zH hrm
  have K4:=zH ((uI S3).wr.trans k4)
  have KK:=zH k4
  clear C4 hbx hrm k4 c0 c1 c2 c3 c4 l1 l2 l3 l4 hs3
  by_cases he2:e2=0
  rotate_left
  ·have ee:(e2==0)=false:=zBq he2
   obtain rfl:R=(e2,N2):=by rw[uI HR4];exact thc_no9 he2 _
   have HE2:=zH he2
   clear he2
   go_wp2_with fail
   rw[uI HQ]
   exact⟨rfl,uI HBX,fun q=>absurd q (uI HE2),uI K4⟩
  subst he2
  have S5:=zH ((uI S3).next (uI KK) (uI HRM rfl))
  have HR5:=zH ((uI HR4).trans (qbq _))
  obtain⟨c0,c1,c2,c3,c4⟩:=(uI S5).bx.own
  obtain⟨l1,l2,l3,l4⟩:=(uI S5).bx.lists
  rw[uI HK] at c0
  have hs5:w.heap.size<W4.heap.size:=(uI S5).bx.lt
  have C5:=(uI CB) _ N2 (uI LN2) (uI S5) (by have:=(uI G1).2.1;have:=(uI G2).2.1;have:=uI HFR;omega)
  rw[← uI HR5] at C5
  have C5:=zH C5
  go_wp2_with fail
  refine (uI C5).mono ?_
  rintro e W5 ⟨rfl,hbx,hrm,k5⟩
  have Z:=zH (show StR B rb K lp R w (.returned (.int .i64 R.1)) W5 from⟨rfl,hbx,hrm,(uI S5).wr.trans k5⟩)
  clear C5 S5 S3 hbx hrm k5 c0 c1 c2 c3 c4 l1 l2 l3 l4 hs5
  go_wp2_with fail
  rw[uI HQ]
  exact uI Z
end Go.Proofs.YtjpnnmkefaodoaaGreat
