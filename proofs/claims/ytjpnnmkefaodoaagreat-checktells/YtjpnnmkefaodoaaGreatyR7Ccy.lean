/-
  R7Cc.
-/
import Derived.Test.YtjpnnmkefaodoaaGreatyR7Cy
set_option maxHeartbeats 8000000
set_option maxRecDepth 100000
namespace Go.Proofs.YtjpnnmkefaodoaaGreat
open Go.RowKit
set_option linter.unusedSimpArgs false
set_option linter.unusedVariables false
theorem cm_lt (a b:Int):decide (cm a b<0)=decide (a<b):=by
 unfold cm
 split
 ·simp[*]
 ·split <;> simp[*]
theorem cm_le (a b:Int):decide (cm a b≤0)=!decide (b<a):=by
 unfold cm
 split
 ·have:¬ b<a:=by omega
  simp[*]
 ·split
  ·have:¬ b<a:=by omega
   simp[*]
  ·have:b<a:=by omega
   simp[*]
theorem cm_gt (a b:Int):decide (0<cm a b)=decide (b<a):=by
 unfold cm
 split
 ·have:¬ b<a:=by omega
  simp[*]
 ·split
  ·have:¬ b<a:=by omega
   simp[*]
  ·have:b<a:=by omega
   simp[*]
theorem cm_ge (a b:Int):decide (0≤cm a b)=!decide (a<b):=by
 unfold cm
 split
 ·simp[*]
 ·split <;> simp[*]
theorem cm_eq (a b:Int):(cm a b==0)=decide (a=b):=by
 unfold cm
 split
 ·have:¬ a=b:=by omega
  simp[*]
 ·split <;> simp[*]
theorem mn_inj {n p q:Int}(s:Bool)(hp:cut n p=p)(hq:cut n q=q):(p==q)=decide (mn s n p=mn s n q):=by
 by_cases h:p=q
 ·subst h;simp
 ·have:¬ mn s n p=mn s n q:=fun e=>h (by rw[← hp,← hq,← cut_mn s n p,← cut_mn s n q,e])
  rw[decide_eq_false this,beq_eq_false_iff_ne]
  exact h
theorem rbinary_c16 (a b x y:Int)(s t:Bool)(w:World)(hx:IsW x)(hy:IsW y)(ha:U a)(hb:U b):Calls Tryz.prog 41 #[.int .i64 16,.int .u64 a,.int .u64 b,.agg #[.int .i64 x,.bool s],.agg #[.int .i64 y,.bool t]] w fun e w'=>e=.returned (.tuple #[.int .u64 (b1 (hld 16 (cs x s y t) (cb x y) (conv a x s (cb x y)) (conv b y t (cb x y)))),.int .i64 0])∧Below w.heap.size w w':=by
 have hX:=isW_c hx hy
 have uP:U (conv a x s (cb x y)):=qas hX
 have uQ:U (conv b y t (cb x y)):=qas hX
 have MP:=zX (fun (w:World)=>qac (conv a x s (cb x y)) (cb x y) (cs x s y t) w hX uP)
 have MQ:=zX (fun (w:World)=>qac (conv b y t (cb x y)) (cb x y) (cs x s y t) w hX uQ)
 have m1:=qai hX (cs x s y t) (conv a x s (cb x y))
 have m2:=qai hX (cs x s y t) (conv b y t (cb x y))
 have b8:(18446744073709551616:Nat)<4294967296 ^ 8:=by decide
 have hv:hld 16 (cs x s y t) (cb x y) (conv a x s (cb x y)) (conv b y t (cb x y))=(decide (mn (cs x s y t) (cb x y) (conv a x s (cb x y))<mn (cs x s y t) (cb x y) (conv b y t (cb x y)))):=rfl
 rw[hv]
 generalize mn (cs x s y t) (cb x y) (conv a x s (cb x y))=M1 at *
 generalize mn (cs x s y t) (cb x y) (conv b y t (cb x y))=M2 at *
 have ht:=cm_lt M1 M2
 clear hv
 generalize decide (M1<M2)=BV at *
 cases BV
 ·try simp only[Bool.not_false,Bool.not_true] at ht
  show Calls _ _ _ _ fun e w'=>e=.returned (.tuple #[.int .u64 0,.int .i64 0])∧_
  go_enter Tryz.func41,Tryz.ntmps41
  go_wp2_with fail
  refine (qab x s _ hx).mono ?_
  rintro e w1 ⟨rfl,k1⟩
  have R1:=zX (Duo.new k1)
  clear k1
  obtain⟨x2,x3⟩:=(uX R1).B.at2
  go_wp2_with fail
  refine (qab y t _ hy).mono ?_
  rintro e w2 ⟨rfl,k2⟩
  have R2:=zX ((uX R1).step k2)
  clear k2 R1 x2 x3
  obtain⟨x0,x1⟩:=(uX R2).A.at2
  obtain⟨x2,x3⟩:=(uX R2).B.at2
  go_wp2_with fail
  refine (qah x s y t w2).mono ?_
  rintro e w3 ⟨rfl,k3⟩
  clear x0 x1 x2 x3
  have R3:=zX ((uX R2).step k3)
  clear R2 k3
  go_wp2_with fail
  have R4:=zX ((uX R3).more (T:=34) (u:=.int .i64 (cb x y)) (v:=.bool (cs x s y t)))
  generalize w3.alloc (.cells #[.int .i64 (cb x y),.bool (cs x s y t)] 34)=w4 at *
  generalize w3.heap.size=pt at *
  clear R3
  obtain⟨x0,x1⟩:=(uX R4).1.A.at2
  obtain⟨x2,x3⟩:=(uX R4).1.B.at2
  obtain⟨x4,x5⟩:=(uX R4).2.at2
  have l0:=(uX R4).1.A.1
  have l1:=(uX R4).1.B.1
  have l2:=(uX R4).2.1
  refine zL (by kernel_rfl) (by kernel_rfl) ?_
  intro L hne lt hlc hlf hlm
  repeat (go_big_quiet_step ((go_at_call 38;exact zM hlm (qae _ _ _ _ _ _ (by assumption) (by assumption) (by assumption)))))
  refine wpQuiet_nil ?_
  intro wq kq
  clear hlm hlf hlc lt hne L
  obtain⟨hqc,hqf⟩:=qad kq
  clear x0 x1 x2 x3 x4 x5 l0 l1 l2 hqc hqf
  have R:=zX ((uX R4).1.step kq)
  have T:=zX ((uX R4).2.step kq)
  clear R4 kq
  obtain⟨t0,t1⟩:=(uX T).at2
  go_wp2_with fail
  refine zU (fun W=>W.cell? ⟨pt,0,none⟩=some (.int .i64 (cb x y))∧W.cell? ⟨pt,1,none⟩=some (.bool (cs x s y t))) (by kernel_rfl) ?_
  refine qR 0 2 6 ?_
  simp only[zTD]
  repeat (refine zS (fun K hK=>?_);go_simp;first|(refine zQ ?_ (fun W hW=>?_) (hK _ ?_);rotate_left;(obtain⟨c1,c2⟩:=hW;go_simp;first|done|rfl);clear hK K)|(refine hK _ ?_;clear hK K))
  refine zO ?_
  refine qR 3 2 4 ?_
  simp only[zTD]
  repeat (refine zS (fun K hK=>?_);go_simp;first|(refine zQ ?_ (fun W hW=>?_) (hK _ ?_);rotate_left;(obtain⟨c1,c2⟩:=hW;go_simp;first|done|rfl);clear hK K)|(refine hK _ ?_;clear hK K))
  refine zO ?_
  refine qO 2 3 ⟨t0,t1⟩ ?_
  simp only[zTD]
  go_wp2_with fail
  refine (uX MP _).mono ?_
  rintro e w5 ⟨pp,rfl,hpp,k5,G5⟩
  have k5':Below wq.heap.size wq w5:=bT (Below.refl _ _).drew k5
  have R':=zX ((uX R).step k5')
  have T':=zX ((uX T).step k5')
  have H5:=zX G5
  clear R T k5 k5' G5 t0 t1 hpp
  have R:=R'
  have T:=T'
  clear R' T'
  obtain⟨t0,t1⟩:=(uX T).at2
  go_wp2_with fail
  first|refine zN ?_|refine zG ?_
  refine qO 5 2 ⟨t0,t1⟩ ?_
  simp only[zTD]
  go_wp2_with fail
  refine (uX MQ _).mono ?_
  rintro e w6 ⟨pq,rfl,hpq,k6,G6⟩
  have R':=zX ((uX R).step k6)
  have T':=zX ((uX T).step k6)
  have H5':=zX ((uX H5).step k6)
  have H6:=zX G6
  clear R T k6 G6 t0 t1 H5 hpq
  have R:=R'
  have T:=T'
  clear R' T'
  obtain⟨t0,t1⟩:=(uX T).at2
  go_wp2_with fail
  first|refine zN ?_|refine zG ?_
  refine qO 6 1 ⟨t0,t1⟩ ?_
  simp only[zTD]
  go_wp2_with fail
  refine (qaw pp pq M1 M2 w6 (uX H5') (uX H6) (by omega) (by omega)).mono ?_
  rintro e w7 ⟨⟨jj,rfl⟩,rfl⟩
  have kd:Below w6.heap.size w6 (w6.drewN jj):=_root_.Go.below_drewN (Below.refl _ _) jj
  have R':=zX ((uX R).step kd)
  have T':=zX ((uX T).step kd)
  clear R T kd t0 t1 H5' H6
  have R:=R'
  have T:=T'
  clear R' T'
  generalize w6.drewN jj=w7 at *
  obtain⟨t0,t1⟩:=(uX T).at2
  go_wp2_with fail
  first|refine zN ?_|refine zG ?_
  refine qO 7 0 ⟨t0,t1⟩ ?_
  simp only[zTD]
  go_wp2_with fail
  first|refine zN ?_|refine zG ?_
  refine zE (by kernel_rfl) ⟨t0,t1⟩ ?_
  go_wp2_with fail
  go_ret2
  exact⟨rfl,(uX R).bel⟩
 ·try simp only[Bool.not_false,Bool.not_true] at ht
  show Calls _ _ _ _ fun e w'=>e=.returned (.tuple #[.int .u64 1,.int .i64 0])∧_
  go_enter Tryz.func41,Tryz.ntmps41
  go_wp2_with fail
  refine (qab x s _ hx).mono ?_
  rintro e w1 ⟨rfl,k1⟩
  have R1:=zX (Duo.new k1)
  clear k1
  obtain⟨x2,x3⟩:=(uX R1).B.at2
  go_wp2_with fail
  refine (qab y t _ hy).mono ?_
  rintro e w2 ⟨rfl,k2⟩
  have R2:=zX ((uX R1).step k2)
  clear k2 R1 x2 x3
  obtain⟨x0,x1⟩:=(uX R2).A.at2
  obtain⟨x2,x3⟩:=(uX R2).B.at2
  go_wp2_with fail
  refine (qah x s y t w2).mono ?_
  rintro e w3 ⟨rfl,k3⟩
  clear x0 x1 x2 x3
  have R3:=zX ((uX R2).step k3)
  clear R2 k3
  go_wp2_with fail
  have R4:=zX ((uX R3).more (T:=34) (u:=.int .i64 (cb x y)) (v:=.bool (cs x s y t)))
  generalize w3.alloc (.cells #[.int .i64 (cb x y),.bool (cs x s y t)] 34)=w4 at *
  generalize w3.heap.size=pt at *
  clear R3
  obtain⟨x0,x1⟩:=(uX R4).1.A.at2
  obtain⟨x2,x3⟩:=(uX R4).1.B.at2
  obtain⟨x4,x5⟩:=(uX R4).2.at2
  have l0:=(uX R4).1.A.1
  have l1:=(uX R4).1.B.1
  have l2:=(uX R4).2.1
  refine zL (by kernel_rfl) (by kernel_rfl) ?_
  intro L hne lt hlc hlf hlm
  repeat (go_big_quiet_step ((go_at_call 38;exact zM hlm (qae _ _ _ _ _ _ (by assumption) (by assumption) (by assumption)))))
  refine wpQuiet_nil ?_
  intro wq kq
  clear hlm hlf hlc lt hne L
  obtain⟨hqc,hqf⟩:=qad kq
  clear x0 x1 x2 x3 x4 x5 l0 l1 l2 hqc hqf
  have R:=zX ((uX R4).1.step kq)
  have T:=zX ((uX R4).2.step kq)
  clear R4 kq
  obtain⟨t0,t1⟩:=(uX T).at2
  go_wp2_with fail
  refine zU (fun W=>W.cell? ⟨pt,0,none⟩=some (.int .i64 (cb x y))∧W.cell? ⟨pt,1,none⟩=some (.bool (cs x s y t))) (by kernel_rfl) ?_
  refine qR 0 2 6 ?_
  simp only[zTD]
  repeat (refine zS (fun K hK=>?_);go_simp;first|(refine zQ ?_ (fun W hW=>?_) (hK _ ?_);rotate_left;(obtain⟨c1,c2⟩:=hW;go_simp;first|done|rfl);clear hK K)|(refine hK _ ?_;clear hK K))
  refine zO ?_
  refine qR 3 2 4 ?_
  simp only[zTD]
  repeat (refine zS (fun K hK=>?_);go_simp;first|(refine zQ ?_ (fun W hW=>?_) (hK _ ?_);rotate_left;(obtain⟨c1,c2⟩:=hW;go_simp;first|done|rfl);clear hK K)|(refine hK _ ?_;clear hK K))
  refine zO ?_
  refine qO 2 3 ⟨t0,t1⟩ ?_
  simp only[zTD]
  go_wp2_with fail
  refine (uX MP _).mono ?_
  rintro e w5 ⟨pp,rfl,hpp,k5,G5⟩
  have k5':Below wq.heap.size wq w5:=bT (Below.refl _ _).drew k5
  have R':=zX ((uX R).step k5')
  have T':=zX ((uX T).step k5')
  have H5:=zX G5
  clear R T k5 k5' G5 t0 t1 hpp
  have R:=R'
  have T:=T'
  clear R' T'
  obtain⟨t0,t1⟩:=(uX T).at2
  go_wp2_with fail
  first|refine zN ?_|refine zG ?_
  refine qO 5 2 ⟨t0,t1⟩ ?_
  simp only[zTD]
  go_wp2_with fail
  refine (uX MQ _).mono ?_
  rintro e w6 ⟨pq,rfl,hpq,k6,G6⟩
  have R':=zX ((uX R).step k6)
  have T':=zX ((uX T).step k6)
  have H5':=zX ((uX H5).step k6)
  have H6:=zX G6
  clear R T k6 G6 t0 t1 H5 hpq
  have R:=R'
  have T:=T'
  clear R' T'
  obtain⟨t0,t1⟩:=(uX T).at2
  go_wp2_with fail
  first|refine zN ?_|refine zG ?_
  refine qO 6 1 ⟨t0,t1⟩ ?_
  simp only[zTD]
  go_wp2_with fail
  refine (qaw pp pq M1 M2 w6 (uX H5') (uX H6) (by omega) (by omega)).mono ?_
  rintro e w7 ⟨⟨jj,rfl⟩,rfl⟩
  have kd:Below w6.heap.size w6 (w6.drewN jj):=_root_.Go.below_drewN (Below.refl _ _) jj
  have R':=zX ((uX R).step kd)
  have T':=zX ((uX T).step kd)
  clear R T kd t0 t1 H5' H6
  have R:=R'
  have T:=T'
  clear R' T'
  generalize w6.drewN jj=w7 at *
  obtain⟨t0,t1⟩:=(uX T).at2
  go_wp2_with fail
  first|refine zN ?_|refine zG ?_
  refine qO 7 0 ⟨t0,t1⟩ ?_
  simp only[zTD]
  go_wp2_with fail
  first|refine zN ?_|refine zG ?_
  refine zE (by kernel_rfl) ⟨t0,t1⟩ ?_
  go_wp2_with fail
  go_ret2
  exact⟨rfl,(uX R).bel⟩
theorem rbinary_c17 (a b x y:Int)(s t:Bool)(w:World)(hx:IsW x)(hy:IsW y)(ha:U a)(hb:U b):Calls Tryz.prog 41 #[.int .i64 17,.int .u64 a,.int .u64 b,.agg #[.int .i64 x,.bool s],.agg #[.int .i64 y,.bool t]] w fun e w'=>e=.returned (.tuple #[.int .u64 (b1 (hld 17 (cs x s y t) (cb x y) (conv a x s (cb x y)) (conv b y t (cb x y)))),.int .i64 0])∧Below w.heap.size w w':=by
 have hX:=isW_c hx hy
 have uP:U (conv a x s (cb x y)):=qas hX
 have uQ:U (conv b y t (cb x y)):=qas hX
 have MP:=zX (fun (w:World)=>qac (conv a x s (cb x y)) (cb x y) (cs x s y t) w hX uP)
 have MQ:=zX (fun (w:World)=>qac (conv b y t (cb x y)) (cb x y) (cs x s y t) w hX uQ)
 have m1:=qai hX (cs x s y t) (conv a x s (cb x y))
 have m2:=qai hX (cs x s y t) (conv b y t (cb x y))
 have b8:(18446744073709551616:Nat)<4294967296 ^ 8:=by decide
 have hv:hld 17 (cs x s y t) (cb x y) (conv a x s (cb x y)) (conv b y t (cb x y))=(!decide (mn (cs x s y t) (cb x y) (conv b y t (cb x y))<mn (cs x s y t) (cb x y) (conv a x s (cb x y)))):=rfl
 rw[hv]
 generalize mn (cs x s y t) (cb x y) (conv a x s (cb x y))=M1 at *
 generalize mn (cs x s y t) (cb x y) (conv b y t (cb x y))=M2 at *
 have ht:=cm_le M1 M2
 clear hv
 generalize decide (M2<M1)=BV at *
 cases BV
 ·try simp only[Bool.not_false,Bool.not_true] at ht
  show Calls _ _ _ _ fun e w'=>e=.returned (.tuple #[.int .u64 1,.int .i64 0])∧_
  go_enter Tryz.func41,Tryz.ntmps41
  go_wp2_with fail
  refine (qab x s _ hx).mono ?_
  rintro e w1 ⟨rfl,k1⟩
  have R1:=zX (Duo.new k1)
  clear k1
  obtain⟨x2,x3⟩:=(uX R1).B.at2
  go_wp2_with fail
  refine (qab y t _ hy).mono ?_
  rintro e w2 ⟨rfl,k2⟩
  have R2:=zX ((uX R1).step k2)
  clear k2 R1 x2 x3
  obtain⟨x0,x1⟩:=(uX R2).A.at2
  obtain⟨x2,x3⟩:=(uX R2).B.at2
  go_wp2_with fail
  refine (qah x s y t w2).mono ?_
  rintro e w3 ⟨rfl,k3⟩
  clear x0 x1 x2 x3
  have R3:=zX ((uX R2).step k3)
  clear R2 k3
  go_wp2_with fail
  have R4:=zX ((uX R3).more (T:=34) (u:=.int .i64 (cb x y)) (v:=.bool (cs x s y t)))
  generalize w3.alloc (.cells #[.int .i64 (cb x y),.bool (cs x s y t)] 34)=w4 at *
  generalize w3.heap.size=pt at *
  clear R3
  obtain⟨x0,x1⟩:=(uX R4).1.A.at2
  obtain⟨x2,x3⟩:=(uX R4).1.B.at2
  obtain⟨x4,x5⟩:=(uX R4).2.at2
  have l0:=(uX R4).1.A.1
  have l1:=(uX R4).1.B.1
  have l2:=(uX R4).2.1
  refine zL (by kernel_rfl) (by kernel_rfl) ?_
  intro L hne lt hlc hlf hlm
  repeat (go_big_quiet_step ((go_at_call 38;exact zM hlm (qae _ _ _ _ _ _ (by assumption) (by assumption) (by assumption)))))
  refine wpQuiet_nil ?_
  intro wq kq
  clear hlm hlf hlc lt hne L
  obtain⟨hqc,hqf⟩:=qad kq
  clear x0 x1 x2 x3 x4 x5 l0 l1 l2 hqc hqf
  have R:=zX ((uX R4).1.step kq)
  have T:=zX ((uX R4).2.step kq)
  clear R4 kq
  obtain⟨t0,t1⟩:=(uX T).at2
  go_wp2_with fail
  refine zU (fun W=>W.cell? ⟨pt,0,none⟩=some (.int .i64 (cb x y))∧W.cell? ⟨pt,1,none⟩=some (.bool (cs x s y t))) (by kernel_rfl) ?_
  refine qR 0 2 6 ?_
  simp only[zTD]
  repeat (refine zS (fun K hK=>?_);go_simp;first|(refine zQ ?_ (fun W hW=>?_) (hK _ ?_);rotate_left;(obtain⟨c1,c2⟩:=hW;go_simp;first|done|rfl);clear hK K)|(refine hK _ ?_;clear hK K))
  refine zO ?_
  refine qR 3 2 4 ?_
  simp only[zTD]
  repeat (refine zS (fun K hK=>?_);go_simp;first|(refine zQ ?_ (fun W hW=>?_) (hK _ ?_);rotate_left;(obtain⟨c1,c2⟩:=hW;go_simp;first|done|rfl);clear hK K)|(refine hK _ ?_;clear hK K))
  refine zO ?_
  refine qO 2 3 ⟨t0,t1⟩ ?_
  simp only[zTD]
  go_wp2_with fail
  refine (uX MP _).mono ?_
  rintro e w5 ⟨pp,rfl,hpp,k5,G5⟩
  have k5':Below wq.heap.size wq w5:=bT (Below.refl _ _).drew k5
  have R':=zX ((uX R).step k5')
  have T':=zX ((uX T).step k5')
  have H5:=zX G5
  clear R T k5 k5' G5 t0 t1 hpp
  have R:=R'
  have T:=T'
  clear R' T'
  obtain⟨t0,t1⟩:=(uX T).at2
  go_wp2_with fail
  first|refine zN ?_|refine zG ?_
  refine qO 5 2 ⟨t0,t1⟩ ?_
  simp only[zTD]
  go_wp2_with fail
  refine (uX MQ _).mono ?_
  rintro e w6 ⟨pq,rfl,hpq,k6,G6⟩
  have R':=zX ((uX R).step k6)
  have T':=zX ((uX T).step k6)
  have H5':=zX ((uX H5).step k6)
  have H6:=zX G6
  clear R T k6 G6 t0 t1 H5 hpq
  have R:=R'
  have T:=T'
  clear R' T'
  obtain⟨t0,t1⟩:=(uX T).at2
  go_wp2_with fail
  first|refine zN ?_|refine zG ?_
  refine qO 6 1 ⟨t0,t1⟩ ?_
  simp only[zTD]
  go_wp2_with fail
  refine (qaw pp pq M1 M2 w6 (uX H5') (uX H6) (by omega) (by omega)).mono ?_
  rintro e w7 ⟨⟨jj,rfl⟩,rfl⟩
  have kd:Below w6.heap.size w6 (w6.drewN jj):=_root_.Go.below_drewN (Below.refl _ _) jj
  have R':=zX ((uX R).step kd)
  have T':=zX ((uX T).step kd)
  clear R T kd t0 t1 H5' H6
  have R:=R'
  have T:=T'
  clear R' T'
  generalize w6.drewN jj=w7 at *
  obtain⟨t0,t1⟩:=(uX T).at2
  go_wp2_with fail
  first|refine zN ?_|refine zG ?_
  refine qO 7 0 ⟨t0,t1⟩ ?_
  simp only[zTD]
  go_wp2_with fail
  first|refine zN ?_|refine zG ?_
  refine zE (by kernel_rfl) ⟨t0,t1⟩ ?_
  go_wp2_with fail
  go_ret2
  exact⟨rfl,(uX R).bel⟩
 ·try simp only[Bool.not_false,Bool.not_true] at ht
  show Calls _ _ _ _ fun e w'=>e=.returned (.tuple #[.int .u64 0,.int .i64 0])∧_
  go_enter Tryz.func41,Tryz.ntmps41
  go_wp2_with fail
  refine (qab x s _ hx).mono ?_
  rintro e w1 ⟨rfl,k1⟩
  have R1:=zX (Duo.new k1)
  clear k1
  obtain⟨x2,x3⟩:=(uX R1).B.at2
  go_wp2_with fail
  refine (qab y t _ hy).mono ?_
  rintro e w2 ⟨rfl,k2⟩
  have R2:=zX ((uX R1).step k2)
  clear k2 R1 x2 x3
  obtain⟨x0,x1⟩:=(uX R2).A.at2
  obtain⟨x2,x3⟩:=(uX R2).B.at2
  go_wp2_with fail
  refine (qah x s y t w2).mono ?_
  rintro e w3 ⟨rfl,k3⟩
  clear x0 x1 x2 x3
  have R3:=zX ((uX R2).step k3)
  clear R2 k3
  go_wp2_with fail
  have R4:=zX ((uX R3).more (T:=34) (u:=.int .i64 (cb x y)) (v:=.bool (cs x s y t)))
  generalize w3.alloc (.cells #[.int .i64 (cb x y),.bool (cs x s y t)] 34)=w4 at *
  generalize w3.heap.size=pt at *
  clear R3
  obtain⟨x0,x1⟩:=(uX R4).1.A.at2
  obtain⟨x2,x3⟩:=(uX R4).1.B.at2
  obtain⟨x4,x5⟩:=(uX R4).2.at2
  have l0:=(uX R4).1.A.1
  have l1:=(uX R4).1.B.1
  have l2:=(uX R4).2.1
  refine zL (by kernel_rfl) (by kernel_rfl) ?_
  intro L hne lt hlc hlf hlm
  repeat (go_big_quiet_step ((go_at_call 38;exact zM hlm (qae _ _ _ _ _ _ (by assumption) (by assumption) (by assumption)))))
  refine wpQuiet_nil ?_
  intro wq kq
  clear hlm hlf hlc lt hne L
  obtain⟨hqc,hqf⟩:=qad kq
  clear x0 x1 x2 x3 x4 x5 l0 l1 l2 hqc hqf
  have R:=zX ((uX R4).1.step kq)
  have T:=zX ((uX R4).2.step kq)
  clear R4 kq
  obtain⟨t0,t1⟩:=(uX T).at2
  go_wp2_with fail
  refine zU (fun W=>W.cell? ⟨pt,0,none⟩=some (.int .i64 (cb x y))∧W.cell? ⟨pt,1,none⟩=some (.bool (cs x s y t))) (by kernel_rfl) ?_
  refine qR 0 2 6 ?_
  simp only[zTD]
  repeat (refine zS (fun K hK=>?_);go_simp;first|(refine zQ ?_ (fun W hW=>?_) (hK _ ?_);rotate_left;(obtain⟨c1,c2⟩:=hW;go_simp;first|done|rfl);clear hK K)|(refine hK _ ?_;clear hK K))
  refine zO ?_
  refine qR 3 2 4 ?_
  simp only[zTD]
  repeat (refine zS (fun K hK=>?_);go_simp;first|(refine zQ ?_ (fun W hW=>?_) (hK _ ?_);rotate_left;(obtain⟨c1,c2⟩:=hW;go_simp;first|done|rfl);clear hK K)|(refine hK _ ?_;clear hK K))
  refine zO ?_
  refine qO 2 3 ⟨t0,t1⟩ ?_
  simp only[zTD]
  go_wp2_with fail
  refine (uX MP _).mono ?_
  rintro e w5 ⟨pp,rfl,hpp,k5,G5⟩
  have k5':Below wq.heap.size wq w5:=bT (Below.refl _ _).drew k5
  have R':=zX ((uX R).step k5')
  have T':=zX ((uX T).step k5')
  have H5:=zX G5
  clear R T k5 k5' G5 t0 t1 hpp
  have R:=R'
  have T:=T'
  clear R' T'
  obtain⟨t0,t1⟩:=(uX T).at2
  go_wp2_with fail
  first|refine zN ?_|refine zG ?_
  refine qO 5 2 ⟨t0,t1⟩ ?_
  simp only[zTD]
  go_wp2_with fail
  refine (uX MQ _).mono ?_
  rintro e w6 ⟨pq,rfl,hpq,k6,G6⟩
  have R':=zX ((uX R).step k6)
  have T':=zX ((uX T).step k6)
  have H5':=zX ((uX H5).step k6)
  have H6:=zX G6
  clear R T k6 G6 t0 t1 H5 hpq
  have R:=R'
  have T:=T'
  clear R' T'
  obtain⟨t0,t1⟩:=(uX T).at2
  go_wp2_with fail
  first|refine zN ?_|refine zG ?_
  refine qO 6 1 ⟨t0,t1⟩ ?_
  simp only[zTD]
  go_wp2_with fail
  refine (qaw pp pq M1 M2 w6 (uX H5') (uX H6) (by omega) (by omega)).mono ?_
  rintro e w7 ⟨⟨jj,rfl⟩,rfl⟩
  have kd:Below w6.heap.size w6 (w6.drewN jj):=_root_.Go.below_drewN (Below.refl _ _) jj
  have R':=zX ((uX R).step kd)
  have T':=zX ((uX T).step kd)
  clear R T kd t0 t1 H5' H6
  have R:=R'
  have T:=T'
  clear R' T'
  generalize w6.drewN jj=w7 at *
  obtain⟨t0,t1⟩:=(uX T).at2
  go_wp2_with fail
  first|refine zN ?_|refine zG ?_
  refine qO 7 0 ⟨t0,t1⟩ ?_
  simp only[zTD]
  go_wp2_with fail
  first|refine zN ?_|refine zG ?_
  refine zE (by kernel_rfl) ⟨t0,t1⟩ ?_
  go_wp2_with fail
  go_ret2
  exact⟨rfl,(uX R).bel⟩
theorem rbinary_c18 (a b x y:Int)(s t:Bool)(w:World)(hx:IsW x)(hy:IsW y)(ha:U a)(hb:U b):Calls Tryz.prog 41 #[.int .i64 18,.int .u64 a,.int .u64 b,.agg #[.int .i64 x,.bool s],.agg #[.int .i64 y,.bool t]] w fun e w'=>e=.returned (.tuple #[.int .u64 (b1 (hld 18 (cs x s y t) (cb x y) (conv a x s (cb x y)) (conv b y t (cb x y)))),.int .i64 0])∧Below w.heap.size w w':=by
 have hX:=isW_c hx hy
 have uP:U (conv a x s (cb x y)):=qas hX
 have uQ:U (conv b y t (cb x y)):=qas hX
 have MP:=zX (fun (w:World)=>qac (conv a x s (cb x y)) (cb x y) (cs x s y t) w hX uP)
 have MQ:=zX (fun (w:World)=>qac (conv b y t (cb x y)) (cb x y) (cs x s y t) w hX uQ)
 have m1:=qai hX (cs x s y t) (conv a x s (cb x y))
 have m2:=qai hX (cs x s y t) (conv b y t (cb x y))
 have b8:(18446744073709551616:Nat)<4294967296 ^ 8:=by decide
 have hv:hld 18 (cs x s y t) (cb x y) (conv a x s (cb x y)) (conv b y t (cb x y))=(decide (mn (cs x s y t) (cb x y) (conv b y t (cb x y))<mn (cs x s y t) (cb x y) (conv a x s (cb x y)))):=rfl
 rw[hv]
 generalize mn (cs x s y t) (cb x y) (conv a x s (cb x y))=M1 at *
 generalize mn (cs x s y t) (cb x y) (conv b y t (cb x y))=M2 at *
 have ht:=cm_gt M1 M2
 clear hv
 generalize decide (M2<M1)=BV at *
 cases BV
 ·try simp only[Bool.not_false,Bool.not_true] at ht
  show Calls _ _ _ _ fun e w'=>e=.returned (.tuple #[.int .u64 0,.int .i64 0])∧_
  go_enter Tryz.func41,Tryz.ntmps41
  go_wp2_with fail
  refine (qab x s _ hx).mono ?_
  rintro e w1 ⟨rfl,k1⟩
  have R1:=zX (Duo.new k1)
  clear k1
  obtain⟨x2,x3⟩:=(uX R1).B.at2
  go_wp2_with fail
  refine (qab y t _ hy).mono ?_
  rintro e w2 ⟨rfl,k2⟩
  have R2:=zX ((uX R1).step k2)
  clear k2 R1 x2 x3
  obtain⟨x0,x1⟩:=(uX R2).A.at2
  obtain⟨x2,x3⟩:=(uX R2).B.at2
  go_wp2_with fail
  refine (qah x s y t w2).mono ?_
  rintro e w3 ⟨rfl,k3⟩
  clear x0 x1 x2 x3
  have R3:=zX ((uX R2).step k3)
  clear R2 k3
  go_wp2_with fail
  have R4:=zX ((uX R3).more (T:=34) (u:=.int .i64 (cb x y)) (v:=.bool (cs x s y t)))
  generalize w3.alloc (.cells #[.int .i64 (cb x y),.bool (cs x s y t)] 34)=w4 at *
  generalize w3.heap.size=pt at *
  clear R3
  obtain⟨x0,x1⟩:=(uX R4).1.A.at2
  obtain⟨x2,x3⟩:=(uX R4).1.B.at2
  obtain⟨x4,x5⟩:=(uX R4).2.at2
  have l0:=(uX R4).1.A.1
  have l1:=(uX R4).1.B.1
  have l2:=(uX R4).2.1
  refine zL (by kernel_rfl) (by kernel_rfl) ?_
  intro L hne lt hlc hlf hlm
  repeat (go_big_quiet_step ((go_at_call 38;exact zM hlm (qae _ _ _ _ _ _ (by assumption) (by assumption) (by assumption)))))
  refine wpQuiet_nil ?_
  intro wq kq
  clear hlm hlf hlc lt hne L
  obtain⟨hqc,hqf⟩:=qad kq
  clear x0 x1 x2 x3 x4 x5 l0 l1 l2 hqc hqf
  have R:=zX ((uX R4).1.step kq)
  have T:=zX ((uX R4).2.step kq)
  clear R4 kq
  obtain⟨t0,t1⟩:=(uX T).at2
  go_wp2_with fail
  refine zU (fun W=>W.cell? ⟨pt,0,none⟩=some (.int .i64 (cb x y))∧W.cell? ⟨pt,1,none⟩=some (.bool (cs x s y t))) (by kernel_rfl) ?_
  refine qR 0 2 6 ?_
  simp only[zTD]
  repeat (refine zS (fun K hK=>?_);go_simp;first|(refine zQ ?_ (fun W hW=>?_) (hK _ ?_);rotate_left;(obtain⟨c1,c2⟩:=hW;go_simp;first|done|rfl);clear hK K)|(refine hK _ ?_;clear hK K))
  refine zO ?_
  refine qR 3 2 4 ?_
  simp only[zTD]
  repeat (refine zS (fun K hK=>?_);go_simp;first|(refine zQ ?_ (fun W hW=>?_) (hK _ ?_);rotate_left;(obtain⟨c1,c2⟩:=hW;go_simp;first|done|rfl);clear hK K)|(refine hK _ ?_;clear hK K))
  refine zO ?_
  refine qO 2 3 ⟨t0,t1⟩ ?_
  simp only[zTD]
  go_wp2_with fail
  refine (uX MP _).mono ?_
  rintro e w5 ⟨pp,rfl,hpp,k5,G5⟩
  have k5':Below wq.heap.size wq w5:=bT (Below.refl _ _).drew k5
  have R':=zX ((uX R).step k5')
  have T':=zX ((uX T).step k5')
  have H5:=zX G5
  clear R T k5 k5' G5 t0 t1 hpp
  have R:=R'
  have T:=T'
  clear R' T'
  obtain⟨t0,t1⟩:=(uX T).at2
  go_wp2_with fail
  first|refine zN ?_|refine zG ?_
  refine qO 5 2 ⟨t0,t1⟩ ?_
  simp only[zTD]
  go_wp2_with fail
  refine (uX MQ _).mono ?_
  rintro e w6 ⟨pq,rfl,hpq,k6,G6⟩
  have R':=zX ((uX R).step k6)
  have T':=zX ((uX T).step k6)
  have H5':=zX ((uX H5).step k6)
  have H6:=zX G6
  clear R T k6 G6 t0 t1 H5 hpq
  have R:=R'
  have T:=T'
  clear R' T'
  obtain⟨t0,t1⟩:=(uX T).at2
  go_wp2_with fail
  first|refine zN ?_|refine zG ?_
  refine qO 6 1 ⟨t0,t1⟩ ?_
  simp only[zTD]
  go_wp2_with fail
  refine (qaw pp pq M1 M2 w6 (uX H5') (uX H6) (by omega) (by omega)).mono ?_
  rintro e w7 ⟨⟨jj,rfl⟩,rfl⟩
  have kd:Below w6.heap.size w6 (w6.drewN jj):=_root_.Go.below_drewN (Below.refl _ _) jj
  have R':=zX ((uX R).step kd)
  have T':=zX ((uX T).step kd)
  clear R T kd t0 t1 H5' H6
  have R:=R'
  have T:=T'
  clear R' T'
  generalize w6.drewN jj=w7 at *
  obtain⟨t0,t1⟩:=(uX T).at2
  go_wp2_with fail
  first|refine zN ?_|refine zG ?_
  refine qO 7 0 ⟨t0,t1⟩ ?_
  simp only[zTD]
  go_wp2_with fail
  first|refine zN ?_|refine zG ?_
  refine zE (by kernel_rfl) ⟨t0,t1⟩ ?_
  go_wp2_with fail
  go_ret2
  exact⟨rfl,(uX R).bel⟩
 ·try simp only[Bool.not_false,Bool.not_true] at ht
  show Calls _ _ _ _ fun e w'=>e=.returned (.tuple #[.int .u64 1,.int .i64 0])∧_
  go_enter Tryz.func41,Tryz.ntmps41
  go_wp2_with fail
  refine (qab x s _ hx).mono ?_
  rintro e w1 ⟨rfl,k1⟩
  have R1:=zX (Duo.new k1)
  clear k1
  obtain⟨x2,x3⟩:=(uX R1).B.at2
  go_wp2_with fail
  refine (qab y t _ hy).mono ?_
  rintro e w2 ⟨rfl,k2⟩
  have R2:=zX ((uX R1).step k2)
  clear k2 R1 x2 x3
  obtain⟨x0,x1⟩:=(uX R2).A.at2
  obtain⟨x2,x3⟩:=(uX R2).B.at2
  go_wp2_with fail
  refine (qah x s y t w2).mono ?_
  rintro e w3 ⟨rfl,k3⟩
  clear x0 x1 x2 x3
  have R3:=zX ((uX R2).step k3)
  clear R2 k3
  go_wp2_with fail
  have R4:=zX ((uX R3).more (T:=34) (u:=.int .i64 (cb x y)) (v:=.bool (cs x s y t)))
  generalize w3.alloc (.cells #[.int .i64 (cb x y),.bool (cs x s y t)] 34)=w4 at *
  generalize w3.heap.size=pt at *
  clear R3
  obtain⟨x0,x1⟩:=(uX R4).1.A.at2
  obtain⟨x2,x3⟩:=(uX R4).1.B.at2
  obtain⟨x4,x5⟩:=(uX R4).2.at2
  have l0:=(uX R4).1.A.1
  have l1:=(uX R4).1.B.1
  have l2:=(uX R4).2.1
  refine zL (by kernel_rfl) (by kernel_rfl) ?_
  intro L hne lt hlc hlf hlm
  repeat (go_big_quiet_step ((go_at_call 38;exact zM hlm (qae _ _ _ _ _ _ (by assumption) (by assumption) (by assumption)))))
  refine wpQuiet_nil ?_
  intro wq kq
  clear hlm hlf hlc lt hne L
  obtain⟨hqc,hqf⟩:=qad kq
  clear x0 x1 x2 x3 x4 x5 l0 l1 l2 hqc hqf
  have R:=zX ((uX R4).1.step kq)
  have T:=zX ((uX R4).2.step kq)
  clear R4 kq
  obtain⟨t0,t1⟩:=(uX T).at2
  go_wp2_with fail
  refine zU (fun W=>W.cell? ⟨pt,0,none⟩=some (.int .i64 (cb x y))∧W.cell? ⟨pt,1,none⟩=some (.bool (cs x s y t))) (by kernel_rfl) ?_
  refine qR 0 2 6 ?_
  simp only[zTD]
  repeat (refine zS (fun K hK=>?_);go_simp;first|(refine zQ ?_ (fun W hW=>?_) (hK _ ?_);rotate_left;(obtain⟨c1,c2⟩:=hW;go_simp;first|done|rfl);clear hK K)|(refine hK _ ?_;clear hK K))
  refine zO ?_
  refine qR 3 2 4 ?_
  simp only[zTD]
  repeat (refine zS (fun K hK=>?_);go_simp;first|(refine zQ ?_ (fun W hW=>?_) (hK _ ?_);rotate_left;(obtain⟨c1,c2⟩:=hW;go_simp;first|done|rfl);clear hK K)|(refine hK _ ?_;clear hK K))
  refine zO ?_
  refine qO 2 3 ⟨t0,t1⟩ ?_
  simp only[zTD]
  go_wp2_with fail
  refine (uX MP _).mono ?_
  rintro e w5 ⟨pp,rfl,hpp,k5,G5⟩
  have k5':Below wq.heap.size wq w5:=bT (Below.refl _ _).drew k5
  have R':=zX ((uX R).step k5')
  have T':=zX ((uX T).step k5')
  have H5:=zX G5
  clear R T k5 k5' G5 t0 t1 hpp
  have R:=R'
  have T:=T'
  clear R' T'
  obtain⟨t0,t1⟩:=(uX T).at2
  go_wp2_with fail
  first|refine zN ?_|refine zG ?_
  refine qO 5 2 ⟨t0,t1⟩ ?_
  simp only[zTD]
  go_wp2_with fail
  refine (uX MQ _).mono ?_
  rintro e w6 ⟨pq,rfl,hpq,k6,G6⟩
  have R':=zX ((uX R).step k6)
  have T':=zX ((uX T).step k6)
  have H5':=zX ((uX H5).step k6)
  have H6:=zX G6
  clear R T k6 G6 t0 t1 H5 hpq
  have R:=R'
  have T:=T'
  clear R' T'
  obtain⟨t0,t1⟩:=(uX T).at2
  go_wp2_with fail
  first|refine zN ?_|refine zG ?_
  refine qO 6 1 ⟨t0,t1⟩ ?_
  simp only[zTD]
  go_wp2_with fail
  refine (qaw pp pq M1 M2 w6 (uX H5') (uX H6) (by omega) (by omega)).mono ?_
  rintro e w7 ⟨⟨jj,rfl⟩,rfl⟩
  have kd:Below w6.heap.size w6 (w6.drewN jj):=_root_.Go.below_drewN (Below.refl _ _) jj
  have R':=zX ((uX R).step kd)
  have T':=zX ((uX T).step kd)
  clear R T kd t0 t1 H5' H6
  have R:=R'
  have T:=T'
  clear R' T'
  generalize w6.drewN jj=w7 at *
  obtain⟨t0,t1⟩:=(uX T).at2
  go_wp2_with fail
  first|refine zN ?_|refine zG ?_
  refine qO 7 0 ⟨t0,t1⟩ ?_
  simp only[zTD]
  go_wp2_with fail
  first|refine zN ?_|refine zG ?_
  refine zE (by kernel_rfl) ⟨t0,t1⟩ ?_
  go_wp2_with fail
  go_ret2
  exact⟨rfl,(uX R).bel⟩
theorem rbinary_c19 (a b x y:Int)(s t:Bool)(w:World)(hx:IsW x)(hy:IsW y)(ha:U a)(hb:U b):Calls Tryz.prog 41 #[.int .i64 19,.int .u64 a,.int .u64 b,.agg #[.int .i64 x,.bool s],.agg #[.int .i64 y,.bool t]] w fun e w'=>e=.returned (.tuple #[.int .u64 (b1 (hld 19 (cs x s y t) (cb x y) (conv a x s (cb x y)) (conv b y t (cb x y)))),.int .i64 0])∧Below w.heap.size w w':=by
 have hX:=isW_c hx hy
 have uP:U (conv a x s (cb x y)):=qas hX
 have uQ:U (conv b y t (cb x y)):=qas hX
 have MP:=zX (fun (w:World)=>qac (conv a x s (cb x y)) (cb x y) (cs x s y t) w hX uP)
 have MQ:=zX (fun (w:World)=>qac (conv b y t (cb x y)) (cb x y) (cs x s y t) w hX uQ)
 have m1:=qai hX (cs x s y t) (conv a x s (cb x y))
 have m2:=qai hX (cs x s y t) (conv b y t (cb x y))
 have b8:(18446744073709551616:Nat)<4294967296 ^ 8:=by decide
 have hv:hld 19 (cs x s y t) (cb x y) (conv a x s (cb x y)) (conv b y t (cb x y))=(!decide (mn (cs x s y t) (cb x y) (conv a x s (cb x y))<mn (cs x s y t) (cb x y) (conv b y t (cb x y)))):=rfl
 rw[hv]
 generalize mn (cs x s y t) (cb x y) (conv a x s (cb x y))=M1 at *
 generalize mn (cs x s y t) (cb x y) (conv b y t (cb x y))=M2 at *
 have ht:=cm_ge M1 M2
 clear hv
 generalize decide (M1<M2)=BV at *
 cases BV
 ·try simp only[Bool.not_false,Bool.not_true] at ht
  show Calls _ _ _ _ fun e w'=>e=.returned (.tuple #[.int .u64 1,.int .i64 0])∧_
  go_enter Tryz.func41,Tryz.ntmps41
  go_wp2_with fail
  refine (qab x s _ hx).mono ?_
  rintro e w1 ⟨rfl,k1⟩
  have R1:=zX (Duo.new k1)
  clear k1
  obtain⟨x2,x3⟩:=(uX R1).B.at2
  go_wp2_with fail
  refine (qab y t _ hy).mono ?_
  rintro e w2 ⟨rfl,k2⟩
  have R2:=zX ((uX R1).step k2)
  clear k2 R1 x2 x3
  obtain⟨x0,x1⟩:=(uX R2).A.at2
  obtain⟨x2,x3⟩:=(uX R2).B.at2
  go_wp2_with fail
  refine (qah x s y t w2).mono ?_
  rintro e w3 ⟨rfl,k3⟩
  clear x0 x1 x2 x3
  have R3:=zX ((uX R2).step k3)
  clear R2 k3
  go_wp2_with fail
  have R4:=zX ((uX R3).more (T:=34) (u:=.int .i64 (cb x y)) (v:=.bool (cs x s y t)))
  generalize w3.alloc (.cells #[.int .i64 (cb x y),.bool (cs x s y t)] 34)=w4 at *
  generalize w3.heap.size=pt at *
  clear R3
  obtain⟨x0,x1⟩:=(uX R4).1.A.at2
  obtain⟨x2,x3⟩:=(uX R4).1.B.at2
  obtain⟨x4,x5⟩:=(uX R4).2.at2
  have l0:=(uX R4).1.A.1
  have l1:=(uX R4).1.B.1
  have l2:=(uX R4).2.1
  refine zL (by kernel_rfl) (by kernel_rfl) ?_
  intro L hne lt hlc hlf hlm
  repeat (go_big_quiet_step ((go_at_call 38;exact zM hlm (qae _ _ _ _ _ _ (by assumption) (by assumption) (by assumption)))))
  refine wpQuiet_nil ?_
  intro wq kq
  clear hlm hlf hlc lt hne L
  obtain⟨hqc,hqf⟩:=qad kq
  clear x0 x1 x2 x3 x4 x5 l0 l1 l2 hqc hqf
  have R:=zX ((uX R4).1.step kq)
  have T:=zX ((uX R4).2.step kq)
  clear R4 kq
  obtain⟨t0,t1⟩:=(uX T).at2
  go_wp2_with fail
  refine zU (fun W=>W.cell? ⟨pt,0,none⟩=some (.int .i64 (cb x y))∧W.cell? ⟨pt,1,none⟩=some (.bool (cs x s y t))) (by kernel_rfl) ?_
  refine qR 0 2 6 ?_
  simp only[zTD]
  repeat (refine zS (fun K hK=>?_);go_simp;first|(refine zQ ?_ (fun W hW=>?_) (hK _ ?_);rotate_left;(obtain⟨c1,c2⟩:=hW;go_simp;first|done|rfl);clear hK K)|(refine hK _ ?_;clear hK K))
  refine zO ?_
  refine qR 3 2 4 ?_
  simp only[zTD]
  repeat (refine zS (fun K hK=>?_);go_simp;first|(refine zQ ?_ (fun W hW=>?_) (hK _ ?_);rotate_left;(obtain⟨c1,c2⟩:=hW;go_simp;first|done|rfl);clear hK K)|(refine hK _ ?_;clear hK K))
  refine zO ?_
  refine qO 2 3 ⟨t0,t1⟩ ?_
  simp only[zTD]
  go_wp2_with fail
  refine (uX MP _).mono ?_
  rintro e w5 ⟨pp,rfl,hpp,k5,G5⟩
  have k5':Below wq.heap.size wq w5:=bT (Below.refl _ _).drew k5
  have R':=zX ((uX R).step k5')
  have T':=zX ((uX T).step k5')
  have H5:=zX G5
  clear R T k5 k5' G5 t0 t1 hpp
  have R:=R'
  have T:=T'
  clear R' T'
  obtain⟨t0,t1⟩:=(uX T).at2
  go_wp2_with fail
  first|refine zN ?_|refine zG ?_
  refine qO 5 2 ⟨t0,t1⟩ ?_
  simp only[zTD]
  go_wp2_with fail
  refine (uX MQ _).mono ?_
  rintro e w6 ⟨pq,rfl,hpq,k6,G6⟩
  have R':=zX ((uX R).step k6)
  have T':=zX ((uX T).step k6)
  have H5':=zX ((uX H5).step k6)
  have H6:=zX G6
  clear R T k6 G6 t0 t1 H5 hpq
  have R:=R'
  have T:=T'
  clear R' T'
  obtain⟨t0,t1⟩:=(uX T).at2
  go_wp2_with fail
  first|refine zN ?_|refine zG ?_
  refine qO 6 1 ⟨t0,t1⟩ ?_
  simp only[zTD]
  go_wp2_with fail
  refine (qaw pp pq M1 M2 w6 (uX H5') (uX H6) (by omega) (by omega)).mono ?_
  rintro e w7 ⟨⟨jj,rfl⟩,rfl⟩
  have kd:Below w6.heap.size w6 (w6.drewN jj):=_root_.Go.below_drewN (Below.refl _ _) jj
  have R':=zX ((uX R).step kd)
  have T':=zX ((uX T).step kd)
  clear R T kd t0 t1 H5' H6
  have R:=R'
  have T:=T'
  clear R' T'
  generalize w6.drewN jj=w7 at *
  obtain⟨t0,t1⟩:=(uX T).at2
  go_wp2_with fail
  first|refine zN ?_|refine zG ?_
  refine qO 7 0 ⟨t0,t1⟩ ?_
  simp only[zTD]
  go_wp2_with fail
  first|refine zN ?_|refine zG ?_
  refine zE (by kernel_rfl) ⟨t0,t1⟩ ?_
  go_wp2_with fail
  go_ret2
  exact⟨rfl,(uX R).bel⟩
 ·try simp only[Bool.not_false,Bool.not_true] at ht
  show Calls _ _ _ _ fun e w'=>e=.returned (.tuple #[.int .u64 0,.int .i64 0])∧_
  go_enter Tryz.func41,Tryz.ntmps41
  go_wp2_with fail
  refine (qab x s _ hx).mono ?_
  rintro e w1 ⟨rfl,k1⟩
  have R1:=zX (Duo.new k1)
  clear k1
  obtain⟨x2,x3⟩:=(uX R1).B.at2
  go_wp2_with fail
  refine (qab y t _ hy).mono ?_
  rintro e w2 ⟨rfl,k2⟩
  have R2:=zX ((uX R1).step k2)
  clear k2 R1 x2 x3
  obtain⟨x0,x1⟩:=(uX R2).A.at2
  obtain⟨x2,x3⟩:=(uX R2).B.at2
  go_wp2_with fail
  refine (qah x s y t w2).mono ?_
  rintro e w3 ⟨rfl,k3⟩
  clear x0 x1 x2 x3
  have R3:=zX ((uX R2).step k3)
  clear R2 k3
  go_wp2_with fail
  have R4:=zX ((uX R3).more (T:=34) (u:=.int .i64 (cb x y)) (v:=.bool (cs x s y t)))
  generalize w3.alloc (.cells #[.int .i64 (cb x y),.bool (cs x s y t)] 34)=w4 at *
  generalize w3.heap.size=pt at *
  clear R3
  obtain⟨x0,x1⟩:=(uX R4).1.A.at2
  obtain⟨x2,x3⟩:=(uX R4).1.B.at2
  obtain⟨x4,x5⟩:=(uX R4).2.at2
  have l0:=(uX R4).1.A.1
  have l1:=(uX R4).1.B.1
  have l2:=(uX R4).2.1
  refine zL (by kernel_rfl) (by kernel_rfl) ?_
  intro L hne lt hlc hlf hlm
  repeat (go_big_quiet_step ((go_at_call 38;exact zM hlm (qae _ _ _ _ _ _ (by assumption) (by assumption) (by assumption)))))
  refine wpQuiet_nil ?_
  intro wq kq
  clear hlm hlf hlc lt hne L
  obtain⟨hqc,hqf⟩:=qad kq
  clear x0 x1 x2 x3 x4 x5 l0 l1 l2 hqc hqf
  have R:=zX ((uX R4).1.step kq)
  have T:=zX ((uX R4).2.step kq)
  clear R4 kq
  obtain⟨t0,t1⟩:=(uX T).at2
  go_wp2_with fail
  refine zU (fun W=>W.cell? ⟨pt,0,none⟩=some (.int .i64 (cb x y))∧W.cell? ⟨pt,1,none⟩=some (.bool (cs x s y t))) (by kernel_rfl) ?_
  refine qR 0 2 6 ?_
  simp only[zTD]
  repeat (refine zS (fun K hK=>?_);go_simp;first|(refine zQ ?_ (fun W hW=>?_) (hK _ ?_);rotate_left;(obtain⟨c1,c2⟩:=hW;go_simp;first|done|rfl);clear hK K)|(refine hK _ ?_;clear hK K))
  refine zO ?_
  refine qR 3 2 4 ?_
  simp only[zTD]
  repeat (refine zS (fun K hK=>?_);go_simp;first|(refine zQ ?_ (fun W hW=>?_) (hK _ ?_);rotate_left;(obtain⟨c1,c2⟩:=hW;go_simp;first|done|rfl);clear hK K)|(refine hK _ ?_;clear hK K))
  refine zO ?_
  refine qO 2 3 ⟨t0,t1⟩ ?_
  simp only[zTD]
  go_wp2_with fail
  refine (uX MP _).mono ?_
  rintro e w5 ⟨pp,rfl,hpp,k5,G5⟩
  have k5':Below wq.heap.size wq w5:=bT (Below.refl _ _).drew k5
  have R':=zX ((uX R).step k5')
  have T':=zX ((uX T).step k5')
  have H5:=zX G5
  clear R T k5 k5' G5 t0 t1 hpp
  have R:=R'
  have T:=T'
  clear R' T'
  obtain⟨t0,t1⟩:=(uX T).at2
  go_wp2_with fail
  first|refine zN ?_|refine zG ?_
  refine qO 5 2 ⟨t0,t1⟩ ?_
  simp only[zTD]
  go_wp2_with fail
  refine (uX MQ _).mono ?_
  rintro e w6 ⟨pq,rfl,hpq,k6,G6⟩
  have R':=zX ((uX R).step k6)
  have T':=zX ((uX T).step k6)
  have H5':=zX ((uX H5).step k6)
  have H6:=zX G6
  clear R T k6 G6 t0 t1 H5 hpq
  have R:=R'
  have T:=T'
  clear R' T'
  obtain⟨t0,t1⟩:=(uX T).at2
  go_wp2_with fail
  first|refine zN ?_|refine zG ?_
  refine qO 6 1 ⟨t0,t1⟩ ?_
  simp only[zTD]
  go_wp2_with fail
  refine (qaw pp pq M1 M2 w6 (uX H5') (uX H6) (by omega) (by omega)).mono ?_
  rintro e w7 ⟨⟨jj,rfl⟩,rfl⟩
  have kd:Below w6.heap.size w6 (w6.drewN jj):=_root_.Go.below_drewN (Below.refl _ _) jj
  have R':=zX ((uX R).step kd)
  have T':=zX ((uX T).step kd)
  clear R T kd t0 t1 H5' H6
  have R:=R'
  have T:=T'
  clear R' T'
  generalize w6.drewN jj=w7 at *
  obtain⟨t0,t1⟩:=(uX T).at2
  go_wp2_with fail
  first|refine zN ?_|refine zG ?_
  refine qO 7 0 ⟨t0,t1⟩ ?_
  simp only[zTD]
  go_wp2_with fail
  first|refine zN ?_|refine zG ?_
  refine zE (by kernel_rfl) ⟨t0,t1⟩ ?_
  go_wp2_with fail
  go_ret2
  exact⟨rfl,(uX R).bel⟩
theorem rbinary_c20 (a b x y:Int)(s t:Bool)(w:World)(hx:IsW x)(hy:IsW y)(ha:U a)(hb:U b):Calls Tryz.prog 41 #[.int .i64 20,.int .u64 a,.int .u64 b,.agg #[.int .i64 x,.bool s],.agg #[.int .i64 y,.bool t]] w fun e w'=>e=.returned (.tuple #[.int .u64 (b1 (hld 20 (cs x s y t) (cb x y) (conv a x s (cb x y)) (conv b y t (cb x y)))),.int .i64 0])∧Below w.heap.size w w':=by
 have hX:=isW_c hx hy
 have uP:U (conv a x s (cb x y)):=qas hX
 have uQ:U (conv b y t (cb x y)):=qas hX
 have MP:=zX (fun (w:World)=>qac (conv a x s (cb x y)) (cb x y) (cs x s y t) w hX uP)
 have MQ:=zX (fun (w:World)=>qac (conv b y t (cb x y)) (cb x y) (cs x s y t) w hX uQ)
 have m1:=qai hX (cs x s y t) (conv a x s (cb x y))
 have m2:=qai hX (cs x s y t) (conv b y t (cb x y))
 have b8:(18446744073709551616:Nat)<4294967296 ^ 8:=by decide
 have hv:hld 20 (cs x s y t) (cb x y) (conv a x s (cb x y)) (conv b y t (cb x y))=(decide (mn (cs x s y t) (cb x y) (conv a x s (cb x y))=mn (cs x s y t) (cb x y) (conv b y t (cb x y)))):=by
  rw[← mn_inj (p:=(conv a x s (cb x y))) (q:=(conv b y t (cb x y))) (cs x s y t) (cut_cut (cb x y) _) (cut_cut (cb x y) _)]
  rfl
 rw[hv]
 generalize mn (cs x s y t) (cb x y) (conv a x s (cb x y))=M1 at *
 generalize mn (cs x s y t) (cb x y) (conv b y t (cb x y))=M2 at *
 have ht:=cm_eq M1 M2
 clear hv
 generalize decide (M1=M2)=BV at *
 cases BV
 ·try simp only[Bool.not_false,Bool.not_true] at ht
  show Calls _ _ _ _ fun e w'=>e=.returned (.tuple #[.int .u64 0,.int .i64 0])∧_
  go_enter Tryz.func41,Tryz.ntmps41
  go_wp2_with fail
  refine (qab x s _ hx).mono ?_
  rintro e w1 ⟨rfl,k1⟩
  have R1:=zX (Duo.new k1)
  clear k1
  obtain⟨x2,x3⟩:=(uX R1).B.at2
  go_wp2_with fail
  refine (qab y t _ hy).mono ?_
  rintro e w2 ⟨rfl,k2⟩
  have R2:=zX ((uX R1).step k2)
  clear k2 R1 x2 x3
  obtain⟨x0,x1⟩:=(uX R2).A.at2
  obtain⟨x2,x3⟩:=(uX R2).B.at2
  go_wp2_with fail
  refine (qah x s y t w2).mono ?_
  rintro e w3 ⟨rfl,k3⟩
  clear x0 x1 x2 x3
  have R3:=zX ((uX R2).step k3)
  clear R2 k3
  go_wp2_with fail
  have R4:=zX ((uX R3).more (T:=34) (u:=.int .i64 (cb x y)) (v:=.bool (cs x s y t)))
  generalize w3.alloc (.cells #[.int .i64 (cb x y),.bool (cs x s y t)] 34)=w4 at *
  generalize w3.heap.size=pt at *
  clear R3
  obtain⟨x0,x1⟩:=(uX R4).1.A.at2
  obtain⟨x2,x3⟩:=(uX R4).1.B.at2
  obtain⟨x4,x5⟩:=(uX R4).2.at2
  have l0:=(uX R4).1.A.1
  have l1:=(uX R4).1.B.1
  have l2:=(uX R4).2.1
  refine zL (by kernel_rfl) (by kernel_rfl) ?_
  intro L hne lt hlc hlf hlm
  repeat (go_big_quiet_step ((go_at_call 38;exact zM hlm (qae _ _ _ _ _ _ (by assumption) (by assumption) (by assumption)))))
  refine wpQuiet_nil ?_
  intro wq kq
  clear hlm hlf hlc lt hne L
  obtain⟨hqc,hqf⟩:=qad kq
  clear x0 x1 x2 x3 x4 x5 l0 l1 l2 hqc hqf
  have R:=zX ((uX R4).1.step kq)
  have T:=zX ((uX R4).2.step kq)
  clear R4 kq
  obtain⟨t0,t1⟩:=(uX T).at2
  go_wp2_with fail
  refine zU (fun W=>W.cell? ⟨pt,0,none⟩=some (.int .i64 (cb x y))∧W.cell? ⟨pt,1,none⟩=some (.bool (cs x s y t))) (by kernel_rfl) ?_
  refine qR 0 2 6 ?_
  simp only[zTD]
  repeat (refine zS (fun K hK=>?_);go_simp;first|(refine zQ ?_ (fun W hW=>?_) (hK _ ?_);rotate_left;(obtain⟨c1,c2⟩:=hW;go_simp;first|done|rfl);clear hK K)|(refine hK _ ?_;clear hK K))
  refine zO ?_
  refine qR 3 2 4 ?_
  simp only[zTD]
  repeat (refine zS (fun K hK=>?_);go_simp;first|(refine zQ ?_ (fun W hW=>?_) (hK _ ?_);rotate_left;(obtain⟨c1,c2⟩:=hW;go_simp;first|done|rfl);clear hK K)|(refine hK _ ?_;clear hK K))
  refine zO ?_
  refine qO 2 3 ⟨t0,t1⟩ ?_
  simp only[zTD]
  go_wp2_with fail
  refine (uX MP _).mono ?_
  rintro e w5 ⟨pp,rfl,hpp,k5,G5⟩
  have k5':Below wq.heap.size wq w5:=bT (Below.refl _ _).drew k5
  have R':=zX ((uX R).step k5')
  have T':=zX ((uX T).step k5')
  have H5:=zX G5
  clear R T k5 k5' G5 t0 t1 hpp
  have R:=R'
  have T:=T'
  clear R' T'
  obtain⟨t0,t1⟩:=(uX T).at2
  go_wp2_with fail
  first|refine zN ?_|refine zG ?_
  refine qO 5 2 ⟨t0,t1⟩ ?_
  simp only[zTD]
  go_wp2_with fail
  refine (uX MQ _).mono ?_
  rintro e w6 ⟨pq,rfl,hpq,k6,G6⟩
  have R':=zX ((uX R).step k6)
  have T':=zX ((uX T).step k6)
  have H5':=zX ((uX H5).step k6)
  have H6:=zX G6
  clear R T k6 G6 t0 t1 H5 hpq
  have R:=R'
  have T:=T'
  clear R' T'
  obtain⟨t0,t1⟩:=(uX T).at2
  go_wp2_with fail
  first|refine zN ?_|refine zG ?_
  refine qO 6 1 ⟨t0,t1⟩ ?_
  simp only[zTD]
  go_wp2_with fail
  refine (qaw pp pq M1 M2 w6 (uX H5') (uX H6) (by omega) (by omega)).mono ?_
  rintro e w7 ⟨⟨jj,rfl⟩,rfl⟩
  have kd:Below w6.heap.size w6 (w6.drewN jj):=_root_.Go.below_drewN (Below.refl _ _) jj
  have R':=zX ((uX R).step kd)
  have T':=zX ((uX T).step kd)
  clear R T kd t0 t1 H5' H6
  have R:=R'
  have T:=T'
  clear R' T'
  generalize w6.drewN jj=w7 at *
  obtain⟨t0,t1⟩:=(uX T).at2
  go_wp2_with fail
  first|refine zN ?_|refine zG ?_
  refine qO 7 0 ⟨t0,t1⟩ ?_
  simp only[zTD]
  go_wp2_with fail
  first|refine zN ?_|refine zG ?_
  refine zE (by kernel_rfl) ⟨t0,t1⟩ ?_
  go_wp2_with fail
  go_ret2
  exact⟨rfl,(uX R).bel⟩
 ·try simp only[Bool.not_false,Bool.not_true] at ht
  show Calls _ _ _ _ fun e w'=>e=.returned (.tuple #[.int .u64 1,.int .i64 0])∧_
  go_enter Tryz.func41,Tryz.ntmps41
  go_wp2_with fail
  refine (qab x s _ hx).mono ?_
  rintro e w1 ⟨rfl,k1⟩
  have R1:=zX (Duo.new k1)
  clear k1
  obtain⟨x2,x3⟩:=(uX R1).B.at2
  go_wp2_with fail
  refine (qab y t _ hy).mono ?_
  rintro e w2 ⟨rfl,k2⟩
  have R2:=zX ((uX R1).step k2)
  clear k2 R1 x2 x3
  obtain⟨x0,x1⟩:=(uX R2).A.at2
  obtain⟨x2,x3⟩:=(uX R2).B.at2
  go_wp2_with fail
  refine (qah x s y t w2).mono ?_
  rintro e w3 ⟨rfl,k3⟩
  clear x0 x1 x2 x3
  have R3:=zX ((uX R2).step k3)
  clear R2 k3
  go_wp2_with fail
  have R4:=zX ((uX R3).more (T:=34) (u:=.int .i64 (cb x y)) (v:=.bool (cs x s y t)))
  generalize w3.alloc (.cells #[.int .i64 (cb x y),.bool (cs x s y t)] 34)=w4 at *
  generalize w3.heap.size=pt at *
  clear R3
  obtain⟨x0,x1⟩:=(uX R4).1.A.at2
  obtain⟨x2,x3⟩:=(uX R4).1.B.at2
  obtain⟨x4,x5⟩:=(uX R4).2.at2
  have l0:=(uX R4).1.A.1
  have l1:=(uX R4).1.B.1
  have l2:=(uX R4).2.1
  refine zL (by kernel_rfl) (by kernel_rfl) ?_
  intro L hne lt hlc hlf hlm
  repeat (go_big_quiet_step ((go_at_call 38;exact zM hlm (qae _ _ _ _ _ _ (by assumption) (by assumption) (by assumption)))))
  refine wpQuiet_nil ?_
  intro wq kq
  clear hlm hlf hlc lt hne L
  obtain⟨hqc,hqf⟩:=qad kq
  clear x0 x1 x2 x3 x4 x5 l0 l1 l2 hqc hqf
  have R:=zX ((uX R4).1.step kq)
  have T:=zX ((uX R4).2.step kq)
  clear R4 kq
  obtain⟨t0,t1⟩:=(uX T).at2
  go_wp2_with fail
  refine zU (fun W=>W.cell? ⟨pt,0,none⟩=some (.int .i64 (cb x y))∧W.cell? ⟨pt,1,none⟩=some (.bool (cs x s y t))) (by kernel_rfl) ?_
  refine qR 0 2 6 ?_
  simp only[zTD]
  repeat (refine zS (fun K hK=>?_);go_simp;first|(refine zQ ?_ (fun W hW=>?_) (hK _ ?_);rotate_left;(obtain⟨c1,c2⟩:=hW;go_simp;first|done|rfl);clear hK K)|(refine hK _ ?_;clear hK K))
  refine zO ?_
  refine qR 3 2 4 ?_
  simp only[zTD]
  repeat (refine zS (fun K hK=>?_);go_simp;first|(refine zQ ?_ (fun W hW=>?_) (hK _ ?_);rotate_left;(obtain⟨c1,c2⟩:=hW;go_simp;first|done|rfl);clear hK K)|(refine hK _ ?_;clear hK K))
  refine zO ?_
  refine qO 2 3 ⟨t0,t1⟩ ?_
  simp only[zTD]
  go_wp2_with fail
  refine (uX MP _).mono ?_
  rintro e w5 ⟨pp,rfl,hpp,k5,G5⟩
  have k5':Below wq.heap.size wq w5:=bT (Below.refl _ _).drew k5
  have R':=zX ((uX R).step k5')
  have T':=zX ((uX T).step k5')
  have H5:=zX G5
  clear R T k5 k5' G5 t0 t1 hpp
  have R:=R'
  have T:=T'
  clear R' T'
  obtain⟨t0,t1⟩:=(uX T).at2
  go_wp2_with fail
  first|refine zN ?_|refine zG ?_
  refine qO 5 2 ⟨t0,t1⟩ ?_
  simp only[zTD]
  go_wp2_with fail
  refine (uX MQ _).mono ?_
  rintro e w6 ⟨pq,rfl,hpq,k6,G6⟩
  have R':=zX ((uX R).step k6)
  have T':=zX ((uX T).step k6)
  have H5':=zX ((uX H5).step k6)
  have H6:=zX G6
  clear R T k6 G6 t0 t1 H5 hpq
  have R:=R'
  have T:=T'
  clear R' T'
  obtain⟨t0,t1⟩:=(uX T).at2
  go_wp2_with fail
  first|refine zN ?_|refine zG ?_
  refine qO 6 1 ⟨t0,t1⟩ ?_
  simp only[zTD]
  go_wp2_with fail
  refine (qaw pp pq M1 M2 w6 (uX H5') (uX H6) (by omega) (by omega)).mono ?_
  rintro e w7 ⟨⟨jj,rfl⟩,rfl⟩
  have kd:Below w6.heap.size w6 (w6.drewN jj):=_root_.Go.below_drewN (Below.refl _ _) jj
  have R':=zX ((uX R).step kd)
  have T':=zX ((uX T).step kd)
  clear R T kd t0 t1 H5' H6
  have R:=R'
  have T:=T'
  clear R' T'
  generalize w6.drewN jj=w7 at *
  obtain⟨t0,t1⟩:=(uX T).at2
  go_wp2_with fail
  first|refine zN ?_|refine zG ?_
  refine qO 7 0 ⟨t0,t1⟩ ?_
  simp only[zTD]
  go_wp2_with fail
  first|refine zN ?_|refine zG ?_
  refine zE (by kernel_rfl) ⟨t0,t1⟩ ?_
  go_wp2_with fail
  go_ret2
  exact⟨rfl,(uX R).bel⟩
theorem rbinary_c21 (a b x y:Int)(s t:Bool)(w:World)(hx:IsW x)(hy:IsW y)(ha:U a)(hb:U b):Calls Tryz.prog 41 #[.int .i64 21,.int .u64 a,.int .u64 b,.agg #[.int .i64 x,.bool s],.agg #[.int .i64 y,.bool t]] w fun e w'=>e=.returned (.tuple #[.int .u64 (b1 (hld 21 (cs x s y t) (cb x y) (conv a x s (cb x y)) (conv b y t (cb x y)))),.int .i64 0])∧Below w.heap.size w w':=by
 have hX:=isW_c hx hy
 have uP:U (conv a x s (cb x y)):=qas hX
 have uQ:U (conv b y t (cb x y)):=qas hX
 have MP:=zX (fun (w:World)=>qac (conv a x s (cb x y)) (cb x y) (cs x s y t) w hX uP)
 have MQ:=zX (fun (w:World)=>qac (conv b y t (cb x y)) (cb x y) (cs x s y t) w hX uQ)
 have m1:=qai hX (cs x s y t) (conv a x s (cb x y))
 have m2:=qai hX (cs x s y t) (conv b y t (cb x y))
 have b8:(18446744073709551616:Nat)<4294967296 ^ 8:=by decide
 have hv:hld 21 (cs x s y t) (cb x y) (conv a x s (cb x y)) (conv b y t (cb x y))=(!decide (mn (cs x s y t) (cb x y) (conv a x s (cb x y))=mn (cs x s y t) (cb x y) (conv b y t (cb x y)))):=by
  rw[← mn_inj (p:=(conv a x s (cb x y))) (q:=(conv b y t (cb x y))) (cs x s y t) (cut_cut (cb x y) _) (cut_cut (cb x y) _)]
  rfl
 rw[hv]
 generalize mn (cs x s y t) (cb x y) (conv a x s (cb x y))=M1 at *
 generalize mn (cs x s y t) (cb x y) (conv b y t (cb x y))=M2 at *
 have ht:=cm_eq M1 M2
 clear hv
 generalize decide (M1=M2)=BV at *
 cases BV
 ·try simp only[Bool.not_false,Bool.not_true] at ht
  show Calls _ _ _ _ fun e w'=>e=.returned (.tuple #[.int .u64 1,.int .i64 0])∧_
  go_enter Tryz.func41,Tryz.ntmps41
  go_wp2_with fail
  refine (qab x s _ hx).mono ?_
  rintro e w1 ⟨rfl,k1⟩
  have R1:=zX (Duo.new k1)
  clear k1
  obtain⟨x2,x3⟩:=(uX R1).B.at2
  go_wp2_with fail
  refine (qab y t _ hy).mono ?_
  rintro e w2 ⟨rfl,k2⟩
  have R2:=zX ((uX R1).step k2)
  clear k2 R1 x2 x3
  obtain⟨x0,x1⟩:=(uX R2).A.at2
  obtain⟨x2,x3⟩:=(uX R2).B.at2
  go_wp2_with fail
  refine (qah x s y t w2).mono ?_
  rintro e w3 ⟨rfl,k3⟩
  clear x0 x1 x2 x3
  have R3:=zX ((uX R2).step k3)
  clear R2 k3
  go_wp2_with fail
  have R4:=zX ((uX R3).more (T:=34) (u:=.int .i64 (cb x y)) (v:=.bool (cs x s y t)))
  generalize w3.alloc (.cells #[.int .i64 (cb x y),.bool (cs x s y t)] 34)=w4 at *
  generalize w3.heap.size=pt at *
  clear R3
  obtain⟨x0,x1⟩:=(uX R4).1.A.at2
  obtain⟨x2,x3⟩:=(uX R4).1.B.at2
  obtain⟨x4,x5⟩:=(uX R4).2.at2
  have l0:=(uX R4).1.A.1
  have l1:=(uX R4).1.B.1
  have l2:=(uX R4).2.1
  refine zL (by kernel_rfl) (by kernel_rfl) ?_
  intro L hne lt hlc hlf hlm
  repeat (go_big_quiet_step ((go_at_call 38;exact zM hlm (qae _ _ _ _ _ _ (by assumption) (by assumption) (by assumption)))))
  refine wpQuiet_nil ?_
  intro wq kq
  clear hlm hlf hlc lt hne L
  obtain⟨hqc,hqf⟩:=qad kq
  clear x0 x1 x2 x3 x4 x5 l0 l1 l2 hqc hqf
  have R:=zX ((uX R4).1.step kq)
  have T:=zX ((uX R4).2.step kq)
  clear R4 kq
  obtain⟨t0,t1⟩:=(uX T).at2
  go_wp2_with fail
  refine zU (fun W=>W.cell? ⟨pt,0,none⟩=some (.int .i64 (cb x y))∧W.cell? ⟨pt,1,none⟩=some (.bool (cs x s y t))) (by kernel_rfl) ?_
  refine qR 0 2 6 ?_
  simp only[zTD]
  repeat (refine zS (fun K hK=>?_);go_simp;first|(refine zQ ?_ (fun W hW=>?_) (hK _ ?_);rotate_left;(obtain⟨c1,c2⟩:=hW;go_simp;first|done|rfl);clear hK K)|(refine hK _ ?_;clear hK K))
  refine zO ?_
  refine qR 3 2 4 ?_
  simp only[zTD]
  repeat (refine zS (fun K hK=>?_);go_simp;first|(refine zQ ?_ (fun W hW=>?_) (hK _ ?_);rotate_left;(obtain⟨c1,c2⟩:=hW;go_simp;first|done|rfl);clear hK K)|(refine hK _ ?_;clear hK K))
  refine zO ?_
  refine qO 2 3 ⟨t0,t1⟩ ?_
  simp only[zTD]
  go_wp2_with fail
  refine (uX MP _).mono ?_
  rintro e w5 ⟨pp,rfl,hpp,k5,G5⟩
  have k5':Below wq.heap.size wq w5:=bT (Below.refl _ _).drew k5
  have R':=zX ((uX R).step k5')
  have T':=zX ((uX T).step k5')
  have H5:=zX G5
  clear R T k5 k5' G5 t0 t1 hpp
  have R:=R'
  have T:=T'
  clear R' T'
  obtain⟨t0,t1⟩:=(uX T).at2
  go_wp2_with fail
  first|refine zN ?_|refine zG ?_
  refine qO 5 2 ⟨t0,t1⟩ ?_
  simp only[zTD]
  go_wp2_with fail
  refine (uX MQ _).mono ?_
  rintro e w6 ⟨pq,rfl,hpq,k6,G6⟩
  have R':=zX ((uX R).step k6)
  have T':=zX ((uX T).step k6)
  have H5':=zX ((uX H5).step k6)
  have H6:=zX G6
  clear R T k6 G6 t0 t1 H5 hpq
  have R:=R'
  have T:=T'
  clear R' T'
  obtain⟨t0,t1⟩:=(uX T).at2
  go_wp2_with fail
  first|refine zN ?_|refine zG ?_
  refine qO 6 1 ⟨t0,t1⟩ ?_
  simp only[zTD]
  go_wp2_with fail
  refine (qaw pp pq M1 M2 w6 (uX H5') (uX H6) (by omega) (by omega)).mono ?_
  rintro e w7 ⟨⟨jj,rfl⟩,rfl⟩
  have kd:Below w6.heap.size w6 (w6.drewN jj):=_root_.Go.below_drewN (Below.refl _ _) jj
  have R':=zX ((uX R).step kd)
  have T':=zX ((uX T).step kd)
  clear R T kd t0 t1 H5' H6
  have R:=R'
  have T:=T'
  clear R' T'
  generalize w6.drewN jj=w7 at *
  obtain⟨t0,t1⟩:=(uX T).at2
  go_wp2_with fail
  first|refine zN ?_|refine zG ?_
  refine qO 7 0 ⟨t0,t1⟩ ?_
  simp only[zTD]
  go_wp2_with fail
  first|refine zN ?_|refine zG ?_
  refine zE (by kernel_rfl) ⟨t0,t1⟩ ?_
  go_wp2_with fail
  go_ret2
  exact⟨rfl,(uX R).bel⟩
 ·try simp only[Bool.not_false,Bool.not_true] at ht
  show Calls _ _ _ _ fun e w'=>e=.returned (.tuple #[.int .u64 0,.int .i64 0])∧_
  go_enter Tryz.func41,Tryz.ntmps41
  go_wp2_with fail
  refine (qab x s _ hx).mono ?_
  rintro e w1 ⟨rfl,k1⟩
  have R1:=zX (Duo.new k1)
  clear k1
  obtain⟨x2,x3⟩:=(uX R1).B.at2
  go_wp2_with fail
  refine (qab y t _ hy).mono ?_
  rintro e w2 ⟨rfl,k2⟩
  have R2:=zX ((uX R1).step k2)
  clear k2 R1 x2 x3
  obtain⟨x0,x1⟩:=(uX R2).A.at2
  obtain⟨x2,x3⟩:=(uX R2).B.at2
  go_wp2_with fail
  refine (qah x s y t w2).mono ?_
  rintro e w3 ⟨rfl,k3⟩
  clear x0 x1 x2 x3
  have R3:=zX ((uX R2).step k3)
  clear R2 k3
  go_wp2_with fail
  have R4:=zX ((uX R3).more (T:=34) (u:=.int .i64 (cb x y)) (v:=.bool (cs x s y t)))
  generalize w3.alloc (.cells #[.int .i64 (cb x y),.bool (cs x s y t)] 34)=w4 at *
  generalize w3.heap.size=pt at *
  clear R3
  obtain⟨x0,x1⟩:=(uX R4).1.A.at2
  obtain⟨x2,x3⟩:=(uX R4).1.B.at2
  obtain⟨x4,x5⟩:=(uX R4).2.at2
  have l0:=(uX R4).1.A.1
  have l1:=(uX R4).1.B.1
  have l2:=(uX R4).2.1
  refine zL (by kernel_rfl) (by kernel_rfl) ?_
  intro L hne lt hlc hlf hlm
  repeat (go_big_quiet_step ((go_at_call 38;exact zM hlm (qae _ _ _ _ _ _ (by assumption) (by assumption) (by assumption)))))
  refine wpQuiet_nil ?_
  intro wq kq
  clear hlm hlf hlc lt hne L
  obtain⟨hqc,hqf⟩:=qad kq
  clear x0 x1 x2 x3 x4 x5 l0 l1 l2 hqc hqf
  have R:=zX ((uX R4).1.step kq)
  have T:=zX ((uX R4).2.step kq)
  clear R4 kq
  obtain⟨t0,t1⟩:=(uX T).at2
  go_wp2_with fail
  refine zU (fun W=>W.cell? ⟨pt,0,none⟩=some (.int .i64 (cb x y))∧W.cell? ⟨pt,1,none⟩=some (.bool (cs x s y t))) (by kernel_rfl) ?_
  refine qR 0 2 6 ?_
  simp only[zTD]
  repeat (refine zS (fun K hK=>?_);go_simp;first|(refine zQ ?_ (fun W hW=>?_) (hK _ ?_);rotate_left;(obtain⟨c1,c2⟩:=hW;go_simp;first|done|rfl);clear hK K)|(refine hK _ ?_;clear hK K))
  refine zO ?_
  refine qR 3 2 4 ?_
  simp only[zTD]
  repeat (refine zS (fun K hK=>?_);go_simp;first|(refine zQ ?_ (fun W hW=>?_) (hK _ ?_);rotate_left;(obtain⟨c1,c2⟩:=hW;go_simp;first|done|rfl);clear hK K)|(refine hK _ ?_;clear hK K))
  refine zO ?_
  refine qO 2 3 ⟨t0,t1⟩ ?_
  simp only[zTD]
  go_wp2_with fail
  refine (uX MP _).mono ?_
  rintro e w5 ⟨pp,rfl,hpp,k5,G5⟩
  have k5':Below wq.heap.size wq w5:=bT (Below.refl _ _).drew k5
  have R':=zX ((uX R).step k5')
  have T':=zX ((uX T).step k5')
  have H5:=zX G5
  clear R T k5 k5' G5 t0 t1 hpp
  have R:=R'
  have T:=T'
  clear R' T'
  obtain⟨t0,t1⟩:=(uX T).at2
  go_wp2_with fail
  first|refine zN ?_|refine zG ?_
  refine qO 5 2 ⟨t0,t1⟩ ?_
  simp only[zTD]
  go_wp2_with fail
  refine (uX MQ _).mono ?_
  rintro e w6 ⟨pq,rfl,hpq,k6,G6⟩
  have R':=zX ((uX R).step k6)
  have T':=zX ((uX T).step k6)
  have H5':=zX ((uX H5).step k6)
  have H6:=zX G6
  clear R T k6 G6 t0 t1 H5 hpq
  have R:=R'
  have T:=T'
  clear R' T'
  obtain⟨t0,t1⟩:=(uX T).at2
  go_wp2_with fail
  first|refine zN ?_|refine zG ?_
  refine qO 6 1 ⟨t0,t1⟩ ?_
  simp only[zTD]
  go_wp2_with fail
  refine (qaw pp pq M1 M2 w6 (uX H5') (uX H6) (by omega) (by omega)).mono ?_
  rintro e w7 ⟨⟨jj,rfl⟩,rfl⟩
  have kd:Below w6.heap.size w6 (w6.drewN jj):=_root_.Go.below_drewN (Below.refl _ _) jj
  have R':=zX ((uX R).step kd)
  have T':=zX ((uX T).step kd)
  clear R T kd t0 t1 H5' H6
  have R:=R'
  have T:=T'
  clear R' T'
  generalize w6.drewN jj=w7 at *
  obtain⟨t0,t1⟩:=(uX T).at2
  go_wp2_with fail
  first|refine zN ?_|refine zG ?_
  refine qO 7 0 ⟨t0,t1⟩ ?_
  simp only[zTD]
  go_wp2_with fail
  first|refine zN ?_|refine zG ?_
  refine zE (by kernel_rfl) ⟨t0,t1⟩ ?_
  go_wp2_with fail
  go_ret2
  exact⟨rfl,(uX R).bel⟩
theorem shf_up {n A m:Int}(s:Bool):cut n (mn s n A*2 ^ min m.toNat 64)=shf 14 s n A m:=by
 show _=cut n (A*2 ^ min m.toNat 64)
 rw[← cut_mul_left,cut_mn,cut_mul_left]
theorem rbinary_s14 (a b x y:Int)(s t:Bool)(w:World)(hx:IsW x)(hy:IsW y)(ha:U a)(hb:U b):Calls Tryz.prog 41 #[.int .i64 14,.int .u64 a,.int .u64 b,.agg #[.int .i64 x,.bool s],.agg #[.int .i64 y,.bool t]] w fun e w'=>e=.returned (.tuple #[.int .u64 (shf 14 (ps x s) (pb x) (conv a x s (pb x)) (conv b y t 16)),.int .i64 0])∧Below w.heap.size w w':=by
 have hX:=isW_p hx
 have h16:IsW 16:=.inr (.inl rfl)
 have SH:=zX (fun (w:World)=>shift_up2 (conv a x s (pb x)) (conv b y t 16) (pb x) (ps x s) w hX (qas hX) (qas h16))
 rw[shf_up] at SH
 generalize shf 14 (ps x s) (pb x) (conv a x s (pb x)) (conv b y t 16)=V at *
 go_enter Tryz.func41,Tryz.ntmps41
 go_wp2_with fail
 refine (qab x s _ hx).mono ?_
 rintro e w1 ⟨rfl,k1⟩
 have R1:=zX (Duo.new k1)
 clear k1
 obtain⟨x2,x3⟩:=(uX R1).B.at2
 go_wp2_with fail
 refine (qab y t _ hy).mono ?_
 rintro e w2 ⟨rfl,k2⟩
 have R2:=zX ((uX R1).step k2)
 clear k2 R1 x2 x3
 obtain⟨x0,x1⟩:=(uX R2).A.at2
 obtain⟨x2,x3⟩:=(uX R2).B.at2
 go_wp2_with fail
 refine (qbj x s w2).mono ?_
 rintro e w3 ⟨rfl,k3⟩
 clear x0 x1 x2 x3
 have R3:=zX ((uX R2).step k3)
 clear R2 k3
 go_wp2_with fail
 have R4:=zX ((uX R3).more (T:=34) (u:=.int .i64 (pb x)) (v:=.bool (ps x s)))
 generalize w3.alloc (.cells #[.int .i64 (pb x),.bool (ps x s)] 34)=w4 at *
 generalize w3.heap.size=pt at *
 clear R3
 obtain⟨x0,x1⟩:=(uX R4).1.A.at2
 obtain⟨x2,x3⟩:=(uX R4).1.B.at2
 obtain⟨x4,x5⟩:=(uX R4).2.at2
 have l0:=(uX R4).1.A.1
 have l1:=(uX R4).1.B.1
 have l2:=(uX R4).2.1
 refine zL (by kernel_rfl) (by kernel_rfl) ?_
 intro L hne lt hlc hlf hlm
 repeat (go_big_quiet_step (first|(go_at_call 38;exact zM hlm (qae _ _ _ _ _ _ (by assumption) (by assumption) (by assumption)))|(go_at_call 66;exact zM hlm (uX SH _))))
 refine wpQuiet_nil ?_
 intro wq kq
 clear hlm hlf hlc lt hne L
 obtain⟨hqc,hqf⟩:=qad kq
 have K5:=zX (bT (uX R4).1.bel kq)
 go_wp2_with fail
 go_ret2
 exact⟨rfl,uX K5⟩
theorem rbinary_s15 (a b x y:Int)(s t:Bool)(w:World)(hx:IsW x)(hy:IsW y)(ha:U a)(hb:U b):Calls Tryz.prog 41 #[.int .i64 15,.int .u64 a,.int .u64 b,.agg #[.int .i64 x,.bool s],.agg #[.int .i64 y,.bool t]] w fun e w'=>e=.returned (.tuple #[.int .u64 (shf 15 (ps x s) (pb x) (conv a x s (pb x)) (conv b y t 16)),.int .i64 0])∧Below w.heap.size w w':=by
 have hX:=isW_p hx
 have h16:IsW 16:=.inr (.inl rfl)
 have SH:Hid (∀ w:World,Calls Tryz.prog 66 #[.int .u64 (conv a x s (pb x)),.int .u64 (conv b y t 16),.int .i64 (pb x),.bool false,.bool (ps x s)] w fun e w'=>e=.returned (.tuple #[.int .u64 (shf 15 (ps x s) (pb x) (conv a x s (pb x)) (conv b y t 16)),.int .i64 0])∧Below w.heap.size w w'):=fun w=>shift_down (conv a x s (pb x)) (conv b y t 16) (pb x) (ps x s) w hX (qas hX) (qas h16)
 generalize shf 15 (ps x s) (pb x) (conv a x s (pb x)) (conv b y t 16)=V at *
 go_enter Tryz.func41,Tryz.ntmps41
 go_wp2_with fail
 refine (qab x s _ hx).mono ?_
 rintro e w1 ⟨rfl,k1⟩
 have R1:=zX (Duo.new k1)
 clear k1
 obtain⟨x2,x3⟩:=(uX R1).B.at2
 go_wp2_with fail
 refine (qab y t _ hy).mono ?_
 rintro e w2 ⟨rfl,k2⟩
 have R2:=zX ((uX R1).step k2)
 clear k2 R1 x2 x3
 obtain⟨x0,x1⟩:=(uX R2).A.at2
 obtain⟨x2,x3⟩:=(uX R2).B.at2
 go_wp2_with fail
 refine (qbj x s w2).mono ?_
 rintro e w3 ⟨rfl,k3⟩
 clear x0 x1 x2 x3
 have R3:=zX ((uX R2).step k3)
 clear R2 k3
 go_wp2_with fail
 have R4:=zX ((uX R3).more (T:=34) (u:=.int .i64 (pb x)) (v:=.bool (ps x s)))
 generalize w3.alloc (.cells #[.int .i64 (pb x),.bool (ps x s)] 34)=w4 at *
 generalize w3.heap.size=pt at *
 clear R3
 obtain⟨x0,x1⟩:=(uX R4).1.A.at2
 obtain⟨x2,x3⟩:=(uX R4).1.B.at2
 obtain⟨x4,x5⟩:=(uX R4).2.at2
 have l0:=(uX R4).1.A.1
 have l1:=(uX R4).1.B.1
 have l2:=(uX R4).2.1
 refine zL (by kernel_rfl) (by kernel_rfl) ?_
 intro L hne lt hlc hlf hlm
 repeat (go_big_quiet_step (first|(go_at_call 38;exact zM hlm (qae _ _ _ _ _ _ (by assumption) (by assumption) (by assumption)))|(go_at_call 66;exact zM hlm (uX SH _))))
 refine wpQuiet_nil ?_
 intro wq kq
 clear hlm hlf hlc lt hne L
 obtain⟨hqc,hqf⟩:=qad kq
 have K5:=zX (bT (uX R4).1.bel kq)
 go_wp2_with fail
 go_ret2
 exact⟨rfl,uX K5⟩
end Go.Proofs.YtjpnnmkefaodoaaGreat
