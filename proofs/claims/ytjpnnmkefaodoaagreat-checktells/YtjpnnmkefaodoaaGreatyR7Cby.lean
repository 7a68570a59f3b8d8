/-
  R7Cb.
-/
import Derived.Test.YtjpnnmkefaodoaaGreatyR7Cy
set_option maxHeartbeats 8000000
set_option maxRecDepth 100000
namespace Go.Proofs.YtjpnnmkefaodoaaGreat
open Go.RowKit
set_option linter.unusedSimpArgs false
set_option linter.unusedVariables false
theorem rbinary_and (a b x y:Int)(s t:Bool)(w:World)(hx:IsW x)(hy:IsW y)(ha:U a)(hb:U b):Calls Tryz.prog 41 #[.int .i64 22,.int .u64 a,.int .u64 b,.agg #[.int .i64 x,.bool s],.agg #[.int .i64 y,.bool t]] w fun e w'=>e=.returned (.tuple #[.int .u64 (wrk 22 (cs x s y t) (cb x y) (conv a x s (cb x y)) (conv b y t (cb x y))).1,.int .i64 (wrk 22 (cs x s y t) (cb x y) (conv a x s (cb x y)) (conv b y t (cb x y))).2])∧Below w.heap.size w w':=by
 have hX:=isW_c hx hy
 have uP:U (conv a x s (cb x y)):=qas hX
 have uQ:U (conv b y t (cb x y)):=qas hX
 have MP:=zX (fun (w:World)=>qac (conv a x s (cb x y)) (cb x y) (cs x s y t) w hX uP)
 have MQ:=zX (fun (w:World)=>qac (conv b y t (cb x y)) (cb x y) (cs x s y t) w hX uQ)
 have m1:=qai hX (cs x s y t) (conv a x s (cb x y))
 have m2:=qai hX (cs x s y t) (conv b y t (cb x y))
 have b8:(18446744073709551616:Nat)<4294967296 ^ 8:=by decide
 show Calls _ _ _ _ fun e w'=>e=.returned (.tuple #[.int .u64 (bits .and .u64 (conv a x s (cb x y)) (conv b y t (cb x y))),.int .i64 0])∧_
 have ub:(bits .and .u64 (conv a x s (cb x y)) (conv b y t (cb x y))).natAbs<18446744073709551616∧0≤bits .and .u64 (conv a x s (cb x y)) (conv b y t (cb x y)):=by
  have:=bits_within .and .u64 (conv a x s (cb x y)) (conv b y t (cb x y))
  have h1:IntKind.u64.min=0:=rfl
  have h2:IntKind.u64.max=18446744073709551615:=rfl
  omega
 have WP:=zX (fun (w:World)=>qbr (conv a x s (cb x y)) w uP)
 have WQ:=zX (fun (w:World)=>qbr (conv b y t (cb x y)) w uQ)
 have BT:=zX (fun p q r w hp hq hr=>bit_and p q r (conv a x s (cb x y)) (conv b y t (cb x y)) w hp hq hr uP uQ)
 have ub2:=ub.2
 have ub1:=ub.1
 clear ub
 generalize bits .and .u64 (conv a x s (cb x y)) (conv b y t (cb x y))=V at *
 generalize mn (cs x s y t) (cb x y) (conv a x s (cb x y))=M1 at *
 generalize mn (cs x s y t) (cb x y) (conv b y t (cb x y))=M2 at *
 go_enter Tryz.func41,Tryz.ntmps41
 go_wp2_with fail
 refine (qab x s _ hx).mono ?_
 rintro e w1 ⟨rfl,k1⟩
 have R1:=zX (Duo.new k1)
 clear k1
 obtain⟨x2,x3⟩:=(uX R1).B.at2
 go_wp2_with fail
 refine (qab y t _ hy).mono ?_
 rintro e w2 ⟨rfl,k2⟩
 have R2:=zX ((uX R1).step k2)
 clear k2 R1 x2 x3
 obtain⟨x0,x1⟩:=(uX R2).A.at2
 obtain⟨x2,x3⟩:=(uX R2).B.at2
 go_wp2_with fail
 refine (qah x s y t w2).mono ?_
 rintro e w3 ⟨rfl,k3⟩
 clear x0 x1 x2 x3
 have R3:=zX ((uX R2).step k3)
 clear R2 k3
 go_wp2_with fail
 have R4:=zX ((uX R3).more (T:=34) (u:=.int .i64 (cb x y)) (v:=.bool (cs x s y t)))
 generalize w3.alloc (.cells #[.int .i64 (cb x y),.bool (cs x s y t)] 34)=w4 at *
 generalize w3.heap.size=pt at *
 clear R3
 obtain⟨x0,x1⟩:=(uX R4).1.A.at2
 obtain⟨x2,x3⟩:=(uX R4).1.B.at2
 obtain⟨x4,x5⟩:=(uX R4).2.at2
 have l0:=(uX R4).1.A.1
 have l1:=(uX R4).1.B.1
 have l2:=(uX R4).2.1
 refine zL (by kernel_rfl) (by kernel_rfl) ?_
 intro L hne lt hlc hlf hlm
 repeat (go_big_quiet_step ((go_at_call 38;exact zM hlm (qae _ _ _ _ _ _ (by assumption) (by assumption) (by assumption)))))
 refine wpQuiet_nil ?_
 intro wq kq
 clear hlm hlf hlc lt hne L
 obtain⟨hqc,hqf⟩:=qad kq
 clear x0 x1 x2 x3 x4 x5 l0 l1 l2 hqc hqf
 have R:=zX ((uX R4).1.step kq)
 have T:=zX ((uX R4).2.step kq)
 clear R4 kq
 obtain⟨t0,t1⟩:=(uX T).at2
 go_wp2_with fail
 refine zU (fun W=>W.cell? ⟨pt,0,none⟩=some (.int .i64 (cb x y))∧W.cell? ⟨pt,1,none⟩=some (.bool (cs x s y t))) (by kernel_rfl) ?_
 refine qR 0 2 6 ?_
 simp only[zTD]
 repeat (refine zS (fun K hK=>?_);go_simp;first|(refine zQ ?_ (fun W hW=>?_) (hK _ ?_);rotate_left;(obtain⟨c1,c2⟩:=hW;go_simp;first|done|rfl);clear hK K)|(refine hK _ ?_;clear hK K))
 refine zO ?_
 refine qR 3 2 4 ?_
 simp only[zTD]
 repeat (refine zS (fun K hK=>?_);go_simp;first|(refine zQ ?_ (fun W hW=>?_) (hK _ ?_);rotate_left;(obtain⟨c1,c2⟩:=hW;go_simp;first|done|rfl);clear hK K)|(refine hK _ ?_;clear hK K))
 refine zO ?_
 refine qO 2 3 ⟨t0,t1⟩ ?_
 simp only[zTD]
 go_wp2_with fail
 refine (uX MP _).mono ?_
 rintro e w5 ⟨pp,rfl,hpp,k5,G5⟩
 have k5':Below wq.heap.size wq w5:=bT (Below.refl _ _).drew k5
 have R':=zX ((uX R).step k5')
 have T':=zX ((uX T).step k5')
 have H5:=zX G5
 clear R T k5 k5' G5 t0 t1 hpp
 have R:=R'
 have T:=T'
 clear R' T'
 obtain⟨t0,t1⟩:=(uX T).at2
 go_wp2_with fail
 first|refine zN ?_|refine zG ?_
 refine qO 5 2 ⟨t0,t1⟩ ?_
 simp only[zTD]
 go_wp2_with fail
 refine (uX MQ _).mono ?_
 rintro e w6 ⟨pq,rfl,hpq,k6,G6⟩
 have R':=zX ((uX R).step k6)
 have T':=zX ((uX T).step k6)
 have H5':=zX ((uX H5).step k6)
 have H6:=zX G6
 clear R T k6 G6 t0 t1 H5 hpq
 have R:=R'
 have T:=T'
 clear R' T'
 obtain⟨t0,t1⟩:=(uX T).at2
 go_wp2_with fail
 first|refine zN ?_|refine zG ?_
 refine qO 6 1 ⟨t0,t1⟩ ?_
 simp only[zTD]
 go_wp2_with fail
 refine (qaw pp pq M1 M2 w6 (uX H5') (uX H6) (by omega) (by omega)).mono ?_
 rintro e w7 ⟨⟨jj,rfl⟩,rfl⟩
 have kd:Below w6.heap.size w6 (w6.drewN jj):=_root_.Go.below_drewN (Below.refl _ _) jj
 have R':=zX ((uX R).step kd)
 have T':=zX ((uX T).step kd)
 clear R T kd t0 t1 H5' H6
 have R:=R'
 have T:=T'
 clear R' T'
 generalize w6.drewN jj=w7 at *
 obtain⟨t0,t1⟩:=(uX T).at2
 go_wp2_with fail
 first|refine zN ?_|refine zG ?_
 refine qO 7 0 ⟨t0,t1⟩ ?_
 simp only[zTD]
 go_wp2_with fail
 first|refine zN ?_|refine zG ?_
 refine zE (by kernel_rfl) ⟨t0,t1⟩ ?_
 have NB:=zX (Big.new w7).int
 have kz:=zX (qaa w7 (.cells #[.bool false,.slice none 0 0] 127))
 clear T t0 t1
 go_wp2_with fail
 generalize w7.alloc (.cells #[.bool false,.slice none 0 0] 127)=w8 at *
 refine (uX WP w8).mono ?_
 rintro e w9 ⟨rfl,k9,B9⟩
 have K9:=zX k9
 have H9:=zX B9
 clear k9 B9
 go_wp2_with fail
 refine (uX WQ w9).mono ?_
 rintro e wa ⟨rfl,ka,Ba⟩
 have Ka:=zX ka
 have Ha:=zX Ba
 have H9a:=zX ((uX H9).step ka)
 have NBa:=zX (((uX NB).step (uX K9)).step ka)
 have l9:=(uX H9).lt
 clear ka Ba H9 NB
 go_wp2_with fail
 refine (uX BT w7.heap.size w8.heap.size w9.heap.size wa (uX NBa) (uX H9a) (uX Ha)).mono ?_
 rintro e wb ⟨rfl,kb,Bb⟩
 have s7:=(uX kz).size
 have K7:Hid (Below w7.heap.size w7 wb):=by
  have q1:=bT (uX kz) (bT (uX K9) (uX Ka))
  exact q1.trans (kb.below (Nat.le_refl _) q1.size)
 have Hb:=zX Bb
 clear kb Bb NBa H9a Ha
 go_wp2_with fail
 have UI:=uint_any w7.heap.size V wb (uX Hb) ub1
 rw[show ((V.natAbs:Nat):Int)=V by omega] at UI
 refine UI.mono ?_
 rintro e wc ⟨hwc,rfl⟩
 subst wc
 go_wp2_with fail
 go_ret2
 exact⟨rfl,bT (uX R).bel (uX K7)⟩
theorem rbinary_xor (a b x y:Int)(s t:Bool)(w:World)(hx:IsW x)(hy:IsW y)(ha:U a)(hb:U b):Calls Tryz.prog 41 #[.int .i64 23,.int .u64 a,.int .u64 b,.agg #[.int .i64 x,.bool s],.agg #[.int .i64 y,.bool t]] w fun e w'=>e=.returned (.tuple #[.int .u64 (wrk 23 (cs x s y t) (cb x y) (conv a x s (cb x y)) (conv b y t (cb x y))).1,.int .i64 (wrk 23 (cs x s y t) (cb x y) (conv a x s (cb x y)) (conv b y t (cb x y))).2])∧Below w.heap.size w w':=by
 have hX:=isW_c hx hy
 have uP:U (conv a x s (cb x y)):=qas hX
 have uQ:U (conv b y t (cb x y)):=qas hX
 have MP:=zX (fun (w:World)=>qac (conv a x s (cb x y)) (cb x y) (cs x s y t) w hX uP)
 have MQ:=zX (fun (w:World)=>qac (conv b y t (cb x y)) (cb x y) (cs x s y t) w hX uQ)
 have m1:=qai hX (cs x s y t) (conv a x s (cb x y))
 have m2:=qai hX (cs x s y t) (conv b y t (cb x y))
 have b8:(18446744073709551616:Nat)<4294967296 ^ 8:=by decide
 show Calls _ _ _ _ fun e w'=>e=.returned (.tuple #[.int .u64 (bits .xor .u64 (conv a x s (cb x y)) (conv b y t (cb x y))),.int .i64 0])∧_
 have ub:(bits .xor .u64 (conv a x s (cb x y)) (conv b y t (cb x y))).natAbs<18446744073709551616∧0≤bits .xor .u64 (conv a x s (cb x y)) (conv b y t (cb x y)):=by
  have:=bits_within .xor .u64 (conv a x s (cb x y)) (conv b y t (cb x y))
  have h1:IntKind.u64.min=0:=rfl
  have h2:IntKind.u64.max=18446744073709551615:=rfl
  omega
 have WP:=zX (fun (w:World)=>qbr (conv a x s (cb x y)) w uP)
 have WQ:=zX (fun (w:World)=>qbr (conv b y t (cb x y)) w uQ)
 have BT:=zX (fun p q r w hp hq hr=>bit_xor p q r (conv a x s (cb x y)) (conv b y t (cb x y)) w hp hq hr uP uQ)
 have ub2:=ub.2
 have ub1:=ub.1
 clear ub
 generalize bits .xor .u64 (conv a x s (cb x y)) (conv b y t (cb x y))=V at *
 generalize mn (cs x s y t) (cb x y) (conv a x s (cb x y))=M1 at *
 generalize mn (cs x s y t) (cb x y) (conv b y t (cb x y))=M2 at *
 go_enter Tryz.func41,Tryz.ntmps41
 go_wp2_with fail
 refine (qab x s _ hx).mono ?_
 rintro e w1 ⟨rfl,k1⟩
 have R1:=zX (Duo.new k1)
 clear k1
 obtain⟨x2,x3⟩:=(uX R1).B.at2
 go_wp2_with fail
 refine (qab y t _ hy).mono ?_
 rintro e w2 ⟨rfl,k2⟩
 have R2:=zX ((uX R1).step k2)
 clear k2 R1 x2 x3
 obtain⟨x0,x1⟩:=(uX R2).A.at2
 obtain⟨x2,x3⟩:=(uX R2).B.at2
 go_wp2_with fail
 refine (qah x s y t w2).mono ?_
 rintro e w3 ⟨rfl,k3⟩
 clear x0 x1 x2 x3
 have R3:=zX ((uX R2).step k3)
 clear R2 k3
 go_wp2_with fail
 have R4:=zX ((uX R3).more (T:=34) (u:=.int .i64 (cb x y)) (v:=.bool (cs x s y t)))
 generalize w3.alloc (.cells #[.int .i64 (cb x y),.bool (cs x s y t)] 34)=w4 at *
 generalize w3.heap.size=pt at *
 clear R3
 obtain⟨x0,x1⟩:=(uX R4).1.A.at2
 obtain⟨x2,x3⟩:=(uX R4).1.B.at2
 obtain⟨x4,x5⟩:=(uX R4).2.at2
 have l0:=(uX R4).1.A.1
 have l1:=(uX R4).1.B.1
 have l2:=(uX R4).2.1
 refine zL (by kernel_rfl) (by kernel_rfl) ?_
 intro L hne lt hlc hlf hlm
 repeat (go_big_quiet_step ((go_at_call 38;exact zM hlm (qae _ _ _ _ _ _ (by assumption) (by assumption) (by assumption)))))
 refine wpQuiet_nil ?_
 intro wq kq
 clear hlm hlf hlc lt hne L
 obtain⟨hqc,hqf⟩:=qad kq
 clear x0 x1 x2 x3 x4 x5 l0 l1 l2 hqc hqf
 have R:=zX ((uX R4).1.step kq)
 have T:=zX ((uX R4).2.step kq)
 clear R4 kq
 obtain⟨t0,t1⟩:=(uX T).at2
 go_wp2_with fail
 refine zU (fun W=>W.cell? ⟨pt,0,none⟩=some (.int .i64 (cb x y))∧W.cell? ⟨pt,1,none⟩=some (.bool (cs x s y t))) (by kernel_rfl) ?_
 refine qR 0 2 6 ?_
 simp only[zTD]
 repeat (refine zS (fun K hK=>?_);go_simp;first|(refine zQ ?_ (fun W hW=>?_) (hK _ ?_);rotate_left;(obtain⟨c1,c2⟩:=hW;go_simp;first|done|rfl);clear hK K)|(refine hK _ ?_;clear hK K))
 refine zO ?_
 refine qR 3 2 4 ?_
 simp only[zTD]
 repeat (refine zS (fun K hK=>?_);go_simp;first|(refine zQ ?_ (fun W hW=>?_) (hK _ ?_);rotate_left;(obtain⟨c1,c2⟩:=hW;go_simp;first|done|rfl);clear hK K)|(refine hK _ ?_;clear hK K))
 refine zO ?_
 refine qO 2 3 ⟨t0,t1⟩ ?_
 simp only[zTD]
 go_wp2_with fail
 refine (uX MP _).mono ?_
 rintro e w5 ⟨pp,rfl,hpp,k5,G5⟩
 have k5':Below wq.heap.size wq w5:=bT (Below.refl _ _).drew k5
 have R':=zX ((uX R).step k5')
 have T':=zX ((uX T).step k5')
 have H5:=zX G5
 clear R T k5 k5' G5 t0 t1 hpp
 have R:=R'
 have T:=T'
 clear R' T'
 obtain⟨t0,t1⟩:=(uX T).at2
 go_wp2_with fail
 first|refine zN ?_|refine zG ?_
 refine qO 5 2 ⟨t0,t1⟩ ?_
 simp only[zTD]
 go_wp2_with fail
 refine (uX MQ _).mono ?_
 rintro e w6 ⟨pq,rfl,hpq,k6,G6⟩
 have R':=zX ((uX R).step k6)
 have T':=zX ((uX T).step k6)
 have H5':=zX ((uX H5).step k6)
 have H6:=zX G6
 clear R T k6 G6 t0 t1 H5 hpq
 have R:=R'
 have T:=T'
 clear R' T'
 obtain⟨t0,t1⟩:=(uX T).at2
 go_wp2_with fail
 first|refine zN ?_|refine zG ?_
 refine qO 6 1 ⟨t0,t1⟩ ?_
 simp only[zTD]
 go_wp2_with fail
 refine (qaw pp pq M1 M2 w6 (uX H5') (uX H6) (by omega) (by omega)).mono ?_
 rintro e w7 ⟨⟨jj,rfl⟩,rfl⟩
 have kd:Below w6.heap.size w6 (w6.drewN jj):=_root_.Go.below_drewN (Below.refl _ _) jj
 have R':=zX ((uX R).step kd)
 have T':=zX ((uX T).step kd)
 clear R T kd t0 t1 H5' H6
 have R:=R'
 have T:=T'
 clear R' T'
 generalize w6.drewN jj=w7 at *
 obtain⟨t0,t1⟩:=(uX T).at2
 go_wp2_with fail
 first|refine zN ?_|refine zG ?_
 refine qO 7 0 ⟨t0,t1⟩ ?_
 simp only[zTD]
 go_wp2_with fail
 first|refine zN ?_|refine zG ?_
 refine zE (by kernel_rfl) ⟨t0,t1⟩ ?_
 have NB:=zX (Big.new w7).int
 have kz:=zX (qaa w7 (.cells #[.bool false,.slice none 0 0] 127))
 clear T t0 t1
 go_wp2_with fail
 generalize w7.alloc (.cells #[.bool false,.slice none 0 0] 127)=w8 at *
 refine (uX WP w8).mono ?_
 rintro e w9 ⟨rfl,k9,B9⟩
 have K9:=zX k9
 have H9:=zX B9
 clear k9 B9
 go_wp2_with fail
 refine (uX WQ w9).mono ?_
 rintro e wa ⟨rfl,ka,Ba⟩
 have Ka:=zX ka
 have Ha:=zX Ba
 have H9a:=zX ((uX H9).step ka)
 have NBa:=zX (((uX NB).step (uX K9)).step ka)
 have l9:=(uX H9).lt
 clear ka Ba H9 NB
 go_wp2_with fail
 refine (uX BT w7.heap.size w8.heap.size w9.heap.size wa (uX NBa) (uX H9a) (uX Ha)).mono ?_
 rintro e wb ⟨rfl,kb,Bb⟩
 have s7:=(uX kz).size
 have K7:Hid (Below w7.heap.size w7 wb):=by
  have q1:=bT (uX kz) (bT (uX K9) (uX Ka))
  exact q1.trans (kb.below (Nat.le_refl _) q1.size)
 have Hb:=zX Bb
 clear kb Bb NBa H9a Ha
 go_wp2_with fail
 have UI:=uint_any w7.heap.size V wb (uX Hb) ub1
 rw[show ((V.natAbs:Nat):Int)=V by omega] at UI
 refine UI.mono ?_
 rintro e wc ⟨hwc,rfl⟩
 subst wc
 go_wp2_with fail
 go_ret2
 exact⟨rfl,bT (uX R).bel (uX K7)⟩
theorem rbinary_or (a b x y:Int)(s t:Bool)(w:World)(hx:IsW x)(hy:IsW y)(ha:U a)(hb:U b):Calls Tryz.prog 41 #[.int .i64 24,.int .u64 a,.int .u64 b,.agg #[.int .i64 x,.bool s],.agg #[.int .i64 y,.bool t]] w fun e w'=>e=.returned (.tuple #[.int .u64 (wrk 24 (cs x s y t) (cb x y) (conv a x s (cb x y)) (conv b y t (cb x y))).1,.int .i64 (wrk 24 (cs x s y t) (cb x y) (conv a x s (cb x y)) (conv b y t (cb x y))).2])∧Below w.heap.size w w':=by
 have hX:=isW_c hx hy
 have uP:U (conv a x s (cb x y)):=qas hX
 have uQ:U (conv b y t (cb x y)):=qas hX
 have MP:=zX (fun (w:World)=>qac (conv a x s (cb x y)) (cb x y) (cs x s y t) w hX uP)
 have MQ:=zX (fun (w:World)=>qac (conv b y t (cb x y)) (cb x y) (cs x s y t) w hX uQ)
 have m1:=qai hX (cs x s y t) (conv a x s (cb x y))
 have m2:=qai hX (cs x s y t) (conv b y t (cb x y))
 have b8:(18446744073709551616:Nat)<4294967296 ^ 8:=by decide
 show Calls _ _ _ _ fun e w'=>e=.returned (.tuple #[.int .u64 (bits .or .u64 (conv a x s (cb x y)) (conv b y t (cb x y))),.int .i64 0])∧_
 have ub:(bits .or .u64 (conv a x s (cb x y)) (conv b y t (cb x y))).natAbs<18446744073709551616∧0≤bits .or .u64 (conv a x s (cb x y)) (conv b y t (cb x y)):=by
  have:=bits_within .or .u64 (conv a x s (cb x y)) (conv b y t (cb x y))
  have h1:IntKind.u64.min=0:=rfl
  have h2:IntKind.u64.max=18446744073709551615:=rfl
  omega
 have WP:=zX (fun (w:World)=>qbr (conv a x s (cb x y)) w uP)
 have WQ:=zX (fun (w:World)=>qbr (conv b y t (cb x y)) w uQ)
 have BT:=zX (fun p q r w hp hq hr=>bit_or p q r (conv a x s (cb x y)) (conv b y t (cb x y)) w hp hq hr uP uQ)
 have ub2:=ub.2
 have ub1:=ub.1
 clear ub
 generalize bits .or .u64 (conv a x s (cb x y)) (conv b y t (cb x y))=V at *
 generalize mn (cs x s y t) (cb x y) (conv a x s (cb x y))=M1 at *
 generalize mn (cs x s y t) (cb x y) (conv b y t (cb x y))=M2 at *
 go_enter Tryz.func41,Tryz.ntmps41
 go_wp2_with fail
 refine (qab x s _ hx).mono ?_
 rintro e w1 ⟨rfl,k1⟩
 have R1:=zX (Duo.new k1)
 clear k1
 obtain⟨x2,x3⟩:=(uX R1).B.at2
 go_wp2_with fail
 refine (qab y t _ hy).mono ?_
 rintro e w2 ⟨rfl,k2⟩
 have R2:=zX ((uX R1).step k2)
 clear k2 R1 x2 x3
 obtain⟨x0,x1⟩:=(uX R2).A.at2
 obtain⟨x2,x3⟩:=(uX R2).B.at2
 go_wp2_with fail
 refine (qah x s y t w2).mono ?_
 rintro e w3 ⟨rfl,k3⟩
 clear x0 x1 x2 x3
 have R3:=zX ((uX R2).step k3)
 clear R2 k3
 go_wp2_with fail
 have R4:=zX ((uX R3).more (T:=34) (u:=.int .i64 (cb x y)) (v:=.bool (cs x s y t)))
 generalize w3.alloc (.cells #[.int .i64 (cb x y),.bool (cs x s y t)] 34)=w4 at *
 generalize w3.heap.size=pt at *
 clear R3
 obtain⟨x0,x1⟩:=(uX R4).1.A.at2
 obtain⟨x2,x3⟩:=(uX R4).1.B.at2
 obtain⟨x4,x5⟩:=(uX R4).2.at2
 have l0:=(uX R4).1.A.1
 have l1:=(uX R4).1.B.1
 have l2:=(uX R4).2.1
 refine zL (by kernel_rfl) (by kernel_rfl) ?_
 intro L hne lt hlc hlf hlm
 repeat (go_big_quiet_step ((go_at_call 38;exact zM hlm (qae _ _ _ _ _ _ (by assumption) (by assumption) (by assumption)))))
 refine wpQuiet_nil ?_
 intro wq kq
 clear hlm hlf hlc lt hne L
 obtain⟨hqc,hqf⟩:=qad kq
 clear x0 x1 x2 x3 x4 x5 l0 l1 l2 hqc hqf
 have R:=zX ((uX R4).1.step kq)
 have T:=zX ((uX R4).2.step kq)
 clear R4 kq
 obtain⟨t0,t1⟩:=(uX T).at2
 go_wp2_with fail
 refine zU (fun W=>W.cell? ⟨pt,0,none⟩=some (.int .i64 (cb x y))∧W.cell? ⟨pt,1,none⟩=some (.bool (cs x s y t))) (by kernel_rfl) ?_
 refine qR 0 2 6 ?_
 simp only[zTD]
 repeat (refine zS (fun K hK=>?_);go_simp;first|(refine zQ ?_ (fun W hW=>?_) (hK _ ?_);rotate_left;(obtain⟨c1,c2⟩:=hW;go_simp;first|done|rfl);clear hK K)|(refine hK _ ?_;clear hK K))
 refine zO ?_
 refine qR 3 2 4 ?_
 simp only[zTD]
 repeat (refine zS (fun K hK=>?_);go_simp;first|(refine zQ ?_ (fun W hW=>?_) (hK _ ?_);rotate_left;(obtain⟨c1,c2⟩:=hW;go_simp;first|done|rfl);clear hK K)|(refine hK _ ?_;clear hK K))
 refine zO ?_
 refine qO 2 3 ⟨t0,t1⟩ ?_
 simp only[zTD]
 go_wp2_with fail
 refine (uX MP _).mono ?_
 rintro e w5 ⟨pp,rfl,hpp,k5,G5⟩
 have k5':Below wq.heap.size wq w5:=bT (Below.refl _ _).drew k5
 have R':=zX ((uX R).step k5')
 have T':=zX ((uX T).step k5')
 have H5:=zX G5
 clear R T k5 k5' G5 t0 t1 hpp
 have R:=R'
 have T:=T'
 clear R' T'
 obtain⟨t0,t1⟩:=(uX T).at2
 go_wp2_with fail
 first|refine zN ?_|refine zG ?_
 refine qO 5 2 ⟨t0,t1⟩ ?_
 simp only[zTD]
 go_wp2_with fail
 refine (uX MQ _).mono ?_
 rintro e w6 ⟨pq,rfl,hpq,k6,G6⟩
 have R':=zX ((uX R).step k6)
 have T':=zX ((uX T).step k6)
 have H5':=zX ((uX H5).step k6)
 have H6:=zX G6
 clear R T k6 G6 t0 t1 H5 hpq
 have R:=R'
 have T:=T'
 clear R' T'
 obtain⟨t0,t1⟩:=(uX T).at2
 go_wp2_with fail
 first|refine zN ?_|refine zG ?_
 refine qO 6 1 ⟨t0,t1⟩ ?_
 simp only[zTD]
 go_wp2_with fail
 refine (qaw pp pq M1 M2 w6 (uX H5') (uX H6) (by omega) (by omega)).mono ?_
 rintro e w7 ⟨⟨jj,rfl⟩,rfl⟩
 have kd:Below w6.heap.size w6 (w6.drewN jj):=_root_.Go.below_drewN (Below.refl _ _) jj
 have R':=zX ((uX R).step kd)
 have T':=zX ((uX T).step kd)
 clear R T kd t0 t1 H5' H6
 have R:=R'
 have T:=T'
 clear R' T'
 generalize w6.drewN jj=w7 at *
 obtain⟨t0,t1⟩:=(uX T).at2
 go_wp2_with fail
 first|refine zN ?_|refine zG ?_
 refine qO 7 0 ⟨t0,t1⟩ ?_
 simp only[zTD]
 go_wp2_with fail
 first|refine zN ?_|refine zG ?_
 refine zE (by kernel_rfl) ⟨t0,t1⟩ ?_
 have NB:=zX (Big.new w7).int
 have kz:=zX (qaa w7 (.cells #[.bool false,.slice none 0 0] 127))
 clear T t0 t1
 go_wp2_with fail
 generalize w7.alloc (.cells #[.bool false,.slice none 0 0] 127)=w8 at *
 refine (uX WP w8).mono ?_
 rintro e w9 ⟨rfl,k9,B9⟩
 have K9:=zX k9
 have H9:=zX B9
 clear k9 B9
 go_wp2_with fail
 refine (uX WQ w9).mono ?_
 rintro e wa ⟨rfl,ka,Ba⟩
 have Ka:=zX ka
 have Ha:=zX Ba
 have H9a:=zX ((uX H9).step ka)
 have NBa:=zX (((uX NB).step (uX K9)).step ka)
 have l9:=(uX H9).lt
 clear ka Ba H9 NB
 go_wp2_with fail
 refine (uX BT w7.heap.size w8.heap.size w9.heap.size wa (uX NBa) (uX H9a) (uX Ha)).mono ?_
 rintro e wb ⟨rfl,kb,Bb⟩
 have s7:=(uX kz).size
 have K7:Hid (Below w7.heap.size w7 wb):=by
  have q1:=bT (uX kz) (bT (uX K9) (uX Ka))
  exact q1.trans (kb.below (Nat.le_refl _) q1.size)
 have Hb:=zX Bb
 clear kb Bb NBa H9a Ha
 go_wp2_with fail
 have UI:=uint_any w7.heap.size V wb (uX Hb) ub1
 rw[show ((V.natAbs:Nat):Int)=V by omega] at UI
 refine UI.mono ?_
 rintro e wc ⟨hwc,rfl⟩
 subst wc
 go_wp2_with fail
 go_ret2
 exact⟨rfl,bT (uX R).bel (uX K7)⟩
end Go.Proofs.YtjpnnmkefaodoaaGreat
