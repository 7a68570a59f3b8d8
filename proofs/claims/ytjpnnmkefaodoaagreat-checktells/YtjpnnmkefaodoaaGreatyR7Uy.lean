/-
  R7U, Bth, CcG, CnG.
-/
import Derived.Test.YtjpnnmkefaodoaaGreatyR7Cby
import Derived.Test.YtjpnnmkefaodoaaGreatyR7Ccy
set_option maxHeartbeats 8000000
set_option maxRecDepth 100000
namespace Go.Proofs.YtjpnnmkefaodoaaGreat
open Go.RowKit
set_option linter.unusedSimpArgs false
set_option linter.unusedVariables false
theorem cut_neg (n z:Int):cut n (-cut n z)=cut n (-z):=by
 have h:=cut_sub n 0 (cut n z)
 rw[cut_cut,cut_sub] at h
 simpa using h.symm
theorem cut_neg1 (n z:Int):cut n (-cut n z - 1)=cut n (-z - 1):=by
 have h:=cut_sub n (-1) (cut n z)
 rw[cut_cut,cut_sub] at h
 rw[show -cut n z - 1=-1 - cut n z by omega,show -z - 1=-1 - z by omega]
 exact h.symm
theorem p_le {x:Int}(h:IsW x):x≤pb x:=by unfold pb;split <;> omega
theorem conv_zero {x a:Int}{s:Bool}(h:IsW x):(conv a x s (pb x)==0)=decide (mn s x a=0):=by
 have c0:=cut_lo h a
 have c1:=cut_lt h a
 have d:mn s x a=0↔cut (pb x) (mn s x a)=0:=by
  constructor
  ·intro e;rw[e];unfold cut;simp
  ·intro e
   have e':cut x a=0:=by
    rw[← cut_mn s x a,← cut_le h (isW_p h) (p_le h),e]
    unfold cut;simp
   unfold mn sgn
   rw[e']
   have:=md_pos h
   split
   ·rw[if_pos (by omega)]
   ·rfl
 unfold conv
 by_cases e:mn s x a=0
 ·rw[decide_eq_true e,beq_iff_eq];exact d.1 e
 ·rw[decide_eq_false e,beq_eq_false_iff_ne];exact fun h=>e (d.2 h)
theorem runary_log (a x:Int)(s:Bool)(w:World)(h:IsW x)(ha:U a):Calls Tryz.prog 39 #[.int .i64 8,.int .u64 a,.agg #[.int .i64 x,.bool s]] w fun e w'=>e=.returned (.tuple #[.int .u64 (b1 (conv a x s (pb x)==0)),.agg #[.int .i64 16,.bool true],.int .i64 0])∧Below w.heap.size w w':=by
 have hX:=isW_p h
 have MA:=zX (fun (w:World)=>qac a x s w h ha)
 have ma:=qai h s a
 have b8:(18446744073709551616:Nat)<4294967296 ^ 8:=by decide
 rw[conv_zero h]
 generalize mn s x a=M at *
 by_cases hz:M=0
 ·have e1:b1 (decide (M=0))=1:=by simp[b1,hz]
  rw[e1]
  have sz:M.sign=0:=by rw[hz];rfl
  clear e1 hz
  go_enter Tryz.func39,Tryz.ntmps39
  go_wp2_with fail
  have R0:=zX (Duo.new (w:=w) (T:=34) (a0:=.int .i64 x) (a1:=.bool s) (b0:=.int .i64 0) (b1:=.bool false) (Below.refl _ _))
  generalize (w.alloc (.cells #[.int .i64 x,.bool s] 34)).alloc (.cells #[.int .i64 0,.bool false] 34)=w0 at *
  refine (qab x s w0 h).mono ?_
  rintro e w1 ⟨rfl,k1⟩
  have R1:=zX ((uX R0).step k1)
  clear k1 R0
  obtain⟨x0,x1⟩:=(uX R1).A.at2
  go_wp2_with fail
  refine (qbj x s w1).mono ?_
  rintro e w2 ⟨rfl,k2⟩
  have R2:=zX ((uX R1).step k2)
  clear k2 R1 x0 x1
  have R3:=zX ((uX R2).more (T:=34) (u:=.int .i64 (pb x)) (v:=.bool (ps x s)))
  obtain⟨x0,x1⟩:=(uX R2).A.at2
  have lx:=(uX R2).A.1
  have lB:=(uX R2).B.1
  go_wp2_with fail
  clear x0 x1 lx R2
  have hpt:w2.heap.size≠w.heap.size+1:=by have:=lB;omega
  generalize w2.alloc (.cells #[.int .i64 (pb x),.bool (ps x s)] 34)=w3 at *
  generalize w2.heap.size=pt at *
  refine (uX MA w3).mono ?_
  rintro e w4 ⟨pm,rfl,hpm,k4,BM⟩
  have R:=zX ((uX R3).1.step k4)
  have T:=zX ((uX R3).2.step k4)
  have HM:=zX BM
  clear k4 R3 hpm BM
  obtain⟨t0,t1⟩:=(uX T).at2
  go_wp2_with fail
  refine (sign_any pm M w4 (uX HM) (by omega)).mono ?_
  rintro e w' ⟨hw,rfl⟩
  subst w'
  rw[sz]
  obtain⟨r0,r1⟩:=(uX R).B.at2
  have rf:=(uX R).B.2.2
  have p0:=(uX R).B.put0
  have p1:=(uX R).B.put1
  go_wp2_with fail
  exact bodyPost_ret (v:=.tuple #[.int .u64 1,.agg #[.int .i64 16,.bool true],.int .i64 0]) (by simp[results,Tryz.results39,go_sem,p0,p1]) rfl ⟨rfl,zY (uX R).bel (by omega) _ _⟩
 ·have e1:b1 (decide (M=0))=0:=by simp[b1,hz]
  rw[e1]
  have sz:(M.sign==0)=false:=by rw[beq_eq_false_iff_ne];simpa using hz
  clear e1 hz
  go_enter Tryz.func39,Tryz.ntmps39
  go_wp2_with fail
  have R0:=zX (Duo.new (w:=w) (T:=34) (a0:=.int .i64 x) (a1:=.bool s) (b0:=.int .i64 0) (b1:=.bool false) (Below.refl _ _))
  generalize (w.alloc (.cells #[.int .i64 x,.bool s] 34)).alloc (.cells #[.int .i64 0,.bool false] 34)=w0 at *
  refine (qab x s w0 h).mono ?_
  rintro e w1 ⟨rfl,k1⟩
  have R1:=zX ((uX R0).step k1)
  clear k1 R0
  obtain⟨x0,x1⟩:=(uX R1).A.at2
  go_wp2_with fail
  refine (qbj x s w1).mono ?_
  rintro e w2 ⟨rfl,k2⟩
  have R2:=zX ((uX R1).step k2)
  clear k2 R1 x0 x1
  have R3:=zX ((uX R2).more (T:=34) (u:=.int .i64 (pb x)) (v:=.bool (ps x s)))
  obtain⟨x0,x1⟩:=(uX R2).A.at2
  have lx:=(uX R2).A.1
  have lB:=(uX R2).B.1
  go_wp2_with fail
  clear x0 x1 lx R2
  have hpt:w2.heap.size≠w.heap.size+1:=by have:=lB;omega
  generalize w2.alloc (.cells #[.int .i64 (pb x),.bool (ps x s)] 34)=w3 at *
  generalize w2.heap.size=pt at *
  refine (uX MA w3).mono ?_
  rintro e w4 ⟨pm,rfl,hpm,k4,BM⟩
  have R:=zX ((uX R3).1.step k4)
  have T:=zX ((uX R3).2.step k4)
  have HM:=zX BM
  clear k4 R3 hpm BM
  obtain⟨t0,t1⟩:=(uX T).at2
  go_wp2_with fail
  refine (sign_any pm M w4 (uX HM) (by omega)).mono ?_
  rintro e w' ⟨hw,rfl⟩
  subst w'
  obtain⟨r0,r1⟩:=(uX R).B.at2
  have rf:=(uX R).B.2.2
  have p0:=(uX R).B.put0
  have p1:=(uX R).B.put1
  go_wp2_with fail
  exact bodyPost_ret (v:=.tuple #[.int .u64 0,.agg #[.int .i64 16,.bool true],.int .i64 0]) (by simp[results,Tryz.results39,go_sem,p0,p1]) rfl ⟨rfl,zY (uX R).bel (by omega) _ _⟩
theorem runary_neg (a x:Int)(s:Bool)(w:World)(h:IsW x)(ha:U a):Calls Tryz.prog 39 #[.int .i64 6,.int .u64 a,.agg #[.int .i64 x,.bool s]] w fun e w'=>e=.returned (.tuple #[.int .u64 (cut (pb x) (-conv a x s (pb x))),.agg #[.int .i64 (pb x),.bool (ps x s)],.int .i64 0])∧Below w.heap.size w w':=by
 have hX:=isW_p h
 have MA:=zX (fun (w:World)=>qac a x s w h ha)
 have ma:=qai h s a
 have b6:(18446744073709551616:Nat)<4294967296 ^ 6:=by decide
 have b7:(18446744073709551616:Nat)<4294967296 ^ 7:=by decide
 unfold conv
 rw[cut_neg]
 generalize mn s x a=M at *
 go_enter Tryz.func39,Tryz.ntmps39
 go_wp2_with fail
 have R0:=zX (Duo.new (w:=w) (T:=34) (a0:=.int .i64 x) (a1:=.bool s) (b0:=.int .i64 0) (b1:=.bool false) (Below.refl _ _))
 generalize (w.alloc (.cells #[.int .i64 x,.bool s] 34)).alloc (.cells #[.int .i64 0,.bool false] 34)=w0 at *
 refine (qab x s w0 h).mono ?_
 rintro e w1 ⟨rfl,k1⟩
 have R1:=zX ((uX R0).step k1)
 clear k1 R0
 obtain⟨x0,x1⟩:=(uX R1).A.at2
 go_wp2_with fail
 refine (qbj x s w1).mono ?_
 rintro e w2 ⟨rfl,k2⟩
 have R2:=zX ((uX R1).step k2)
 clear k2 R1 x0 x1
 have R3:=zX ((uX R2).more (T:=34) (u:=.int .i64 (pb x)) (v:=.bool (ps x s)))
 obtain⟨x0,x1⟩:=(uX R2).A.at2
 have lx:=(uX R2).A.1
 have lB:=(uX R2).B.1
 go_wp2_with fail
 clear x0 x1 lx R2
 have hpt:w2.heap.size≠w.heap.size+1:=by have:=lB;omega
 generalize w2.alloc (.cells #[.int .i64 (pb x),.bool (ps x s)] 34)=w3 at *
 generalize w2.heap.size=pt at *
 refine (uX MA w3).mono ?_
 rintro e w4 ⟨pm,rfl,hpm,k4,BM⟩
 have R:=zX ((uX R3).1.step k4)
 have T:=zX ((uX R3).2.step k4)
 have HM:=zX BM
 clear k4 R3 hpm BM
 obtain⟨t0,t1⟩:=(uX T).at2
 go_wp2_with fail
 refine zU (fun W=>W.cell? ⟨pt,0,none⟩=some (.int .i64 (pb x))∧W.cell? ⟨pt,1,none⟩=some (.bool (ps x s))) (by kernel_rfl) ?_
 refine qR 1 1 9 ?_
 simp only[zTD]
 repeat (refine zS (fun K hK=>?_);go_simp;first|(refine zQ ?_ (fun W hW=>?_) (hK _ ?_);rotate_left;(obtain⟨c1,c2⟩:=hW;go_simp;first|done|rfl);clear hK K)|(refine hK _ ?_;clear hK K))
 refine zO ?_
 refine qR 3 2 7 ?_
 simp only[zTD]
 repeat (refine zS (fun K hK=>?_);go_simp;first|(refine zQ ?_ (fun W hW=>?_) (hK _ ?_);rotate_left;(obtain⟨c1,c2⟩:=hW;go_simp;first|done|rfl);clear hK K)|(refine hK _ ?_;clear hK K))
 refine zO ?_
 refine qR 6 1 6 ?_
 simp only[zTD]
 repeat (refine zS (fun K hK=>?_);go_simp;first|(refine zQ ?_ (fun W hW=>?_) (hK _ ?_);rotate_left;(obtain⟨c1,c2⟩:=hW;go_simp;first|done|rfl);clear hK K)|(refine hK _ ?_;clear hK K))
 refine zO ?_
 refine qO 0 5 ⟨t0,t1⟩ ?_
 simp only[zTD]
 have NB:Hid (IntAt (w4.alloc (.cells #[.bool false,.slice none 0 0] 127)).drew w4.heap.size):=(Big.new w4).int
 have ka:Hid (Below w4.heap.size w4 (w4.alloc (.cells #[.bool false,.slice none 0 0] 127)).drew):=(qaa w4 _).drew
 have M':=zX ((uX HM).step (uX ka))
 have lm:=(uX HM).lt
 go_wp2_with fail
 first|refine zN ?_|refine zG ?_
 clear HM t0 t1
 obtain⟨t0,t1⟩:=((uX T).step (uX ka)).at2
 generalize (w4.alloc (.cells #[.bool false,.slice none 0 0] 127)).drew=w5 at *
 refine qO 2 4 ⟨t0,t1⟩ ?_
 simp only[zTD]
 go_wp2_with fail
 refine (neg_any w4.heap.size pm M w5 (uX NB) (uX M') (by omega) (by omega)).mono ?_
 rintro e w6 ⟨rfl,k6,B6⟩
 have K6:=zX ((uX ka).trans (k6.below (Nat.le_refl _) (uX ka).size))
 have HB6:=zX B6
 clear k6 B6 t0 t1 M' NB ka lm
 obtain⟨t0,t1⟩:=((uX T).step (uX K6)).at2
 go_wp2_with fail
 first|refine zN ?_|refine zG ?_
 refine qO 5 3 ⟨t0,t1⟩ ?_
 simp only[zTD]
 go_wp2_with fail
 refine (fitW w4.heap.size (-M) (pb x) w6 (uX HB6) hX (by omega)).mono ?_
 rintro e w7 ⟨rfl,k7⟩
 have R':=zX ((uX R).step (bT (uX K6) k7))
 have T':=zX ((uX T).step (bT (uX K6) k7))
 clear R T k7 K6 HB6 t0 t1
 have R:=R'
 have T:=T'
 clear R' T'
 obtain⟨t0,t1⟩:=(uX T).at2
 obtain⟨r0,r1⟩:=(uX R).B.at2
 have rf:=(uX R).B.2.2
 have p0:=(uX R).B.put0
 have p1:=(uX R).B.put1
 go_wp2_with fail
 first|refine zN ?_|refine zG ?_
 refine qO 7 2 ⟨t0,t1⟩ ?_
 simp only[zTD]
 go_wp2_with fail
 first|refine zN ?_|refine zG ?_
 refine qO 8 1 ⟨t0,t1⟩ ?_
 simp only[zTD]
 go_wp2_with fail
 first|refine zN ?_|refine zG ?_
 obtain⟨y0,y1⟩:=(((uX T).other (b':=w.heap.size+1) (j:=0) (u:=.int .i64 (pb x)) hpt).other (b':=w.heap.size+1) (j:=1) (u:=.bool (ps x s)) hpt).at2
 refine qO 9 0 ⟨y0,y1⟩ ?_
 simp only[zTD]
 go_wp2_with fail
 first|refine zN ?_|refine zG ?_
 refine zE (by kernel_rfl) ⟨y0,y1⟩ ?_
 go_wp2_with fail
 exact bodyPost_ret (v:=.tuple #[.int .u64 (cut (pb x) (-M)),.agg #[.int .i64 (pb x),.bool (ps x s)],.int .i64 0]) (by simp[results,Tryz.results39,go_sem,p0,p1]) rfl ⟨rfl,zY (uX R).bel (by omega) _ _⟩
theorem runary_not (a x:Int)(s:Bool)(w:World)(h:IsW x)(ha:U a):Calls Tryz.prog 39 #[.int .i64 7,.int .u64 a,.agg #[.int .i64 x,.bool s]] w fun e w'=>e=.returned (.tuple #[.int .u64 (cut (pb x) (-conv a x s (pb x) - 1)),.agg #[.int .i64 (pb x),.bool (ps x s)],.int .i64 0])∧Below w.heap.size w w':=by
 have hX:=isW_p h
 have MA:=zX (fun (w:World)=>qac a x s w h ha)
 have ma:=qai h s a
 have b6:(18446744073709551616:Nat)<4294967296 ^ 6:=by decide
 unfold conv
 rw[cut_neg1]
 generalize mn s x a=M at *
 go_enter Tryz.func39,Tryz.ntmps39
 go_wp2_with fail
 have R0:=zX (Duo.new (w:=w) (T:=34) (a0:=.int .i64 x) (a1:=.bool s) (b0:=.int .i64 0) (b1:=.bool false) (Below.refl _ _))
 generalize (w.alloc (.cells #[.int .i64 x,.bool s] 34)).alloc (.cells #[.int .i64 0,.bool false] 34)=w0 at *
 refine (qab x s w0 h).mono ?_
 rintro e w1 ⟨rfl,k1⟩
 have R1:=zX ((uX R0).step k1)
 clear k1 R0
 obtain⟨x0,x1⟩:=(uX R1).A.at2
 go_wp2_with fail
 refine (qbj x s w1).mono ?_
 rintro e w2 ⟨rfl,k2⟩
 have R2:=zX ((uX R1).step k2)
 clear k2 R1 x0 x1
 have R3:=zX ((uX R2).more (T:=34) (u:=.int .i64 (pb x)) (v:=.bool (ps x s)))
 obtain⟨x0,x1⟩:=(uX R2).A.at2
 have lx:=(uX R2).A.1
 have lB:=(uX R2).B.1
 go_wp2_with fail
 clear x0 x1 lx R2
 have hpt:w2.heap.size≠w.heap.size+1:=by have:=lB;omega
 generalize w2.alloc (.cells #[.int .i64 (pb x),.bool (ps x s)] 34)=w3 at *
 generalize w2.heap.size=pt at *
 refine (uX MA w3).mono ?_
 rintro e w4 ⟨pm,rfl,hpm,k4,BM⟩
 have R:=zX ((uX R3).1.step k4)
 have T:=zX ((uX R3).2.step k4)
 have HM:=zX BM
 clear k4 R3 hpm BM
 obtain⟨t0,t1⟩:=(uX T).at2
 go_wp2_with fail
 refine zU (fun W=>W.cell? ⟨pt,0,none⟩=some (.int .i64 (pb x))∧W.cell? ⟨pt,1,none⟩=some (.bool (ps x s))) (by kernel_rfl) ?_
 refine qR 1 1 9 ?_
 simp only[zTD]
 repeat (refine zS (fun K hK=>?_);go_simp;first|(refine zQ ?_ (fun W hW=>?_) (hK _ ?_);rotate_left;(obtain⟨c1,c2⟩:=hW;go_simp;first|done|rfl);clear hK K)|(refine hK _ ?_;clear hK K))
 refine zO ?_
 refine qR 3 2 7 ?_
 simp only[zTD]
 repeat (refine zS (fun K hK=>?_);go_simp;first|(refine zQ ?_ (fun W hW=>?_) (hK _ ?_);rotate_left;(obtain⟨c1,c2⟩:=hW;go_simp;first|done|rfl);clear hK K)|(refine hK _ ?_;clear hK K))
 refine zO ?_
 refine qR 6 1 6 ?_
 simp only[zTD]
 repeat (refine zS (fun K hK=>?_);go_simp;first|(refine zQ ?_ (fun W hW=>?_) (hK _ ?_);rotate_left;(obtain⟨c1,c2⟩:=hW;go_simp;first|done|rfl);clear hK K)|(refine hK _ ?_;clear hK K))
 refine zO ?_
 refine qO 0 5 ⟨t0,t1⟩ ?_
 simp only[zTD]
 have NB:Hid (IntAt (w4.alloc (.cells #[.bool false,.slice none 0 0] 127)).drew w4.heap.size):=(Big.new w4).int
 have ka:Hid (Below w4.heap.size w4 (w4.alloc (.cells #[.bool false,.slice none 0 0] 127)).drew):=(qaa w4 _).drew
 have M':=zX ((uX HM).step (uX ka))
 have lm:=(uX HM).lt
 go_wp2_with fail
 first|refine zN ?_|refine zG ?_
 clear HM t0 t1
 obtain⟨t0,t1⟩:=((uX T).step (uX ka)).at2
 generalize (w4.alloc (.cells #[.bool false,.slice none 0 0] 127)).drew=w5 at *
 refine qO 2 4 ⟨t0,t1⟩ ?_
 simp only[zTD]
 go_wp2_with fail
 refine (not_any w4.heap.size pm M w5 (uX NB) (uX M') (by omega) (by omega)).mono ?_
 rintro e w6 ⟨rfl,k6,B6⟩
 have K6:=zX ((uX ka).trans (k6.below (Nat.le_refl _) (uX ka).size))
 have HB6:=zX B6
 clear k6 B6 t0 t1 M' NB ka lm
 obtain⟨t0,t1⟩:=((uX T).step (uX K6)).at2
 go_wp2_with fail
 first|refine zN ?_|refine zG ?_
 refine qO 5 3 ⟨t0,t1⟩ ?_
 simp only[zTD]
 go_wp2_with fail
 refine (fitW w4.heap.size (-M - 1) (pb x) w6 (uX HB6) hX (by omega)).mono ?_
 rintro e w7 ⟨rfl,k7⟩
 have R':=zX ((uX R).step (bT (uX K6) k7))
 have T':=zX ((uX T).step (bT (uX K6) k7))
 clear R T k7 K6 HB6 t0 t1
 have R:=R'
 have T:=T'
 clear R' T'
 obtain⟨t0,t1⟩:=(uX T).at2
 obtain⟨r0,r1⟩:=(uX R).B.at2
 have rf:=(uX R).B.2.2
 have p0:=(uX R).B.put0
 have p1:=(uX R).B.put1
 go_wp2_with fail
 first|refine zN ?_|refine zG ?_
 refine qO 7 2 ⟨t0,t1⟩ ?_
 simp only[zTD]
 go_wp2_with fail
 first|refine zN ?_|refine zG ?_
 refine qO 8 1 ⟨t0,t1⟩ ?_
 simp only[zTD]
 go_wp2_with fail
 first|refine zN ?_|refine zG ?_
 obtain⟨y0,y1⟩:=(((uX T).other (b':=w.heap.size+1) (j:=0) (u:=.int .i64 (pb x)) hpt).other (b':=w.heap.size+1) (j:=1) (u:=.bool (ps x s)) hpt).at2
 refine qO 9 0 ⟨y0,y1⟩ ?_
 simp only[zTD]
 go_wp2_with fail
 first|refine zN ?_|refine zG ?_
 refine zE (by kernel_rfl) ⟨y0,y1⟩ ?_
 go_wp2_with fail
 exact bodyPost_ret (v:=.tuple #[.int .u64 (cut (pb x) (-M - 1)),.agg #[.int .i64 (pb x),.bool (ps x s)],.int .i64 0]) (by simp[results,Tryz.results39,go_sem,p0,p1]) rfl ⟨rfl,zY (uX R).bel (by omega) _ _⟩
def BothA (k a b x:Int)(s:Bool)(y:Int)(t:Bool)(V E:Int):Prop :=
 (∀ w:World,Calls Tryz.prog 88 #[.int .i64 k,.int .u64 a,.int .u64 b,.agg #[.int .i64 x,.bool s],.agg #[.int .i64 y,.bool t]] w fun e w'=>e=.returned (.tuple #[.int .u64 V,.int .i64 E])∧Below w.heap.size w w') ∧
 (∀ w:World,Calls Tryz.prog 41 #[.int .i64 k,.int .u64 a,.int .u64 b,.agg #[.int .i64 x,.bool s],.agg #[.int .i64 y,.bool t]] w fun e w'=>e=.returned (.tuple #[.int .u64 V,.int .i64 E])∧Below w.heap.size w w')
def BothB (k a x:Int)(s:Bool)(V B:Int)(S:Bool)(E:Int):Prop :=
 (∀ w:World,Calls Tryz.prog 86 #[.int .i64 k,.int .u64 a,.agg #[.int .i64 x,.bool s]] w fun e w'=>e=.returned (.tuple #[.int .u64 V,.agg #[.int .i64 B,.bool S],.int .i64 E])∧Below w.heap.size w w') ∧
 (∀ w:World,Calls Tryz.prog 39 #[.int .i64 k,.int .u64 a,.agg #[.int .i64 x,.bool s]] w fun e w'=>e=.returned (.tuple #[.int .u64 V,.agg #[.int .i64 B,.bool S],.int .i64 E])∧Below w.heap.size w w')
theorem u_bits (op:BinOp)(a b:Int):U (bits op .u64 a b):=by
 have h:=bits_within op .u64 a b
 have h1:IntKind.u64.min=0:=rfl
 have h2:IntKind.u64.max=18446744073709551615:=rfl
 unfold U
 omega
theorem u_0:U 0:=⟨by decide,by decide⟩
theorem u_b1 (c:Bool):U (b1 c):=by cases c <;> exact⟨by decide,by decide⟩
theorem u_wrk {k n:Int}(s:Bool)(a b:Int)(hn:IsW n):U (wrk k s n a b).1:=by
 unfold wrk
 repeat' split
 all_goals first|exact u_cut hn _|exact u_0|(dsimp only;exact u_bits _ _ _)
theorem u_shf {k n:Int}(s:Bool)(a m:Int)(hn:IsW n):U (shf k s n a m):=by
 unfold shf
 split <;> exact u_cut hn _
theorem isW_16:IsW 16:=.inr (.inl rfl)
theorem isW_rb {k a b:Int}(ha:IsW a)(hb:IsW b):IsW (rb k a b):=by
 unfold rb
 repeat' split
 ·exact isW_p ha
 ·exact isW_16
 ·exact isW_c ha hb
def BothP (k a b x:Int)(s:Bool)(y:Int)(t:Bool)(r:Int × Int):Prop:=BothA k a b x s y t r.1 r.2∧U r.1
theorem bothP (k a b x:Int)(s:Bool)(y:Int)(t:Bool)(lo:9≤k)(hi:k≤24)(hx:IsW x)(hy:IsW y)(ha:U a)(hb:U b):BothP k a b x s y t (binP k a b x s y t):=by
 have c:k=9∨k=10∨k=11∨k=12∨k=13∨k=14∨k=15∨k=16∨k=17∨k=18∨k=19∨k=20∨k=21∨k=22∨k=23∨k=24:=by omega
 rcases c with rfl|rfl|rfl|rfl|rfl|rfl|rfl|rfl|rfl|rfl|rfl|rfl|rfl|rfl|rfl|rfl
 ·rw[binP_w (k:=9) (by omega)];exact⟨⟨fun w=>qap 9 a b x y s t w (by unfold wkB;omega) hx hy ha hb,fun w=>rbinary_mul a b x y s t w hx hy ha hb⟩,u_wrk _ _ _ (isW_c hx hy)⟩
 ·rw[binP_w (k:=10) (by omega)];exact⟨⟨fun w=>qap 10 a b x y s t w (by unfold wkB;omega) hx hy ha hb,fun w=>rbinary_div a b x y s t w hx hy ha hb⟩,u_wrk _ _ _ (isW_c hx hy)⟩
 ·rw[binP_w (k:=11) (by omega)];exact⟨⟨fun w=>qap 11 a b x y s t w (by unfold wkB;omega) hx hy ha hb,fun w=>rbinary_rem a b x y s t w hx hy ha hb⟩,u_wrk _ _ _ (isW_c hx hy)⟩
 ·rw[binP_w (k:=12) (by omega)];exact⟨⟨fun w=>qap 12 a b x y s t w (by unfold wkB;omega) hx hy ha hb,fun w=>rbinary_add a b x y s t w hx hy ha hb⟩,u_wrk _ _ _ (isW_c hx hy)⟩
 ·rw[binP_w (k:=13) (by omega)];exact⟨⟨fun w=>qap 13 a b x y s t w (by unfold wkB;omega) hx hy ha hb,fun w=>rbinary_sub a b x y s t w hx hy ha hb⟩,u_wrk _ _ _ (isW_c hx hy)⟩
 ·rw[binP_s (k:=14) (by omega)];exact⟨⟨fun w=>binary_shift 14 a b x y s t w (by omega) hx hy ha hb,fun w=>rbinary_s14 a b x y s t w hx hy ha hb⟩,u_shf (k:=14) (n:=pb x) (ps x s) (conv a x s (pb x)) (conv b y t 16) (isW_p hx)⟩
 ·rw[binP_s (k:=15) (by omega)];exact⟨⟨fun w=>binary_shift 15 a b x y s t w (by omega) hx hy ha hb,fun w=>rbinary_s15 a b x y s t w hx hy ha hb⟩,u_shf (k:=15) (n:=pb x) (ps x s) (conv a x s (pb x)) (conv b y t 16) (isW_p hx)⟩
 ·rw[binP_c (k:=16) (by omega)];exact⟨⟨fun w=>qa1 16 a b x y s t w (by omega) hx hy ha hb,fun w=>rbinary_c16 a b x y s t w hx hy ha hb⟩,u_b1 _⟩
 ·rw[binP_c (k:=17) (by omega)];exact⟨⟨fun w=>qa1 17 a b x y s t w (by omega) hx hy ha hb,fun w=>rbinary_c17 a b x y s t w hx hy ha hb⟩,u_b1 _⟩
 ·rw[binP_c (k:=18) (by omega)];exact⟨⟨fun w=>qa1 18 a b x y s t w (by omega) hx hy ha hb,fun w=>rbinary_c18 a b x y s t w hx hy ha hb⟩,u_b1 _⟩
 ·rw[binP_c (k:=19) (by omega)];exact⟨⟨fun w=>qa1 19 a b x y s t w (by omega) hx hy ha hb,fun w=>rbinary_c19 a b x y s t w hx hy ha hb⟩,u_b1 _⟩
 ·rw[binP_c (k:=20) (by omega)];exact⟨⟨fun w=>qa1 20 a b x y s t w (by omega) hx hy ha hb,fun w=>rbinary_c20 a b x y s t w hx hy ha hb⟩,u_b1 _⟩
 ·rw[binP_c (k:=21) (by omega)];exact⟨⟨fun w=>qa1 21 a b x y s t w (by omega) hx hy ha hb,fun w=>rbinary_c21 a b x y s t w hx hy ha hb⟩,u_b1 _⟩
 ·rw[binP_w (k:=22) (by omega)];exact⟨⟨fun w=>qap 22 a b x y s t w (by unfold wkB;omega) hx hy ha hb,fun w=>rbinary_and a b x y s t w hx hy ha hb⟩,u_wrk _ _ _ (isW_c hx hy)⟩
 ·rw[binP_w (k:=23) (by omega)];exact⟨⟨fun w=>qap 23 a b x y s t w (by unfold wkB;omega) hx hy ha hb,fun w=>rbinary_xor a b x y s t w hx hy ha hb⟩,u_wrk _ _ _ (isW_c hx hy)⟩
 ·rw[binP_w (k:=24) (by omega)];exact⟨⟨fun w=>qap 24 a b x y s t w (by unfold wkB;omega) hx hy ha hb,fun w=>rbinary_or a b x y s t w hx hy ha hb⟩,u_wrk _ _ _ (isW_c hx hy)⟩
def BothQ (k a x:Int)(s:Bool)(r:Int × Int × Bool):Prop:=BothB k a x s r.1 r.2.1 r.2.2 0∧U r.1∧IsW r.2.1
theorem bothQ (k a x:Int)(s:Bool)(hk:k=6∨k=7∨k=8)(hx:IsW x)(ha:U a):BothQ k a x s (unP k a x s):=by
 rcases hk with rfl|rfl|rfl
 ·rw[show unP 6 a x s=(cut (pb x) (-conv a x s (pb x)),pb x,ps x s) from if_pos rfl]
  exact⟨⟨fun w=>unary_neg a x s w hx ha,fun w=>runary_neg a x s w hx ha⟩,u_cut (isW_p hx) _,isW_p hx⟩
 ·rw[show unP 7 a x s=(cut (pb x) (-conv a x s (pb x) - 1),pb x,ps x s) from by unfold unP;rw[if_neg (by decide),if_pos rfl]]
  exact⟨⟨fun w=>unary_not a x s w hx ha,fun w=>runary_not a x s w hx ha⟩,u_cut (isW_p hx) _,isW_p hx⟩
 ·rw[show unP 8 a x s=(b1 (conv a x s (pb x)==0),16,true) from by unfold unP;rw[if_neg (by decide),if_neg (by decide)]]
  exact⟨⟨fun w=>unary_log a x s w hx ha,fun w=>runary_log a x s w hx ha⟩,u_b1 _,isW_16⟩
def RkC (x:Ex)(R:Int × Int × Bool × Int):Prop :=
 (∃ V b s,WkC x V b s R.2.2.2∧(R.2.2.2=0→V=R.1∧b=R.2.1∧s=R.2.2.1))∧(∃ V b s,RcC x V b s R.2.2.2∧(R.2.2.2=0→V=R.1∧b=R.2.1∧s=R.2.2.1))∧(R.2.2.2=0→U R.1∧IsW R.2.1)
theorem rk_un (x x0:Ex)(V b:Int)(s:Bool)(lo:5≤x.k)(hi:x.k≤8)(cast:x.k=5→IsW x.b)(hk:x.kids=[x0])(h1:WkC x0 V b s 0)(h2:RcC x0 V b s 0)(hU:U V)(hW:IsW b):RkC x (cnO x.k x.b x.s [(V,b,s)]):=by
 by_cases hc:x.k=5
 ·rw[show cnO x.k x.b x.s [(V,b,s)]=(conv V b s x.b,x.b,x.s,0) from if_pos hc]
  exact⟨⟨_,_,_,wk_one x x0 _ _ _ _ _ _ lo hk h1 (fun ka kl kc w=>by rw[hc];exact wone_cast _ _ _ _ _ _ _ _ _ _ _ (fun w=>qa5 V b s x.b x.s w hW (cast hc) hU) w),fun _=>⟨rfl,rfl,rfl⟩⟩,⟨_,_,_,rc_cast x x0 _ _ _ _ hc hk h2 (fun w=>qae V b s x.b x.s w hW (cast hc) hU),fun _=>⟨rfl,rfl,rfl⟩⟩,fun _=>⟨u_cut (cast hc) _,cast hc⟩⟩
 ·obtain⟨⟨q1,q2⟩,q3,q4⟩:=bothQ x.k V b s (by omega) hW hU
  rw[show cnO x.k x.b x.s [(V,b,s)]=((unP x.k V b s).1,(unP x.k V b s).2.1,(unP x.k V b s).2.2,0) from if_neg hc]
  generalize unP x.k V b s=r at *
  exact⟨⟨_,_,_,wk_one x x0 _ _ _ _ _ _ lo hk h1 (fun ka kl kc w=>wone_un _ _ _ _ _ _ _ _ _ _ _ _ _ _ (zBq hc) q1 w),fun _=>⟨rfl,rfl,rfl⟩⟩,⟨_,_,_,rc_un x x0 _ _ _ _ _ _ (by omega) hk h2 q2,fun _=>⟨rfl,rfl,rfl⟩⟩,fun _=>⟨q3,q4⟩⟩
theorem rk_two (x x0 x1:Ex)(V b V1 b1:Int)(s s1:Bool)(lo:9≤x.k)(hi:x.k≤26)(hk:x.kids=[x0,x1])(h1:WkC x0 V b s 0)(h2:RcC x0 V b s 0)(hU:U V)(hW:IsW b)(g1:WkC x1 V1 b1 s1 0)(g2:RcC x1 V1 b1 s1 0)(gU:U V1)(gW:IsW b1):RkC x (cnO x.k x.b x.s [(V,b,s),(V1,b1,s1)]):=by
 by_cases h25:x.k=25
 ·have key:∀ c d:Bool,(V != 0)=c→(V1 != 0)=d→RkC x (cnO x.k x.b x.s [(V,b,s),(V1,b1,s1)]):=fun c d e1 e2=>by
   have W:=wk_two x x0 x1 _ _ _ _ _ _ 0 _ _ _ (by omega) hk h1 g1 (fun w=>by rw[h25];exact wtwo_land V b V1 b1 s s1 c d e1 e2 w)
   rw[show cnO x.k x.b x.s [(V,b,s),(V1,b1,s1)]=((if (c&&d)=true then 1 else 0),16,true,0) from by rw[← e1,← e2];exact if_pos h25]
   cases c <;> cases d
   ·exact⟨⟨_,_,_,W,fun _=>⟨rfl,rfl,rfl⟩⟩,⟨_,_,_,rc_land00 x x0 x1 _ _ _ _ _ _ h25 hk h2 g2 e1 e2,fun _=>⟨rfl,rfl,rfl⟩⟩,fun _=>⟨u_0,isW_16⟩⟩
   ·exact⟨⟨_,_,_,W,fun _=>⟨rfl,rfl,rfl⟩⟩,⟨_,_,_,rc_land01 x x0 x1 _ _ _ _ _ _ h25 hk h2 g2 e1 e2,fun _=>⟨rfl,rfl,rfl⟩⟩,fun _=>⟨u_0,isW_16⟩⟩
   ·exact⟨⟨_,_,_,W,fun _=>⟨rfl,rfl,rfl⟩⟩,⟨_,_,_,rc_land10 x x0 x1 _ _ _ _ _ _ h25 hk h2 g2 e1 e2,fun _=>⟨rfl,rfl,rfl⟩⟩,fun _=>⟨u_0,isW_16⟩⟩
   ·exact⟨⟨_,_,_,W,fun _=>⟨rfl,rfl,rfl⟩⟩,⟨_,_,_,rc_land11 x x0 x1 _ _ _ _ _ _ h25 hk h2 g2 e1 e2,fun _=>⟨rfl,rfl,rfl⟩⟩,fun _=>⟨u_b1 true,isW_16⟩⟩
  exact key _ _ rfl rfl
 ·by_cases h26:x.k=26
  ·have key:∀ c d:Bool,(V != 0)=c→(V1 != 0)=d→RkC x (cnO x.k x.b x.s [(V,b,s),(V1,b1,s1)]):=fun c d e1 e2=>by
    have W:=wk_two x x0 x1 _ _ _ _ _ _ 0 _ _ _ (by omega) hk h1 g1 (fun w=>by rw[h26];exact wtwo_lor V b V1 b1 s s1 c d e1 e2 w)
    rw[show cnO x.k x.b x.s [(V,b,s),(V1,b1,s1)]=((if (c || d)=true then 1 else 0),16,true,0) from by rw[← e1,← e2];exact (if_neg h25).trans (if_pos h26)]
    cases c <;> cases d
    ·exact⟨⟨_,_,_,W,fun _=>⟨rfl,rfl,rfl⟩⟩,⟨_,_,_,rc_lor00 x x0 x1 _ _ _ _ _ _ h26 hk h2 g2 e1 e2,fun _=>⟨rfl,rfl,rfl⟩⟩,fun _=>⟨u_0,isW_16⟩⟩
    ·exact⟨⟨_,_,_,W,fun _=>⟨rfl,rfl,rfl⟩⟩,⟨_,_,_,rc_lor01 x x0 x1 _ _ _ _ _ _ h26 hk h2 g2 e1 e2,fun _=>⟨rfl,rfl,rfl⟩⟩,fun _=>⟨u_b1 true,isW_16⟩⟩
    ·exact⟨⟨_,_,_,W,fun _=>⟨rfl,rfl,rfl⟩⟩,⟨_,_,_,rc_lor10 x x0 x1 _ _ _ _ _ _ h26 hk h2 g2 e1 e2,fun _=>⟨rfl,rfl,rfl⟩⟩,fun _=>⟨u_b1 true,isW_16⟩⟩
    ·exact⟨⟨_,_,_,W,fun _=>⟨rfl,rfl,rfl⟩⟩,⟨_,_,_,rc_lor11 x x0 x1 _ _ _ _ _ _ h26 hk h2 g2 e1 e2,fun _=>⟨rfl,rfl,rfl⟩⟩,fun _=>⟨u_b1 true,isW_16⟩⟩
   exact key _ _ rfl rfl
  ·have n25:(x.k==25)=false:=zBq h25
   have n26:(x.k==26)=false:=zBq h26
   obtain⟨⟨q1,q2⟩,q3⟩:=bothP x.k V V1 b s b1 s1 lo (by omega) hW gW hU gU
   rw[show cnO x.k x.b x.s [(V,b,s),(V1,b1,s1)]=((binP x.k V V1 b s b1 s1).1,rb x.k b b1,rs x.k b s b1 s1,(binP x.k V V1 b s b1 s1).2) from (if_neg h25).trans (if_neg h26)]
   generalize binP x.k V V1 b s b1 s1=r at *
   obtain⟨A,E⟩:=r
   have R:=rc_two x x0 x1 _ _ _ _ _ _ _ _ _ _ (by omega) (by omega) hk h2 g2 q2 (fun w=>rresult_any x.k b s b1 s1 w)
   by_cases he:E=0
   ·subst he
    exact⟨⟨_,_,_,wk_two x x0 x1 _ _ _ _ _ _ 0 _ _ _ (by omega) hk h1 g1 (fun w=>wtwo_ok x.k _ _ _ _ _ _ _ _ _ n25 n26 q1 (fun w=>result_any x.k b s b1 s1 w) w),fun _=>⟨rfl,rfl,rfl⟩⟩,⟨_,_,_,R,fun _=>⟨rfl,rfl,rfl⟩⟩,fun _=>⟨q3,isW_rb hW gW⟩⟩
   ·exact⟨⟨_,_,_,wk_two x x0 x1 _ _ _ _ _ _ E _ _ _ (by omega) hk h1 g1 (fun w=>wtwo_bad x.k _ _ _ _ _ _ _ _ n25 n26 he q1 w),fun h=>absurd h he⟩,⟨_,_,_,R,fun h=>absurd h he⟩,fun h=>absurd h he⟩
theorem rkC:∀ x:Ex,TvE x→NmE x→RkC x (cnE x):=by
 apply Ex.ind
 intro x IH ht hn
 obtain⟨_,lo,hi,kl,kh,num,cast,kt⟩:=ht
 obtain⟨_,hf,kn⟩:=hn
 by_cases h1:x.k=1
 ·rw[cnE_num x h1]
  exact⟨⟨_,_,_,wk_num x h1,fun _=>⟨rfl,rfl,rfl⟩⟩,⟨_,_,_,rc_num x h1,fun _=>⟨rfl,rfl,rfl⟩⟩,fun _=>⟨hf.1,num h1⟩⟩
 by_cases h4:x.k=2∨x.k=3∨x.k=4
 ·rw[cnE_no x h4]
  exact⟨⟨_,_,_,wk_no x h4,fun h=>by cases h⟩,⟨_,_,_,rc_no x h4,fun h=>by cases h⟩,fun h=>by cases h⟩
 have h5:5≤x.k:=by omega
 rw[cnE_kids x h5]
 by_cases h8:x.k≤8
 ·have hlen:x.kids.length=1:=by
   unfold kidLo at kl
   unfold kidHi at kh
   rw[if_neg (by omega),if_pos (by omega)] at kl
   rw[if_neg (by omega),if_neg (by omega),if_pos (by omega)] at kh
   omega
  obtain⟨x0,hk⟩:=one_of hlen
  have m0:x0∈x.kids:=by rw[hk];simp
  obtain⟨⟨V',b',s',g1,e1⟩,⟨V,b,s,g2,e2⟩,g3⟩:=IH x0 m0 (kt x0 m0) (kn x0 m0)
  rw[hk,cnEs_cons,cnEs_nil]
  generalize cnE x0=R0 at *
  obtain⟨RV,Rb,Rs,er⟩:=R0
  dsimp only at *
  by_cases he:er=0
  ·subst he
   obtain⟨rfl,rfl,rfl⟩:=e1 rfl
   obtain⟨rfl,rfl,rfl⟩:=e2 rfl
   obtain⟨hU,hW⟩:=g3 rfl
   simpa using rk_un x x0 _ _ _ h5 h8 cast hk g1 g2 hU hW
  ·simp only[ne_eq,he,not_false_eq_true,if_true]
   exact⟨⟨_,_,_,wk_bad0 x x0 [] _ _ er _ h5 hk g1 he,fun h=>absurd h he⟩,⟨_,_,_,rc_bad0 x x0 [] _ _ er _ h5 hk g2 he,fun h=>absurd h he⟩,fun h=>absurd h he⟩
 ·have hlen:x.kids.length=2:=by
   unfold kidLo at kl
   unfold kidHi at kh
   rw[if_neg (by omega),if_neg (by omega)] at kl
   rw[if_neg (by omega),if_neg (by omega),if_neg (by omega)] at kh
   omega
  obtain⟨x0,x1,hk⟩:=two_of hlen
  have m0:x0∈x.kids:=by rw[hk];simp
  have m1:x1∈x.kids:=by rw[hk];simp
  obtain⟨⟨V',b',s',g1,e1⟩,⟨V,b,s,g2,e2⟩,g3⟩:=IH x0 m0 (kt x0 m0) (kn x0 m0)
  obtain⟨⟨V1',b1',s1',f1,d1⟩,⟨V1,b1,s1,f2,d2⟩,f3⟩:=IH x1 m1 (kt x1 m1) (kn x1 m1)
  rw[hk,cnEs_cons,cnEs_cons,cnEs_nil]
  generalize cnE x0=R0 at *
  generalize cnE x1=R1 at *
  obtain⟨RV,Rb,Rs,er⟩:=R0
  obtain⟨SV,Sb,Ss,es⟩:=R1
  dsimp only at *
  by_cases he:er=0
  ·subst he
   obtain⟨rfl,rfl,rfl⟩:=e1 rfl
   obtain⟨rfl,rfl,rfl⟩:=e2 rfl
   obtain⟨hU,hW⟩:=g3 rfl
   by_cases he:es=0
   ·subst he
    obtain⟨rfl,rfl,rfl⟩:=d1 rfl
    obtain⟨rfl,rfl,rfl⟩:=d2 rfl
    obtain⟨fU,fW⟩:=f3 rfl
    simpa using rk_two x x0 x1 _ _ _ _ _ _ (by omega) hi hk g1 g2 hU hW f1 f2 fU fW
   ·simp only[ne_eq,he,not_true_eq_false,not_false_eq_true,if_true,if_false]
    exact⟨⟨_,_,_,wk_bad1 x x0 x1 _ _ _ _ es _ _ h5 hk g1 f1 he,fun h=>absurd h he⟩,⟨_,_,_,rc_bad1 x x0 x1 _ _ _ _ es _ _ (by omega) hk g2 f2 he,fun h=>absurd h he⟩,fun h=>absurd h he⟩
  ·simp only[ne_eq,he,not_false_eq_true,if_true]
   exact⟨⟨_,_,_,wk_bad0 x x0 [x1] _ _ er _ h5 hk g1 he,fun h=>absurd h he⟩,⟨_,_,_,rc_bad0 x x0 [x1] _ _ er _ h5 hk g2 he,fun h=>absurd h he⟩,fun h=>absurd h he⟩
end Go.Proofs.YtjpnnmkefaodoaaGreat
