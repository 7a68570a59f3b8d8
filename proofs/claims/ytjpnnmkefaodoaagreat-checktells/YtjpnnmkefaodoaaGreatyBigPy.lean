/-
  BigP, BigT, BigQ, BigR.
-/
import Derived.Test.YtjpnnmkefaodoaaGreatyBigNy
import Derived.Laws.Bits64
import Derived.Laws.Bits64b
set_option maxHeartbeats 8000000
set_option maxRecDepth 100000
namespace Go.Proofs.YtjpnnmkefaodoaaGreat
open Go.RowKit
set_option linter.unusedSimpArgs false
set_option linter.unusedVariables false
theorem pow64 {k:Nat}(h:k≤64):(1:Int)≤2 ^ k∧(2:Int) ^ k≤18446744073709551616:=by
 obtain⟨a,b⟩:=p64 h
 exact⟨a,b⟩
theorem mul_pow_lt {x:Int}{k:Nat}(h0:0≤x)(h1:x≤18446744073709551615)(h:k≤64):x*2 ^ k<4294967296 ^ 6∧0≤x*2 ^ k:=by
 obtain⟨a,b⟩:=pow64 h
 have c:=Int.mul_le_mul h1 b (by omega) (by decide)
 have d:(18446744073709551615:Int)*18446744073709551616<4294967296 ^ 6:=by decide
 exact⟨by omega,Int.mul_nonneg h0 (by omega)⟩
theorem div_abs_le (x:Int)(k:Nat):(x / 2 ^ k).natAbs≤x.natAbs:=by
 have hp:(0:Int)<2 ^ k:=Int.pow_pos (by decide)
 by_cases h:0≤x
 ·have:=div_pow_le x k h;omega
 ·have h1:x / 2 ^ k<0:=Int.ediv_neg_of_neg_of_pos (by omega) hp
  have h2:x≤x / 2 ^ k:=by
   rw[Int.le_ediv_iff_mul_le hp]
   have:=Int.mul_le_mul_of_nonneg_left (a:=1) (b:=2 ^ k) (c:=-x) (by omega) (by omega)
   rw[Int.neg_mul,Int.neg_mul] at this
   omega
  omega
theorem shift_down (a m n:Int)(s:Bool)(w:World)(h:IsW n)(ha:U a)(hm:U m) :
  Calls Tryz.prog 66 #[.int .u64 a,.int .u64 m,.int .i64 n,.bool false,.bool s] w fun e w'=>e=.returned (.tuple #[.int .u64 (cut n (mn s n a / 2 ^ min m.toNat 64)),.int .i64 0])∧Below w.heap.size w w':=by
 have MA:=fun w=>qaq a n s w h ha
 have xa:=qai h s a
 generalize mn s n a=X at *
 obtain⟨k,hk⟩:∃ k,k=min m.toNat 64:=⟨_,rfl⟩
 have k64:k≤64:=by omega
 rw[← hk]
 obtain⟨q1,q2⟩:=pow64 k64
 have b6:(18446744073709551616:Nat)<4294967296 ^ 6:=by decide
 have b8:(18446744073709551616:Int)<4294967296 ^ 8:=by decide
 have xv:=div_abs_le X k
 have TW:=fun w=>two_any k w k64
 have FI:=fun p w hp=>fitW p (X / 2 ^ k) n w hp h (by omega)
 have hm0:=hm.1
 by_cases hb:m≤64
 ·have e1:m=(k:Int):=by omega
  subst e1
  clear hk
  obtain⟨D,hD⟩:∃ D:Int,D=2 ^ k:=⟨_,rfl⟩
  rw[← hD] at TW FI q1 q2 xv ⊢
  have d0:0<D:=by omega
  clear hD
  go_enter Tryz.func66,Tryz.ntmps66
  go_wp2_with fail
  refine (qau n h _).mono ?_
  rintro e w1 ⟨rfl,k1⟩
  have K1:=zX k1
  clear k1
  go_wp2_with fail
  refine (MA _).mono ?_
  rintro e w2 ⟨p,rfl,hp,k2,B2⟩
  have K2:=zX ((uX K1).trans (k2.mono (uX K1).size))
  have s1:=(uX K1).size
  have s2:=k2.size
  have lp:=B2.lt
  have X2:=zX ((B2.step (qaa w2 (.cells #[.bool false,.slice none 0 0] 127))).step (qaa _ (.cells #[.bool false,.slice none 0 0] 127)))
  have Q2:=zX ((Big.new w2).step (qaa _ (.cells #[.bool false,.slice none 0 0] 127)))
  have R2:=zX (Big.new (w2.alloc (.cells #[.bool false,.slice none 0 0] 127)))
  have hs1:(w2.alloc (.cells #[.bool false,.slice none 0 0] 127)).heap.size=w2.heap.size+1:=by simp
  have hs2:((w2.alloc (.cells #[.bool false,.slice none 0 0] 127)).alloc (.cells #[.bool false,.slice none 0 0] 127)).heap.size=w2.heap.size+1+1:=by simp
  rw[hs1] at R2
  have K3:=zX (((uX K2).alloc (uX K2).size (.cells #[.bool false,.slice none 0 0] 127)).alloc (by have:=(uX K2).size;rw[hs1];omega) (.cells #[.bool false,.slice none 0 0] 127))
  clear k2 B2 hs1
  go_wp2_with fail
  generalize (w2.alloc (.cells #[.bool false,.slice none 0 0] 127)).alloc (.cells #[.bool false,.slice none 0 0] 127)=w3 at *
  refine (TW _).mono ?_
  rintro e w4 ⟨rfl,k4,B4⟩
  have K4:=zX ((uX K3).trans (k4.mono (uX K3).size))
  have T4:=zX B4
  have X4:=zX ((uX X2).step k4)
  have Q4:=zX ((uX Q2).step k4)
  have R4:=zX ((uX R2).step k4)
  rw[hs2] at T4
  have s4:=k4.size
  clear k4 B4 X2 Q2 R2
  go_wp2_with fail
  refine (divmod_any w2.heap.size p (w2.heap.size+1+1) (w2.heap.size+1) X D w4 (uX Q4).int (uX R4).int (uX X4) (uX T4) (by omega) (qbg (by omega) (by omega) (by omega) (.inr (.inl (by omega)))) (by omega) (by omega) d0).mono ?_
  rintro e w5 ⟨rfl,k5,B5,C5⟩
  have K5:=zX ((uX K4).trans (k5.below (by omega) (by omega) (uX K4).size))
  have HB5:=zX B5
  clear k5 B5 C5
  go_wp2_with fail
  refine (FI _ _ (uX HB5)).mono ?_
  rintro e w6 ⟨rfl,k6⟩
  have K6:=zX ((uX K5).trans (k6.mono (uX K5).size))
  clear k6
  go_wp2_with fail
  go_ret2
  exact⟨rfl,uX K6⟩
 ·have e1:k=64:=by omega
  subst e1
  have hb1:64<m:=by omega
  clear hk hb
  obtain⟨D,hD⟩:∃ D:Int,D=2 ^ 64:=⟨_,rfl⟩
  rw[← hD] at TW FI q1 q2 xv ⊢
  have d0:0<D:=by omega
  clear hD
  go_enter Tryz.func66,Tryz.ntmps66
  go_wp2_with fail
  refine (qau n h _).mono ?_
  rintro e w1 ⟨rfl,k1⟩
  have K1:=zX k1
  clear k1
  go_wp2_with fail
  refine (MA _).mono ?_
  rintro e w2 ⟨p,rfl,hp,k2,B2⟩
  have K2:=zX ((uX K1).trans (k2.mono (uX K1).size))
  have s1:=(uX K1).size
  have s2:=k2.size
  have lp:=B2.lt
  have X2:=zX ((B2.step (qaa w2 (.cells #[.bool false,.slice none 0 0] 127))).step (qaa _ (.cells #[.bool false,.slice none 0 0] 127)))
  have Q2:=zX ((Big.new w2).step (qaa _ (.cells #[.bool false,.slice none 0 0] 127)))
  have R2:=zX (Big.new (w2.alloc (.cells #[.bool false,.slice none 0 0] 127)))
  have hs1:(w2.alloc (.cells #[.bool false,.slice none 0 0] 127)).heap.size=w2.heap.size+1:=by simp
  have hs2:((w2.alloc (.cells #[.bool false,.slice none 0 0] 127)).alloc (.cells #[.bool false,.slice none 0 0] 127)).heap.size=w2.heap.size+1+1:=by simp
  rw[hs1] at R2
  have K3:=zX (((uX K2).alloc (uX K2).size (.cells #[.bool false,.slice none 0 0] 127)).alloc (by have:=(uX K2).size;rw[hs1];omega) (.cells #[.bool false,.slice none 0 0] 127))
  clear k2 B2 hs1
  go_wp2_with fail
  generalize (w2.alloc (.cells #[.bool false,.slice none 0 0] 127)).alloc (.cells #[.bool false,.slice none 0 0] 127)=w3 at *
  refine (TW _).mono ?_
  rintro e w4 ⟨rfl,k4,B4⟩
  have K4:=zX ((uX K3).trans (k4.mono (uX K3).size))
  have T4:=zX B4
  have X4:=zX ((uX X2).step k4)
  have Q4:=zX ((uX Q2).step k4)
  have R4:=zX ((uX R2).step k4)
  rw[hs2] at T4
  have s4:=k4.size
  clear k4 B4 X2 Q2 R2
  go_wp2_with fail
  refine (divmod_any w2.heap.size p (w2.heap.size+1+1) (w2.heap.size+1) X D w4 (uX Q4).int (uX R4).int (uX X4) (uX T4) (by omega) (qbg (by omega) (by omega) (by omega) (.inr (.inl (by omega)))) (by omega) (by omega) d0).mono ?_
  rintro e w5 ⟨rfl,k5,B5,C5⟩
  have K5:=zX ((uX K4).trans (k5.below (by omega) (by omega) (uX K4).size))
  have HB5:=zX B5
  clear k5 B5 C5
  go_wp2_with fail
  refine (FI _ _ (uX HB5)).mono ?_
  rintro e w6 ⟨rfl,k6⟩
  have K6:=zX ((uX K5).trans (k6.mono (uX K5).size))
  clear k6
  go_wp2_with fail
  go_ret2
  exact⟨rfl,uX K6⟩
theorem sg_mul (z c:Int):sg (decide (z<0)) ((z.natAbs:Int)*c)=z*c:=by
 unfold sg
 by_cases h:z<0
 ·have e:(z.natAbs:Int)=-z:=by omega
  rw[if_pos (by simpa using h),e,Int.neg_mul,Int.neg_neg]
 ·have e:(z.natAbs:Int)=z:=by omega
  rw[if_neg (by simpa using h),e]
theorem dec_mul (z:Int)(k:Nat):decide (z*2 ^ k<0)=decide (z<0):=by
 have hp:(0:Int)<2 ^ k:=Int.pow_pos (by decide)
 by_cases h:z<0
 ·rw[decide_eq_true h,decide_eq_true (Int.mul_neg_of_neg_of_pos h hp)]
 ·rw[decide_eq_false h,decide_eq_false (by have:=Int.mul_nonneg (show 0≤z by omega) (Int.le_of_lt hp);omega)]
theorem lsh_sg (p k:Nat)(z:Int)(w:World)(hq:Big w p z)(hk:k≤1000)(hz:(z.natAbs:Int)*2 ^ k<4294967296 ^ 8) :
  Calls Tryz.prog 107 #[.pointer (some ⟨p,0,none⟩),.pointer (some ⟨p,0,none⟩),.int .u64 (k:Int)] w fun e w'=>e=.returned (.pointer (some ⟨p,0,none⟩))∧Tn p w w'∧Big w' p (z*2 ^ k):=by
 obtain⟨v,c0,c1,hD,hlt⟩:=hq.cells
 have hsm:=sg_mul z (2 ^ k)
 have hdm:decide (z*2 ^ k<0)=decide (z<0):=dec_mul z k
 have h0:(0:Int)≤(z.natAbs:Int):=by omega
 have HP:=zX hq.int
 have HD:=zX hD
 have hz1:(z.natAbs:Int)<4294967296 ^ 8:=by
  have h1:(1:Int)≤2 ^ k:=Int.pow_pos (by decide)
  have h2:=Int.mul_le_mul_of_nonneg_left h1 h0
  omega
 have HZ:=zX hz
 clear hq hD hz
 generalize decide (z<0)=NG at *
 generalize (z.natAbs:Int)=NA at *
 go_enter Tryz.func107,Tryz.ntmps107
 go_wp2_with fail
 refine zU (fun W=>W.cell? ⟨p,0,none⟩=some (.bool NG)) (by kernel_rfl) ?_
 refine qR 0 8 5 ?_
 simp only[zTD]
 repeat (refine zS (fun K hK=>?_);go_simp;first|(refine zQ ?_ (fun W hW=>?_) (hK _ ?_);rotate_left;(obtain h1:=hW;go_simp;first|done|rfl);clear hK K)|(refine hK _ ?_;clear hK K))
 refine zO ?_
 refine qR 9 1 4 ?_
 simp only[zTD]
 repeat (refine zS (fun K hK=>?_);go_simp;first|(refine zQ ?_ (fun W hW=>?_) (hK _ ?_);rotate_left;(obtain h1:=hW;go_simp;first|done|rfl);clear hK K)|(refine hK _ ?_;clear hK K))
 refine zO ?_
 refine qO 8 3 c0 ?_
 simp only[zTD]
 go_wp2_with fail
 first|refine zN ?_|refine zG ?_
 refine qO 10 2 c0 ?_
 simp only[zTD]
 go_wp2_with fail
 refine (left_any v NA k w.drew (uX HD) hz1 hk).mono ?_
 rintro e w1 ⟨k1,v1,rfl,D1⟩
 have K1:=zX (qbu k1)
 have HD1:=zX D1
 have c01:=zK (uX K1) hlt c0
 have hp1:=zX ((uX HP).step (uX K1))
 clear k1 D1
 go_wp2_with fail
 first|refine zN ?_|refine zG ?_
 refine qO 11 1 c01 ?_
 simp only[zTD]
 go_wp2_with fail
 refine (qa8 p NG v1 _ w1 (uX hp1) (uX HD1) (uX HZ)).mono ?_
 rintro e w2 ⟨rfl,k2,b2⟩
 rw[hsm] at b2
 have K2:=zX k2
 obtain⟨v2,c02,_,_,_⟩:=b2.cells
 rw[hdm] at c02
 have B2:=zX b2
 clear k2 b2
 go_wp2_with fail
 first|refine zN ?_|refine zG ?_
 refine qO 12 0 c02 ?_
 simp only[zTD]
 go_wp2_with fail
 first|refine zN ?_|refine zG ?_
 refine zE (by kernel_rfl) c02 ?_
 go_wp2_with fail
 go_ret
 exact⟨rfl,(Tn.of (uX K1)).trans (uX K2),uX B2⟩
theorem shift_up2 (a m n:Int)(s:Bool)(w:World)(h:IsW n)(ha:U a)(hm:U m) :
  Calls Tryz.prog 66 #[.int .u64 a,.int .u64 m,.int .i64 n,.bool true,.bool s] w fun e w'=>e=.returned (.tuple #[.int .u64 (cut n (mn s n a*2 ^ min m.toNat 64)),.int .i64 0])∧Below w.heap.size w w':=by
 have MA:=fun w=>qaq a n s w h ha
 have c1:=qai h s a
 generalize mn s n a=C at *
 obtain⟨k,hk⟩:∃ k,k=min m.toNat 64:=⟨_,rfl⟩
 have k64:k≤64:=by omega
 rw[← hk]
 obtain⟨q1,q2⟩:=mul_pow_lt (x:=(C.natAbs:Int)) (by omega) (by omega) k64
 have q3:(C.natAbs:Int)*2 ^ k<4294967296 ^ 8:=Int.lt_trans q1 (by decide)
 have LS:=fun p w hp=>lsh_sg p k C w hp (by omega) q3
 have q4:(C*2 ^ k).natAbs<4294967296 ^ 6:=by
  rw[Int.natAbs_mul,Int.natAbs_pow]
  have e2:((C.natAbs*2 ^ k:Nat):Int)=(C.natAbs:Int)*2 ^ k:=by rw[Int.natCast_mul,Int.natCast_pow];rfl
  have e3:(2:Int).natAbs=2:=rfl
  rw[e3]
  have e4:((C.natAbs*2 ^ k:Nat):Int)<((4294967296 ^ 6:Nat):Int):=by rw[e2];exact Int.lt_of_lt_of_le q1 (by decide)
  exact Int.ofNat_lt.1 e4
 have FI:=fun p w hp=>fitW p (C*2 ^ k) n w hp h q4
 clear q1 q2 q3 q4 c1
 generalize C*2 ^ k=V at *
 have hm0:=hm.1
 by_cases hb:m≤64
 ·have e1:m=(k:Int):=by omega
  subst e1
  clear hk
  go_enter Tryz.func66,Tryz.ntmps66
  go_wp2_with fail
  refine (qau n h _).mono ?_
  rintro e w1 ⟨rfl,k1⟩
  have K1:=zX k1
  clear k1
  go_wp2_with fail
  refine (MA _).mono ?_
  rintro e w2 ⟨p,rfl,hp,k2,B2⟩
  have K2:=zX ((uX K1).trans (k2.mono (uX K1).size))
  have HB2:=zX B2
  have s1:=(uX K1).size
  clear k2 B2
  go_wp2_with fail
  refine (LS _ _ (uX HB2)).mono ?_
  rintro e w3 ⟨rfl,k3,B3⟩
  have K3:=zX ((uX K2).trans (k3.below (by omega) (uX K2).size))
  have HB3:=zX B3
  clear k3 B3
  go_wp2_with fail
  refine (FI _ _ (uX HB3)).mono ?_
  rintro e w4 ⟨rfl,k4⟩
  have K4:=zX ((uX K3).trans (k4.mono (uX K3).size))
  clear k4
  go_wp2_with fail
  go_ret2
  exact⟨rfl,uX K4⟩
 ·have e1:k=64:=by omega
  subst e1
  have hb1:64<m:=by omega
  clear hk hb
  go_enter Tryz.func66,Tryz.ntmps66
  go_wp2_with fail
  refine (qau n h _).mono ?_
  rintro e w1 ⟨rfl,k1⟩
  have K1:=zX k1
  clear k1
  go_wp2_with fail
  refine (MA _).mono ?_
  rintro e w2 ⟨p,rfl,hp,k2,B2⟩
  have K2:=zX ((uX K1).trans (k2.mono (uX K1).size))
  have HB2:=zX B2
  have s1:=(uX K1).size
  clear k2 B2
  go_wp2_with fail
  refine (LS _ _ (uX HB2)).mono ?_
  rintro e w3 ⟨rfl,k3,B3⟩
  have K3:=zX ((uX K2).trans (k3.below (by omega) (uX K2).size))
  have HB3:=zX B3
  clear k3 B3
  go_wp2_with fail
  refine (FI _ _ (uX HB3)).mono ?_
  rintro e w4 ⟨rfl,k4⟩
  have K4:=zX ((uX K3).trans (k4.mono (uX K3).size))
  clear k4
  go_wp2_with fail
  go_ret2
  exact⟨rfl,uX K4⟩
theorem sg_turn (z:Int):sg (!decide (z<0)) (z.natAbs:Int)=-z:=by
 unfold sg
 by_cases h:z<0
 ·have e:(z.natAbs:Int)=-z:=by omega
  rw[decide_eq_true h,e];rfl
 ·have e:(z.natAbs:Int)=z:=by omega
  rw[decide_eq_false h,e];rfl
theorem neg_any (p q:Nat)(z:Int)(w:World)(hp:IntAt w p)(hq:Big w q z)(hne:q≠p)(hz:z.natAbs<4294967296 ^ 7) :
  Calls Tryz.prog 63 #[.pointer (some ⟨p,0,none⟩),.pointer (some ⟨q,0,none⟩)] w fun e w'=>e=.returned (.pointer (some ⟨p,0,none⟩))∧Tn p w w'∧Big w' p (-z):=by
 have b7:(4294967296:Nat) ^ 7<4294967296 ^ 8:=by decide
 obtain⟨v,c0,c1,hD,hlt⟩:=hq.cells
 have HP:=zX hp
 have HQ:=zX hq
 have HD:=zX hD
 clear hp hq hD
 go_enter Tryz.func63,Tryz.ntmps63
 go_wp2_with fail
 refine zU (fun W=>W.cell? ⟨q,0,none⟩=some (.bool (decide (z<0)))∧W.cell? ⟨q,1,none⟩=some v) (by kernel_rfl) ?_
 refine qR 0 10 3 ?_
 simp only[zTD]
 repeat (refine zS (fun K hK=>?_);go_simp;first|(refine zQ ?_ (fun W hW=>?_) (hK _ ?_);rotate_left;(obtain⟨h1,h2⟩:=hW;go_simp;first|done|rfl);clear hK K)|(refine hK _ ?_;clear hK K))
 refine zO ?_
 refine qO 10 2 ⟨c0,c1⟩ ?_
 simp only[zTD]
 go_wp2_with fail
 refine (twin_any v z.natAbs w.drew (uX HD) (by omega)).mono ?_
 rintro e w1 ⟨k1,v1,rfl,D1⟩
 have K1:=zX (qbu k1)
 have HD1:=zX D1
 have c01:=zK (uX K1) hlt c0
 have c11:=zK (uX K1) hlt c1
 have hp1:=zX ((uX HP).step (uX K1))
 clear k1 D1
 go_wp2_with fail
 first|refine zN ?_|refine zG ?_
 refine qO 11 1 ⟨c01,c11⟩ ?_
 simp only[zTD]
 go_wp2_with fail
 refine (qa8 p (!decide (z<0)) v1 z.natAbs w1 (uX hp1) (uX HD1) (by omega)).mono ?_
 rintro e w2 ⟨rfl,k2,b2⟩
 rw[sg_turn] at b2
 have K2:=zX k2
 have B2:=zX b2
 have hlt1:q<w1.heap.size:=Nat.lt_of_lt_of_le hlt (uX K1).size
 have c02:=(World.cell?_of_block (w:=w1) (a:=⟨q,0,none⟩) ((uX K2).block q hlt1 hne)).trans c01
 have c12:=(World.cell?_of_block (w:=w1) (a:=⟨q,1,none⟩) ((uX K2).block q hlt1 hne)).trans c11
 clear k2 b2
 go_wp2_with fail
 first|refine zN ?_|refine zG ?_
 refine qO 12 0 ⟨c02,c12⟩ ?_
 simp only[zTD]
 go_wp2_with fail
 first|refine zN ?_|refine zG ?_
 refine zE (by kernel_rfl) ⟨c02,c12⟩ ?_
 go_wp2_with fail
 go_ret
 exact⟨rfl,(Tn.of (uX K1)).trans (uX K2),uX B2⟩
theorem tn_mix {p:Nat}{w w1 w2 w3 w4:World}(k0:Below w.heap.size w w1)(k2:Tn w.heap.size w1 w2)(k3:Below w2.heap.size w2 w3)(k4:Tn p w3 w4)(_hp:p<w.heap.size):Tn p w w4:=by
 have a:Below w.heap.size w w2:=k0.trans (k2.below (Nat.le_refl _) k0.size)
 exact (Tn.of (a.trans (k3.mono a.size))).trans k4
theorem not_any (p q:Nat)(z:Int)(w:World)(hp:IntAt w p)(hq:Big w q z)(hne:q≠p)(hz:z.natAbs<4294967296 ^ 6) :
  Calls Tryz.prog 64 #[.pointer (some ⟨p,0,none⟩),.pointer (some ⟨q,0,none⟩)] w fun e w'=>e=.returned (.pointer (some ⟨p,0,none⟩))∧Tn p w w'∧Big w' p (-z - 1):=by
 have b7:(4294967296:Nat) ^ 6<4294967296 ^ 7:=by decide
 have k0:=qaa w (.cells #[.bool false,.slice none 0 0] 127)
 have hlq:=hq.lt
 have hlp:=hp.lt
 have N0:=zX (Big.new w).int
 have Q0:=zX (hq.step k0)
 have P0:=zX (hp.step k0)
 have K0:=zX k0
 have hs0:(w.alloc (.cells #[.bool false,.slice none 0 0] 127)).heap.size=w.heap.size+1:=by simp
 clear hp hq k0
 go_enter Tryz.func64,Tryz.ntmps64
 go_wp2_with fail
 generalize w.alloc (.cells #[.bool false,.slice none 0 0] 127)=w1 at *
 refine (neg_any w.heap.size q z w1 (uX N0) (uX Q0) (by omega) (by omega)).mono ?_
 rintro e w2 ⟨rfl,k2,B2⟩
 have K2:=zX k2
 have HB2:=zX B2
 have P2:=zX ((uX P0).tn k2 (by omega))
 have hs2:=k2.size
 clear k2 B2
 go_wp2_with fail
 refine (newI_any 1 w2 ⟨by decide,by decide⟩).mono ?_
 rintro e w3 ⟨rfl,k3,B3⟩
 have K3:=zX k3
 have HB3:=zX B3
 have N3:=zX ((uX HB2).step k3)
 have P3:=zX ((uX P2).step k3)
 have hs3:=(uX P2).lt
 clear k3 B3
 go_wp2_with fail
 refine (sub_big p w.heap.size w2.heap.size (-z) 1 w3 (uX P3) (uX N3) (uX HB3) (by omega) (by omega) (by decide)).mono ?_
 rintro e w4 ⟨rfl,k4,B4⟩
 have K4:=zX k4
 have HB4:=zX B4
 clear k4 B4
 go_wp2_with fail
 go_ret
 exact⟨rfl,tn_mix (uX K0) (uX K2) (uX K3) (uX K4) hlp,uX HB4⟩
theorem made_new (w:World)(n:Nat):(w.alloc (.cells (madeCells #[.int .u32 0] n) 159)).heap[w.heap.size]?=some (.cells (List.replicate n (Value.int .u32 0)).toArray 159 (0,0)):=by
 have hm:madeCells #[.int .u32 0] n=(List.replicate n (Value.int .u32 0)).toArray:=by
  apply Array.ext'
  have:(fun x:Nat=>([Value.int IntKind.u32 0][x % 1]?).getD default)=fun _=>Value.int IntKind.u32 0:=by funext x;simp[Nat.mod_one]
  simp[madeCells,this,List.map_const']
 rw[hm]
 show (w.heap.push _)[w.heap.size]?=_
 simp
theorem low_any (q:Nat)(w:World)(ao:Option Addr)(cap n:Nat)(L:List Int)(c0:w.cell? ⟨q,0,none⟩=some (.bool false))(c1:w.cell? ⟨q,1,none⟩=some (.slice ao L.length cap))(hq:q<w.heap.size)(hr:Row w (.slice ao L.length cap) L)(hn:L.length≤n)(hn2:n≤900) :
  Calls Tryz.prog 114 #[.pointer (some ⟨q,0,none⟩),.int .i64 n] w fun e w'=>e=.returned (.slice (some ⟨w.heap.size,0,none⟩) n n)∧Below w.heap.size w w'∧Own32 w' w.heap.size (L++List.replicate (n - L.length) 0):=by
 obtain⟨ao',cap',he,-,-,-,hU4,hU5,hU6⟩:=hr.at
 obtain⟨rfl,rfl⟩:ao'=ao∧cap'=cap:=by cases he;exact⟨rfl,rfl⟩
 clear he
 have k0:=qaa w (.cells (madeCells #[.int .u32 0] n) 159)
 have g0:=zX (made_new w n)
 have HU5:=zX hU5
 have HU6:=zX (fun d (e:ao'=some ⟨d,0,none⟩) j (hj:j<L.length)=>zK k0 (hU4 d 0 none e).2.2 (hU6 d e j hj))
 have d0:=zK k0 hq c0
 have d1:=zK k0 hq c1
 have K0:=zX k0
 have hmk:=make32 n (by omega)
 clear k0 hU4 hU5 hU6 hr
 go_enter Tryz.func114,Tryz.ntmps114
 go_wp2_with (refine wpList_copy_splice rfl (.tmp 10) (.tmp 14) 125 125 rfl 159 Tryz.underlying125 Tryz.sizeU32 (some ⟨w.heap.size,0,none⟩) ao' n n L.length cap' rfl rfl w.heap.size 0 (List.replicate n (Value.int .u32 0)) 159 (uX g0) (L.map u32v) (by rw[List.length_map];exact (Nat.min_eq_left (by omega)).symm) (hpu_of (uX HU5) (uX HU6)) (by rw[List.length_map,List.length_replicate];omega) (u32_one _) w.heap.size w (uX K0) (Nat.le_refl _) ?_;intro w5 g5 k5;have K5:=zX k5;have O5:=zX (own_splice g5 (by omega));have e0:=k5.cell (p:=⟨q,0,none⟩) hq;rw[c0] at e0;clear g5 k5)
 go_ret
 exact⟨rfl,uX K5,uX O5⟩
theorem of_any (p d:Nat)(R:List Int)(w:World)(hp:IntAt w p)(O:Own32 w d R)(hW:Wds R)(hl:1≤R.length)(hl2:R.length≤8)(ht:R.getD (R.length - 1) 0<2147483648) :
  Calls Tryz.prog 115 #[.pointer (some ⟨p,0,none⟩),.slice (some ⟨d,0,none⟩) R.length R.length] w fun e w'=>e=.returned (.pointer (some ⟨p,0,none⟩))∧Tn p w w'∧Big w' p (vl R):=by
 have hR:=O.row (by unfold maxLen;omega)
 have TR:=zX (qbf w _ R hR hW (by omega))
 have hv:vl R<4294967296 ^ 8:=Int.lt_of_lt_of_le (vl_hi hW) (bp_le hl2)
 have hc:=O.cell (R.length - 1) (by omega)
 have hg:=(hW.get (R.length - 1)).1
 obtain⟨m,hm⟩:∃ m,R.length=m+1:=⟨R.length - 1,by omega⟩
 rw[hm] at hc ht hg hl2 TR ⊢
 rw[show m+1 - 1=m by omega] at hc ht hg
 have HP:=zX hp
 have b0:decide ((0:Int)<((m+1:Nat):Int))=true:=by simp
 have e1:(((m+1:Nat):Int) - 1)=(m:Int):=by omega
 have hd:R.getD m 0 / 2147483648=0:=by omega
 generalize R.getD m 0=z at *
 have hmi:(m:Int)<((m+1:Nat):Int):=by omega
 clear O hR hW hp
 go_enter Tryz.func115,Tryz.ntmps115
 go_wp2_with fail
 refine (uX TR).mono ?_
 rintro e w' ⟨hw,v',rfl,D⟩
 subst w'
 go_wp2_with fail
 refine (qa8 p false v' _ w (uX HP) D hv).mono ?_
 rintro e w2 ⟨rfl,k2,B2⟩
 go_wp2_with fail
 go_ret
 exact⟨rfl,k2,B2⟩
theorem vl3 {R:List Int}(h:R.length≤3):vl R=R.getD 0 0+4294967296*R.getD 1 0+18446744073709551616*R.getD 2 0:=by
 match R,h with
 | [],_=>simp[vl]
 | [a],_=>simp[vl]
 | [a,b],_=>simp[vl]
 | [a,b,c],_=>simp[vl];omega
theorem app_getD (L:List Int)(n j:Nat):(L++List.replicate n 0).getD j 0=L.getD j 0:=by
 rw[List.getD_eq_getElem?_getD,List.getD_eq_getElem?_getD,List.getElem?_append]
 split
 ·rfl
 ·rw[List.getElem?_replicate,List.getElem?_eq_none (l:=L) (by omega)]
  split <;> rfl
theorem u_two {L:List Int}{n:Int}(h:Is L n)(hn:n<18446744073709551616):n=L.getD 0 0+4294967296*L.getD 1 0∧L.length≤2:=⟨(is_two h hn).1,(is_two h hn).2.2.2⟩
structure BitInv (op:BinOp)(A B R:List Int)(i:Nat):Prop where
 len:R.length=A.length
 old:∀ j,i≤j→R.getD j 0=A.getD j 0
 new:∀ j,j<i→R.getD j 0=bits op .u32 (A.getD j 0) (B.getD j 0)
theorem BitInv.start (op:BinOp)(A B:List Int):BitInv op A B A 0:=⟨rfl,fun _ _=>rfl,fun j h=>by omega⟩
theorem BitInv.next {op:BinOp}{A B R:List Int}{i:Nat}(h:BitInv op A B R i)(hi:i<A.length):BitInv op A B (R.set i (bits op .u32 (A.getD i 0) (B.getD i 0))) (i+1):=by
 refine⟨by rw[List.length_set];exact h.len,fun j hj=>?_,fun j hj=>?_⟩
 ·rw[qal (by omega)];exact h.old j (by omega)
 ·by_cases e:i=j
  ·subst e
   rw[getD_set_self (by rw[h.len];exact hi)]
  ·rw[qal e];exact h.new j (by omega)
theorem u32_in (op:BinOp)(a b:Int):0≤bits op .u32 a b∧bits op .u32 a b≤4294967295:=by
 have h:=bits_within op .u32 a b
 have h1:IntKind.u32.min=0:=rfl
 have h2:IntKind.u32.max=4294967295:=rfl
 omega
theorem w_nat32 {a:Int}(h:0≤a∧a≤4294967295):∃ m:Nat,a=m∧m<4294967296:=⟨a.toNat,by omega,by omega⟩
theorem n32_and (a b:Nat)(ha:a<4294967296)(hb:b<4294967296):bits .and .u32 (a:Int) (b:Int)=((a &&& b:Nat):Int):=by
 have hx:a &&& b<2 ^ 32:=Nat.and_lt_two_pow _ (by omega)
 have h1:(BitVec.ofInt 32 (a:Int)).toNat=a:=by
  rw[BitVec.ofInt_natCast,BitVec.toNat_ofNat];exact Nat.mod_eq_of_lt (by omega)
 have h2:(BitVec.ofInt 32 (b:Int)).toNat=b:=by
  rw[BitVec.ofInt_natCast,BitVec.toNat_ofNat];exact Nat.mod_eq_of_lt (by omega)
 have hw:∀ z:Int,IntKind.u32.wrap z=z % 4294967296:=fun z=>by simp[IntKind.wrap,IntKind.bits,IntKind.signed]
 show IntKind.u32.wrap ((BitVec.ofInt 32 (a:Int) &&& BitVec.ofInt 32 (b:Int)).toNat:Int)=_
 rw[BitVec.toNat_and,h1,h2,hw]
 omega
theorem split_and {a0 a1 b0 b1:Int}(h1:0≤a0∧a0≤4294967295)(h2:0≤a1∧a1≤4294967295)(h3:0≤b0∧b0≤4294967295)(h4:0≤b1∧b1≤4294967295) :
  bits .and .u64 (a0+4294967296*a1) (b0+4294967296*b1)=bits .and .u32 a0 b0+4294967296*bits .and .u32 a1 b1:=by
 obtain⟨m0,rfl,l0⟩:=w_nat32 h1
 obtain⟨m1,rfl,l1⟩:=w_nat32 h2
 obtain⟨n0,rfl,l2⟩:=w_nat32 h3
 obtain⟨n1,rfl,l3⟩:=w_nat32 h4
 rw[n32_and m0 n0 l0 l2,n32_and m1 n1 l1 l3]
 rw[show (m0:Int)+4294967296*(m1:Int)=((m0+4294967296*m1:Nat):Int) by omega,show (n0:Int)+4294967296*(n1:Int)=((n0+4294967296*n1:Nat):Int) by omega]
 rw[bits_and_u64_nat _ _ (by omega) (by omega)]
 have d:=Nat.mod_add_div ((m0+4294967296*m1) &&& (n0+4294967296*n1)) (2 ^ 32)
 rw[Nat.and_mod_two_pow,Nat.and_div_two_pow] at d
 rw[show (m0+4294967296*m1) % 2 ^ 32=m0 by omega,show (n0+4294967296*n1) % 2 ^ 32=n0 by omega,show (m0+4294967296*m1) / 2 ^ 32=m1 by omega,show (n0+4294967296*n1) / 2 ^ 32=n1 by omega] at d
 omega
theorem n32_or (a b:Nat)(ha:a<4294967296)(hb:b<4294967296):bits .or .u32 (a:Int) (b:Int)=((a ||| b:Nat):Int):=by
 have hx:a ||| b<2 ^ 32:=Nat.or_lt_two_pow (by omega) (by omega)
 have h1:(BitVec.ofInt 32 (a:Int)).toNat=a:=by
  rw[BitVec.ofInt_natCast,BitVec.toNat_ofNat];exact Nat.mod_eq_of_lt (by omega)
 have h2:(BitVec.ofInt 32 (b:Int)).toNat=b:=by
  rw[BitVec.ofInt_natCast,BitVec.toNat_ofNat];exact Nat.mod_eq_of_lt (by omega)
 have hw:∀ z:Int,IntKind.u32.wrap z=z % 4294967296:=fun z=>by simp[IntKind.wrap,IntKind.bits,IntKind.signed]
 show IntKind.u32.wrap ((BitVec.ofInt 32 (a:Int) ||| BitVec.ofInt 32 (b:Int)).toNat:Int)=_
 rw[BitVec.toNat_or,h1,h2,hw]
 omega
theorem split_or {a0 a1 b0 b1:Int}(h1:0≤a0∧a0≤4294967295)(h2:0≤a1∧a1≤4294967295)(h3:0≤b0∧b0≤4294967295)(h4:0≤b1∧b1≤4294967295) :
  bits .or .u64 (a0+4294967296*a1) (b0+4294967296*b1)=bits .or .u32 a0 b0+4294967296*bits .or .u32 a1 b1:=by
 obtain⟨m0,rfl,l0⟩:=w_nat32 h1
 obtain⟨m1,rfl,l1⟩:=w_nat32 h2
 obtain⟨n0,rfl,l2⟩:=w_nat32 h3
 obtain⟨n1,rfl,l3⟩:=w_nat32 h4
 rw[n32_or m0 n0 l0 l2,n32_or m1 n1 l1 l3]
 rw[show (m0:Int)+4294967296*(m1:Int)=((m0+4294967296*m1:Nat):Int) by omega,show (n0:Int)+4294967296*(n1:Int)=((n0+4294967296*n1:Nat):Int) by omega]
 rw[bits_or_u64_nat _ _ (by omega) (by omega)]
 have d:=Nat.mod_add_div ((m0+4294967296*m1) ||| (n0+4294967296*n1)) (2 ^ 32)
 rw[Nat.or_mod_two_pow,Nat.or_div_two_pow] at d
 rw[show (m0+4294967296*m1) % 2 ^ 32=m0 by omega,show (n0+4294967296*n1) % 2 ^ 32=n0 by omega,show (m0+4294967296*m1) / 2 ^ 32=m1 by omega,show (n0+4294967296*n1) / 2 ^ 32=n1 by omega] at d
 omega
theorem n32_xor (a b:Nat)(ha:a<4294967296)(hb:b<4294967296):bits .xor .u32 (a:Int) (b:Int)=((a ^^^ b:Nat):Int):=by
 have hx:a ^^^ b<2 ^ 32:=Nat.xor_lt_two_pow (by omega) (by omega)
 have h1:(BitVec.ofInt 32 (a:Int)).toNat=a:=by
  rw[BitVec.ofInt_natCast,BitVec.toNat_ofNat];exact Nat.mod_eq_of_lt (by omega)
 have h2:(BitVec.ofInt 32 (b:Int)).toNat=b:=by
  rw[BitVec.ofInt_natCast,BitVec.toNat_ofNat];exact Nat.mod_eq_of_lt (by omega)
 have hw:∀ z:Int,IntKind.u32.wrap z=z % 4294967296:=fun z=>by simp[IntKind.wrap,IntKind.bits,IntKind.signed]
 show IntKind.u32.wrap ((BitVec.ofInt 32 (a:Int) ^^^ BitVec.ofInt 32 (b:Int)).toNat:Int)=_
 rw[BitVec.toNat_xor,h1,h2,hw]
 omega
theorem split_xor {a0 a1 b0 b1:Int}(h1:0≤a0∧a0≤4294967295)(h2:0≤a1∧a1≤4294967295)(h3:0≤b0∧b0≤4294967295)(h4:0≤b1∧b1≤4294967295) :
  bits .xor .u64 (a0+4294967296*a1) (b0+4294967296*b1)=bits .xor .u32 a0 b0+4294967296*bits .xor .u32 a1 b1:=by
 obtain⟨m0,rfl,l0⟩:=w_nat32 h1
 obtain⟨m1,rfl,l1⟩:=w_nat32 h2
 obtain⟨n0,rfl,l2⟩:=w_nat32 h3
 obtain⟨n1,rfl,l3⟩:=w_nat32 h4
 rw[n32_xor m0 n0 l0 l2,n32_xor m1 n1 l1 l3]
 rw[show (m0:Int)+4294967296*(m1:Int)=((m0+4294967296*m1:Nat):Int) by omega,show (n0:Int)+4294967296*(n1:Int)=((n0+4294967296*n1:Nat):Int) by omega]
 rw[bits_xor_u64_nat _ _ (by omega) (by omega)]
 have d:=Nat.mod_add_div ((m0+4294967296*m1) ^^^ (n0+4294967296*n1)) (2 ^ 32)
 rw[Nat.xor_mod_two_pow,Nat.xor_div_two_pow] at d
 rw[show (m0+4294967296*m1) % 2 ^ 32=m0 by omega,show (n0+4294967296*n1) % 2 ^ 32=n0 by omega,show (m0+4294967296*m1) / 2 ^ 32=m1 by omega,show (n0+4294967296*n1) / 2 ^ 32=n1 by omega] at d
 omega
end Go.Proofs.YtjpnnmkefaodoaaGreat
