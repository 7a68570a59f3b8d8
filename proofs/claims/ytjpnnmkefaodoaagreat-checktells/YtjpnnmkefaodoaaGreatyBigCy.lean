/-
  BigC, BigD, Big9, BigE.
-/
import Derived.Test.YtjpnnmkefaodoaaGreatyBig8y
set_option maxHeartbeats 8000000
set_option maxRecDepth 100000
namespace Go.Proofs.YtjpnnmkefaodoaaGreat
open Go.RowKit
set_option linter.unusedSimpArgs false
set_option linter.unusedVariables false
theorem of_drewN {w w1:World}{q:Nat}(k:Below (w.drewN q).heap.size (w.drewN q) w1):Below w.heap.size w w1:=⟨k.os,k.tape,k.output,k.size,k.block⟩
theorem sum_any (a b:Bool)(v1 v2:Value)(n1 n2:Int)(w:World)(h1:Dg w v1 n1)(h2:Dg w v2 n2)(hn1:n1<4294967296 ^ 7)(hn2:n2<4294967296 ^ 7) :
  Calls Tryz.prog 140 #[.bool a,v1,.bool b,v2] w fun e w'=>Below w.heap.size w w'∧∃ c v n,e=.returned (.tuple #[.bool c,v])∧Dg w' v n∧n<4294967296 ^ 8∧sg c n=sg a n1+sg b n2:=by
 have H1:=zX h1
 have H2:=zX h2
 obtain⟨L1,g1,i1⟩:=h1
 obtain⟨L2,g2,i2⟩:=h2
 have lo1:=i1.lo
 have lo2:=i2.lo
 clear i1 i2 g1 g2
 by_cases hab:a=b
 ·subst hab
  go_enter Tryz.func140,Tryz.ntmps140
  go_wp2_with fail
  refine (badd_any v1 v2 n1 n2 w (uX H1) (uX H2) (by omega) (by omega)).mono ?_
  rintro e w1 ⟨k1,v,rfl,D1⟩
  have K1:=zX k1
  have HD:=zX D1
  clear k1 D1
  go_wp2_with fail
  go_ret2
  exact⟨uX K1,_,_,_,rfl,uX HD,by omega,by unfold sg;cases a <;> simp;omega⟩
 ·have hab2:(a==b)=false:=by cases a <;> cases b <;> simp_all
  have hb:b=!a:=by cases a <;> cases b <;> simp_all
  have HB:=zX hb
  have CM:=zX (cmp_any v1 v2 n1 n2 w (uX H1) (uX H2) (by omega) (by omega))
  by_cases hge:n2≤n1
  ·have hcm:decide (0≤cm n1 n2)=true:=by unfold cm;rw[if_neg (by omega)];split <;> decide
   go_enter Tryz.func140,Tryz.ntmps140
   go_wp2_with fail
   refine (uX CM).mono ?_
   rintro e w1 ⟨⟨q,rfl⟩,rfl⟩
   go_wp2_with fail
   refine (bsub_any v1 v2 n1 n2 (w.drewN q) (uX H1) (uX H2) (by omega) hge).mono ?_
   rintro e w2 ⟨k1,v,rfl,D1⟩
   have K1:=zX (of_drewN k1)
   have HD:=zX D1
   clear k1 D1
   go_wp2_with fail
   go_ret2
   exact⟨uX K1,_,_,_,rfl,uX HD,by omega,by rw[uX HB];unfold sg;cases a <;> simp <;> omega⟩
  ·have hcm:decide (0≤cm n1 n2)=false:=by unfold cm;rw[if_pos (by omega)];decide
   go_enter Tryz.func140,Tryz.ntmps140
   go_wp2_with fail
   refine (uX CM).mono ?_
   rintro e w1 ⟨⟨q,rfl⟩,rfl⟩
   go_wp2_with fail
   refine (bsub_any v2 v1 n2 n1 (w.drewN q) (uX H2) (uX H1) (by omega) (by omega)).mono ?_
   rintro e w2 ⟨k1,v,rfl,D1⟩
   have K1:=zX (of_drewN k1)
   have HD:=zX D1
   clear k1 D1
   go_wp2_with fail
   go_ret2
   exact⟨uX K1,_,_,_,rfl,uX HD,by omega,by rw[uX HB];unfold sg;cases a <;> simp <;> omega⟩
theorem sg_neg (z:Int):sg (!decide (z<0)) (z.natAbs:Int)=-z:=by
 have h:=sg_abs z
 unfold sg at *
 by_cases hz:z<0
 ·simp[hz] at h ⊢;omega
 ·simp[hz] at h ⊢;omega
theorem add_big (p q r:Nat)(x y:Int)(w:World)(hp:IntAt w p)(hq:Big w q x)(hr:Big w r y)(hnr:r≠p)(hx:x.natAbs<4294967296 ^ 7)(hy:y.natAbs<4294967296 ^ 7) :
  Calls Tryz.prog 110 #[.pointer (some ⟨p,0,none⟩),.pointer (some ⟨q,0,none⟩),.pointer (some ⟨r,0,none⟩)] w fun e w'=>e=.returned (.pointer (some ⟨p,0,none⟩))∧Tn p w w'∧Big w' p (x+y):=by
 obtain⟨v,c0,c1,hD,hlt⟩:=hq.cells
 obtain⟨u,d0,d1,hE,hlr⟩:=hr.cells
 have HP:=zX hp
 have HD:=zX hD
 have HE:=zX hE
 have HB:Hid (sg (decide (x<0)) (x.natAbs:Int)+sg (decide (y<0)) (y.natAbs:Int)=x+y):=(by rw[sg_abs,sg_abs]:sg (decide (x<0)) (x.natAbs:Int)+sg (decide (y<0)) (y.natAbs:Int)=x+y)
 clear hp hq hr hD hE
 go_enter Tryz.func110,Tryz.ntmps110
 go_wp2_with fail
 refine zU (fun W=>W.cell? ⟨r,0,none⟩=some (.bool (decide (y<0)))∧W.cell? ⟨r,1,none⟩=some u) (by kernel_rfl) ?_
 refine qR 0 4 18 ?_
 simp only[zTD]
 repeat (refine zS (fun K hK=>?_);go_simp;first|(refine zQ ?_ (fun W hW=>?_) (hK _ ?_);rotate_left;(obtain⟨h1,h2⟩:=hW;go_simp;first|done|rfl);clear hK K)|(refine hK _ ?_;clear hK K))
 refine zO ?_
 refine qR 5 3 15 ?_
 simp only[zTD]
 repeat (refine zS (fun K hK=>?_);go_simp;first|(refine zQ ?_ (fun W hW=>?_) (hK _ ?_);rotate_left;(obtain⟨h1,h2⟩:=hW;go_simp;first|done|rfl);clear hK K)|(refine hK _ ?_;clear hK K))
 refine zO ?_
 refine qR 9 8 7 ?_
 simp only[zTD]
 repeat (refine zS (fun K hK=>?_);go_simp;first|(refine zQ ?_ (fun W hW=>?_) (hK _ ?_);rotate_left;(obtain⟨h1,h2⟩:=hW;go_simp;first|done|rfl);clear hK K)|(refine hK _ ?_;clear hK K))
 refine zO ?_
 refine qbv 4 8 6 (by kernel_rfl) (by kernel_rfl) ⟨d0,d1⟩ ?_ ?_
 ·simp only[zTD]
  go_wp2_with fail
  first|refine zN ?_|refine zG ?_
  refine qO 8 5 ⟨d0,d1⟩ ?_
  simp only[zTD]
  go_wp2_with fail
  first|refine zN ?_|refine zG ?_
  refine qO 17 4 ⟨d0,d1⟩ ?_
  simp only[zTD]
  go_wp2_with fail
  refine (sum_any (decide (x<0)) (decide (y<0)) v u x.natAbs y.natAbs w.drew (uX HD) (uX HE) (by omega) (by omega)).mono ?_
  rintro e w1 ⟨k1,c,v1,n1,rfl,D1,hn1,hs1⟩
  have K1:=zX (qbu k1)
  have HD1:=zX D1
  have HS:=zX hs1
  have d01:=zK (uX K1) hlr d0
  have d11:=zK (uX K1) hlr d1
  have hp1:=zX ((uX HP).step (uX K1))
  clear k1 D1 hs1
  go_wp2_with fail
  first|refine zN ?_|refine zG ?_
  refine qR 18 2 2 ?_
  simp only[zTD]
  repeat (refine zS (fun K hK=>?_);go_simp;first|(refine zQ ?_ (fun W hW=>?_) (hK _ ?_);rotate_left;(obtain⟨h1,h2⟩:=hW;go_simp;first|done|rfl);clear hK K)|(refine hK _ ?_;clear hK K))
  refine zO ?_
  refine qO 20 1 ⟨d01,d11⟩ ?_
  simp only[zTD]
  go_wp2_with fail
  refine (qa8 p c v1 n1 w1 (uX hp1) (uX HD1) hn1).mono ?_
  rintro e w2 ⟨rfl,k2,b2⟩
  rw[uX HS,uX HB] at b2
  have K2:=zX k2
  have B2:=zX b2
  have hlr1:r<w1.heap.size:=Nat.lt_of_lt_of_le hlr (uX K1).size
  have d02:=(World.cell?_of_block (w:=w1) (a:=⟨r,0,none⟩) ((uX K2).block r hlr1 hnr)).trans d01
  have d12:=(World.cell?_of_block (w:=w1) (a:=⟨r,1,none⟩) ((uX K2).block r hlr1 hnr)).trans d11
  clear k2 b2
  go_wp2_with fail
  first|refine zN ?_|refine zG ?_
  refine qO 21 0 ⟨d02,d12⟩ ?_
  simp only[zTD]
  go_wp2_with fail
  first|refine zN ?_|refine zG ?_
  refine zE (by kernel_rfl) ⟨d02,d12⟩ ?_
  go_wp2_with fail
  go_ret
  exact⟨rfl,(Tn.of (uX K1)).trans (uX K2),uX B2⟩
 ·simp only[zTD]
  go_wp2_with fail
  first|refine zN ?_|refine zG ?_
  refine qO 4 5 ⟨d0,d1⟩ ?_
  simp only[zTD]
  go_wp2_with fail
  first|refine zN ?_|refine zG ?_
  refine qO 17 4 ⟨d0,d1⟩ ?_
  simp only[zTD]
  go_wp2_with fail
  refine (sum_any (decide (x<0)) (decide (y<0)) v u x.natAbs y.natAbs w.drew (uX HD) (uX HE) (by omega) (by omega)).mono ?_
  rintro e w1 ⟨k1,c,v1,n1,rfl,D1,hn1,hs1⟩
  have K1:=zX (qbu k1)
  have HD1:=zX D1
  have HS:=zX hs1
  have d01:=zK (uX K1) hlr d0
  have d11:=zK (uX K1) hlr d1
  have hp1:=zX ((uX HP).step (uX K1))
  clear k1 D1 hs1
  go_wp2_with fail
  first|refine zN ?_|refine zG ?_
  refine qR 18 2 2 ?_
  simp only[zTD]
  repeat (refine zS (fun K hK=>?_);go_simp;first|(refine zQ ?_ (fun W hW=>?_) (hK _ ?_);rotate_left;(obtain⟨h1,h2⟩:=hW;go_simp;first|done|rfl);clear hK K)|(refine hK _ ?_;clear hK K))
  refine zO ?_
  refine qO 20 1 ⟨d01,d11⟩ ?_
  simp only[zTD]
  go_wp2_with fail
  refine (qa8 p c v1 n1 w1 (uX hp1) (uX HD1) hn1).mono ?_
  rintro e w2 ⟨rfl,k2,b2⟩
  rw[uX HS,uX HB] at b2
  have K2:=zX k2
  have B2:=zX b2
  have hlr1:r<w1.heap.size:=Nat.lt_of_lt_of_le hlr (uX K1).size
  have d02:=(World.cell?_of_block (w:=w1) (a:=⟨r,0,none⟩) ((uX K2).block r hlr1 hnr)).trans d01
  have d12:=(World.cell?_of_block (w:=w1) (a:=⟨r,1,none⟩) ((uX K2).block r hlr1 hnr)).trans d11
  clear k2 b2
  go_wp2_with fail
  first|refine zN ?_|refine zG ?_
  refine qO 21 0 ⟨d02,d12⟩ ?_
  simp only[zTD]
  go_wp2_with fail
  first|refine zN ?_|refine zG ?_
  refine zE (by kernel_rfl) ⟨d02,d12⟩ ?_
  go_wp2_with fail
  go_ret
  exact⟨rfl,(Tn.of (uX K1)).trans (uX K2),uX B2⟩
theorem sub_big (p q r:Nat)(x y:Int)(w:World)(hp:IntAt w p)(hq:Big w q x)(hr:Big w r y)(hnr:r≠p)(hx:x.natAbs<4294967296 ^ 7)(hy:y.natAbs<4294967296 ^ 7) :
  Calls Tryz.prog 105 #[.pointer (some ⟨p,0,none⟩),.pointer (some ⟨q,0,none⟩),.pointer (some ⟨r,0,none⟩)] w fun e w'=>e=.returned (.pointer (some ⟨p,0,none⟩))∧Tn p w w'∧Big w' p (x - y):=by
 obtain⟨v,c0,c1,hD,hlt⟩:=hq.cells
 obtain⟨u,d0,d1,hE,hlr⟩:=hr.cells
 have HP:=zX hp
 have HD:=zX hD
 have HE:=zX hE
 have HB:Hid (sg (decide (x<0)) (x.natAbs:Int)+sg (!decide (y<0)) (y.natAbs:Int)=x - y):=(by rw[sg_abs,sg_neg];omega:sg (decide (x<0)) (x.natAbs:Int)+sg (!decide (y<0)) (y.natAbs:Int)=x - y)
 clear hp hq hr hD hE
 go_enter Tryz.func105,Tryz.ntmps105
 go_wp2_with fail
 refine zU (fun W=>W.cell? ⟨r,0,none⟩=some (.bool (decide (y<0)))∧W.cell? ⟨r,1,none⟩=some u) (by kernel_rfl) ?_
 refine qR 0 4 19 ?_
 simp only[zTD]
 repeat (refine zS (fun K hK=>?_);go_simp;first|(refine zQ ?_ (fun W hW=>?_) (hK _ ?_);rotate_left;(obtain⟨h1,h2⟩:=hW;go_simp;first|done|rfl);clear hK K)|(refine hK _ ?_;clear hK K))
 refine zO ?_
 refine qR 5 3 16 ?_
 simp only[zTD]
 repeat (refine zS (fun K hK=>?_);go_simp;first|(refine zQ ?_ (fun W hW=>?_) (hK _ ?_);rotate_left;(obtain⟨h1,h2⟩:=hW;go_simp;first|done|rfl);clear hK K)|(refine hK _ ?_;clear hK K))
 refine zO ?_
 refine qR 9 9 7 ?_
 simp only[zTD]
 repeat (refine zS (fun K hK=>?_);go_simp;first|(refine zQ ?_ (fun W hW=>?_) (hK _ ?_);rotate_left;(obtain⟨h1,h2⟩:=hW;go_simp;first|done|rfl);clear hK K)|(refine hK _ ?_;clear hK K))
 refine zO ?_
 refine qbv 4 8 6 (by kernel_rfl) (by kernel_rfl) ⟨d0,d1⟩ ?_ ?_
 ·simp only[zTD]
  go_wp2_with fail
  first|refine zN ?_|refine zG ?_
  refine qO 8 5 ⟨d0,d1⟩ ?_
  simp only[zTD]
  go_wp2_with fail
  first|refine zN ?_|refine zG ?_
  refine qO 18 4 ⟨d0,d1⟩ ?_
  simp only[zTD]
  go_wp2_with fail
  refine (sum_any (decide (x<0)) (!decide (y<0)) v u x.natAbs y.natAbs w.drew (uX HD) (uX HE) (by omega) (by omega)).mono ?_
  rintro e w1 ⟨k1,c,v1,n1,rfl,D1,hn1,hs1⟩
  have K1:=zX (qbu k1)
  have HD1:=zX D1
  have HS:=zX hs1
  have d01:=zK (uX K1) hlr d0
  have d11:=zK (uX K1) hlr d1
  have hp1:=zX ((uX HP).step (uX K1))
  clear k1 D1 hs1
  go_wp2_with fail
  first|refine zN ?_|refine zG ?_
  refine qR 19 2 2 ?_
  simp only[zTD]
  repeat (refine zS (fun K hK=>?_);go_simp;first|(refine zQ ?_ (fun W hW=>?_) (hK _ ?_);rotate_left;(obtain⟨h1,h2⟩:=hW;go_simp;first|done|rfl);clear hK K)|(refine hK _ ?_;clear hK K))
  refine zO ?_
  refine qO 21 1 ⟨d01,d11⟩ ?_
  simp only[zTD]
  go_wp2_with fail
  refine (qa8 p c v1 n1 w1 (uX hp1) (uX HD1) hn1).mono ?_
  rintro e w2 ⟨rfl,k2,b2⟩
  rw[uX HS,uX HB] at b2
  have K2:=zX k2
  have B2:=zX b2
  have hlr1:r<w1.heap.size:=Nat.lt_of_lt_of_le hlr (uX K1).size
  have d02:=(World.cell?_of_block (w:=w1) (a:=⟨r,0,none⟩) ((uX K2).block r hlr1 hnr)).trans d01
  have d12:=(World.cell?_of_block (w:=w1) (a:=⟨r,1,none⟩) ((uX K2).block r hlr1 hnr)).trans d11
  clear k2 b2
  go_wp2_with fail
  first|refine zN ?_|refine zG ?_
  refine qO 22 0 ⟨d02,d12⟩ ?_
  simp only[zTD]
  go_wp2_with fail
  first|refine zN ?_|refine zG ?_
  refine zE (by kernel_rfl) ⟨d02,d12⟩ ?_
  go_wp2_with fail
  go_ret
  exact⟨rfl,(Tn.of (uX K1)).trans (uX K2),uX B2⟩
 ·simp only[zTD]
  go_wp2_with fail
  first|refine zN ?_|refine zG ?_
  refine qO 4 5 ⟨d0,d1⟩ ?_
  simp only[zTD]
  go_wp2_with fail
  first|refine zN ?_|refine zG ?_
  refine qO 18 4 ⟨d0,d1⟩ ?_
  simp only[zTD]
  go_wp2_with fail
  refine (sum_any (decide (x<0)) (!decide (y<0)) v u x.natAbs y.natAbs w.drew (uX HD) (uX HE) (by omega) (by omega)).mono ?_
  rintro e w1 ⟨k1,c,v1,n1,rfl,D1,hn1,hs1⟩
  have K1:=zX (qbu k1)
  have HD1:=zX D1
  have HS:=zX hs1
  have d01:=zK (uX K1) hlr d0
  have d11:=zK (uX K1) hlr d1
  have hp1:=zX ((uX HP).step (uX K1))
  clear k1 D1 hs1
  go_wp2_with fail
  first|refine zN ?_|refine zG ?_
  refine qR 19 2 2 ?_
  simp only[zTD]
  repeat (refine zS (fun K hK=>?_);go_simp;first|(refine zQ ?_ (fun W hW=>?_) (hK _ ?_);rotate_left;(obtain⟨h1,h2⟩:=hW;go_simp;first|done|rfl);clear hK K)|(refine hK _ ?_;clear hK K))
  refine zO ?_
  refine qO 21 1 ⟨d01,d11⟩ ?_
  simp only[zTD]
  go_wp2_with fail
  refine (qa8 p c v1 n1 w1 (uX hp1) (uX HD1) hn1).mono ?_
  rintro e w2 ⟨rfl,k2,b2⟩
  rw[uX HS,uX HB] at b2
  have K2:=zX k2
  have B2:=zX b2
  have hlr1:r<w1.heap.size:=Nat.lt_of_lt_of_le hlr (uX K1).size
  have d02:=(World.cell?_of_block (w:=w1) (a:=⟨r,0,none⟩) ((uX K2).block r hlr1 hnr)).trans d01
  have d12:=(World.cell?_of_block (w:=w1) (a:=⟨r,1,none⟩) ((uX K2).block r hlr1 hnr)).trans d11
  clear k2 b2
  go_wp2_with fail
  first|refine zN ?_|refine zG ?_
  refine qO 22 0 ⟨d02,d12⟩ ?_
  simp only[zTD]
  go_wp2_with fail
  first|refine zN ?_|refine zG ?_
  refine zE (by kernel_rfl) ⟨d02,d12⟩ ?_
  go_wp2_with fail
  go_ret
  exact⟨rfl,(Tn.of (uX K1)).trans (uX K2),uX B2⟩
theorem cm_neg (a b:Int):-cm a b=cm b a:=by
 unfold cm
 by_cases h1:a<b
 ·rw[if_pos h1,if_neg (by omega),if_neg (by omega)];rfl
 ·by_cases h2:a=b
  ·rw[if_neg h1,if_pos h2,if_neg (by omega),if_pos h2.symm];rfl
  ·rw[if_neg h1,if_neg h2,if_pos (by omega)]
theorem cm_congr {a b c d:Int}(h1:a<b↔c<d)(h2:a=b↔c=d):cm a b=cm c d:=by
 unfold cm
 by_cases h:a<b
 ·rw[if_pos h,if_pos (h1.1 h)]
 ·rw[if_neg h,if_neg (fun k=>h (h1.2 k))]
  by_cases g:a=b
  ·rw[if_pos g,if_pos (h2.1 g)]
  ·rw[if_neg g,if_neg (fun k=>g (h2.2 k))]
theorem qaw (p q:Nat)(x y:Int)(w:World)(hp:Big w p x)(hq:Big w q y)(hx:x.natAbs<4294967296 ^ 8)(hy:y.natAbs<4294967296 ^ 8) :
  Calls Tryz.prog 68 #[.pointer (some ⟨p,0,none⟩),.pointer (some ⟨q,0,none⟩)] w fun e w'=>(∃ k,w'=w.drewN k)∧e=.returned (.int .i64 (cm x y)):=by
 obtain⟨v,c0,c1,hD,hlt⟩:=hp.cells
 obtain⟨u,d0,d1,hE,hlr⟩:=hq.cells
 have CM:=zX (fun k=>cmp_any v u x.natAbs y.natAbs (w.drewN k) hD hE (by omega) (by omega))
 have hr:-1≤cm (x.natAbs:Int) (y.natAbs:Int)∧cm (x.natAbs:Int) (y.natAbs:Int)≤1:=by unfold cm;split;omega;split <;> omega
 clear hp hq hD hE
 by_cases hxn:x<0
 ·have bx:decide (x<0)=true:=decide_eq_true hxn
  rw[bx] at c0
  by_cases hyn:y<0
  ·have bx:decide (y<0)=true:=decide_eq_true hyn
   rw[bx] at d0
   have hv:wrap64 (-cm (x.natAbs:Int) (y.natAbs:Int))=cm x y:=by
    rw[show wrap64 (-cm (x.natAbs:Int) (y.natAbs:Int))=-cm (x.natAbs:Int) (y.natAbs:Int) by unfold wrap64;omega,cm_neg]
    exact cm_congr (by omega) (by omega)
   have HV:=zX hv
   have HV2:=zX (show -cm (x.natAbs:Int) (y.natAbs:Int)=cm x y by rw[cm_neg];exact cm_congr (by omega) (by omega))
   have hbb:(true != true)=false:=rfl
   clear hxn hyn hv bx
   generalize cm (x.natAbs:Int) (y.natAbs:Int)=g at *
   go_enter Tryz.func68,Tryz.ntmps68
   go_wp2_with fail
   go_quiet (fail)
   go_wp2_with fail
   refine zU (fun W=>W.cell? ⟨p,1,none⟩=some v∧W.cell? ⟨q,1,none⟩=some u) (by kernel_rfl) ?_
   refine qR 0 8 2 ?_
   simp only[zTD]
   repeat (refine zS (fun K hK=>?_);go_simp;first|(refine zQ ?_ (fun W hW=>?_) (hK _ ?_);rotate_left;(obtain⟨h1,h2⟩:=hW;go_simp;first|done|rfl);clear hK K)|(refine hK _ ?_;clear hK K))
   refine zO ?_
   refine qO 8 1 ⟨c1,d1⟩ ?_
   simp only[zTD]
   go_wp2_with fail
   refine (uX CM _).mono ?_
   rintro e w1 ⟨⟨k,rfl⟩,rfl⟩
   go_wp2_with fail
   first|refine zN ?_|refine zG ?_
   refine qO 9 0 ⟨c1,d1⟩ ?_
   simp only[zTD]
   go_wp2_with fail
   first|refine zN ?_|refine zG ?_
   refine zE (by kernel_rfl) ⟨c1,d1⟩ ?_
   go_wp2_with fail
   go_ret
   refine⟨?_,?_⟩
   rotate_left
   first|exact congrArg (fun z=>Ending.returned (Value.int .i64 z)) (uX HV)|exact congrArg (fun z=>Ending.returned (Value.int .i64 z)) (uX HV2)
   first|exact drew_e1 _ _|exact drew_e2 _ _ _|exact drew_e3 _ _ _ _|exact⟨_,rfl⟩|exact⟨_,(World.drewN_drewN ..)⟩
  ·have bx:decide (y<0)=false:=decide_eq_false hyn
   rw[bx] at d0
   have hv:cm x y=-1:=by unfold cm;rw[if_pos (by omega)]
   rw[hv]
   clear CM hr
   go_enter Tryz.func68,Tryz.ntmps68
   go_wp2_with fail
   go_quiet (fail)
   go_wp2_with fail
   go_ret
   exact⟨⟨_,rfl⟩,rfl⟩
 ·have bx:decide (x<0)=false:=decide_eq_false hxn
  rw[bx] at c0
  by_cases hyn:y<0
  ·have bx:decide (y<0)=true:=decide_eq_true hyn
   rw[bx] at d0
   have hv:cm x y=1:=by unfold cm;rw[if_neg (by omega),if_neg (by omega)]
   rw[hv]
   clear CM hr
   go_enter Tryz.func68,Tryz.ntmps68
   go_wp2_with fail
   go_quiet (fail)
   go_wp2_with fail
   go_ret
   exact⟨⟨_,rfl⟩,rfl⟩
  ·have bx:decide (y<0)=false:=decide_eq_false hyn
   rw[bx] at d0
   have hv:cm (x.natAbs:Int) (y.natAbs:Int)=cm x y:=cm_congr (by omega) (by omega)
   have HV:=zX hv
   clear hxn hyn hv bx
   generalize cm (x.natAbs:Int) (y.natAbs:Int)=g at *
   go_enter Tryz.func68,Tryz.ntmps68
   go_wp2_with fail
   go_quiet (fail)
   go_wp2_with fail
   refine zU (fun W=>W.cell? ⟨p,1,none⟩=some v∧W.cell? ⟨q,1,none⟩=some u) (by kernel_rfl) ?_
   refine qR 0 8 2 ?_
   simp only[zTD]
   repeat (refine zS (fun K hK=>?_);go_simp;first|(refine zQ ?_ (fun W hW=>?_) (hK _ ?_);rotate_left;(obtain⟨h1,h2⟩:=hW;go_simp;first|done|rfl);clear hK K)|(refine hK _ ?_;clear hK K))
   refine zO ?_
   refine qO 8 1 ⟨c1,d1⟩ ?_
   simp only[zTD]
   go_wp2_with fail
   refine (uX CM _).mono ?_
   rintro e w1 ⟨⟨k,rfl⟩,rfl⟩
   go_wp2_with fail
   first|refine zN ?_|refine zG ?_
   refine qO 9 0 ⟨c1,d1⟩ ?_
   simp only[zTD]
   go_wp2_with fail
   first|refine zN ?_|refine zG ?_
   refine zE (by kernel_rfl) ⟨c1,d1⟩ ?_
   go_wp2_with fail
   go_ret
   refine⟨?_,?_⟩
   rotate_left
   first|exact congrArg (fun z=>Ending.returned (Value.int .i64 z)) (uX HV)|exact congrArg (fun z=>Ending.returned (Value.int .i64 z)) (uX HV2)
   first|exact drew_e1 _ _|exact drew_e2 _ _ _|exact drew_e3 _ _ _ _|exact⟨_,rfl⟩|exact⟨_,(World.drewN_drewN ..)⟩
structure SmInv (A Q:List Int)(k:Nat)(r d:Int):Prop where
 len:Q.length=A.length
 wds:Wds Q
 zer:∀ j,j<k→Q.getD j 0=0
 r0:0≤r
 r1:r<d
 val:vl A=vl (A.take k)+d*vl Q+4294967296 ^ k*r
theorem SmInv.start (A:List Int){d:Int}(hd:0<d):SmInv A (List.replicate A.length 0) A.length 0 d :=
 ⟨by simp,wds_rep _,fun j _=>getD_rep _ j,by decide,hd,by rw[vl_rep,List.take_of_length_le (Nat.le_refl _)];simp⟩
theorem quo_fit {r x d:Int}(r0:0≤r)(r1:r<d)(hx:0≤x∧x≤4294967295):0≤(r*4294967296+x) / d∧(r*4294967296+x) / d≤4294967295∧0≤(r*4294967296+x) % d∧(r*4294967296+x) % d<d∧r*4294967296+x=d*((r*4294967296+x) / d)+(r*4294967296+x) % d:=by
 have hd:0<d:=by omega
 refine⟨Int.ediv_nonneg (by omega) (by omega),?_,Int.emod_nonneg _ (by omega),Int.emod_lt_of_pos _ hd,(Int.mul_ediv_add_emod _ _).symm⟩
 have:(r*4294967296+x) / d<4294967296:=by
  apply Int.ediv_lt_of_lt_mul hd
  have h1:(r+1)*4294967296≤d*4294967296:=Int.mul_le_mul_of_nonneg_right (by omega) (by decide)
  omega
 omega
theorem SmInv.next {A Q:List Int}{m:Nat}{r d:Int}(h:SmInv A Q (m+1) r d)(hm:m<A.length)(hA:Wds A) :
  SmInv A (Q.set m ((r*4294967296+A.getD m 0) / d)) m ((r*4294967296+A.getD m 0) % d) d:=by
 obtain⟨h1,h2,h3,h4,h5,h6⟩:=h
 have a:=hA.get m
 obtain⟨q1,q2,q3,q4,q5⟩:=quo_fit h4 h5 a
 have t:=vl_take A m
 have s:=vl_set Q m ((r*4294967296+A.getD m 0) / d) (by omega)
 rw[h3 m (by omega)] at s
 refine⟨by rw[List.length_set];exact h1,h2.set _ ⟨q1,q2⟩,fun j hj=>by rw[qal (by omega)];exact h3 j (by omega),q3,q4,?_⟩
 rw[t] at h6
 rw[s,h6,Int.pow_succ]
 generalize (r*4294967296+A.getD m 0) / d=q at *
 generalize (r*4294967296+A.getD m 0) % d=r' at *
 generalize A.getD m 0=x at *
 generalize (4294967296:Int) ^ m=P at *
 clear s t h1 h2 h3 h4 h5 h6 q1 q2 q3 q4
 grind
theorem SmInv.done {A Q:List Int}{r d:Int}(h:SmInv A Q 0 r d):vl Q=vl A / d∧r=vl A % d:=by
 obtain⟨h1,h2,h3,h4,h5,h6⟩:=h
 have e:vl A=r+d*vl Q:=by simp[vl] at h6;omega
 rw[e]
 constructor
 ·rw[Int.add_mul_ediv_left _ _ (by omega),Int.ediv_eq_zero_of_lt h4 h5];omega
 ·rw[Int.add_mul_emod_self_left,Int.emod_eq_of_lt h4 h5]
theorem or_two' (y x:Int)(hy:0≤y∧y≤4294967295)(hx:0≤x∧x≤4294967295):bits .or .u64 (y*4294967296) x=y*4294967296+x:=by
 obtain⟨hx1,hx2⟩:=hx
 obtain⟨hy1,hy2⟩:=hy
 go_bits2
theorem small_any (v:Value)(n d:Int)(w:World)(h:Dg w v n)(hn:n<4294967296 ^ 8)(hd:0<d)(hd1:d≤4294967295) :
  Calls Tryz.prog 165 #[v,.int .u32 d] w fun e w'=>Below w.heap.size w w'∧∃ v',e=.returned (.tuple #[v',.int .u32 (n % d)])∧Dg w' v' (n / d):=by
 obtain⟨LA,rA,iA⟩:=h
 have lA:=iA.len 8 hn
 obtain⟨aoA,capA,rfl,_,_,_,hA4,hA5,hA6⟩:=rA.at
 have HRA:=zX (fun d (he:aoA=some ⟨d,0,none⟩)=>And.intro (hA4 d 0 none he).2.2 (hA6 d he))
 have HA5:=zX hA5
 have IA:=zX iA
 clear hA4 hA5 hA6 rA iA
 have O0:=zX (Own32.new w LA.length)
 have K0:=zX (qaa w (.cells (madeCells #[.int .u32 0] LA.length) 159))
 have hmk:=make32 LA.length (by omega)
 have hd0:(d==0)=false:=zBq (by omega)
 go_enter Tryz.func165,Tryz.ntmps165
 go_wp2_with fail
 clear hmk
 go_loopg [7,8] LA.length (fun g c t wr=>∃ (k:Nat) (r:Int) (Q:List Int),k≤LA.length∧g=k∧c=.int .u64 r∧t=.int .i64 ((k:Int) - 1)∧Hid (Own32 wr w.heap.size Q)∧Hid (Below w.heap.size w wr)∧Hid (SmInv LA Q k r d))
 case atStart=>exact⟨LA.length,0,_,Nat.le_refl _,rfl,rfl,by go_num,O0,K0,SmInv.start LA hd⟩
 case round =>
  obtain⟨k,r,Q,hk,hg,rfl,rfl,hO,hK,hI⟩:=hrel
  clear O0 K0
  have hz:=(uX hK).size
  have hlt:=(uX hO).lt
  have r0:=(uX hI).r0
  have r1:=(uX hI).r1
  have hQl:=zX (uX hI).len
  by_cases k0:k=0
  ·subst k0
   have RW:=(uX hO).row (by rw[uX hQl];unfold maxLen;omega)
   have TR:=qbf _ _ _ RW (uX hI).wds (by rw[uX hQl];omega)
   obtain⟨e1,e2⟩:=(uX hI).done
   rw[uX hQl,e1,(uX IA).2.2] at TR
   rw[(uX IA).2.2] at e2
   have HT:=zX TR
   have HE:=zX e2
   clear TR RW e1 e2
   go_wp2_with fail
   refine (uX HT).mono ?_
   rintro e w1 ⟨rfl,v1,rfl,D1⟩
   have HD:=zX D1
   clear D1
   go_wp2_with fail
   go_ret2
   exact⟨uX hK,_,congrArg (fun z=>Ending.returned (.tuple #[_,.int .u32 z])) (uX HE),uX HD⟩
  ·obtain⟨m,rfl⟩:∃ m,k=m+1:=⟨k - 1,by omega⟩
   obtain⟨dA,rfl⟩:=uX HA5 (by omega)
   obtain⟨hdA,hcA⟩:=uX HRA dA rfl
   have cA:=zK (uX hK) hdA (hcA m (by omega))
   have gA:=(uX IA).1.get m
   have hf:=(uX hO).frozen m
   have cQ:=(uX hO).cell m (by have:=uX hQl;omega)
   have e1:(((m+1:Nat):Int) - 1)=(m:Int):=by omega
   have hm0:(0:Int)≤(m:Int):=by omega
   have hmA:(m:Int)<(LA.length:Int):=by omega
   have hne:dA≠w.heap.size:=by omega
   have NX:=zX ((uX hI).next (by omega) (uX IA).1)
   have OX:=zX ((uX hO).set m ((r*4294967296+LA.getD m 0) / d) (by have:=uX hQl;omega))
   have KX:=zX ((uX hK).setCell (p:=⟨w.heap.size,m,none⟩) (Nat.le_refl _) (.int .u32 ((r*4294967296+LA.getD m 0) / d)))
   obtain⟨q1,q2,q3,q4,q5⟩:=quo_fit r0 r1 gA
   have ho:=or_two' r (LA.getD m 0) ⟨r0,by omega⟩ gA
   clear hcA q5
   generalize LA.getD m 0=x at *
   generalize Q.getD m 0=z at *
   obtain⟨T,hT⟩:∃ T,T=r*4294967296+x:=⟨_,rfl⟩
   rw[← hT] at q1 q2 q3 q4 ho NX OX KX
   have T0:0≤T∧T≤18446744073709551615:=by omega
   clear hT
   go_wp2_with fail
   go_roundg m
   case measure=>omega
   case rel=>exact⟨m,_,_,by omega,rfl,rfl,by go_num,OX,KX,NX⟩
theorem Row.one (w:World)(x:Int):Row (w.alloc (.cells #[.int .u32 x] 159)) (.slice (some ⟨w.heap.size,0,none⟩) 1 1) [x]:=by
 refine .inr ⟨w.heap.size,1,#[.int .u32 x],(0,0),rfl,by simp,by decide,?_,fun j hj=>?_⟩
 ·show (w.heap.push _)[w.heap.size]?=_
  simp
 ·match j,hj with
  | 0,_=>rfl
theorem divOf {n1 n2:Int}(h1:0≤n1)(h2:0<n2):0≤n1 / n2∧n1 / n2≤n1∧0≤n1 % n2∧n1 % n2<n2∧n1 % n2≤n1:=by
 refine⟨Int.ediv_nonneg h1 (by omega),Int.ediv_le_self _ h1,Int.emod_nonneg _ (by omega),Int.emod_lt_of_pos _ h2,?_⟩
 have h3:=Int.mul_ediv_add_emod n1 n2
 have h4:0≤n2*(n1 / n2):=Int.mul_nonneg (by omega) (Int.ediv_nonneg h1 (by omega))
 omega
theorem div_short (v1 v2:Value)(n1 n2:Int)(w:World)(h1:Dg w v1 n1)(h2:Dg w v2 n2)(hn1:n1<4294967296 ^ 8)(hn2:n2<4294967296 ^ 8)(hp:0<n2)(hs:n1<n2∨n1<18446744073709551616∨n2<4294967296) :
  Calls Tryz.prog 144 #[v1,v2] w fun e w'=>Below w.heap.size w w'∧∃ q r,e=.returned (.tuple #[q,r])∧Dg w' q (n1 / n2)∧Dg w' r (n1 % n2):=by
 have H1:=zX h1
 have H2:=zX h2
 have CM:=zX (cmp_any v1 v2 n1 n2 w h1 h2 hn1 hn2)
 obtain⟨LA,rA,iA⟩:=h1
 obtain⟨LB,rB,iB⟩:=h2
 have lA:=iA.len 8 hn1
 have lB:=iB.len 8 hn2
 have lo1:=iA.lo
 obtain⟨q1,q2,q3,q4,q5⟩:=divOf lo1 hp
 obtain⟨aoA,capA,rfl,_,_,_,hA4,hA5,hA6⟩:=rA.at
 obtain⟨aoB,capB,rfl,_,_,_,hB4,hB5,hB6⟩:=rB.at
 have HRB:=zX (fun d (he:aoB=some ⟨d,0,none⟩)=>And.intro (hB4 d 0 none he).2.2 (hB6 d he))
 have HB5:=zX hB5
 have IA:=zX iA
 have IB:=zX iB
 have l0:LB.length≠0:=fun e=>by have:=iB.zero.1 e;omega
 have hb0:((LB.length:Int)==0)=false:=zBq (by omega)
 clear hA4 hA5 hA6 hB4 hB5 hB6 rA rB iA iB
 by_cases hlt:n1<n2
 ·have hcm:decide (cm n1 n2<0)=true:=by unfold cm;rw[if_pos hlt];decide
  have e1:n1 / n2=0:=Int.ediv_eq_zero_of_lt lo1 hlt
  have e2:n1 % n2=n1:=Int.emod_eq_of_lt lo1 hlt
  rw[e1,e2]
  clear hs q1 q2 q3 q4 q5 e1 e2
  go_enter Tryz.func144,Tryz.ntmps144
  go_wp2_with fail
  refine (uX CM).mono ?_
  rintro e w1 ⟨⟨k,rfl⟩,rfl⟩
  go_wp2_with fail
  refine (twin_any _ n1 (w.drewN k) (uX H1) hn1).mono ?_
  rintro e w2 ⟨k1,v,rfl,D1⟩
  have K1:=zX (of_drewN k1)
  have HD:=zX D1
  clear k1 D1
  go_wp2_with fail
  go_ret2
  exact⟨uX K1,_,_,rfl,Dg.nil _,uX HD⟩
 ·have hcm:decide (cm n1 n2<0)=false:=by unfold cm;rw[if_neg hlt];split <;> decide
  by_cases hl2:LA.length≤2
  ·have hn64:n1<18446744073709551616:=by
    have:=(uX IA).hi
    have:=bp_le hl2
    omega
   have hb2:decide ((LA.length:Int)≤2)=true:=decide_eq_true (by omega)
   have hnz:(n2==0)=false:=zBq (by omega)
   have P1:=zX (fun k=>plain_any _ n1 (w.drewN k) (uX H1) (by omega))
   have P2:=zX (fun k=>plain_any _ n2 (w.drewN k) (uX H2) (by omega))
   have WQ:=zX (fun W=>words_any (n1 / n2) W ⟨by omega,by omega⟩)
   have WR:=zX (fun W=>words_any (n1 % n2) W ⟨by omega,by omega⟩)
   have hr1:0≤n1∧n1≤18446744073709551615:=by omega
   have hr2:0≤n2∧n2≤18446744073709551615:=by omega
   have hnz':¬ (n2=0):=by omega
   have htd:n1.tdiv n2=n1 / n2:=Int.tdiv_eq_ediv_of_nonneg lo1
   have htm:n1.tmod n2=n1 % n2:=Int.tmod_eq_emod_of_nonneg lo1
   generalize hQ:n1 / n2=Q at *
   generalize hR:n1 % n2=R at *
   clear hs
   go_enter Tryz.func144,Tryz.ntmps144
   go_wp2_with fail
   refine (uX CM).mono ?_
   rintro e w1 ⟨⟨k,rfl⟩,rfl⟩
   go_wp2_with fail
   refine (uX P1 k).mono ?_
   rintro e w1 ⟨rfl,rfl⟩
   go_wp2_with fail
   refine (uX P2 k).mono ?_
   rintro e w1 ⟨rfl,rfl⟩
   go_wp2_with fail
   refine zU (fun W=>True) (by kernel_rfl) ?_
   refine qR 0 3 7 ?_
   simp only[zTD]
   repeat (refine zS (fun K hK=>?_);go_simp;first|(refine zQ ?_ (fun W hW=>?_) (hK _ ?_);rotate_left;(obtain h1:=hW;go_simp;first|done|rfl);clear hK K)|(refine hK _ ?_;clear hK K))
   refine zO ?_
   refine qR 4 3 4 ?_
   simp only[zTD]
   repeat (refine zS (fun K hK=>?_);go_simp;first|(refine zQ ?_ (fun W hW=>?_) (hK _ ?_);rotate_left;(obtain h1:=hW;go_simp;first|done|rfl);clear hK K)|(refine hK _ ?_;clear hK K))
   refine zO ?_
   refine qO 3 3 trivial ?_
   simp only[zTD]
   go_wp2_with fail
   refine (uX WQ _).mono ?_
   rintro e w1 ⟨k1,v1,rfl,D1⟩
   have K1:=zX (of_drewN (qbu k1))
   have HD1:=zX D1
   clear k1 D1
   go_wp2_with fail
   first|refine zN ?_|refine zG ?_
   refine qO 7 2 trivial ?_
   simp only[zTD]
   go_wp2_with fail
   refine (uX WR _).mono ?_
   rintro e w2 ⟨k2,v2,rfl,D2⟩
   have K2:=zX k2
   have HD2:=zX D2
   clear k2 D2
   go_wp2_with fail
   first|refine zN ?_|refine zG ?_
   refine qR 8 2 0 ?_
   simp only[zTD]
   repeat (refine zS (fun K hK=>?_);go_simp;first|(refine zQ ?_ (fun W hW=>?_) (hK _ ?_);rotate_left;(obtain h1:=hW;go_simp;first|done|rfl);clear hK K)|(refine hK _ ?_;clear hK K))
   refine zO ?_
   refine zE (by kernel_rfl) trivial ?_
   go_wp2_with fail
   go_ret2
   exact⟨(uX K1).trans ((uX K2).mono (uX K1).size),_,_,rfl,(uX HD1).step (uX K2),uX HD2⟩
  ·have hn64:18446744073709551616≤n1:=by
    have:=is_top (uX IA) (k:=LA.length - 1) (by omega)
    have:=bp_le (a:=2) (b:=LA.length - 1) (by omega)
    omega
   have hn32:n2<4294967296:=by omega
   have hb2:decide ((LA.length:Int)≤2)=false:=decide_eq_false (by omega)
   have l1:LB.length=1:=by have:=(uX IB).len 1 (by omega);omega
   have hb1:((LB.length:Int)==1)=true:=by rw[l1];rfl
   obtain⟨d,rfl⟩:=uX HB5 l0
   obtain⟨hd,hc⟩:=uX HRB d rfl
   have c0:=hc 0 (by omega)
   have hv:LB.getD 0 0=n2:=((is_two (uX IB) (by omega)).2.2.1 l1).symm
   rw[hv] at c0
   have SM:=zX (fun k=>small_any _ n1 n2 (w.drewN k) (uX H1) hn1 hp (by omega))
   clear hc hs hv
   rw[l1] at CM ⊢
   go_enter Tryz.func144,Tryz.ntmps144
   go_wp2_with fail
   refine (uX CM).mono ?_
   rintro e w1 ⟨⟨k,rfl⟩,rfl⟩
   go_wp2_with fail
   refine (uX SM k).mono ?_
   rintro e w1 ⟨k1,v1,rfl,D1⟩
   have K1:=zX (of_drewN k1)
   have HD1:=zX D1
   clear k1 D1
   go_wp2_with fail
   refine (qbf _ _ _ (Row.one w1 (n1 % n2)) (by intro y hy;simp at hy;omega) (by simp)).mono ?_
   rintro e w2 ⟨rfl,v2,rfl,D2⟩
   have K2:=zX (qaa w1 (.cells #[.int .u32 (n1 % n2)] 159))
   have e0:vl [n1 % n2]=n1 % n2:=by simp[vl]
   rw[e0] at D2
   have HD2:=zX D2
   clear D2 e0
   go_wp2_with fail
   go_ret2
   exact⟨(uX K1).trans ((uX K2).mono (uX K1).size),_,_,rfl,(uX HD1).step (uX K2),uX HD2⟩
end Go.Proofs.YtjpnnmkefaodoaaGreat
