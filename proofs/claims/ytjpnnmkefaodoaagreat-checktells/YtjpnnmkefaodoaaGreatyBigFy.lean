/-
  BigF, BigB, BigG.
-/
import Derived.Test.YtjpnnmkefaodoaaGreatyBigCy
set_option maxHeartbeats 8000000
set_option maxRecDepth 100000
namespace Go.Proofs.YtjpnnmkefaodoaaGreat
open Go.RowKit
set_option linter.unusedSimpArgs false
set_option linter.unusedVariables false
structure Tn2 (p r:Nat)(w w':World):Prop where
 os:w'.os=w.os
 tape:w'.tape=w.tape
 output:w'.output=w.output
 size:w.heap.size≤w'.heap.size
 block:∀ k,k<w.heap.size→k≠p→k≠r→w'.heap[k]?=w.heap[k]?
theorem Tn2.of {p r:Nat}{w w1 w':World}(h:Tn p w w1)(k:Tn r w1 w'):Tn2 p r w w' :=
 ⟨k.os.trans h.os,k.tape.trans h.tape,k.output.trans h.output,Nat.le_trans h.size k.size,fun i hi h1 h2=>(k.block i (Nat.lt_of_lt_of_le hi h.size) h2).trans (h.block i hi h1)⟩
theorem Tn2.trans {p r:Nat}{a b c:World}(h:Tn2 p r a b)(k:Tn2 p r b c):Tn2 p r a c :=
 ⟨k.os.trans h.os,k.tape.trans h.tape,k.output.trans h.output,Nat.le_trans h.size k.size,fun i hi h1 h2=>(k.block i (Nat.lt_of_lt_of_le hi h.size) h1 h2).trans (h.block i hi h1 h2)⟩
theorem Tn.left {p r:Nat}{w w':World}(h:Tn p w w'):Tn2 p r w w':=⟨h.os,h.tape,h.output,h.size,fun k hk h1 _=>h.block k hk h1⟩
theorem Tn.right {p r:Nat}{w w':World}(h:Tn r w w'):Tn2 p r w w':=⟨h.os,h.tape,h.output,h.size,fun k hk _ h2=>h.block k hk h2⟩
theorem Tn2.below {p r B:Nat}{w w':World}(h:Tn2 p r w w')(hp:B≤p)(hr:B≤r)(hB:B≤w.heap.size):Below B w w':=⟨h.os,h.tape,h.output,h.size,fun k hk=>h.block k (by omega) (by omega) (by omega)⟩
theorem Big.tn2 {w w':World}{p r q:Nat}{z:Int}(h:Big w q z)(k:Tn2 p r w w')(hp:IntAt w p)(hr:IntAt w r)(h1:q≠p)(h2:q≠r):Big w' q z:=by
 have hl:=h.lt
 obtain⟨v,e1,L,hR,hI⟩:=h
 refine⟨v,by rw[k.block q hl h1 h2];exact e1,L,?_,hI⟩
 rcases hR with hR|⟨d,cap,cs,fz,g1,g2,g3,g4,g5⟩
 ·exact .inl hR
 ·refine .inr ⟨d,cap,cs,fz,g1,g2,g3,?_,g5⟩
  rw[k.block d (Array.getElem?_eq_some_iff.1 g4).1 ?_ ?_];exact g4
  ·rintro rfl
   obtain⟨s,u,e⟩:=hp
   rw[g4] at e
   simp at e
  ·rintro rfl
   obtain⟨s,u,e⟩:=hr
   rw[g4] at e
   simp at e
theorem IntAt.tn2 {w w':World}{p r q:Nat}(h:IntAt w q)(k:Tn2 p r w w')(h1:q≠p)(h2:q≠r):IntAt w' q:=by
 have:=h.lt
 obtain⟨s,v,e⟩:=h
 exact⟨s,v,by rw[k.block q this h1 h2];exact e⟩
def DivOk (n1 n2:Int):Prop:=∀ (w:World) (v1 v2:Value),Dg w v1 n1→Dg w v2 n2 →
 Calls Tryz.prog 144 #[v1,v2] w fun e w'=>Below w.heap.size w w'∧∃ q r,e=.returned (.tuple #[q,r])∧Dg w' q (n1 / n2)∧Dg w' r (n1 % n2)
theorem qbg {n1 n2:Int}(hn1:n1<4294967296 ^ 8)(hn2:n2<4294967296 ^ 8)(hp:0<n2)(hs:n1<n2∨n1<18446744073709551616∨n2<4294967296):DivOk n1 n2 :=
 fun w v1 v2 h1 h2=>div_short v1 v2 n1 n2 w h1 h2 hn1 hn2 hp hs
theorem sg_quo (x y:Int):sg (decide (x<0) != decide (y<0)) ((x.natAbs:Int) / (y.natAbs:Int))=x.tdiv y:=by
 unfold sg
 by_cases hx:x<0 <;> by_cases hy:y<0 <;> simp only[hx,hy,decide_true,decide_false]
 ·rw[show (x.natAbs:Int)=-x by omega,show (y.natAbs:Int)=-y by omega]
  have:=Int.neg_tdiv_neg x y
  rw[← this,Int.tdiv_eq_ediv_of_nonneg (by omega)];rfl
 ·rw[show (x.natAbs:Int)=-x by omega,show (y.natAbs:Int)=y by omega]
  rw[← Int.tdiv_eq_ediv_of_nonneg (by omega),Int.neg_tdiv,Int.neg_neg];rfl
 ·rw[show (x.natAbs:Int)=x by omega,show (y.natAbs:Int)=-y by omega]
  rw[← Int.tdiv_eq_ediv_of_nonneg (by omega),Int.tdiv_neg,Int.neg_neg];rfl
 ·rw[show (x.natAbs:Int)=x by omega,show (y.natAbs:Int)=y by omega]
  rw[← Int.tdiv_eq_ediv_of_nonneg (by omega)];rfl
theorem sg_rem (x y:Int):sg (decide (x<0)) ((x.natAbs:Int) % (y.natAbs:Int))=x.tmod y:=by
 have ey:(x.natAbs:Int) % (y.natAbs:Int)=(x.natAbs:Int).tmod y:=by
  rw[← Int.tmod_eq_emod_of_nonneg (by omega)]
  by_cases hy:y<0
  ·rw[show (y.natAbs:Int)=-y by omega,Int.tmod_neg]
  ·rw[show (y.natAbs:Int)=y by omega]
 rw[ey]
 unfold sg
 by_cases hx:x<0
 ·rw[if_pos (by simp[hx]),show (x.natAbs:Int)=-x by omega,Int.neg_tmod,Int.neg_neg]
 ·rw[if_neg (by simp[hx]),show (x.natAbs:Int)=x by omega]
theorem quorem_any (p a b r:Nat)(x y:Int)(w:World)(hp:IntAt w p)(hr:IntAt w r)(ha:Big w a x)(hb:Big w b y)(hne:p≠r)(hd:DivOk x.natAbs y.natAbs)(hx:x.natAbs<4294967296 ^ 8)(hy:y.natAbs<4294967296 ^ 8)(h0:y≠0) :
  Calls Tryz.prog 112 #[.pointer (some ⟨p,0,none⟩),.pointer (some ⟨a,0,none⟩),.pointer (some ⟨b,0,none⟩),.pointer (some ⟨r,0,none⟩)] w fun e w'=>e=.returned (.tuple #[.pointer (some ⟨p,0,none⟩),.pointer (some ⟨r,0,none⟩)])∧Tn2 p r w w'∧Big w' p (x.tdiv y)∧Big w' r (x.tmod y):=by
 obtain⟨v,c0,c1,hD,hlt⟩:=ha.cells
 obtain⟨u,d0,d1,hE,hlr⟩:=hb.cells
 have HP:=zX hp
 have HR:=zX hr
 have DV:=zX (fun k=>hd (w.drewN k) v u hD hE)
 have SQ:=zX (sg_quo x y)
 have SR:=zX (sg_rem x y)
 obtain⟨q1,q2,q3,q4,q5⟩:=divOf (n1:=(x.natAbs:Int)) (n2:=(y.natAbs:Int)) (by omega) (by omega)
 clear hp hr ha hb hD hE hd
 go_enter Tryz.func112,Tryz.ntmps112
 go_wp2_with fail
 go_quiet (fail)
 go_wp2_with fail
 refine zU (fun W=>W.cell? ⟨a,1,none⟩=some v∧W.cell? ⟨b,1,none⟩=some u) (by kernel_rfl) ?_
 refine qR 0 8 6 ?_
 simp only[zTD]
 repeat (refine zS (fun K hK=>?_);go_simp;first|(refine zQ ?_ (fun W hW=>?_) (hK _ ?_);rotate_left;(obtain⟨h1,h2⟩:=hW;go_simp;first|done|rfl);clear hK K)|(refine hK _ ?_;clear hK K))
 refine zO ?_
 refine qO 8 5 ⟨c1,d1⟩ ?_
 simp only[zTD]
 go_wp2_with fail
 refine (uX DV _).mono ?_
 rintro e w1 ⟨k1,q,t,rfl,D1,D2⟩
 have K1:=zX (of_drewN k1)
 have HD1:=zX D1
 have HD2:=zX D2
 have c11:=zK (uX K1) hlt c1
 have d11:=zK (uX K1) hlr d1
 clear k1 D1 D2
 go_wp2_with fail
 first|refine zN ?_|refine zG ?_
 refine qR 9 5 0 ?_
 simp only[zTD]
 repeat (refine zS (fun K hK=>?_);go_simp;first|(refine zQ ?_ (fun W hW=>?_) (hK _ ?_);rotate_left;(obtain⟨h1,h2⟩:=hW;go_simp;first|done|rfl);clear hK K)|(refine hK _ ?_;clear hK K))
 refine zO ?_
 refine zE (by kernel_rfl) ⟨c11,d11⟩ ?_
 go_wp2_with fail
 refine (qa8 p (decide (x<0) != decide (y<0)) q _ w1 ((uX HP).step (uX K1)) (uX HD1) (by omega)).mono ?_
 rintro e w2 ⟨rfl,k2,b2⟩
 rw[uX SQ] at b2
 have K2:=zX k2
 have B2:=zX b2
 have T2:=zX ((uX HD2).tn (uX K2) ((uX HP).step (uX K1)))
 have R2:=zX (((uX HR).step (uX K1)).tn (uX K2) (Ne.symm hne))
 clear k2 b2
 go_wp2_with fail
 refine (qa8 r _ t _ w2 (uX R2) (uX T2) (by omega)).mono ?_
 rintro e w3 ⟨rfl,k3,b3⟩
 rw[uX SR] at b3
 have K3:=zX k3
 have B3:=zX b3
 have B23:=zX ((uX B2).tn (uX K3) (uX R2) hne)
 clear k3 b3
 go_wp2_with fail
 go_ret2
 exact⟨rfl,Tn2.of ((Tn.of (uX K1)).trans (uX K2)) (uX K3),uX B23,uX B3⟩
theorem fdiv_pos {x y:Int}(hy:0<y):(0≤x.tmod y→x.tdiv y=x / y∧x.tmod y=x % y)∧(x.tmod y<0→x.tdiv y - 1=x / y∧x.tmod y+y=x % y):=by
 have h1:=Int.mul_tdiv_add_tmod x y
 have h2:x.tmod y<y:=Int.tmod_lt_of_pos x hy
 have h3:-y<x.tmod y:=by
  by_cases hx:0≤x
  ·have:=Int.tmod_nonneg y hx;omega
  ·have e:(-x).tmod y=-(x.tmod y):=Int.neg_tmod ..
   have:(-x).tmod y<y:=Int.tmod_lt_of_pos _ hy
   omega
 constructor
 ·intro h
  have e:x=x.tmod y+y*x.tdiv y:=by omega
  constructor
  ·conv=>rhs;rw[e]
   rw[Int.add_mul_ediv_left _ _ (by omega),Int.ediv_eq_zero_of_lt h h2];omega
  ·conv=>rhs;rw[e]
   rw[Int.add_mul_emod_self_left,Int.emod_eq_of_lt h h2]
 ·intro h
  have e:x=(x.tmod y+y)+y*(x.tdiv y - 1):=by rw[Int.mul_sub,Int.mul_one];omega
  constructor
  ·conv=>rhs;rw[e]
   rw[Int.add_mul_ediv_left _ _ (by omega),Int.ediv_eq_zero_of_lt (by omega) (by omega)];omega
  ·conv=>rhs;rw[e]
   rw[Int.add_mul_emod_self_left,Int.emod_eq_of_lt (by omega) (by omega)]
theorem tdiv_abs (x y:Int)(h0:0<y):(x.tdiv y).natAbs≤x.natAbs∧(x.tmod y).natAbs≤x.natAbs:=by
 constructor
 ·rw[Int.natAbs_tdiv];exact Nat.div_le_self _ _
 ·rw[Int.natAbs_tmod];exact Nat.mod_le _ _
theorem divmod_any (p a b r:Nat)(x y:Int)(w:World)(hp:IntAt w p)(hr:IntAt w r)(ha:Big w a x)(hb:Big w b y)(hne:p≠r)(hd:DivOk x.natAbs y.natAbs)(hx:x.natAbs<4294967296 ^ 6)(hy:y.natAbs<4294967296 ^ 6)(h0:0<y) :
  Calls Tryz.prog 108 #[.pointer (some ⟨p,0,none⟩),.pointer (some ⟨a,0,none⟩),.pointer (some ⟨b,0,none⟩),.pointer (some ⟨r,0,none⟩)] w fun e w'=>e=.returned (.tuple #[.pointer (some ⟨p,0,none⟩),.pointer (some ⟨r,0,none⟩)])∧Tn2 p r w w'∧Big w' p (x / y)∧Big w' r (x % y):=by
 have HN:=zX (Big.new w)
 have KN:=zX (qaa w (.cells #[.bool false,.slice none 0 0] 127))
 have HP:=zX hp
 have HR:=zX hr
 have HA:=zX ha
 have HB:=zX hb
 have HD:=zX hd
 obtain⟨f1,f2⟩:=fdiv_pos (x:=x) h0
 obtain⟨a1,a2⟩:=tdiv_abs x y h0
 have lp:=hp.lt
 have lr:=hr.lt
 have la:=ha.lt
 have lb:=hb.lt
 clear hp hr ha hb hd
 go_enter Tryz.func108,Tryz.ntmps108
 go_wp2_with fail
 refine (set_any w.heap.size b y _ (uX HN).int ((uX HB).step (uX KN)) (by omega) (by omega)).mono ?_
 rintro e w1 ⟨rfl,k1,b1⟩
 have K1:=zX ((uX KN).trans (k1.below (Nat.le_refl _) (by simp)))
 have B1:=zX b1
 clear k1 b1
 go_wp2_with fail
 refine (quorem_any p a b r x y w1 ((uX HP).step (uX K1)) ((uX HR).step (uX K1)) ((uX HA).step (uX K1)) ((uX HB).step (uX K1)) hne (uX HD) (by omega) (by omega) (by omega)).mono ?_
 rintro e w2 ⟨rfl,k2,b2,c2⟩
 have K2:=zX k2
 have B2:=zX b2
 have C2:=zX c2
 have D2:=zX ((uX B1).tn2 (uX K2) ((uX HP).step (uX K1)) ((uX HR).step (uX K1)) (by omega) (by omega))
 obtain⟨vr,m0,m1,_,_⟩:=c2.cells
 obtain⟨vd,n0,n1,_,_⟩:=(uX D2).cells
 have lr2:=c2.lt
 have ld2:=(uX D2).lt
 clear k2 b2 c2
 by_cases hneg:x.tmod y<0
 ·have bn:decide (x.tmod y<0)=true:=decide_eq_true hneg
  have by0:decide (y<0)=false:=decide_eq_false (by omega)
  rw[bn] at m0
  rw[by0] at n0
  obtain⟨e1,e2⟩:=f2 hneg
  clear f1 f2 bn by0
  go_wp2_with fail
  refine (newI_any 1 w2 ⟨by decide,by decide⟩).mono ?_
  rintro e w3 ⟨rfl,k3,b3⟩
  have K3:=zX k3
  have B3:=zX b3
  clear k3 b3
  go_wp2_with fail
  refine (sub_big p p w2.heap.size (x.tdiv y) 1 w3 ((uX B2).int.step (uX K3)) ((uX B2).step (uX K3)) (uX B3) (by have:=(uX B2).lt;omega) (by omega) (by decide)).mono ?_
  rintro e w4 ⟨rfl,k4,b4⟩
  rw[e1] at b4
  have K4:=zX k4
  have B4:=zX b4
  have C4:=zX (((uX C2).step (uX K3)).tn (uX K4) ((uX B2).int.step (uX K3)) (Ne.symm hne))
  have D4:=zX (((uX D2).step (uX K3)).tn (uX K4) ((uX B2).int.step (uX K3)) (by omega))
  clear k4 b4
  go_wp2_with fail
  refine (add_big r r w.heap.size (x.tmod y) y w4 (uX C4).int (uX C4) (uX D4) (by omega) (by omega) (by omega)).mono ?_
  rintro e w5 ⟨rfl,k5,b5⟩
  rw[e2] at b5
  have K5:=zX k5
  have B5:=zX b5
  have B45:=zX ((uX B4).tn (uX K5) (uX C4).int hne)
  clear k5 b5
  go_wp2_with fail
  go_ret2
  exact⟨rfl,((Tn.left (Tn.of (uX K1))).trans (uX K2)).trans ((Tn.left ((Tn.of (uX K3)).trans (uX K4))).trans (Tn.right (uX K5))),uX B45,uX B5⟩
 ·have bn:decide (x.tmod y<0)=false:=decide_eq_false hneg
  rw[bn] at m0
  obtain⟨e1,e2⟩:=f1 (by omega)
  rw[e1] at B2
  rw[e2] at C2
  clear f1 f2 bn e1 e2
  go_wp2_with fail
  go_ret2
  exact⟨rfl,(Tn.left (Tn.of (uX K1))).trans (uX K2),uX B2,uX C2⟩
theorem mod_any (p a b:Nat)(x y:Int)(w:World)(hp:IntAt w p)(ha:Big w a x)(hb:Big w b y)(hd:DivOk x.natAbs y.natAbs)(hx:x.natAbs<4294967296 ^ 6)(hy:y.natAbs<4294967296 ^ 6)(h0:0<y) :
  Calls Tryz.prog 101 #[.pointer (some ⟨p,0,none⟩),.pointer (some ⟨a,0,none⟩),.pointer (some ⟨b,0,none⟩)] w fun e w'=>e=.returned (.pointer (some ⟨p,0,none⟩))∧Tn p w w'∧Big w' p (x % y):=by
 have HN:=zX (Big.new w)
 have KN:=zX (qaa w (.cells #[.bool false,.slice none 0 0] 127))
 have HP:=zX hp
 have HA:=zX ha
 have HB:=zX hb
 have HD:=zX hd
 have lp:=hp.lt
 clear hp ha hb hd
 go_enter Tryz.func101,Tryz.ntmps101
 go_wp2_with fail
 refine (divmod_any w.heap.size a b p x y _ (uX HN).int ((uX HP).step (uX KN)) ((uX HA).step (uX KN)) ((uX HB).step (uX KN)) (by omega) (uX HD) hx hy h0).mono ?_
 rintro e w1 ⟨rfl,k1,b1,c1⟩
 have K1:=zX k1
 have C1:=zX c1
 clear k1 b1 c1
 go_wp2_with fail
 go_ret
 refine⟨rfl,⟨(uX K1).os,(uX K1).tape,(uX K1).output,?_,fun k hk hn=>?_⟩,uX C1⟩
 ·have:=(uX K1).size;simp at this;omega
 ·rw[(uX K1).block k (by simp;omega) (by omega) hn];exact (uX KN).block k hk
theorem sg_mul2 (z:Int)(k:Nat):sg (decide (z<0)) ((z.natAbs:Int)*2 ^ k)=z*2 ^ k:=by
 have h:=sg_abs z
 unfold sg at *
 split
 ·rename_i hh;rw[if_pos hh] at h;rw[← Int.neg_mul,h]
 ·rename_i hh;rw[if_neg hh] at h;rw[h]
theorem sg_mulp (a b:Int):sg (decide (a<0) != decide (b<0)) ((a.natAbs:Int)*b.natAbs)=a*b:=by
 have h1:=sg_abs a
 have h2:=sg_abs b
 unfold sg at *
 by_cases ha:a<0 <;> by_cases hb:b<0 <;> simp[ha,hb] at h1 h2 ⊢
 ·rw[show (a.natAbs:Int)=-a by omega,show (b.natAbs:Int)=-b by omega];grind
 ·rw[show (a.natAbs:Int)=-a by omega,show (b.natAbs:Int)=b by omega];grind
 ·rw[show (a.natAbs:Int)=a by omega,show (b.natAbs:Int)=-b by omega];grind
 ·rw[show (a.natAbs:Int)=a by omega,show (b.natAbs:Int)=b by omega]
theorem lsh_any (p q k:Nat)(z:Int)(w:World)(hp:IntAt w p)(hq:Big w q z)(hne:q≠p)(hk:k≤1000)(hz:(z.natAbs:Int)*2 ^ k<4294967296 ^ 8) :
  Calls Tryz.prog 107 #[.pointer (some ⟨p,0,none⟩),.pointer (some ⟨q,0,none⟩),.int .u64 (k:Int)] w fun e w'=>e=.returned (.pointer (some ⟨p,0,none⟩))∧Tn p w w'∧Big w' p (z*2 ^ k):=by
 obtain⟨v,c0,c1,hD,hlt⟩:=hq.cells
 have HP:=zX hp
 have HQ:=zX hq
 have HD:=zX hD
 have hz1:(z.natAbs:Int)<4294967296 ^ 8:=by
  have h1:(1:Int)≤2 ^ k:=Int.pow_pos (by decide)
  have h2:=Int.mul_le_mul_of_nonneg_left h1 (show (0:Int)≤z.natAbs by omega)
  omega
 have HZ:=zX hz
 clear hp hq hD hz
 go_enter Tryz.func107,Tryz.ntmps107
 go_wp2_with fail
 refine zU (fun W=>W.cell? ⟨q,0,none⟩=some (.bool (decide (z<0)))∧W.cell? ⟨q,1,none⟩=some v) (by kernel_rfl) ?_
 refine qR 0 10 3 ?_
 simp only[zTD]
 repeat (refine zS (fun K hK=>?_);go_simp;first|(refine zQ ?_ (fun W hW=>?_) (hK _ ?_);rotate_left;(obtain⟨h1,h2⟩:=hW;go_simp;first|done|rfl);clear hK K)|(refine hK _ ?_;clear hK K))
 refine zO ?_
 refine qO 10 2 ⟨c0,c1⟩ ?_
 simp only[zTD]
 go_wp2_with fail
 refine (left_any v z.natAbs k w.drew (uX HD) hz1 hk).mono ?_
 rintro e w1 ⟨k1,v1,rfl,D1⟩
 have K1:=zX (qbu k1)
 have HD1:=zX D1
 have c01:=zK (uX K1) hlt c0
 have c11:=zK (uX K1) hlt c1
 have hp1:=zX ((uX HP).step (uX K1))
 clear k1 D1
 go_wp2_with fail
 first|refine zN ?_|refine zG ?_
 refine qO 11 1 ⟨c01,c11⟩ ?_
 simp only[zTD]
 go_wp2_with fail
 refine (qa8 p (decide (z<0)) v1 _ w1 (uX hp1) (uX HD1) (uX HZ)).mono ?_
 rintro e w2 ⟨rfl,k2,b2⟩
 rw[sg_mul2] at b2
 have K2:=zX k2
 have B2:=zX b2
 have hlt1:q<w1.heap.size:=Nat.lt_of_lt_of_le hlt (uX K1).size
 have c02:=(World.cell?_of_block (w:=w1) (a:=⟨q,0,none⟩) ((uX K2).block q hlt1 hne)).trans c01
 have c12:=(World.cell?_of_block (w:=w1) (a:=⟨q,1,none⟩) ((uX K2).block q hlt1 hne)).trans c11
 clear k2 b2
 go_wp2_with fail
 first|refine zN ?_|refine zG ?_
 refine qO 12 0 ⟨c02,c12⟩ ?_
 simp only[zTD]
 go_wp2_with fail
 first|refine zN ?_|refine zG ?_
 refine zE (by kernel_rfl) ⟨c02,c12⟩ ?_
 go_wp2_with fail
 go_ret
 exact⟨rfl,(Tn.of (uX K1)).trans (uX K2),uX B2⟩
theorem mul_big (p q r:Nat)(x y:Int)(w:World)(hp:IntAt w p)(hq:Big w q x)(hr:Big w r y)(hne:q≠p)(hnr:r≠p)(hx:x.natAbs<4294967296 ^ 4)(hy:y.natAbs<4294967296 ^ 4) :
  Calls Tryz.prog 111 #[.pointer (some ⟨p,0,none⟩),.pointer (some ⟨q,0,none⟩),.pointer (some ⟨r,0,none⟩)] w fun e w'=>e=.returned (.pointer (some ⟨p,0,none⟩))∧Tn p w w'∧Big w' p (x*y):=by
 obtain⟨v,c0,c1,hD,hlt⟩:=hq.cells
 obtain⟨u,d0,d1,hE,hlr⟩:=hr.cells
 have HP:=zX hp
 have HD:=zX hD
 have HE:=zX hE
 have HZ:=zX (show (x.natAbs:Int)*y.natAbs<4294967296 ^ 8 by
  have h1:(x.natAbs:Int)*y.natAbs≤x.natAbs*4294967296 ^ 4:=Int.mul_le_mul_of_nonneg_left (by omega) (by omega)
  have h2:(x.natAbs:Int)*4294967296 ^ 4<4294967296 ^ 4*4294967296 ^ 4:=Int.mul_lt_mul_of_pos_right (by omega) (by decide)
  have h3:(4294967296:Int) ^ 4*4294967296 ^ 4=4294967296 ^ 8:=by decide
  omega)
 have hb:sg (decide (x<0) != decide (y<0)) ((x.natAbs:Int)*y.natAbs)=x*y:=sg_mulp x y
 have HB:=zX hb
 clear hp hq hr hD hE hb
 go_enter Tryz.func111,Tryz.ntmps111
 go_wp2_with fail
 refine zU (fun W=>W.cell? ⟨q,0,none⟩=some (.bool (decide (x<0)))∧W.cell? ⟨q,1,none⟩=some v∧W.cell? ⟨r,0,none⟩=some (.bool (decide (y<0)))∧W.cell? ⟨r,1,none⟩=some u) (by kernel_rfl) ?_
 refine qR 0 18 3 ?_
 simp only[zTD]
 repeat (refine zS (fun K hK=>?_);go_simp;first|(refine zQ ?_ (fun W hW=>?_) (hK _ ?_);rotate_left;(obtain⟨h1,h2,h3,h4⟩:=hW;go_simp;first|done|rfl);clear hK K)|(refine hK _ ?_;clear hK K))
 refine zO ?_
 refine qO 18 2 ⟨c0,c1,d0,d1⟩ ?_
 simp only[zTD]
 go_wp2_with fail
 refine (mul_bany v u x.natAbs y.natAbs w.drew (uX HD) (uX HE) (by omega) (by omega)).mono ?_
 rintro e w1 ⟨k1,v1,rfl,D1⟩
 have K1:=zX (qbu k1)
 have HD1:=zX D1
 have c01:=zK (uX K1) hlt c0
 have c11:=zK (uX K1) hlt c1
 have d01:=zK (uX K1) hlr d0
 have d11:=zK (uX K1) hlr d1
 have hp1:=zX ((uX HP).step (uX K1))
 clear k1 D1
 go_wp2_with fail
 first|refine zN ?_|refine zG ?_
 refine qO 19 1 ⟨c01,c11,d01,d11⟩ ?_
 simp only[zTD]
 go_wp2_with fail
 refine (qa8 p (decide (x<0) != decide (y<0)) v1 _ w1 (uX hp1) (uX HD1) (uX HZ)).mono ?_
 rintro e w2 ⟨rfl,k2,b2⟩
 rw[uX HB] at b2
 have K2:=zX k2
 have B2:=zX b2
 have hlt1:q<w1.heap.size:=Nat.lt_of_lt_of_le hlt (uX K1).size
 have hlr1:r<w1.heap.size:=Nat.lt_of_lt_of_le hlr (uX K1).size
 have CC:=And.intro ((World.cell?_of_block (w:=w1) (a:=⟨q,0,none⟩) ((uX K2).block q hlt1 hne)).trans c01) (And.intro ((World.cell?_of_block (w:=w1) (a:=⟨q,1,none⟩) ((uX K2).block q hlt1 hne)).trans c11) (And.intro ((World.cell?_of_block (w:=w1) (a:=⟨r,0,none⟩) ((uX K2).block r hlr1 hnr)).trans d01) ((World.cell?_of_block (w:=w1) (a:=⟨r,1,none⟩) ((uX K2).block r hlr1 hnr)).trans d11)))
 have CC:=zX CC
 clear k2 b2
 go_wp2_with fail
 first|refine zN ?_|refine zG ?_
 refine qO 20 0 (uX CC) ?_
 simp only[zTD]
 go_wp2_with fail
 first|refine zN ?_|refine zG ?_
 refine zE (by kernel_rfl) (uX CC) ?_
 go_wp2_with fail
 go_ret
 exact⟨rfl,(Tn.of (uX K1)).trans (uX K2),uX B2⟩
theorem rwidth_no (n:Int)(w:World)(h:NoW n) :
  Calls Tryz.prog 58 #[.int .i64 n] w fun e w'=>e=.returned (.bool false)∧Below w.heap.size w w':=by
 obtain⟨h1,h2,h3,h4⟩:=h
 have KB:=zX (qaa w (.cells #[.int .i64 8,.int .i64 16,.int .i64 32,.int .i64 64] 3))
 have BX:=zX (Box.new w #[.int .i64 8,.int .i64 16,.int .i64 32,.int .i64 64] 3)
 go_enter Tryz.func58,Tryz.ntmps58
 go_wp2_with fail
 generalize hW:w.alloc (.cells #[.int .i64 8,.int .i64 16,.int .i64 32,.int .i64 64] 3)=W at *
 clear hW
 go_loopg [7] 4 (fun g t wr=>∃ i:Nat,i≤4∧g=4 - i∧t=.int .i64 i∧wr=W)
 case atStart=>exact⟨0,by decide,rfl,rfl,rfl⟩
 case round =>
  obtain⟨i,hi,hg,rfl,rfl⟩:=hrel
  obtain⟨b1,b2,_⟩:=uX BX
  have c0:=b2 0 _ rfl
  have c1:=b2 1 _ rfl
  have c2:=b2 2 _ rfl
  have c3:=b2 3 _ rfl
  clear b2
  have hi4:i=0∨i=1∨i=2∨i=3∨i=4:=by omega
  rcases hi4 with rfl|rfl|rfl|rfl|rfl
  ·go_wp2_with fail
   go_roundg 3
   case measure=>omega
   case rel=>exact⟨1,by omega,rfl,rfl,rfl⟩
  ·go_wp2_with fail
   go_roundg 2
   case measure=>omega
   case rel=>exact⟨2,by omega,rfl,rfl,rfl⟩
  ·go_wp2_with fail
   go_roundg 1
   case measure=>omega
   case rel=>exact⟨3,by omega,rfl,rfl,rfl⟩
  ·go_wp2_with fail
   go_roundg 0
   case measure=>omega
   case rel=>exact⟨4,by omega,rfl,rfl,rfl⟩
  ·go_wp2_with fail
   go_ret
   exact⟨rfl,uX KB⟩
theorem qau (n:Int)(h:IsW n)(w:World) :
  Calls Tryz.prog 58 #[.int .i64 n] w fun e w'=>e=.returned (.bool true)∧Below w.heap.size w w':=by
 have KB:=zX (qaa w (.cells #[.int .i64 8,.int .i64 16,.int .i64 32,.int .i64 64] 3))
 have BX:=zX (Box.new w #[.int .i64 8,.int .i64 16,.int .i64 32,.int .i64 64] 3)
 have HN:=zX (show ∃ k:Nat,k≤3∧n=[8,16,32,64].getD k 0 by
  rcases h with rfl|rfl|rfl|rfl
  ·exact⟨0,by decide,rfl⟩
  ·exact⟨1,by decide,rfl⟩
  ·exact⟨2,by decide,rfl⟩
  ·exact⟨3,by decide,rfl⟩)
 clear h
 obtain⟨k,hk,rfl⟩:=uX HN
 clear HN
 go_enter Tryz.func58,Tryz.ntmps58
 go_wp2_with fail
 generalize hW:w.alloc (.cells #[.int .i64 8,.int .i64 16,.int .i64 32,.int .i64 64] 3)=W at *
 clear hW
 go_loopg [7] 4 (fun g t wr=>∃ i:Nat,i≤k∧g=4 - i∧t=.int .i64 i∧wr=W)
 case atStart=>exact⟨0,Nat.zero_le _,rfl,rfl,rfl⟩
 case round =>
  obtain⟨i,hi,hg,rfl,rfl⟩:=hrel
  obtain⟨b1,b2,_⟩:=uX BX
  have c0:=b2 0 _ rfl
  have c1:=b2 1 _ rfl
  have c2:=b2 2 _ rfl
  have c3:=b2 3 _ rfl
  clear b2
  have hk4:k=0∨k=1∨k=2∨k=3:=by omega
  have hi4:i=0∨i=1∨i=2∨i=3:=by omega
  rcases hk4 with rfl|rfl|rfl|rfl <;> rcases hi4 with rfl|rfl|rfl|rfl
  all_goals first
   | (exfalso;omega)
   | (go_wp2_with fail;go_ret;exact⟨rfl,uX KB⟩)
   | (go_wp2_with fail;go_roundg 3;(case measure=>omega);(case rel=>exact⟨1,by omega,rfl,rfl,rfl⟩))
   | (go_wp2_with fail;go_roundg 2;(case measure=>omega);(case rel=>exact⟨2,by omega,rfl,rfl,rfl⟩))
   | (go_wp2_with fail;go_roundg 1;(case measure=>omega);(case rel=>exact⟨3,by omega,rfl,rfl,rfl⟩))
theorem p64 {k:Nat}(h:k≤64):(0:Int)<2 ^ k∧(2:Int) ^ k≤18446744073709551616:=by
 refine⟨Int.pow_pos (by decide),?_⟩
 have e:(2:Int) ^ 64=2 ^ k*2 ^ (64 - k):=by rw[← Int.pow_add];congr 1;omega
 have h1:(0:Int)<2 ^ k:=Int.pow_pos (by decide)
 have h2:(1:Int)≤2 ^ (64 - k):=Int.pow_pos (by decide)
 have h3:=Int.mul_le_mul_of_nonneg_left h2 (Int.le_of_lt h1)
 have h4:(2:Int) ^ 64=18446744073709551616:=by decide
 omega
theorem big6:(18446744073709551616:Int)<4294967296 ^ 6∧(18446744073709551616:Int)<4294967296 ^ 8:=by decide
theorem one_pow {k:Nat}(h:(2:Int) ^ k≤18446744073709551616):(((1:Int).natAbs:Nat):Int)*2 ^ k<4294967296 ^ 8:=by
 have e:(((1:Int).natAbs:Nat):Int)*2 ^ k=2 ^ k:=Int.one_mul _
 rw[e]
 exact Int.lt_of_le_of_lt h big6.2
theorem pow_abs {k:Nat}(h:(2:Int) ^ k≤18446744073709551616)(h0:(0:Int)<2 ^ k):((2:Int) ^ k).natAbs<4294967296 ^ 6∧((((2:Int) ^ k).natAbs:Nat):Int)=2 ^ k:=by
 have e:((((2:Int) ^ k).natAbs:Nat):Int)=2 ^ k:=Int.natAbs_of_nonneg (Int.le_of_lt h0)
 refine⟨?_,e⟩
 omega
theorem two_any (k:Nat)(w:World)(hk:k≤64) :
  Calls Tryz.prog 102 #[.int .i64 (k:Int)] w fun e w'=>e=.returned (.pointer (some ⟨w.heap.size,0,none⟩))∧Below w.heap.size w w'∧Big w' w.heap.size (2 ^ k):=by
 have HN:=zX (Big.new w)
 have KN:=zX (qaa w (.cells #[.bool false,.slice none 0 0] 127))
 obtain⟨p1,p2⟩:=p64 hk
 have hs:(w.alloc (.cells #[.bool false,.slice none 0 0] 127)).heap.size=w.heap.size+1:=by simp
 have Z1:=zX (one_pow p2)
 go_enter Tryz.func102,Tryz.ntmps102
 go_wp2_with fail
 generalize w.alloc (.cells #[.bool false,.slice none 0 0] 127)=W at *
 refine (newI_any 1 W ⟨by decide,by decide⟩).mono ?_
 rintro e w1 ⟨rfl,k1,b1⟩
 have K1:=zX k1
 rw[hs] at b1
 have B1:=zX b1
 clear k1 b1
 go_wp2_with fail
 refine (lsh_any w.heap.size (w.heap.size+1) k 1 w1 ((uX HN).int.step (uX K1)) (uX B1) (by omega) (by omega) (uX Z1)).mono ?_
 rintro e w2 ⟨rfl,k2,b2⟩
 rw[Int.one_mul] at b2
 have K2:=zX k2
 have B2:=zX b2
 clear k2 b2
 go_wp2_with fail
 go_ret
 exact⟨rfl,(uX KN).trans (((uX K1).mono (by omega)).trans ((uX K2).below (Nat.le_refl _) (by have:=(uX K1).size;omega))),uX B2⟩
theorem fit_any (a:Nat)(x:Int)(k:Nat)(w:World)(ha:Big w a x)(hk:k≤64)(hx:x.natAbs<4294967296 ^ 6)(hd:DivOk x.natAbs (2 ^ k)) :
  Calls Tryz.prog 60 #[.pointer (some ⟨a,0,none⟩),.int .i64 (k:Int)] w fun e w'=>e=.returned (.int .u64 (x % 2 ^ k))∧Below w.heap.size w w':=by
 have HN:=zX (Big.new w)
 have KN:=zX (qaa w (.cells #[.bool false,.slice none 0 0] 127))
 obtain⟨p1,p2⟩:=p64 hk
 have q1:=Int.emod_nonneg x (show (2:Int) ^ k≠0 by omega)
 have q2:=Int.emod_lt_of_pos x p1
 have HA:=zX ha
 obtain⟨p3,p4⟩:=pow_abs p2 p1
 have HD:=zX (show DivOk x.natAbs ((2:Int) ^ k).natAbs by rw[p4];exact hd)
 have P3:=zX p3
 clear p3 p4
 have hs:(w.alloc (.cells #[.bool false,.slice none 0 0] 127)).heap.size=w.heap.size+1:=by simp
 clear ha hd
 go_enter Tryz.func60,Tryz.ntmps60
 go_wp2_with fail
 generalize w.alloc (.cells #[.bool false,.slice none 0 0] 127)=W at *
 refine (two_any k W hk).mono ?_
 rintro e w1 ⟨rfl,k1,b1⟩
 have K1:=zX k1
 rw[hs] at b1
 have B1:=zX b1
 clear k1 b1
 go_wp2_with fail
 refine (mod_any w.heap.size a (w.heap.size+1) x (2 ^ k) w1 ((uX HN).int.step (uX K1)) (((uX HA).step (uX KN)).step (uX K1)) (uX B1) (uX HD) hx (uX P3) p1).mono ?_
 rintro e w2 ⟨rfl,k2,b2⟩
 have K2:=zX k2
 have B2:=zX b2
 clear k2 b2
 generalize hX:x % 2 ^ k=X at *
 have HX:=zX hX
 clear hX
 have UA:=uint_any w.heap.size X w2 (uX B2) (by omega)
 rw[show ((X.natAbs:Nat):Int)=X by omega] at UA
 have HU:=zX UA
 clear UA
 go_wp2_with fail
 refine (uX HU).mono ?_
 rintro e w3 ⟨rfl,rfl⟩
 go_wp2_with fail
 go_ret
 exact⟨congrArg (fun z=>Ending.returned (Value.int .u64 z)) (uX HX).symm,(uX KN).trans (((uX K1).mono (by omega)).trans ((uX K2).below (Nat.le_refl _) (by have:=(uX K1).size;omega)))⟩
end Go.Proofs.YtjpnnmkefaodoaaGreat
