/-
  Big8, BigA, Big5.
-/
import Derived.Test.YtjpnnmkefaodoaaGreatyBig4y
set_option maxHeartbeats 8000000
set_option maxRecDepth 100000
namespace Go.Proofs.YtjpnnmkefaodoaaGreat
open Go.RowKit
set_option linter.unusedSimpArgs false
set_option linter.unusedVariables false
structure LeftInv (A R:List Int)(q s i:Nat):Prop where
 len:R.length=A.length+q+1
 wds:Wds R
 zer:∀ j,i+q+1≤j→R.getD j 0=0
 top:R.getD (i+q) 0<2 ^ s
 val:vl R=4294967296 ^ q*2 ^ s*vl (A.take i)
theorem LeftInv.start (A:List Int)(q s:Nat):LeftInv A (List.replicate (A.length+q+1) 0) q s 0 :=
 ⟨by simp,wds_rep _,fun j _=>getD_rep _ j,by rw[getD_rep];exact Int.pow_pos (by decide),by rw[vl_rep];simp[vl]⟩
theorem two_pow_le {s:Nat}(h:s≤31):(2:Int) ^ s≤2147483648∧0<(2:Int) ^ s∧(2:Int) ^ s*2 ^ (32 - s)=4294967296:=by
 have h1:(0:Int)<2 ^ s:=Int.pow_pos (by decide)
 have h2:(0:Int)<2 ^ (32 - s):=Int.pow_pos (by decide)
 have h3:(2:Int) ^ s*2 ^ (32 - s)=4294967296:=by rw[← Int.pow_add,show s+(32 - s)=32 by omega];decide
 refine⟨?_,h1,h3⟩
 have h4:(2:Int) ^ 1≤2 ^ (32 - s):=by
  rw[show 32 - s=1+(31 - s) by omega,Int.pow_add]
  have:(0:Int)<2 ^ (31 - s):=Int.pow_pos (by decide)
  omega
 have h5:=Int.mul_le_mul_of_nonneg_left h4 (Int.le_of_lt h1)
 omega
theorem shl_parts {x:Int}{s:Nat}(hs:s≤31)(hx:0≤x∧x≤4294967295):0≤x*2 ^ s∧x*2 ^ s≤18446744073709551615∧x*2 ^ s / 4294967296<2 ^ s∧∃ k,0≤k∧x*2 ^ s % 4294967296=k*2 ^ s:=by
 obtain⟨p1,p2,p3⟩:=two_pow_le hs
 have h1:x*2 ^ s≤4294967295*2 ^ s:=Int.mul_le_mul_of_nonneg_right hx.2 (Int.le_of_lt p2)
 refine⟨Int.mul_nonneg hx.1 (Int.le_of_lt p2),by omega,?_,?_⟩
 ·apply Int.ediv_lt_of_lt_mul (by decide)
  omega
 ·have p4:(0:Int)<2 ^ (32 - s):=Int.pow_pos (by decide)
  refine⟨x % 2 ^ (32 - s),Int.emod_nonneg _ (by omega),?_⟩
  rw[← p3,Int.mul_comm x,Int.mul_emod_mul_of_pos _ _ p2,Int.mul_comm]
theorem or_add {z k:Int}{s:Nat}(hz:0≤z∧z<2 ^ s)(hk:0≤k)(hb:k*2 ^ s≤4294967295)(hs:s≤31):bits .or .u32 z (k*2 ^ s)=z+k*2 ^ s:=by
 obtain⟨a,rfl⟩:=Int.eq_ofNat_of_zero_le hz.1
 obtain⟨b,rfl⟩:=Int.eq_ofNat_of_zero_le hk
 have h2:a<2 ^ s:=by have:=hz.2;exact_mod_cast this
 have h:=Nat.shiftLeft_add_eq_or_of_lt (i:=s) (b:=a) h2 b
 rw[Nat.shiftLeft_eq,Nat.or_comm] at h
 have q1:(0:Int)≤(b:Int)*2 ^ s:=Int.mul_nonneg (by omega) (Int.le_of_lt (Int.pow_pos (by decide)))
 have q2:((b:Int)*2 ^ s).toNat=b*2 ^ s:=by
  have:((b:Int)*2 ^ s)=((b*2 ^ s:Nat):Int):=by push_cast;rfl
  rw[this];exact Int.toNat_natCast _
 obtain⟨p1,p2,p3⟩:=two_pow_le hs
 rw[u32_or _ _ (by omega) (by omega) (by omega) (by omega),q2,Int.toNat_natCast,← h]
 push_cast
 omega
theorem or_zero {z:Int}(hz:0≤z∧z≤4294967295):bits .or .u32 0 z=z:=by
 obtain⟨h1,h2⟩:=hz
 go_bits2
theorem LeftInv.next {A R:List Int}{q s i:Nat}(h:LeftInv A R q s i)(hi:i<A.length)(hA:Wds A)(hs:s≤31) :
  LeftInv A ((R.set (i+q) (R.getD (i+q) 0+A.getD i 0*2 ^ s % 4294967296)).set (i+q+1) (A.getD i 0*2 ^ s / 4294967296)) q s (i+1)∧0≤R.getD (i+q) 0+A.getD i 0*2 ^ s % 4294967296∧R.getD (i+q) 0+A.getD i 0*2 ^ s % 4294967296≤4294967295:=by
 obtain⟨h1,h2,h3,h4,h5⟩:=h
 have a:=hA.get i
 obtain⟨m1,m2,m3,k,m4,m5⟩:=shl_parts hs a
 have z:=h2.get (i+q)
 obtain⟨p1,p2,p3⟩:=two_pow_le hs
 have hb:R.getD (i+q) 0+A.getD i 0*2 ^ s % 4294967296≤4294967295:=by
  rw[m5]
  have c1:k<2 ^ (32 - s):=by
   have:k*2 ^ s<2 ^ (32 - s)*2 ^ s:=by rw[← m5,Int.mul_comm (2 ^ (32 - s)),p3];omega
   exact Int.lt_of_mul_lt_mul_right this (Int.le_of_lt p2)
  have c2:(k+1)*2 ^ s≤2 ^ (32 - s)*2 ^ s:=Int.mul_le_mul_of_nonneg_right (by omega) (Int.le_of_lt p2)
  rw[Int.mul_comm (2 ^ (32 - s)),p3,Int.add_mul,Int.one_mul] at c2
  omega
 have t:=vl_take A i
 have s1:=vl_set R (i+q) (R.getD (i+q) 0+A.getD i 0*2 ^ s % 4294967296) (by omega)
 have s2:=vl_set (R.set (i+q) (R.getD (i+q) 0+A.getD i 0*2 ^ s % 4294967296)) (i+q+1) (A.getD i 0*2 ^ s / 4294967296) (by rw[List.length_set];omega)
 rw[qal (by omega),h3 _ (Nat.le_refl _)] at s2
 have w1:Wds (R.set (i+q) (R.getD (i+q) 0+A.getD i 0*2 ^ s % 4294967296)):=h2.set _ (by omega)
 refine⟨⟨by rw[List.length_set,List.length_set];exact h1,w1.set _ (by omega),fun j hj=>by rw[qal (by omega),qal (by omega)];exact h3 j (by omega),?_,?_⟩,by omega,hb⟩
 ·rw[show i+1+q=i+q+1 by omega,getD_set_self (by rw[List.length_set];omega)];exact m3
 ·rw[s2,s1,t,h5]
  have dm:A.getD i 0*2 ^ s=A.getD i 0*2 ^ s % 4294967296+4294967296*(A.getD i 0*2 ^ s / 4294967296):=by omega
  have e1:(4294967296:Int) ^ (i+q+1)=4294967296 ^ i*4294967296 ^ q*4294967296:=by rw[Int.pow_succ,Int.pow_add]
  have e2:(4294967296:Int) ^ (i+q)=4294967296 ^ i*4294967296 ^ q:=Int.pow_add ..
  rw[e1,e2]
  generalize A.getD i 0*2 ^ s % 4294967296=u at *
  generalize A.getD i 0*2 ^ s / 4294967296=v at *
  generalize A.getD i 0=x at *
  generalize R.getD (i+q) 0=y at *
  generalize (2:Int) ^ s=T at *
  generalize (4294967296:Int) ^ i=P at *
  generalize (4294967296:Int) ^ q=Q at *
  clear s1 s2 t h1 h2 h3 h4 h5 m1 m2 m3 m4 m5 z p1 p2 p3 hb w1 a e1 e2
  grind
theorem make32q (n q:Nat)(hn:n+q≤900)(w:World):(Instr.makeSlice 125 (.int .i64 ((n:Int)+(q:Int)+1)) (.int .i64 ((n:Int)+(q:Int)+1))).run Tryz.prog w=.ok (.slice (some ⟨w.heap.size,0,none⟩) (n+q+1) (n+q+1)) (w.alloc (.cells (madeCells #[.int .u32 0] (n+q+1)) 159)) :=
 make32 (n+q+1) (by omega) w
theorem left_any (v:Value)(n:Int)(k:Nat)(w:World)(h:Dg w v n)(hn:n<4294967296 ^ 8)(hk:k≤1000) :
  Calls Tryz.prog 141 #[v,.int .u64 (k:Int)] w fun e w'=>Below w.heap.size w w'∧∃ v',e=.returned v'∧Dg w' v' (n*2 ^ k):=by
 obtain⟨LA,rA,iA⟩:=h
 have lA:=iA.len 8 hn
 obtain⟨aoA,capA,rfl,_,_,_,hA4,hA5,hA6⟩:=rA.at
 have HRA:=zX (fun d (he:aoA=some ⟨d,0,none⟩)=>And.intro (hA4 d 0 none he).2.2 (hA6 d he))
 have HA5:=zX hA5
 have IA:=zX iA
 have zA:=iA.zero
 clear hA4 hA5 hA6 rA iA
 by_cases l0:LA.length=0
 ·have e0:=zA.1 l0
  subst e0
  rw[Int.zero_mul]
  rw[l0]
  clear HRA HA5 zA
  go_enter Tryz.func141,Tryz.ntmps141
  go_wp2_with fail
  go_ret
  exact⟨Below.refl _ _,_,rfl,Dg.nil _⟩
 ·have hb1:((LA.length:Int)==0)=false:=zBq (by omega)
  obtain⟨dA,rfl⟩:=uX HA5 l0
  obtain⟨hdA,hcA⟩:=uX HRA dA rfl
  have HCA:=zX hcA
  obtain⟨q,s,hs,hks⟩:∃ q s:Nat,s≤31∧k=32*q+s:=⟨k / 32,k % 32,by omega,by omega⟩
  have hq1:(k:Int) / 32=(q:Int):=by omega
  have hq2:(k:Int) % 32=(s:Int):=by omega
  have hq:q≤40:=by omega
  have HP:=zX (show n*2 ^ k=4294967296 ^ q*2 ^ s*n by
   rw[hks,Int.pow_add,Int.pow_mul,Int.mul_comm];rfl)
  have O0:=zX (Own32.new w (LA.length+q+1))
  have K0:=zX (qaa w (.cells (madeCells #[.int .u32 0] (LA.length+q+1)) 159))
  have hmk:=make32q LA.length q (by omega)
  clear hcA HRA HA5 zA hks
  go_enter Tryz.func141,Tryz.ntmps141
  go_wp2_with fail
  clear hmk hb1
  go_loopg [8] LA.length (fun g t wr=>∃ (i:Nat) (R:List Int),i≤LA.length∧g=LA.length - i∧t=.int .i64 i∧Hid (Own32 wr w.heap.size R)∧Hid (Below w.heap.size w wr)∧Hid (LeftInv LA R q s i))
  case atStart=>exact⟨0,_,Nat.zero_le _,by simp,rfl,O0,K0,LeftInv.start LA q s⟩
  case round =>
   obtain⟨i,R,hi,hg,rfl,hO,hK,hI⟩:=hrel
   clear O0 K0
   have hz:=(uX hK).size
   have hlt:=(uX hO).lt
   have hRl:=zX (uX hI).len
   by_cases hlt2:i<LA.length
   ·have hiA:(i:Int)<(LA.length:Int):=by omega
    have cA:=zK (uX hK) hdA (uX HCA i hlt2)
    have gA:=(uX IA).1.get i
    have f1:=(uX hO).frozen (i+q)
    have f2:=(uX hO).frozen (i+q+1)
    have c1:=(uX hO).cell (i+q) (by have:=uX hRl;omega)
    have c2:=(uX hO).cell (i+q+1) (by have:=uX hRl;omega)
    rw[(uX hI).zer _ (Nat.le_refl _)] at c2
    obtain⟨nx,b1,b2⟩:=(uX hI).next hlt2 (uX IA).1 hs
    have NX:=zX nx
    clear nx
    obtain⟨m1,m2,m3,kk,m4,m5⟩:=shl_parts hs gA
    obtain⟨p1,p2,p3⟩:=two_pow_le hs
    have gR:=(uX hI).wds.get (i+q)
    have oa:=or_add ⟨gR.1,(uX hI).top⟩ m4 (by rw[← m5];omega) hs
    rw[← m5] at oa
    have oz:=or_zero (z:=LA.getD i 0*2 ^ s / 4294967296) (by omega)
    have OX:=zX (((uX hO).set (i+q) (R.getD (i+q) 0+LA.getD i 0*2 ^ s % 4294967296) (by have:=uX hRl;omega)).set (i+q+1) (LA.getD i 0*2 ^ s / 4294967296) (by rw[List.length_set];have:=uX hRl;omega))
    have KX:=zX (((uX hK).setCell (p:=⟨w.heap.size,i+q,none⟩) (Nat.le_refl _) (.int .u32 (R.getD (i+q) 0+LA.getD i 0*2 ^ s % 4294967296))).setCell (p:=⟨w.heap.size,i+q+1,none⟩) (Nat.le_refl _) (.int .u32 (LA.getD i 0*2 ^ s / 4294967296)))
    have hneA:dA≠w.heap.size:=by omega
    have hij1:((i:Int)+(q:Int))<(LA.length:Int)+(q:Int)+1:=by omega
    have hij2:((i:Int)+(q:Int)).toNat=i+q:=by omega
    have hij0:(0:Int)≤(i:Int)+(q:Int):=by omega
    have hik1:((i:Int)+(q:Int)+1)<(LA.length:Int)+(q:Int)+1:=by omega
    have hik2:((i:Int)+(q:Int)+1).toNat=i+q+1:=by omega
    have hik0:(0:Int)≤(i:Int)+(q:Int)+1:=by omega
    have hqq:i+q≠i+q+1:=by omega
    have hss:((s:Int)).toNat=s:=by omega
    have hs64:(s:Int)<64:=by omega
    clear m3 m4 m5 p1 p2 p3
    generalize LA.getD i 0=x at *
    generalize R.getD (i+q) 0=z at *
    obtain⟨P,hP⟩:∃ P,x*2 ^ s=P:=⟨_,rfl⟩
    rw[hP] at b1 b2 m1 m2 oa oz NX OX KX
    go_wp2_with fail
    go_roundg (LA.length - (i+1))
    case measure=>omega
    case rel=>exact⟨i+1,_,by omega,rfl,by go_num,OX,KX,NX⟩
   ·have hiA:i=LA.length:=by omega
    subst hiA
    have hv:vl R=n*2 ^ k:=by have:=(uX hI).val;rw[List.take_of_length_le (Nat.le_refl _),(uX IA).2.2] at this;rw[uX HP];exact this
    have RW:=(uX hO).row (by rw[uX hRl];unfold maxLen;omega)
    have TR:=qbf _ _ _ RW (uX hI).wds (by rw[uX hRl];omega)
    rw[uX hRl,hv] at TR
    have HT:=zX TR
    clear TR RW hv
    go_wp2_with fail
    refine (uX HT).mono ?_
    rintro e w1 ⟨rfl,v1,rfl,D1⟩
    have HD:=zX D1
    clear D1
    go_wp2_with fail
    go_ret
    exact⟨uX hK,_,rfl,uX HD⟩
theorem qbu {w w1:World}(k:Below w.drew.heap.size w.drew w1):Below w.heap.size w w1:=⟨k.os,k.tape,k.output,k.size,k.block⟩
theorem sg_abs (z:Int):sg (decide (z<0)) (z.natAbs:Int)=z:=by
 unfold sg
 by_cases h:z<0
 ·simp[h];omega
 ·simp[h];omega
theorem set_any (p q:Nat)(z:Int)(w:World)(hp:IntAt w p)(hq:Big w q z)(hne:q≠p)(hz:z.natAbs<4294967296 ^ 8) :
  Calls Tryz.prog 142 #[.pointer (some ⟨p,0,none⟩),.pointer (some ⟨q,0,none⟩)] w fun e w'=>e=.returned (.pointer (some ⟨p,0,none⟩))∧Tn p w w'∧Big w' p z:=by
 obtain⟨v,c0,c1,hD,hlt⟩:=hq.cells
 have HP:=zX hp
 have HQ:=zX hq
 have HD:=zX hD
 clear hp hq hD
 go_enter Tryz.func142,Tryz.ntmps142
 go_wp2_with fail
 refine zU (fun W=>W.cell? ⟨q,0,none⟩=some (.bool (decide (z<0)))∧W.cell? ⟨q,1,none⟩=some v) (by kernel_rfl) ?_
 refine qR 0 9 3 ?_
 simp only[zTD]
 repeat (refine zS (fun K hK=>?_);go_simp;first|(refine zQ ?_ (fun W hW=>?_) (hK _ ?_);rotate_left;(obtain⟨h1,h2⟩:=hW;go_simp;first|done|rfl);clear hK K)|(refine hK _ ?_;clear hK K))
 refine zO ?_
 refine qO 9 2 ⟨c0,c1⟩ ?_
 simp only[zTD]
 go_wp2_with fail
 refine (twin_any v z.natAbs w.drew (uX HD) (by omega)).mono ?_
 rintro e w1 ⟨k1,v1,rfl,D1⟩
 have K1:=zX (qbu k1)
 have HD1:=zX D1
 have c01:=zK (uX K1) hlt c0
 have c11:=zK (uX K1) hlt c1
 have hp1:=zX ((uX HP).step (uX K1))
 clear k1 D1
 go_wp2_with fail
 first|refine zN ?_|refine zG ?_
 refine qO 10 1 ⟨c01,c11⟩ ?_
 simp only[zTD]
 go_wp2_with fail
 refine (qa8 p (decide (z<0)) v1 z.natAbs w1 (uX hp1) (uX HD1) (by omega)).mono ?_
 rintro e w2 ⟨rfl,k2,b2⟩
 rw[sg_abs] at b2
 have K2:=zX k2
 have B2:=zX b2
 have hlt1:q<w1.heap.size:=Nat.lt_of_lt_of_le hlt (uX K1).size
 have c02:=(World.cell?_of_block (w:=w1) (a:=⟨q,0,none⟩) ((uX K2).block q hlt1 hne)).trans c01
 have c12:=(World.cell?_of_block (w:=w1) (a:=⟨q,1,none⟩) ((uX K2).block q hlt1 hne)).trans c11
 clear k2 b2
 go_wp2_with fail
 first|refine zN ?_|refine zG ?_
 refine qO 11 0 ⟨c02,c12⟩ ?_
 simp only[zTD]
 go_wp2_with fail
 first|refine zN ?_|refine zG ?_
 refine zE (by kernel_rfl) ⟨c02,c12⟩ ?_
 go_wp2_with fail
 go_ret
 exact⟨rfl,(Tn.of (uX K1)).trans (uX K2),uX B2⟩
structure SubInv (A B R:List Int)(i:Nat)(c:Int):Prop where
 len:R.length=A.length
 wds:Wds R
 zer:∀ j,i≤j→R.getD j 0=0
 c0:0≤c
 c1:c≤1
 val:vl R - 4294967296 ^ i*c=vl (A.take i) - vl (B.take i)
theorem SubInv.start (A B:List Int):SubInv A B (List.replicate A.length 0) 0 0 :=
 ⟨by simp,wds_rep _,fun j _=>getD_rep _ j,by decide,by decide,by rw[vl_rep];simp[vl]⟩
theorem SubInv.next {A B R:List Int}{i:Nat}{c y D:Int}(h:SubInv A B R i c)(hi:i<A.length)(hA:Wds A)(hB:Wds B)(hy:y=B.getD i 0)(hD:D=(A.getD i 0 - c - y) % 18446744073709551616):SubInv A B (R.set i (D % 4294967296)) (i+1) (D / 9223372036854775808):=by
 obtain⟨h1,h2,h3,h4,h5,h6⟩:=h
 have a:=hA.get i
 have b:=hB.get i
 rw[← hy] at b
 have t1:=vl_take A i
 have t2:=vl_take B i
 rw[← hy] at t2
 have s1:=vl_set R i (D % 4294967296) (by omega)
 rw[h3 i (Nat.le_refl _)] at s1
 have dm:A.getD i 0 - c - y=D % 4294967296 - 4294967296*(D / 9223372036854775808):=by omega
 refine⟨by rw[List.length_set];exact h1,h2.set _ (by omega),fun j hj=>by rw[qal (by omega)];exact h3 j (by omega),by omega,by omega,?_⟩
 rw[t1,t2,s1,Int.pow_succ]
 generalize D % 4294967296=r at *
 generalize D / 9223372036854775808=q at *
 generalize A.getD i 0=x at *
 generalize (4294967296:Int) ^ i=P at *
 grind
theorem SubInv.done {A B R:List Int}{c:Int}(h:SubInv A B R A.length c)(hl:B.length≤A.length)(hle:vl B≤vl A):Wds R∧vl R=vl A - vl B:=by
 obtain⟨h1,h2,h3,h4,h5,h6⟩:=h
 refine⟨h2,?_⟩
 rw[List.take_of_length_le (Nat.le_refl _),List.take_of_length_le hl] at h6
 have hh:=vl_hi h2
 rw[h1] at hh
 have c01:c=0∨c=1:=by omega
 rcases c01 with rfl|rfl
 ·omega
 ·rw[Int.mul_one] at h6;omega
theorem bsub_any (v1 v2:Value)(n1 n2:Int)(w:World)(h1:Dg w v1 n1)(h2:Dg w v2 n2)(hn1:n1<4294967296 ^ 8)(hn:n2≤n1) :
  Calls Tryz.prog 163 #[v1,v2] w fun e w'=>Below w.heap.size w w'∧∃ v',e=.returned v'∧Dg w' v' (n1 - n2):=by
 obtain⟨LA,rA,iA⟩:=h1
 obtain⟨LB,rB,iB⟩:=h2
 have hA:=hn1
 have hB:n2<4294967296 ^ 8:=by omega
 have hle:LB.length≤LA.length:=iB.len LA.length (by have:=iA.hi;omega)
 have lA:=iA.len 8 hA
 have lB:=iB.len 8 hB
 obtain⟨aoA,capA,rfl,_,_,_,hA4,hA5,hA6⟩:=rA.at
 obtain⟨aoB,capB,rfl,_,_,_,hB4,hB5,hB6⟩:=rB.at
 have HRA:=zX (fun d (he:aoA=some ⟨d,0,none⟩)=>And.intro (hA4 d 0 none he).2.2 (hA6 d he))
 have HRB:=zX (fun d (he:aoB=some ⟨d,0,none⟩)=>And.intro (hB4 d 0 none he).2.2 (hB6 d he))
 have HA5:=zX hA5
 have HB5:=zX hB5
 have IA:=zX iA
 have IB:=zX iB
 clear hA4 hA5 hA6 hB4 hB5 hB6 rA rB iA iB
 have O0:=zX (Own32.new w LA.length)
 have K0:=zX (qaa w (.cells (madeCells #[.int .u32 0] LA.length) 159))
 have hmk:=make32 LA.length (by omega)
 go_enter Tryz.func163,Tryz.ntmps163
 go_wp2_with fail
 clear hmk
 go_loopg [6,7] LA.length (fun g c t wr=>∃ (i:Nat) (cc:Int) (R:List Int),i≤LA.length∧g=LA.length - i∧c=.int .u64 cc∧t=.int .i64 i∧Hid (Own32 wr w.heap.size R)∧Hid (Below w.heap.size w wr)∧Hid (SubInv LA LB R i cc))
 case atStart=>exact⟨0,0,_,Nat.zero_le _,by simp,rfl,rfl,O0,K0,SubInv.start LA LB⟩
 case round =>
  obtain⟨i,cc,R,hi,hg,rfl,rfl,hO,hK,hI⟩:=hrel
  clear O0 K0
  have hz:=(uX hK).size
  have hlt:=(uX hO).lt
  have cc0:=(uX hI).c0
  have cc1:=(uX hI).c1
  have hRl:=zX (uX hI).len
  have hf:=(uX hO).frozen i
  by_cases hlt2:i<LA.length
  ·obtain⟨dA,rfl⟩:=uX HA5 (by omega)
   obtain⟨hdA,hcA⟩:=uX HRA dA rfl
   have cA:=zK (uX hK) hdA (hcA i hlt2)
   have gA:=(uX IA).1.get i
   have cR:=(uX hO).cell i (by have:=uX hRl;omega)
   have hne:dA≠w.heap.size:=by omega
   have hiA:(i:Int)<(LA.length:Int):=by omega
   clear hcA
   by_cases hb:i<LB.length
   ·obtain⟨dB,rfl⟩:=uX HB5 (by omega)
    obtain⟨hdB,hcB⟩:=uX HRB dB rfl
    have cB:=zK (uX hK) hdB (hcB i hb)
    have gB:=(uX IB).1.get i
    have hiB:(i:Int)<(LB.length:Int):=by omega
    obtain⟨D,hD⟩:∃ D,IntKind.u64.wrap (IntKind.u64.wrap (LA.getD i 0 - cc) - LB.getD i 0)=D:=⟨_,rfl⟩
    have hD2:D=(LA.getD i 0 - cc - LB.getD i 0) % 18446744073709551616:=by rw[← hD,qbl,qbl];omega
    have hD0:0≤D∧D≤18446744073709551615:=by omega
    have NX:=zX ((uX hI).next hlt2 (uX IA).1 (uX IB).1 (y:=LB.getD i 0) rfl hD2)
    have OX:=zX ((uX hO).set i (D % 4294967296) (by have:=uX hRl;omega))
    have KX:=zX ((uX hK).setCell (p:=⟨w.heap.size,i,none⟩) (Nat.le_refl _) (.int .u32 (D % 4294967296)))
    clear hcB hD2
    generalize LA.getD i 0=x at *
    generalize LB.getD i 0=y at *
    generalize R.getD i 0=z at *
    go_wp2_with fail
    go_roundg (LA.length - (i+1))
    case measure=>omega
    case rel=>exact⟨i+1,_,_,by omega,rfl,rfl,by go_num,OX,KX,NX⟩
   ·have hib:decide ((i:Int)<(LB.length:Int))=false:=by simp;omega
    obtain⟨D,hD⟩:∃ D,IntKind.u64.wrap (LA.getD i 0 - cc)=D:=⟨_,rfl⟩
    have hD2:D=(LA.getD i 0 - cc - 0) % 18446744073709551616:=by rw[← hD,qbl];omega
    have hD0:0≤D∧D≤18446744073709551615:=by omega
    have NX:=zX ((uX hI).next hlt2 (uX IA).1 (uX IB).1 (y:=0) (by rw[List.getD_eq_getElem?_getD,List.getElem?_eq_none (by omega)];rfl) hD2)
    have OX:=zX ((uX hO).set i (D % 4294967296) (by have:=uX hRl;omega))
    have KX:=zX ((uX hK).setCell (p:=⟨w.heap.size,i,none⟩) (Nat.le_refl _) (.int .u32 (D % 4294967296)))
    clear hD2
    generalize LA.getD i 0=x at *
    generalize R.getD i 0=z at *
    go_wp2_with fail
    go_roundg (LA.length - (i+1))
    case measure=>omega
    case rel=>exact⟨i+1,_,_,by omega,rfl,rfl,by go_num,OX,KX,NX⟩
  ·have hiA:i=LA.length:=by omega
   subst hiA
   have DN:=zX ((uX hI).done hle (by rw[(uX IA).2.2,(uX IB).2.2];exact hn))
   have RW:=(uX hO).row (by rw[uX hRl];unfold maxLen;omega)
   have TR:=qbf _ _ _ RW (uX DN).1 (by rw[uX hRl];omega)
   rw[uX hRl,(uX DN).2,(uX IA).2.2,(uX IB).2.2] at TR
   have HT:=zX TR
   clear TR RW
   go_wp2_with fail
   refine (uX HT).mono ?_
   rintro e w1 ⟨rfl,v1,rfl,D1⟩
   have HD:=zX D1
   clear D1
   go_wp2_with fail
   go_ret
   exact⟨uX hK,_,rfl,uX HD⟩
end Go.Proofs.YtjpnnmkefaodoaaGreat
