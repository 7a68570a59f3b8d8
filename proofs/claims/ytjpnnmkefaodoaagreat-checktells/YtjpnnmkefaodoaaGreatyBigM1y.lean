/-
  BigM1, BigM2.
-/
import Derived.Test.YtjpnnmkefaodoaaGreatyBigKy
set_option maxHeartbeats 8000000
set_option maxRecDepth 100000
namespace Go.Proofs.YtjpnnmkefaodoaaGreat
open Go.RowKit
set_option linter.unusedSimpArgs false
set_option linter.unusedVariables false
theorem div_long1 (v1 v2:Value)(n1:Int)(w:World)(h1:Dg w v1 n1)(h2:Dg w v2 (4294967296 ^ 1))(hn1:n1<4294967296 ^ 6)(hge:18446744073709551616≤n1) :
  Calls Tryz.prog 144 #[v1,v2] w fun e w'=>Below w.heap.size w w'∧∃ q r,e=.returned (.tuple #[q,r])∧Dg w' q (n1 / 4294967296 ^ 1)∧Dg w' r (n1 % 4294967296 ^ 1):=by
 have hl31:=left_any v2 (4294967296 ^ 1) 31
 have CM:=zX (cmp_any v1 v2 n1 (4294967296 ^ 1) w h1 h2 (by omega) (by decide))
 have LN:=zX (fun k=>length_any v2 1 (w.drewN k) h2 (by decide))
 have LV:=zX (fun k=>left_any v2 (4294967296 ^ 1) 31 (w.drewN k) h2 (by decide) (by decide))
 have H1:=zX h1
 obtain⟨LA,rA,iA⟩:=h1
 obtain⟨LB,rB,iB⟩:=h2
 have lA:=iA.len 6 hn1
 have lA3:3≤LA.length:=by
  have a:=iA.hi
  apply Nat.le_of_not_lt
  intro hl
  have:=bp_le (a:=LA.length) (b:=2) (by omega)
  omega
 have eB:=is_unique iB (by have:=is_top1 1 1 (by decide) (by decide);rw[Int.mul_one] at this;exact this)
 obtain⟨lB,-,-⟩:=top1_at eB
 obtain⟨aoA,capA,rfl,-,-,-,-,-,-⟩:=rA.at
 obtain⟨aoB,capB,rfl,-,-,-,-,-,-⟩:=rB.at
 rw[lB] at CM LN LV ⊢
 have IA:=zX iA
 clear rA rB iA iB eB lB hl31
 have hcm:decide (cm n1 (4294967296 ^ 1)<0)=false:=by unfold cm;rw[if_neg (by omega)];split <;> decide
 generalize cm n1 (4294967296 ^ 1)=cmv at *
 have hb2:decide ((LA.length:Int)≤2)=false:=decide_eq_false (by omega)
 have hmk:=make32t LA.length (by omega)
 go_enter Tryz.func144,Tryz.ntmps144
 go_wp2_with fail
 refine (uX CM).mono ?_
 rintro e w1 ⟨⟨k,rfl⟩,rfl⟩
 go_wp2_with fail
 refine (uX LN k).mono ?_
 rintro e w1 ⟨rfl,rfl⟩
 go_wp2_with fail
 refine (uX LV k).mono ?_
 rintro e w2 ⟨k2,vv,rfl,⟨LVs,rV,iV⟩⟩
 have eV:=is_unique iV (is_top1 1 2147483648 (by decide) (by decide))
 obtain⟨lV,tV,zV⟩:=top1_at eV
 obtain⟨aoV,capV,rfl,-,-,-,hV4,hV5,hV6⟩:=rV.at
 obtain⟨dV,rfl⟩:=hV5 (by omega)
 have hdV:=(hV4 _ _ _ rfl).2.2
 have HCV:=zX (hV6 dV rfl)
 have ZV:=zX zV
 have TV:=zX tV
 have LVL:=zX lV
 have K2:=zX (of_drewN k2)
 rw[lV]
 clear k2 iV rV eV hV4 hV5 hV6 CM LN LV zV tV
 have OU:=zX (Own32.new w2 (LA.length+2))
 have KU:=zX (qaa w2 (.cells (madeCells #[.int .u32 0] (LA.length+2)) 159))
 have hsU:(w2.alloc (.cells (madeCells #[.int .u32 0] (LA.length+2)) 159)).heap.size=w2.heap.size+1:=by simp
 have hgU:Hid ((w2.alloc (.cells (madeCells #[.int .u32 0] (LA.length+2)) 159)).heap[w2.heap.size]?=some (.cells (List.replicate (LA.length+2) (Value.int .u32 0)).toArray 159 (0,0))):=by
  rw[made_rep]
  show (w2.heap.push _)[w2.heap.size]?=_
  simp
 go_wp2_with fail
 clear hmk
 generalize w2.alloc (.cells (madeCells #[.int .u32 0] (LA.length+2)) 159)=W3 at *
 refine (left_any _ n1 31 W3 (((uX H1).step (uX K2)).step (uX KU)) (by omega) (by decide)).mono ?_
 rintro e w4 ⟨k4,vu,rfl,⟨LU,rU,iU⟩⟩
 have lU:LU.length≤LA.length+1:=iU.len (LA.length+1) (by
  have:=(uX IA).hi
  rw[Int.pow_succ]
  omega)
 obtain⟨aoU,capU,rfl,-,-,-,hU4,hU5,hU6⟩:=rU.at
 have K4:=zX k4
 have O4:=zX ((uX OU).step (uX K4))
 have g4:=zX (((uX K4).block w2.heap.size (by omega)).trans (uX hgU))
 have IU:=zX iU
 have HU5:=zX hU5
 have HU6:=zX hU6
 clear k4 iU rU hU4 hU5 hU6
 have lq:(LA.length:Int)=((LA.length - 1+1:Nat):Int):=by omega
 have hmq:=make32x (LA.length - 1+1) (LA.length:Int) lq (by omega)
 have HLQ:=zX lq
 clear lq
 go_wp2_with (refine wpList_copy_splice rfl (.tmp 81) (.tmp 84) 125 125 rfl 159 Tryz.underlying125 Tryz.sizeU32 (some ⟨w2.heap.size,0,none⟩) aoU (LA.length+2) (LA.length+2) LU.length capU rfl rfl w2.heap.size 0 (List.replicate (LA.length+2) (Value.int .u32 0)) 159 (uX g4) (LU.map u32v) (by rw[List.length_map];exact (Nat.min_eq_left (by omega)).symm) (hpu_of (uX HU5) (uX HU6)) (by rw[List.length_map,List.length_replicate];omega) (u32_one _) w2.heap.size w4 (Below.refl _ _) (Nat.le_refl _) ?_;intro w5 g5 k5;have K5:=zX k5;have O5:=zX (own_splice g5 (by omega));clear g5 k5)
 have OU5:=O5
 have KV5:=zX (((uX KU).trans ((uX K4).mono (by omega))).trans (uX K5))
 have QN:=zX (Own32.new w5 (LA.length - 1+1))
 have KQ:=zX (qaa w5 (.cells (madeCells #[.int .u32 0] (LA.length - 1+1)) 159))
 have hsQ:(w5.alloc (.cells (madeCells #[.int .u32 0] (LA.length - 1+1)) 159)).heap.size=w5.heap.size+1:=by simp
 have s5:w2.heap.size<w5.heap.size:=(uX O5).lt
 have cV0:=zK (qaa w5 (.cells (madeCells #[.int .u32 0] (LA.length - 1+1)) 159)) (by omega) (((uX KV5).cell (p:=⟨dV,1,none⟩) hdV).trans (uX HCV 1 (by have:=uX LVL;omega)))
 have cV1:=zK (qaa w5 (.cells (madeCells #[.int .u32 0] (LA.length - 1+1)) 159)) (by omega) (((uX KV5).cell (p:=⟨dV,0,none⟩) hdV).trans (uX HCV 0 (by have:=uX LVL;omega)))
 rw[uX TV] at cV0
 rw[uX ZV 0 (by decide)] at cV1
 have OU6:=zX ((uX OU5).step (uX KQ))
 have KV6:=zX ((uX KV5).trans ((uX KQ).mono (by omega)))
 go_wp2_with fail
 clear hmq
 go_quiet (fail)
 go_wp2_with fail
 have SD:=zX (DInv.start (uX IU) lU (m:=1) (la:=LA.length) (by omega))
 have QN2:Hid (Own32 ((w5.alloc (.cells (madeCells #[.int .u32 0] (LA.length - 1+1)) 159)).drewN nq) w5.heap.size (List.replicate (LA.length - 1+1) 0)):=uX QN
 have OU7:Hid (Own32 ((w5.alloc (.cells (madeCells #[.int .u32 0] (LA.length - 1+1)) 159)).drewN nq) w2.heap.size (LU++List.replicate (LA.length+2 - LU.length) 0)):=uX OU6
 have KV7:Hid (Below w2.heap.size w2 ((w5.alloc (.cells (madeCells #[.int .u32 0] (LA.length - 1+1)) 159)).drewN nq)):=⟨(uX KV6).os,(uX KV6).tape,(uX KV6).output,(uX KV6).size,(uX KV6).block⟩
 generalize (w5.alloc (.cells (madeCells #[.int .u32 0] (LA.length - 1+1)) 159)).drewN nq=w7 at *
 have s7:=(uX QN2).lt
 clear OU5 OU6 KV5 KV6 QN KQ hsQ cV0 cV1 O5 K5 IU HU5 HU6 O4 g4 OU hgU hsU KU K4 lU
 generalize w5.heap.size=dQ at *
 go_loopg [18] (LA.length - 1+1) (fun g t wr=>∃ (k:Nat) (U Q:List Int),k≤LA.length - 1+1∧g=k∧t=.int .i64 ((k:Int) - 1)∧Hid (Own32 wr w2.heap.size U)∧Hid (Own32 wr dQ Q)∧Hid (Below w2.heap.size w2 wr)∧Hid (DInv n1 LA.length 1 U Q k))
 case atStart=>exact⟨LA.length - 1+1,_,_,Nat.le_refl _,rfl,congrArg (Value.int .i64) (by have:=uX HLQ;omega),OU7,QN2,KV7,SD⟩
 case round =>
  obtain⟨k,U,Q,hk,hg,rfl,hOU,hOQ,hKV,hI⟩:=hrel
  clear QN2 OU7 KV7 SD
  have hz:=(uX hOU).lt
  have hz2:=(uX hOQ).lt
  have hUl:=zX (uX hI).ul
  have hQl:=zX (uX hI).ql
  by_cases k0:k=0
  ·subst k0
   obtain⟨e1,e2⟩:=(uX hI).done (by omega)
   have RWQ:=(uX hOQ).row (by rw[uX hQl];unfold maxLen;omega)
   have TRQ:=qbf _ _ _ RWQ (uX hI).qw (by rw[uX hQl];omega)
   rw[uX hQl,e1] at TRQ
   have RWU:=(uX hOU).row (by rw[uX hUl];unfold maxLen;omega)
   have TRU:=qbf _ _ _ RWU (uX hI).uw (by rw[uX hUl];omega)
   rw[uX hUl] at TRU
   have HTQ:=zX TRQ
   have HTU:=zX TRU
   have hU8:vl U<4294967296 ^ 8:=by
    have a:=vl_hi (uX hI).uw
    have b:=bp_le (a:=U.length) (b:=8) (by rw[uX hUl];omega)
    omega
   have E2:=zX e2
   clear TRQ TRU RWQ RWU e1 e2
   go_wp2_with fail
   refine (uX HTQ).mono ?_
   rintro e w1 ⟨rfl,vq,rfl,D1⟩
   have HD:=zX D1
   clear D1
   go_wp2_with fail
   refine (uX HTU).mono ?_
   rintro e w1 ⟨rfl,vu,rfl,D2⟩
   have RT:=right_any vu (vl U) 31 _ D2 hU8 (by decide)
   rw[show (2:Int) ^ 31=2147483648 by decide,uX E2] at RT
   clear D2
   go_wp2_with fail
   refine RT.mono ?_
   rintro e w8 ⟨k8,vr,rfl,D8⟩
   have HD8:=zX D8
   have HK8:=zX k8
   clear RT D8 k8
   go_wp2_with fail
   go_ret2
   exact⟨(uX K2).trans (((uX hKV).trans ((uX HK8).mono (by omega))).mono (uX K2).size),_,_,rfl,(uX HD).step (uX HK8),uX HD8⟩
  ·obtain⟨j,rfl⟩:∃ j,k=j+1:=⟨k - 1,by omega⟩
   have hjm:j+1≤LA.length:=by omega
   have e1:(((j+1:Nat):Int) - 1)=(j:Int):=by omega
   have cy:=(uX hOU).cell (j+2) (by have:=uX hUl;omega)
   have cx:=(uX hOU).cell (j+1) (by have:=uX hUl;omega)
   have cz:=(uX hOU).cell j (by have:=uX hUl;omega)
   have gx:=(uX hI).uw.get (j+1)
   have gy:=(uX hI).uw.get (j+2)
   have gz:=(uX hI).uw.get j
   have ty:=(uX hI).top
   rw[show j+1+1=j+2 by omega] at ty
   have NX:=zX ((uX hI).next (j:=j) hjm)
   have ho:=or_two' (U.getD (j+2) 0) (U.getD (j+1) 0) gy gx
   rw[e1]
   have b1:(j:Int)+2<(LA.length:Int)+2:=by omega
   have b2:(j:Int)+2 - 1<(LA.length:Int)+2:=by omega
   have b3:((j:Int)+2 - 1).toNat=j+1:=by omega
   have b4:((j:Int)+2).toNat=j+2:=by omega
   have b5:(0:Int)≤(j:Int)+2 - 1:=by omega
   have b6:(0:Int)≤(j:Int)+2:=by omega
   have EX1:(j:Int)+1<(LA.length:Int)+2:=by omega
   have EX2:((j:Int)+1).toNat=j+1:=by omega
   have EX3:(0:Int)≤(j:Int)+1:=by omega
   have EX4:(j:Int)<(LA.length:Int)+2:=by omega
   have EX5:((j:Int)).toNat=j:=by omega
   obtain⟨x,hx⟩:∃ x,x=U.getD (j+1) 0:=⟨_,rfl⟩
   obtain⟨y,hy⟩:∃ y,y=U.getD (j+2) 0:=⟨_,rfl⟩
   obtain⟨z,hzz⟩:∃ z,z=U.getD j 0:=⟨_,rfl⟩
   rw[← hx] at cx gx ho
   rw[← hy] at cy gy ty ho
   rw[← hzz] at cz gz
   have HX:=zX hx
   have HY:=zX hy
   have HZ:=zX hzz
   clear hx hy hzz e1
   go_wp2_with fail
   go_quiet (fail)
   go_wp2_with fail
   obtain⟨T,hT⟩:∃ T,T=y*4294967296+x:=⟨_,rfl⟩
   rw[← hT]
   have T0:0≤T∧T<9223372036854775808:=by omega
   have HT:=zX hT
   clear hT ho
   go_quiet (fail)
   obtain⟨G,hG⟩:∃ G,G=T / 2147483648:=⟨_,rfl⟩
   obtain⟨S,hS⟩:∃ S,S=T % 2147483648:=⟨_,rfl⟩
   rw[← hG,← hS]
   have G0:0≤G∧G≤4294967295:=by omega
   have S0:0≤S∧S<2147483648:=by omega
   have HG:=zX hG
   have HS:=zX hS
   have ho2:=or_two' S z (by omega) gz
   have b7:((j:Int)+2 - 2).toNat=j:=by omega
   have b8:(0:Int)≤(j:Int)+2 - 2:=by omega
   have b9:(j:Int)+2 - 2<(LA.length:Int)+2:=by omega
   have g1:decide (4294967295<G)=false:=decide_eq_false (by omega)
   have g2:decide (S*4294967296+z<0)=false:=decide_eq_false (by omega)
   clear hG hS T0
   go_wp2_with fail
   go_loopg [20,21] 0 (fun _ a b ws=>a=.int .u64 G∧b=.int .u64 S∧∃ q,ws=wr.drewN q)
   case atStart=>exact⟨rfl,rfl,_,World.drewN_drewN _ _ _⟩
   case round =>
    obtain⟨rfl,rfl,q,rfl⟩:=hrel
    go_wp2_with fail
    clear ho2 g1 g2 b7 b8 b9 cz gz HZ
    go_loopg [22,23,24] 2 (fun gk c d i ws=>∃ (ii:Nat) (cc dd:Int) (R:List Int),ii≤2∧gk=2 - ii∧c=.int .u64 cc∧d=.int .u64 dd∧i=.int .i64 ii∧Hid (Own32 ws w2.heap.size R)∧Hid (Own32 ws dQ Q)∧Hid (Below w2.heap.size w2 ws)∧((ii≤1∧cc=0∧dd=0∧R=U)∨(ii=2∧cc=G*2147483648 / 4294967296∧dd=(x - G*2147483648 % 4294967296) % 18446744073709551616 / 9223372036854775808∧R=U.set (j+1) ((x - G*2147483648 % 4294967296) % 18446744073709551616 % 4294967296))))
    case atStart=>exact⟨0,0,0,U,Nat.zero_le _,rfl,rfl,rfl,rfl,uX hOU,uX hOQ,below_drewN (uX hKV) _,.inl ⟨Nat.zero_le _,rfl,rfl,rfl⟩⟩
    case round =>
     obtain⟨ii,cc,dd,R,hii,hgi,rfl,rfl,rfl,hO3,hQ3,hK3,hC⟩:=hrel
     have lt3:=(uX hO3).lt
     rcases hC with ⟨hi,rfl,rfl,rfl⟩|⟨rfl,hcc,hdd,rfl⟩
     ·by_cases him:ii<1
      ·have cv:=zK (uX hK3) hdV (uX HCV ii (by have:=uX LVL;omega))
       rw[uX ZV ii him] at cv
       have cu:=(uX hO3).cell (ii+j) (by have:=uX hUl;omega)
       have gu:=(uX hI).uw.get (ii+j)
       have fu:=(uX hO3).frozen (ii+j)
       have SS:=zX (set_same R (ii+j) (by have:=uX hUl;omega))
       have OX:=zX ((uX hO3).set (ii+j) (R.getD (ii+j) 0) (by have:=uX hUl;omega))
       have QX:=zX ((uX hQ3).other (b:=w2.heap.size) (j:=ii+j) (x:=.int .u32 (R.getD (ii+j) 0)) (by omega))
       have KX:=zX ((uX hK3).setCell (p:=⟨w2.heap.size,ii+j,none⟩) (Nat.le_refl _) (.int .u32 (R.getD (ii+j) 0)))
       have i1:(ii:Int)<2:=by omega
       have i2:((ii:Int)+(j:Int))<(LA.length:Int)+2:=by omega
       have i3:((ii:Int)+(j:Int)).toNat=ii+j:=by omega
       have i4:(0:Int)≤(ii:Int)+(j:Int):=by omega
       generalize R.getD (ii+j) 0=z at *
       go_wp2_with fail
       go_roundg (2 - (ii+1))
       case measure=>omega
       case rel=>exact⟨ii+1,0,z / 9223372036854775808,R,by omega,rfl,rfl,rfl,by go_num,by have:=OX;rw[uX SS] at this;exact this,QX,KX,.inl ⟨by omega,rfl,by omega,rfl⟩⟩
      ·obtain rfl:ii=1:=by omega
       have cv:=zK (uX hK3) hdV (uX HCV 1 (by have:=uX LVL;omega))
       rw[uX TV] at cv
       have cu:=(uX hO3).cell (1+j) (by have:=uX hUl;omega)
       rw[show 1+j=j+1 by omega] at cu
       rw[← uX HX] at cu
       have fu:=(uX hO3).frozen (j+1)
       have i3:(1+(j:Int)).toNat=j+1:=by omega
       have i4:(0:Int)≤1+(j:Int):=by omega
       have i2:1+(j:Int)<(LA.length:Int)+2:=by omega
       have V0:0≤(x - G*2147483648 % 4294967296) % 18446744073709551616 % 4294967296∧(x - G*2147483648 % 4294967296) % 18446744073709551616 % 4294967296≤4294967295:=by omega
       have OX:=zX ((uX hO3).set (j+1) ((x - G*2147483648 % 4294967296) % 18446744073709551616 % 4294967296) (by have:=uX hUl;omega))
       have QX:=zX ((uX hQ3).other (b:=w2.heap.size) (j:=j+1) (x:=.int .u32 ((x - G*2147483648 % 4294967296) % 18446744073709551616 % 4294967296)) (by omega))
       have KX:=zX ((uX hK3).setCell (p:=⟨w2.heap.size,j+1,none⟩) (Nat.le_refl _) (.int .u32 ((x - G*2147483648 % 4294967296) % 18446744073709551616 % 4294967296)))
       go_wp2_with fail
       rw[wrap_wrap]
       go_roundg 0
       case measure=>omega
       case rel=>exact⟨2,_,_,_,Nat.le_refl _,rfl,rfl,rfl,rfl,OX,QX,KX,.inr ⟨rfl,rfl,rfl,rfl⟩⟩
     ·have hGT:G=(y*4294967296+x) / 2147483648:=by rw[uX HG,uX HT]
      obtain⟨hV,hB⟩:=borrow gx ⟨gy.1,ty⟩ hGT
      rw[← hcc,← hdd] at hB
      have d0:0≤dd∧dd≤1:=by
       have:(0:Int)≤(x - G*2147483648 % 4294967296) % 18446744073709551616∧(x - G*2147483648 % 4294967296) % 18446744073709551616<18446744073709551616:=by omega
       omega
      have hc2:cc=y - dd:=by omega
      have c0:0≤y - dd:=by rw[← hc2,hcc];omega
      clear hcc hdd hB
      subst hc2
      have NX2:Hid (DInv n1 LA.length 1 ((U.set (j+1) ((x - G*2147483648 % 4294967296) % 18446744073709551616 % 4294967296)).set (j+2) 0) (Q.set j G) j):=by
       rw[hV,hGT]
       have:=uX NX
       rw[show j+1+1=j+2 by omega,← uX HX,← uX HY] at this
       exact this
      generalize (x - G*2147483648 % 4294967296) % 18446744073709551616 % 4294967296=V at *
      have cu:=(uX hO3).cell (j+2) (by have:=uX hUl;rw[List.length_set];omega)
      rw[qal (by omega),← uX HY] at cu
      have fu:=(uX hO3).frozen (j+2)
      have cq:=(uX hQ3).cell j (by have:=uX hQl;omega)
      have fq:=(uX hQ3).frozen j
      have OX:=zX (((uX hO3).set (j+2) 0 (by have:=uX hUl;rw[List.length_set];omega)).other (b:=dQ) (j:=j) (x:=.int .u32 G) (by omega))
      have QX:=zX (((uX hQ3).other (b:=w2.heap.size) (j:=j+2) (x:=.int .u32 0) (by omega)).set j G (by have:=uX hQl;omega))
      have KX:=zX (((uX hK3).setCell (p:=⟨w2.heap.size,j+2,none⟩) (Nat.le_refl _) (.int .u32 0)).setCell (p:=⟨dQ,j,none⟩) (by show w2.heap.size≤dQ;omega) (.int .u32 G))
      have i5:(j:Int)<((LA.length - 1:Nat):Int)+1:=by omega
      have i6:j<LA.length - 1+1:=by omega
      have hnq:dQ≠w2.heap.size:=by omega
      have hq3:=(uX hQ3).lt
      generalize Q.getD j 0=qz at *
      clear NX hV hGT HX HY
      have e0:y - (y - dd) - dd=0:=by omega
      have hb0:((y - (y - dd) - dd) / 9223372036854775808 != 0)=false:=by rw[e0];rfl
      have E0:=zX e0
      clear e0
      go_wp2_with fail
      rw[uX E0]
      go_roundg j
      case measure=>omega
      case rel=>exact⟨j,_,_,by omega,rfl,rfl,OX,QX,KX,NX2⟩
theorem div_long2 (v1 v2:Value)(n1:Int)(w:World)(h1:Dg w v1 n1)(h2:Dg w v2 (4294967296 ^ 2))(hn1:n1<4294967296 ^ 6)(hge:18446744073709551616≤n1) :
  Calls Tryz.prog 144 #[v1,v2] w fun e w'=>Below w.heap.size w w'∧∃ q r,e=.returned (.tuple #[q,r])∧Dg w' q (n1 / 4294967296 ^ 2)∧Dg w' r (n1 % 4294967296 ^ 2):=by
 have hl31:=left_any v2 (4294967296 ^ 2) 31
 have CM:=zX (cmp_any v1 v2 n1 (4294967296 ^ 2) w h1 h2 (by omega) (by decide))
 have LN:=zX (fun k=>length_any v2 2 (w.drewN k) h2 (by decide))
 have LV:=zX (fun k=>left_any v2 (4294967296 ^ 2) 31 (w.drewN k) h2 (by decide) (by decide))
 have H1:=zX h1
 obtain⟨LA,rA,iA⟩:=h1
 obtain⟨LB,rB,iB⟩:=h2
 have lA:=iA.len 6 hn1
 have lA3:3≤LA.length:=by
  have a:=iA.hi
  apply Nat.le_of_not_lt
  intro hl
  have:=bp_le (a:=LA.length) (b:=2) (by omega)
  omega
 have eB:=is_unique iB (by have:=is_top1 2 1 (by decide) (by decide);rw[Int.mul_one] at this;exact this)
 obtain⟨lB,-,-⟩:=top1_at eB
 obtain⟨aoA,capA,rfl,-,-,-,-,-,-⟩:=rA.at
 obtain⟨aoB,capB,rfl,-,-,-,-,-,-⟩:=rB.at
 rw[lB] at CM LN LV ⊢
 have IA:=zX iA
 clear rA rB iA iB eB lB hl31
 have hcm:decide (cm n1 (4294967296 ^ 2)<0)=false:=by unfold cm;rw[if_neg (by omega)];split <;> decide
 generalize cm n1 (4294967296 ^ 2)=cmv at *
 have hb2:decide ((LA.length:Int)≤2)=false:=decide_eq_false (by omega)
 have hmk:=make32t LA.length (by omega)
 go_enter Tryz.func144,Tryz.ntmps144
 go_wp2_with fail
 refine (uX CM).mono ?_
 rintro e w1 ⟨⟨k,rfl⟩,rfl⟩
 go_wp2_with fail
 refine (uX LN k).mono ?_
 rintro e w1 ⟨rfl,rfl⟩
 go_wp2_with fail
 refine (uX LV k).mono ?_
 rintro e w2 ⟨k2,vv,rfl,⟨LVs,rV,iV⟩⟩
 have eV:=is_unique iV (is_top1 2 2147483648 (by decide) (by decide))
 obtain⟨lV,tV,zV⟩:=top1_at eV
 obtain⟨aoV,capV,rfl,-,-,-,hV4,hV5,hV6⟩:=rV.at
 obtain⟨dV,rfl⟩:=hV5 (by omega)
 have hdV:=(hV4 _ _ _ rfl).2.2
 have HCV:=zX (hV6 dV rfl)
 have ZV:=zX zV
 have TV:=zX tV
 have LVL:=zX lV
 have K2:=zX (of_drewN k2)
 rw[lV]
 clear k2 iV rV eV hV4 hV5 hV6 CM LN LV zV tV
 have OU:=zX (Own32.new w2 (LA.length+2))
 have KU:=zX (qaa w2 (.cells (madeCells #[.int .u32 0] (LA.length+2)) 159))
 have hsU:(w2.alloc (.cells (madeCells #[.int .u32 0] (LA.length+2)) 159)).heap.size=w2.heap.size+1:=by simp
 have hgU:Hid ((w2.alloc (.cells (madeCells #[.int .u32 0] (LA.length+2)) 159)).heap[w2.heap.size]?=some (.cells (List.replicate (LA.length+2) (Value.int .u32 0)).toArray 159 (0,0))):=by
  rw[made_rep]
  show (w2.heap.push _)[w2.heap.size]?=_
  simp
 go_wp2_with fail
 clear hmk
 generalize w2.alloc (.cells (madeCells #[.int .u32 0] (LA.length+2)) 159)=W3 at *
 refine (left_any _ n1 31 W3 (((uX H1).step (uX K2)).step (uX KU)) (by omega) (by decide)).mono ?_
 rintro e w4 ⟨k4,vu,rfl,⟨LU,rU,iU⟩⟩
 have lU:LU.length≤LA.length+1:=iU.len (LA.length+1) (by
  have:=(uX IA).hi
  rw[Int.pow_succ]
  omega)
 obtain⟨aoU,capU,rfl,-,-,-,hU4,hU5,hU6⟩:=rU.at
 have K4:=zX k4
 have O4:=zX ((uX OU).step (uX K4))
 have g4:=zX (((uX K4).block w2.heap.size (by omega)).trans (uX hgU))
 have IU:=zX iU
 have HU5:=zX hU5
 have HU6:=zX hU6
 clear k4 iU rU hU4 hU5 hU6
 have lq:(LA.length:Int)+2 - 3=((LA.length - 2+1:Nat):Int):=by omega
 have hmq:=make32x (LA.length - 2+1) ((LA.length:Int)+2 - 3) lq (by omega)
 have HLQ:=zX lq
 clear lq
 go_wp2_with (refine wpList_copy_splice rfl (.tmp 81) (.tmp 84) 125 125 rfl 159 Tryz.underlying125 Tryz.sizeU32 (some ⟨w2.heap.size,0,none⟩) aoU (LA.length+2) (LA.length+2) LU.length capU rfl rfl w2.heap.size 0 (List.replicate (LA.length+2) (Value.int .u32 0)) 159 (uX g4) (LU.map u32v) (by rw[List.length_map];exact (Nat.min_eq_left (by omega)).symm) (hpu_of (uX HU5) (uX HU6)) (by rw[List.length_map,List.length_replicate];omega) (u32_one _) w2.heap.size w4 (Below.refl _ _) (Nat.le_refl _) ?_;intro w5 g5 k5;have K5:=zX k5;have O5:=zX (own_splice g5 (by omega));clear g5 k5)
 have OU5:=O5
 have KV5:=zX (((uX KU).trans ((uX K4).mono (by omega))).trans (uX K5))
 have QN:=zX (Own32.new w5 (LA.length - 2+1))
 have KQ:=zX (qaa w5 (.cells (madeCells #[.int .u32 0] (LA.length - 2+1)) 159))
 have hsQ:(w5.alloc (.cells (madeCells #[.int .u32 0] (LA.length - 2+1)) 159)).heap.size=w5.heap.size+1:=by simp
 have s5:w2.heap.size<w5.heap.size:=(uX O5).lt
 have cV0:=zK (qaa w5 (.cells (madeCells #[.int .u32 0] (LA.length - 2+1)) 159)) (by omega) (((uX KV5).cell (p:=⟨dV,2,none⟩) hdV).trans (uX HCV 2 (by have:=uX LVL;omega)))
 have cV1:=zK (qaa w5 (.cells (madeCells #[.int .u32 0] (LA.length - 2+1)) 159)) (by omega) (((uX KV5).cell (p:=⟨dV,1,none⟩) hdV).trans (uX HCV 1 (by have:=uX LVL;omega)))
 rw[uX TV] at cV0
 rw[uX ZV 1 (by decide)] at cV1
 have OU6:=zX ((uX OU5).step (uX KQ))
 have KV6:=zX ((uX KV5).trans ((uX KQ).mono (by omega)))
 go_wp2_with fail
 clear hmq
 go_quiet (fail)
 go_wp2_with fail
 have SD:=zX (DInv.start (uX IU) lU (m:=2) (la:=LA.length) (by omega))
 have QN2:Hid (Own32 ((w5.alloc (.cells (madeCells #[.int .u32 0] (LA.length - 2+1)) 159)).drewN nq) w5.heap.size (List.replicate (LA.length - 2+1) 0)):=uX QN
 have OU7:Hid (Own32 ((w5.alloc (.cells (madeCells #[.int .u32 0] (LA.length - 2+1)) 159)).drewN nq) w2.heap.size (LU++List.replicate (LA.length+2 - LU.length) 0)):=uX OU6
 have KV7:Hid (Below w2.heap.size w2 ((w5.alloc (.cells (madeCells #[.int .u32 0] (LA.length - 2+1)) 159)).drewN nq)):=⟨(uX KV6).os,(uX KV6).tape,(uX KV6).output,(uX KV6).size,(uX KV6).block⟩
 generalize (w5.alloc (.cells (madeCells #[.int .u32 0] (LA.length - 2+1)) 159)).drewN nq=w7 at *
 have s7:=(uX QN2).lt
 clear OU5 OU6 KV5 KV6 QN KQ hsQ cV0 cV1 O5 K5 IU HU5 HU6 O4 g4 OU hgU hsU KU K4 lU
 generalize w5.heap.size=dQ at *
 go_loopg [18] (LA.length - 2+1) (fun g t wr=>∃ (k:Nat) (U Q:List Int),k≤LA.length - 2+1∧g=k∧t=.int .i64 ((k:Int) - 1)∧Hid (Own32 wr w2.heap.size U)∧Hid (Own32 wr dQ Q)∧Hid (Below w2.heap.size w2 wr)∧Hid (DInv n1 LA.length 2 U Q k))
 case atStart=>exact⟨LA.length - 2+1,_,_,Nat.le_refl _,rfl,congrArg (Value.int .i64) (by have:=uX HLQ;omega),OU7,QN2,KV7,SD⟩
 case round =>
  obtain⟨k,U,Q,hk,hg,rfl,hOU,hOQ,hKV,hI⟩:=hrel
  clear QN2 OU7 KV7 SD
  have hz:=(uX hOU).lt
  have hz2:=(uX hOQ).lt
  have hUl:=zX (uX hI).ul
  have hQl:=zX (uX hI).ql
  by_cases k0:k=0
  ·subst k0
   obtain⟨e1,e2⟩:=(uX hI).done (by omega)
   have RWQ:=(uX hOQ).row (by rw[uX hQl];unfold maxLen;omega)
   have TRQ:=qbf _ _ _ RWQ (uX hI).qw (by rw[uX hQl];omega)
   rw[uX hQl,e1] at TRQ
   have RWU:=(uX hOU).row (by rw[uX hUl];unfold maxLen;omega)
   have TRU:=qbf _ _ _ RWU (uX hI).uw (by rw[uX hUl];omega)
   rw[uX hUl] at TRU
   have HTQ:=zX TRQ
   have HTU:=zX TRU
   have hU8:vl U<4294967296 ^ 8:=by
    have a:=vl_hi (uX hI).uw
    have b:=bp_le (a:=U.length) (b:=8) (by rw[uX hUl];omega)
    omega
   have E2:=zX e2
   clear TRQ TRU RWQ RWU e1 e2
   go_wp2_with fail
   refine (uX HTQ).mono ?_
   rintro e w1 ⟨rfl,vq,rfl,D1⟩
   have HD:=zX D1
   clear D1
   go_wp2_with fail
   refine (uX HTU).mono ?_
   rintro e w1 ⟨rfl,vu,rfl,D2⟩
   have RT:=right_any vu (vl U) 31 _ D2 hU8 (by decide)
   rw[show (2:Int) ^ 31=2147483648 by decide,uX E2] at RT
   clear D2
   go_wp2_with fail
   refine RT.mono ?_
   rintro e w8 ⟨k8,vr,rfl,D8⟩
   have HD8:=zX D8
   have HK8:=zX k8
   clear RT D8 k8
   go_wp2_with fail
   go_ret2
   exact⟨(uX K2).trans (((uX hKV).trans ((uX HK8).mono (by omega))).mono (uX K2).size),_,_,rfl,(uX HD).step (uX HK8),uX HD8⟩
  ·obtain⟨j,rfl⟩:∃ j,k=j+1:=⟨k - 1,by omega⟩
   have hjm:j+2≤LA.length:=by omega
   have e1:(((j+1:Nat):Int) - 1)=(j:Int):=by omega
   have cy:=(uX hOU).cell (j+3) (by have:=uX hUl;omega)
   have cx:=(uX hOU).cell (j+2) (by have:=uX hUl;omega)
   have cz:=(uX hOU).cell (j+1) (by have:=uX hUl;omega)
   have gx:=(uX hI).uw.get (j+2)
   have gy:=(uX hI).uw.get (j+3)
   have gz:=(uX hI).uw.get (j+1)
   have ty:=(uX hI).top
   rw[show j+1+2=j+3 by omega] at ty
   have NX:=zX ((uX hI).next (j:=j) hjm)
   have ho:=or_two' (U.getD (j+3) 0) (U.getD (j+2) 0) gy gx
   rw[e1]
   have b1:(j:Int)+3<(LA.length:Int)+2:=by omega
   have b2:(j:Int)+3 - 1<(LA.length:Int)+2:=by omega
   have b3:((j:Int)+3 - 1).toNat=j+2:=by omega
   have b4:((j:Int)+3).toNat=j+3:=by omega
   have b5:(0:Int)≤(j:Int)+3 - 1:=by omega
   have b6:(0:Int)≤(j:Int)+3:=by omega
   obtain⟨x,hx⟩:∃ x,x=U.getD (j+2) 0:=⟨_,rfl⟩
   obtain⟨y,hy⟩:∃ y,y=U.getD (j+3) 0:=⟨_,rfl⟩
   obtain⟨z,hzz⟩:∃ z,z=U.getD (j+1) 0:=⟨_,rfl⟩
   rw[← hx] at cx gx ho
   rw[← hy] at cy gy ty ho
   rw[← hzz] at cz gz
   have HX:=zX hx
   have HY:=zX hy
   have HZ:=zX hzz
   clear hx hy hzz e1
   go_wp2_with fail
   go_quiet (fail)
   go_wp2_with fail
   obtain⟨T,hT⟩:∃ T,T=y*4294967296+x:=⟨_,rfl⟩
   rw[← hT]
   have T0:0≤T∧T<9223372036854775808:=by omega
   have HT:=zX hT
   clear hT ho
   go_quiet (fail)
   obtain⟨G,hG⟩:∃ G,G=T / 2147483648:=⟨_,rfl⟩
   obtain⟨S,hS⟩:∃ S,S=T % 2147483648:=⟨_,rfl⟩
   rw[← hG,← hS]
   have G0:0≤G∧G≤4294967295:=by omega
   have S0:0≤S∧S<2147483648:=by omega
   have HG:=zX hG
   have HS:=zX hS
   have ho2:=or_two' S z (by omega) gz
   have b7:((j:Int)+3 - 2).toNat=j+1:=by omega
   have b8:(0:Int)≤(j:Int)+3 - 2:=by omega
   have b9:(j:Int)+3 - 2<(LA.length:Int)+2:=by omega
   have g1:decide (4294967295<G)=false:=decide_eq_false (by omega)
   have g2:decide (S*4294967296+z<0)=false:=decide_eq_false (by omega)
   clear hG hS T0
   go_wp2_with fail
   go_loopg [20,21] 0 (fun _ a b ws=>a=.int .u64 G∧b=.int .u64 S∧∃ q,ws=wr.drewN q)
   case atStart=>exact⟨rfl,rfl,_,World.drewN_drewN _ _ _⟩
   case round =>
    obtain⟨rfl,rfl,q,rfl⟩:=hrel
    go_wp2_with fail
    clear ho2 g1 g2 b7 b8 b9 cz gz HZ
    go_loopg [22,23,24] 3 (fun gk c d i ws=>∃ (ii:Nat) (cc dd:Int) (R:List Int),ii≤3∧gk=3 - ii∧c=.int .u64 cc∧d=.int .u64 dd∧i=.int .i64 ii∧Hid (Own32 ws w2.heap.size R)∧Hid (Own32 ws dQ Q)∧Hid (Below w2.heap.size w2 ws)∧((ii≤2∧cc=0∧dd=0∧R=U)∨(ii=3∧cc=G*2147483648 / 4294967296∧dd=(x - G*2147483648 % 4294967296) % 18446744073709551616 / 9223372036854775808∧R=U.set (j+2) ((x - G*2147483648 % 4294967296) % 18446744073709551616 % 4294967296))))
    case atStart=>exact⟨0,0,0,U,Nat.zero_le _,rfl,rfl,rfl,rfl,uX hOU,uX hOQ,below_drewN (uX hKV) _,.inl ⟨Nat.zero_le _,rfl,rfl,rfl⟩⟩
    case round =>
     obtain⟨ii,cc,dd,R,hii,hgi,rfl,rfl,rfl,hO3,hQ3,hK3,hC⟩:=hrel
     have lt3:=(uX hO3).lt
     rcases hC with ⟨hi,rfl,rfl,rfl⟩|⟨rfl,hcc,hdd,rfl⟩
     ·by_cases him:ii<2
      ·have cv:=zK (uX hK3) hdV (uX HCV ii (by have:=uX LVL;omega))
       rw[uX ZV ii him] at cv
       have cu:=(uX hO3).cell (ii+j) (by have:=uX hUl;omega)
       have gu:=(uX hI).uw.get (ii+j)
       have fu:=(uX hO3).frozen (ii+j)
       have SS:=zX (set_same R (ii+j) (by have:=uX hUl;omega))
       have OX:=zX ((uX hO3).set (ii+j) (R.getD (ii+j) 0) (by have:=uX hUl;omega))
       have QX:=zX ((uX hQ3).other (b:=w2.heap.size) (j:=ii+j) (x:=.int .u32 (R.getD (ii+j) 0)) (by omega))
       have KX:=zX ((uX hK3).setCell (p:=⟨w2.heap.size,ii+j,none⟩) (Nat.le_refl _) (.int .u32 (R.getD (ii+j) 0)))
       have i1:(ii:Int)<3:=by omega
       have i2:((ii:Int)+(j:Int))<(LA.length:Int)+2:=by omega
       have i3:((ii:Int)+(j:Int)).toNat=ii+j:=by omega
       have i4:(0:Int)≤(ii:Int)+(j:Int):=by omega
       generalize R.getD (ii+j) 0=z at *
       go_wp2_with fail
       go_roundg (3 - (ii+1))
       case measure=>omega
       case rel=>exact⟨ii+1,0,z / 9223372036854775808,R,by omega,rfl,rfl,rfl,by go_num,by have:=OX;rw[uX SS] at this;exact this,QX,KX,.inl ⟨by omega,rfl,by omega,rfl⟩⟩
      ·obtain rfl:ii=2:=by omega
       have cv:=zK (uX hK3) hdV (uX HCV 2 (by have:=uX LVL;omega))
       rw[uX TV] at cv
       have cu:=(uX hO3).cell (2+j) (by have:=uX hUl;omega)
       rw[show 2+j=j+2 by omega] at cu
       rw[← uX HX] at cu
       have fu:=(uX hO3).frozen (j+2)
       have i3:(2+(j:Int)).toNat=j+2:=by omega
       have i4:(0:Int)≤2+(j:Int):=by omega
       have i2:2+(j:Int)<(LA.length:Int)+2:=by omega
       have V0:0≤(x - G*2147483648 % 4294967296) % 18446744073709551616 % 4294967296∧(x - G*2147483648 % 4294967296) % 18446744073709551616 % 4294967296≤4294967295:=by omega
       have OX:=zX ((uX hO3).set (j+2) ((x - G*2147483648 % 4294967296) % 18446744073709551616 % 4294967296) (by have:=uX hUl;omega))
       have QX:=zX ((uX hQ3).other (b:=w2.heap.size) (j:=j+2) (x:=.int .u32 ((x - G*2147483648 % 4294967296) % 18446744073709551616 % 4294967296)) (by omega))
       have KX:=zX ((uX hK3).setCell (p:=⟨w2.heap.size,j+2,none⟩) (Nat.le_refl _) (.int .u32 ((x - G*2147483648 % 4294967296) % 18446744073709551616 % 4294967296)))
       go_wp2_with fail
       rw[wrap_wrap]
       go_roundg 0
       case measure=>omega
       case rel=>exact⟨3,_,_,_,Nat.le_refl _,rfl,rfl,rfl,rfl,OX,QX,KX,.inr ⟨rfl,rfl,rfl,rfl⟩⟩
     ·have hGT:G=(y*4294967296+x) / 2147483648:=by rw[uX HG,uX HT]
      obtain⟨hV,hB⟩:=borrow gx ⟨gy.1,ty⟩ hGT
      rw[← hcc,← hdd] at hB
      have d0:0≤dd∧dd≤1:=by
       have:(0:Int)≤(x - G*2147483648 % 4294967296) % 18446744073709551616∧(x - G*2147483648 % 4294967296) % 18446744073709551616<18446744073709551616:=by omega
       omega
      have hc2:cc=y - dd:=by omega
      have c0:0≤y - dd:=by rw[← hc2,hcc];omega
      clear hcc hdd hB
      subst hc2
      have NX2:Hid (DInv n1 LA.length 2 ((U.set (j+2) ((x - G*2147483648 % 4294967296) % 18446744073709551616 % 4294967296)).set (j+3) 0) (Q.set j G) j):=by
       rw[hV,hGT]
       have:=uX NX
       rw[show j+2+1=j+3 by omega,← uX HX,← uX HY] at this
       exact this
      generalize (x - G*2147483648 % 4294967296) % 18446744073709551616 % 4294967296=V at *
      have cu:=(uX hO3).cell (j+3) (by have:=uX hUl;rw[List.length_set];omega)
      rw[qal (by omega),← uX HY] at cu
      have fu:=(uX hO3).frozen (j+3)
      have cq:=(uX hQ3).cell j (by have:=uX hQl;omega)
      have fq:=(uX hQ3).frozen j
      have OX:=zX (((uX hO3).set (j+3) 0 (by have:=uX hUl;rw[List.length_set];omega)).other (b:=dQ) (j:=j) (x:=.int .u32 G) (by omega))
      have QX:=zX (((uX hQ3).other (b:=w2.heap.size) (j:=j+3) (x:=.int .u32 0) (by omega)).set j G (by have:=uX hQl;omega))
      have KX:=zX (((uX hK3).setCell (p:=⟨w2.heap.size,j+3,none⟩) (Nat.le_refl _) (.int .u32 0)).setCell (p:=⟨dQ,j,none⟩) (by show w2.heap.size≤dQ;omega) (.int .u32 G))
      have i5:(j:Int)<((LA.length - 2:Nat):Int)+1:=by omega
      have i6:j<LA.length - 2+1:=by omega
      have hnq:dQ≠w2.heap.size:=by omega
      have hq3:=(uX hQ3).lt
      generalize Q.getD j 0=qz at *
      clear NX hV hGT HX HY
      have e0:y - (y - dd) - dd=0:=by omega
      have hb0:((y - (y - dd) - dd) / 9223372036854775808 != 0)=false:=by rw[e0];rfl
      have E0:=zX e0
      clear e0
      go_wp2_with fail
      rw[uX E0]
      go_roundg j
      case measure=>omega
      case rel=>exact⟨j,_,_,by omega,rfl,rfl,OX,QX,KX,NX2⟩
end Go.Proofs.YtjpnnmkefaodoaaGreat
