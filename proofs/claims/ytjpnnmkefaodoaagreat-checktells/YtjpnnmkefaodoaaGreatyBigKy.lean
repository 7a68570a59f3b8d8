/-
  BigK, BigL, BigM0.
-/
import Derived.Test.YtjpnnmkefaodoaaGreatyBigCy
import Derived.Laws.CopyOwn
set_option maxHeartbeats 8000000
set_option maxRecDepth 100000
namespace Go.Proofs.YtjpnnmkefaodoaaGreat
open Go.RowKit
set_option linter.unusedSimpArgs false
set_option linter.unusedVariables false
structure RightInv (A R:List Int)(s i:Nat):Prop where
 len:R.length=A.length
 wds:Wds R
 zer:∀ j,i≤j→R.getD j 0=0
 val:vl R+4294967296 ^ i*(A.getD i 0 / 2 ^ s)=vl (A.take (i+1)) / 2 ^ s
theorem RightInv.start (A:List Int)(s:Nat):RightInv A (List.replicate A.length 0) s 0 :=
 ⟨by simp,wds_rep _,fun j _=>getD_rep _ j,by
  rw[vl_rep]
  have:=vl_take A 0
  simp[vl] at this ⊢
  rw[this]⟩
theorem dm_split {x y:Int}{s:Nat}(hs:s≤31)(hx:0≤x∧x≤4294967295)(hy:0≤y∧y≤4294967295) :
  (x+4294967296*y) / 2 ^ s=x / 2 ^ s+2 ^ (32 - s)*y∧(x+4294967296*y) / 2 ^ s % 4294967296+4294967296*(y / 2 ^ s)=x / 2 ^ s+2 ^ (32 - s)*y:=by
 obtain⟨p1,p2,p3⟩:=two_pow_le hs
 have e1:(x+4294967296*y) / 2 ^ s=x / 2 ^ s+2 ^ (32 - s)*y:=by
  rw[← p3,Int.mul_assoc,Int.add_mul_ediv_left _ _ (by omega)]
 refine⟨e1,?_⟩
 have q1:(x+4294967296*y) / 2 ^ s / 4294967296=y / 2 ^ s:=by
  rw[Int.ediv_ediv_of_nonneg (by omega),Int.mul_comm ((2:Int) ^ s) 4294967296,← Int.ediv_ediv_of_nonneg (by decide)]
  congr 1
  omega
 rw[← q1,← e1]
 omega
theorem RightInv.next {A R:List Int}{s i:Nat}(h:RightInv A R s i)(hi:i<A.length)(hA:Wds A)(hs:s≤31) :
  RightInv A (R.set i ((A.getD i 0+4294967296*A.getD (i+1) 0) / 2 ^ s % 4294967296)) s (i+1):=by
 obtain⟨h1,h2,h3,h4⟩:=h
 obtain⟨d1,d2⟩:=dm_split hs (hA.get i) (hA.get (i+1))
 obtain⟨p1,p2,p3⟩:=two_pow_le hs
 have s1:=vl_set R i ((A.getD i 0+4294967296*A.getD (i+1) 0) / 2 ^ s % 4294967296) (by omega)
 rw[h3 i (Nat.le_refl _)] at s1
 have t:=vl_take A (i+1)
 refine⟨by rw[List.length_set];exact h1,h2.set _ (by omega),fun j hj=>by rw[qal (by omega)];exact h3 j (by omega),?_⟩
 rw[s1,t]
 have e:vl (A.take (i+1))+4294967296 ^ (i+1)*A.getD (i+1) 0=vl (A.take (i+1))+2 ^ s*(2 ^ (32 - s)*(4294967296 ^ i*A.getD (i+1) 0)):=by
  rw[Int.pow_succ,← p3]
  grind
 rw[e,Int.add_mul_ediv_left _ _ (by omega),← h4,Int.pow_succ]
 generalize (A.getD i 0+4294967296*A.getD (i+1) 0) / 2 ^ s % 4294967296=r at *
 generalize A.getD (i+1) 0 / 2 ^ s=q at *
 generalize A.getD i 0 / 2 ^ s=u at *
 generalize A.getD (i+1) 0=y at *
 generalize (2:Int) ^ (32 - s)=T at *
 generalize (4294967296:Int) ^ i=P at *
 clear s1 t e h1 h2 h3 h4 d1 p1 p2 p3
 grind
theorem RightInv.done {A R:List Int}{s:Nat}(h:RightInv A R s A.length):vl R=vl A / 2 ^ s:=by
 have:=h.val
 rw[List.take_of_length_le (by omega),List.getD_eq_getElem?_getD,List.getElem?_eq_none (Nat.le_refl _)] at this
 simpa using this
theorem right_any (v:Value)(n:Int)(s:Nat)(w:World)(h:Dg w v n)(hn:n<4294967296 ^ 8)(hs:s≤31) :
  Calls Tryz.prog 167 #[v,.int .u64 (s:Int)] w fun e w'=>Below w.heap.size w w'∧∃ v',e=.returned v'∧Dg w' v' (n / 2 ^ s):=by
 obtain⟨LA,rA,iA⟩:=h
 have lA:=iA.len 8 hn
 obtain⟨aoA,capA,rfl,_,_,_,hA4,hA5,hA6⟩:=rA.at
 have HRA:=zX (fun d (he:aoA=some ⟨d,0,none⟩)=>And.intro (hA4 d 0 none he).2.2 (hA6 d he))
 have HA5:=zX hA5
 have IA:=zX iA
 have zA:=iA.zero
 have hq1:(s:Int) / 32=0:=by omega
 have hq2:(s:Int) % 32=(s:Int):=by omega
 clear hA4 hA5 hA6 rA iA
 by_cases l0:LA.length=0
 ·have e0:=zA.1 l0
  subst e0
  rw[Int.zero_ediv]
  rw[l0]
  clear HRA HA5 zA
  go_enter Tryz.func167,Tryz.ntmps167
  go_wp2_with fail
  go_ret
  exact⟨Below.refl _ _,_,rfl,Dg.nil _⟩
 ·have hb1:decide ((LA.length:Int)≤0)=false:=decide_eq_false (by omega)
  obtain⟨dA,rfl⟩:=uX HA5 l0
  obtain⟨hdA,hcA⟩:=uX HRA dA rfl
  have HCA:=zX hcA
  have O0:=zX (Own32.new w LA.length)
  have K0:=zX (qaa w (.cells (madeCells #[.int .u32 0] LA.length) 159))
  have hmk:=make32 LA.length (by omega)
  clear hcA HRA HA5 zA
  go_enter Tryz.func167,Tryz.ntmps167
  go_wp2_with fail
  clear hmk hb1
  go_loopg [8] LA.length (fun g t wr=>∃ (i:Nat) (R:List Int),i≤LA.length∧g=LA.length - i∧t=.int .i64 i∧Hid (Own32 wr w.heap.size R)∧Hid (Below w.heap.size w wr)∧Hid (RightInv LA R s i))
  case atStart=>exact⟨0,_,Nat.zero_le _,by simp,rfl,O0,K0,RightInv.start LA s⟩
  case round =>
   obtain⟨i,R,hi,hg,rfl,hO,hK,hI⟩:=hrel
   clear O0 K0
   have hz:=(uX hK).size
   have hlt:=(uX hO).lt
   have hRl:=zX (uX hI).len
   by_cases hlt2:i<LA.length
   ·have hiA:(i:Int)<(LA.length:Int):=by omega
    have cA:=zK (uX hK) hdA (uX HCA i hlt2)
    have gA:=(uX IA).1.get i
    have gB:=(uX IA).1.get (i+1)
    have f1:=(uX hO).frozen i
    have c1:=(uX hO).cell i (by have:=uX hRl;omega)
    have NX:=zX ((uX hI).next hlt2 (uX IA).1 hs)
    have OX:=zX ((uX hO).set i ((LA.getD i 0+4294967296*LA.getD (i+1) 0) / 2 ^ s % 4294967296) (by have:=uX hRl;omega))
    have KX:=zX ((uX hK).setCell (p:=⟨w.heap.size,i,none⟩) (Nat.le_refl _) (.int .u32 ((LA.getD i 0+4294967296*LA.getD (i+1) 0) / 2 ^ s % 4294967296)))
    have hneA:dA≠w.heap.size:=by omega
    have hss:((s:Int)).toNat=s:=by omega
    have hs64:(s:Int)<64:=by omega
    have hik:((i:Int)+1).toNat=i+1:=by omega
    by_cases hb:i+1<LA.length
    ·have hib:((i:Int)+1)<(LA.length:Int):=by omega
     have cB:=zK (uX hK) hdA (uX HCA (i+1) hb)
     have ho:=or_two (LA.getD i 0) (LA.getD (i+1) 0) gA gB
     generalize LA.getD i 0=x at *
     generalize LA.getD (i+1) 0=y at *
     generalize R.getD i 0=z at *
     obtain⟨T,hT⟩:∃ T,T=x+4294967296*y:=⟨_,rfl⟩
     rw[← hT] at NX OX KX ho
     have T0:0≤T∧T≤18446744073709551615:=by omega
     have hd0:=(div_pow_le T s T0.1)
     clear hT
     go_wp2_with fail
     go_roundg (LA.length - (i+1))
     case measure=>omega
     case rel=>exact⟨i+1,_,by omega,rfl,by go_num,OX,KX,NX⟩
    ·have hib:decide (((i:Int)+1)<(LA.length:Int))=false:=decide_eq_false (by omega)
     have hy:LA.getD (i+1) 0=0:=by rw[List.getD_eq_getElem?_getD,List.getElem?_eq_none (by omega)];rfl
     rw[hy] at NX OX KX
     clear hy gB
     generalize LA.getD i 0=x at *
     generalize R.getD i 0=z at *
     rw[Int.mul_zero,Int.add_zero] at NX OX KX
     have hd0:=(div_pow_le x s gA.1)
     rw[Int.emod_eq_of_lt hd0.1 (by omega)] at NX OX KX
     go_wp2_with fail
     go_roundg (LA.length - (i+1))
     case measure=>omega
     case rel=>exact⟨i+1,_,by omega,rfl,by go_num,OX,KX,NX⟩
   ·have hiA:i=LA.length:=by omega
    subst hiA
    have hv:vl R=n / 2 ^ s:=by have:=(uX hI).done;rw[(uX IA).2.2] at this;exact this
    have RW:=(uX hO).row (by rw[uX hRl];unfold maxLen;omega)
    have TR:=qbf _ _ _ RW (uX hI).wds (by rw[uX hRl];omega)
    rw[uX hRl,hv] at TR
    have HT:=zX TR
    clear TR RW hv
    go_wp2_with fail
    refine (uX HT).mono ?_
    rintro e w1 ⟨rfl,v1,rfl,D1⟩
    have HD:=zX D1
    clear D1
    go_wp2_with fail
    go_ret
    exact⟨uX hK,_,rfl,uX HD⟩
theorem vl_parts2 (L:List Int)(m:Nat):vl L=vl (L.take m)+4294967296 ^ m*L.getD m 0+4294967296 ^ (m+1)*vl (L.drop (m+1)):=by
 have e:=vl_app (L.take (m+1)) (L.drop (m+1))
 rw[List.take_append_drop,vl_take] at e
 by_cases h:m+1≤L.length
 ·rw[List.length_take,Nat.min_eq_left h] at e;exact e
 ·rw[List.drop_eq_nil_of_le (by omega)] at e ⊢
  simpa [vl] using e
theorem vl_inj:∀ {A B:List Int},Wds A→Wds B→A.length=B.length→vl A=vl B→A=B
 | [],[],_,_,_,_=>rfl
 | [],_::_,_,_,h,_=>by simp at h
 | _::_,[],_,_,h,_=>by simp at h
 | x::r,y::s,hA,hB,hl,hv=>by
  have a:=hA x (by simp)
  have b:=hB y (by simp)
  simp only[vl] at hv
  have e1:x=y:=by omega
  have e2:vl r=vl s:=by omega
  rw[e1,vl_inj (A:=r) (B:=s) (fun z hz=>hA z (by simp[hz])) (fun z hz=>hB z (by simp[hz])) (by simpa using hl) e2]
theorem is_unique {A B:List Int}{n:Int}(hA:Is A n)(hB:Is B n):A=B:=by
 have l1:=hA.len B.length hB.hi
 have l2:=hB.len A.length hA.hi
 exact vl_inj hA.1 hB.1 (by omega) (hA.2.2.trans hB.2.2.symm)
theorem is_top1 (m:Nat)(t:Int)(h0:0<t)(h1:t≤4294967295):Is (List.replicate m 0++[t]) (4294967296 ^ m*t):=by
 refine⟨(wds_rep m).app (fun x hx=>by simp at hx;omega),fun i hi=>?_,?_⟩
 ·simp at hi
  subst hi
  rw[List.getD_eq_getElem?_getD,List.getElem?_append_right (by simp)]
  simp;omega
 ·rw[vl_snoc,vl_rep,List.length_replicate,Int.zero_add]
theorem top1_at {m:Nat}{t:Int}{L:List Int}(hL:L=List.replicate m 0++[t]):L.length=m+1∧L.getD m 0=t∧∀ j,j<m→L.getD j 0=0:=by
 subst hL
 refine⟨by simp,?_,fun j hj=>?_⟩
 ·rw[List.getD_eq_getElem?_getD,List.getElem?_append_right (by simp)];simp
 ·rw[List.getD_eq_getElem?_getD,List.getElem?_append_left (by simpa using hj),List.getElem?_replicate,if_pos hj];rfl
structure DInv (a:Int)(la m:Nat)(U Q:List Int)(k:Nat):Prop where
 ul:U.length=la+2
 uw:Wds U
 ql:Q.length=la - m+1
 qw:Wds Q
 zer:∀ j,k+m+1≤j→U.getD j 0=0
 top:U.getD (k+m) 0<2147483648
 qz:∀ j,j<k→Q.getD j 0=0
 val:vl U+2147483648*4294967296 ^ m*vl Q=a*2147483648
theorem h_fit {x y:Int}(hx:0≤x∧x≤4294967295)(hy:0≤y∧y<2147483648):0≤(y*4294967296+x) / 2147483648∧(y*4294967296+x) / 2147483648≤4294967295∧0≤(y*4294967296+x) % 2147483648∧(y*4294967296+x) % 2147483648<2147483648:=by omega
theorem DInv.next {a:Int}{la m:Nat}{U Q:List Int}{j:Nat}(h:DInv a la m U Q (j+1))(hj:j+m≤la) :
  DInv a la m ((U.set (j+m) ((U.getD (j+m+1) 0*4294967296+U.getD (j+m) 0) % 2147483648)).set (j+m+1) 0) (Q.set j ((U.getD (j+m+1) 0*4294967296+U.getD (j+m) 0) / 2147483648)) j:=by
 obtain⟨h1,h2,h3,h4,h5,h6,h7,h8⟩:=h
 have e1:j+1+m=j+m+1:=by omega
 rw[e1] at h6
 have x:=h2.get (j+m)
 have y:=h2.get (j+m+1)
 obtain⟨q1,q2,q3,q4⟩:=h_fit x ⟨y.1,h6⟩
 have w1:Wds (U.set (j+m) ((U.getD (j+m+1) 0*4294967296+U.getD (j+m) 0) % 2147483648)):=h2.set _ (by omega)
 have s1:=vl_set U (j+m) ((U.getD (j+m+1) 0*4294967296+U.getD (j+m) 0) % 2147483648) (by omega)
 have s2:=vl_set (U.set (j+m) ((U.getD (j+m+1) 0*4294967296+U.getD (j+m) 0) % 2147483648)) (j+m+1) 0 (by rw[List.length_set];omega)
 rw[qal (by omega)] at s2
 have s3:=vl_set Q j ((U.getD (j+m+1) 0*4294967296+U.getD (j+m) 0) / 2147483648) (by omega)
 rw[h7 j (by omega)] at s3
 refine⟨by rw[List.length_set,List.length_set];exact h1,w1.set _ (by omega),by rw[List.length_set];exact h3,h4.set _ ⟨q1,q2⟩,fun i hi=>?_,?_,fun i hi=>by rw[qal (by omega)];exact h7 i (by omega),?_⟩
 ·by_cases e:i=j+m+1
  ·rw[e,getD_set_self (by rw[List.length_set];omega)]
  ·rw[qal (by omega),qal (by omega)];exact h5 i (by omega)
 ·rw[qal (by omega),getD_set_self (by omega)];exact q4
 ·rw[s2,s1,s3,← h8]
  have dm:U.getD (j+m+1) 0*4294967296+U.getD (j+m) 0=2147483648*((U.getD (j+m+1) 0*4294967296+U.getD (j+m) 0) / 2147483648)+(U.getD (j+m+1) 0*4294967296+U.getD (j+m) 0) % 2147483648:=(Int.mul_ediv_add_emod _ _).symm
  have p1:(4294967296:Int) ^ (j+m+1)=4294967296 ^ j*4294967296 ^ m*4294967296:=by rw[Int.pow_succ,Int.pow_add]
  have p2:(4294967296:Int) ^ (j+m)=4294967296 ^ j*4294967296 ^ m:=Int.pow_add ..
  rw[p1,p2]
  generalize (U.getD (j+m+1) 0*4294967296+U.getD (j+m) 0) / 2147483648=g at *
  generalize (U.getD (j+m+1) 0*4294967296+U.getD (j+m) 0) % 2147483648=r at *
  generalize U.getD (j+m+1) 0=y at *
  generalize U.getD (j+m) 0=x at *
  generalize (4294967296:Int) ^ j=P at *
  generalize (4294967296:Int) ^ m=M at *
  clear s1 s2 s3 w1 p1 p2 h1 h2 h3 h4 h5 h6 h7 h8 q1 q2 q3 q4
  grind
theorem DInv.done {a:Int}{la m:Nat}{U Q:List Int}(h:DInv a la m U Q 0)(hm:m≤la):vl Q=a / 4294967296 ^ m∧vl U / 2147483648=a % 4294967296 ^ m:=by
 obtain⟨h1,h2,h3,h4,h5,h6,h7,h8⟩:=h
 rw[Nat.zero_add] at h6
 have p:=bp_pos m
 have e:=vl_parts2 U m
 have z:vl (U.drop (m+1))=0:=vl_zero _ fun j=>by
  rw[List.getD_eq_getElem?_getD,List.getElem?_drop,← List.getD_eq_getElem?_getD];exact h5 _ (by omega)
 rw[z,Int.mul_zero,Int.add_zero] at e
 have t1:=vl_hi (h2.take m)
 rw[List.length_take,Nat.min_eq_left (by omega)] at t1
 have t0:=vl_lo h2
 have b:(4294967296:Int) ^ m*U.getD m 0≤4294967296 ^ m*2147483647:=Int.mul_le_mul_of_nonneg_left (by omega) (Int.le_of_lt p)
 have hlt:vl U<2147483648*4294967296 ^ m:=by omega
 have hU:vl U=2147483648*(a - 4294967296 ^ m*vl Q):=by rw[Int.mul_sub,← Int.mul_assoc];omega
 have r0:0≤a - 4294967296 ^ m*vl Q:=by omega
 have r1:a - 4294967296 ^ m*vl Q<4294967296 ^ m:=by omega
 have ea:a=(a - 4294967296 ^ m*vl Q)+4294967296 ^ m*vl Q:=by omega
 generalize hr:a - 4294967296 ^ m*vl Q=r at *
 constructor
 ·rw[ea,Int.add_mul_ediv_left _ _ (by omega),Int.ediv_eq_zero_of_lt r0 r1];omega
 ·rw[hU,ea,Int.add_mul_emod_self_left,Int.emod_eq_of_lt r0 r1];omega
theorem borrow {x y g:Int}(hx:0≤x∧x≤4294967295)(hy:0≤y∧y<2147483648)(hg:g=(y*4294967296+x) / 2147483648) :
  (x - g*2147483648 % 4294967296) % 18446744073709551616 % 4294967296=(y*4294967296+x) % 2147483648∧(y - g*2147483648 / 4294967296 - (x - g*2147483648 % 4294967296) % 18446744073709551616 / 9223372036854775808)=0:=by
 omega
theorem length_any (v:Value)(m:Nat)(w:World)(h:Dg w v (4294967296 ^ m))(hm:m≤7) :
  Calls Tryz.prog 166 #[v] w fun e w'=>w'=w∧e=.returned (.int .i64 (32*m+1)):=by
 obtain⟨L,rA,iA⟩:=h
 have eL:=is_unique iA (by have:=is_top1 m 1 (by decide) (by decide);rw[Int.mul_one] at this;exact this)
 obtain⟨l1,l2,_⟩:=top1_at eL
 obtain⟨ao,cap,rfl,_,_,_,h4,h5,h6⟩:=rA.at
 obtain⟨d,rfl⟩:=h5 (by omega)
 have c0:=h6 d rfl m (by omega)
 rw[l2] at c0
 rw[l1]
 have e1:(((m+1:Nat):Int) - 1)=(m:Int):=by omega
 have e2:((m+1:Nat):Int)=(m:Int)+1:=by omega
 have hb0:((m:Int)+1==0)=false:=zBq (by omega)
 clear h4 h5 h6 rA iA eL l1 l2
 go_enter Tryz.func166,Tryz.ntmps166
 go_wp2_with fail
 go_loopg [3,4] 1 (fun g n t wr=>wr=w∧((g=1∧n=.int .i64 0∧t=.int .u32 1)∨(g=0∧n=.int .i64 1∧t=.int .u32 0)))
 case atStart=>exact⟨rfl,.inl ⟨rfl,rfl,rfl⟩⟩
 case round =>
  obtain⟨rfl,⟨hg,rfl,rfl⟩|⟨hg,rfl,rfl⟩⟩:=hrel
  ·go_wp2_with fail
   go_roundg 0
   case measure=>omega
   case rel=>exact⟨rfl,.inr ⟨rfl,rfl,rfl⟩⟩
  ·go_wp2_with fail
   go_ret
   refine⟨rfl,congrArg (fun z=>Ending.returned (Value.int .i64 z)) ?_⟩
   omega
theorem Tryz.sizeU32:(Tryz.prog.info? 159).map (·.size)=some 1:=by kernel_rfl
theorem make32t (n:Nat)(hn:n≤900)(w:World):(Instr.makeSlice 125 (.int .i64 ((n:Int)+2)) (.int .i64 ((n:Int)+2))).run Tryz.prog w=.ok (.slice (some ⟨w.heap.size,0,none⟩) (n+2) (n+2)) (w.alloc (.cells (madeCells #[.int .u32 0] (n+2)) 159)) :=
 make32 (n+2) (by omega) w
theorem made_rep (n:Nat):madeCells #[.int .u32 0] n=(List.replicate n (Value.int .u32 0)).toArray:=by
 apply Array.ext'
 have:(fun x:Nat=>([Value.int IntKind.u32 0][x % 1]?).getD default)=fun _=>Value.int IntKind.u32 0:=by funext x;simp[Nat.mod_one]
 simp[madeCells,this,List.map_const']
theorem own_splice {w:World}{d n:Nat}{L:List Int}(h:Hid (w.heap[d]?=some (.cells (splice (List.replicate n (Value.int .u32 0)) 0 (L.map u32v)).toArray 159 (0,0))))(hl:L.length≤n):Own32 w d (L++List.replicate (n - L.length) 0):=by
 have e:splice (List.replicate n (Value.int .u32 0)) 0 (L.map u32v)=(L++List.replicate (n - L.length) 0).map u32v:=by
  unfold splice
  simp[List.map_append,List.drop_replicate]
  exact .inr rfl
 refine⟨_,uX h,by rw[e];simp,fun j hj=>?_⟩
 rw[e,List.getElem?_toArray,List.getElem?_map,getD_of_lt hj]
 rfl
theorem hpu_of {w:World}{L:List Int}{ao:Option Addr}{dp:Nat}(h5:L.length≠0→∃ d,ao=some ⟨d,0,none⟩)(h6:∀ d,ao=some ⟨d,0,none⟩→∀ j,j<L.length→w.cell? ⟨d,j,none⟩=some (.int .u32 (L.getD j 0))) :
  0<(L.map u32v).length→(some (⟨dp,0,none⟩:Addr))=some ⟨dp,0,none⟩∧∃ ad,ao=some ad∧∀ j v,(L.map u32v)[j]?=some v→w.cell? (ad.add j)=some v:=by
 intro hp
 rw[List.length_map] at hp
 obtain⟨d,rfl⟩:=h5 (by omega)
 refine⟨rfl,_,rfl,fun j v hv=>?_⟩
 have hj:j<L.length:=by have:=(List.getElem?_eq_some_iff.1 hv).1;simpa using this
 rw[List.getElem?_map,getD_of_lt hj] at hv
 have e:(⟨d,0,none⟩:Addr).add j=⟨d,j,none⟩:=by unfold Addr.add;split <;> simp_all
 rw[e,h6 d rfl j hj]
 exact hv
theorem Own32.other {w:World}{d b j:Nat}{R:List Int}{x:Value}(h:Own32 w d R)(hne:d≠b):Own32 (w.setCell ⟨b,j,none⟩ x) d R:=by
 obtain⟨cs,h1,h2⟩:=h
 refine⟨cs,?_,h2⟩
 rw[← h1]
 simp[World.setCell,Array.getElem?_modify,Ne.symm hne]
theorem set_same (L:List Int)(k:Nat)(h:k<L.length):L.set k (L.getD k 0)=L:=by
 apply List.ext_getElem?
 intro i
 by_cases e:k=i
 ·subst e
  rw[List.getElem?_set_self h,getD_of_lt h]
 ·rw[List.getElem?_set_ne e]
theorem DInv.start {a:Int}{la m:Nat}{L:List Int}(hL:Is L (a*2 ^ 31))(hl:L.length≤la+1)(hm:m≤la):DInv a la m (L++List.replicate (la+2 - L.length) 0) (List.replicate (la - m+1) 0) (la - m+1):=by
 refine⟨by simp;omega,hL.1.app (wds_rep _),by simp,wds_rep _,fun j hj=>?_,?_,fun j _=>getD_rep _ _,?_⟩
 ·rw[List.getD_eq_getElem?_getD,List.getElem?_eq_none (by simp;omega)];rfl
 ·rw[List.getD_eq_getElem?_getD,List.getElem?_append_right (by omega),← List.getD_eq_getElem?_getD,getD_rep];decide
 ·rw[vl_app,vl_rep,vl_rep,hL.2.2];simp
theorem make32x (n:Nat)(x:Int)(hx:x=(n:Int))(hn:n≤900)(w:World):(Instr.makeSlice 125 (.int .i64 x) (.int .i64 x)).run Tryz.prog w=.ok (.slice (some ⟨w.heap.size,0,none⟩) n n) (w.alloc (.cells (madeCells #[.int .u32 0] n) 159)):=by
 subst hx;exact make32 n (by omega) w
theorem wrap_wrap (e:Int):IntKind.u64.wrap (IntKind.u64.wrap e)=e % 18446744073709551616:=by
 have h:∀ x:Int,IntKind.u64.wrap x=x % 18446744073709551616:=fun x=>rfl
 rw[h,h];omega
end Go.Proofs.YtjpnnmkefaodoaaGreat
