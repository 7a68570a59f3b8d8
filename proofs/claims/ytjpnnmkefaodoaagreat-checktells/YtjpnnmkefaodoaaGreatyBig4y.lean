/-
  Big4, Mem2, Big6, Big7.
-/
import Derived.Test.YtjpnnmkefaodoaaGreatyBig1y
import Derived.Deep.OwnRows
import Derived.Laws.AppendOwnNone
import Derived.OwnWalk
set_option maxHeartbeats 8000000
set_option maxRecDepth 100000
namespace Go.Proofs.YtjpnnmkefaodoaaGreat
open Go.RowKit
set_option linter.unusedSimpArgs false
set_option linter.unusedVariables false
theorem Tryz.infoU32:(Tryz.prog.info? 159).map (fun i=>(i.zero,i.size,i.bytes))=some (some (.int .u32 0),1,4):=by kernel_rfl
theorem make32 (n:Nat)(hn:n≤1000)(w:World):(Instr.makeSlice 125 (.int .i64 (n:Int)) (.int .i64 (n:Int))).run Tryz.prog w=.ok (.slice (some ⟨w.heap.size,0,none⟩) n n) (w.alloc (.cells (madeCells #[.int .u32 0] n) 159)) :=
 run_make_row' 125 159 (.int .u32 0) 4 Tryz.underlying125 Tryz.infoU32 rfl .i64 .i64 n (by omega) (by omega) w
theorem make32s (n:Nat)(hn:n≤900)(w:World):(Instr.makeSlice 125 (.int .i64 ((n:Int)+1)) (.int .i64 ((n:Int)+1))).run Tryz.prog w=.ok (.slice (some ⟨w.heap.size,0,none⟩) (n+1) (n+1)) (w.alloc (.cells (madeCells #[.int .u32 0] (n+1)) 159)) :=
 make32 (n+1) (by omega) w
structure AddInv (A B R:List Int)(i:Nat)(c:Int):Prop where
 len:R.length=A.length+1
 wds:Wds R
 zer:∀ j,i≤j→R.getD j 0=0
 c0:0≤c
 c1:c≤1
 val:vl R+4294967296 ^ i*c=vl (A.take i)+vl (B.take i)
theorem AddInv.start (A B:List Int):AddInv A B (List.replicate (A.length+1) 0) 0 0 :=
 ⟨by simp,wds_rep _,fun j _=>getD_rep _ j,by decide,by decide,by rw[vl_rep];simp[vl]⟩
theorem AddInv.next {A B R:List Int}{i:Nat}{c y:Int}(h:AddInv A B R i c)(hi:i<A.length)(hA:Wds A)(hB:Wds B)(hy:y=B.getD i 0):AddInv A B (R.set i ((c+A.getD i 0+y) % 4294967296)) (i+1) ((c+A.getD i 0+y) / 4294967296):=by
 obtain⟨h1,h2,h3,h4,h5,h6⟩:=h
 have a:=hA.get i
 have b:=hB.get i
 rw[← hy] at b
 have t1:=vl_take A i
 have t2:=vl_take B i
 rw[← hy] at t2
 have s1:=vl_set R i ((c+A.getD i 0+y) % 4294967296) (by omega)
 rw[h3 i (Nat.le_refl _)] at s1
 have dm:c+A.getD i 0+y=(c+A.getD i 0+y) % 4294967296+4294967296*((c+A.getD i 0+y) / 4294967296):=by omega
 refine⟨by rw[List.length_set];exact h1,h2.set _ (by omega),fun j hj=>by rw[qal (by omega)];exact h3 j (by omega),by omega,by omega,?_⟩
 rw[t1,t2,s1,Int.pow_succ]
 generalize (c+A.getD i 0+y) % 4294967296=r at *
 generalize (c+A.getD i 0+y) / 4294967296=q at *
 generalize A.getD i 0=x at *
 generalize (4294967296:Int) ^ i=P at *
 grind
theorem AddInv.done {A B R:List Int}{c:Int}(h:AddInv A B R A.length c)(hl:B.length≤A.length):Wds (R.set A.length c)∧vl (R.set A.length c)=vl A+vl B:=by
 obtain⟨h1,h2,h3,h4,h5,h6⟩:=h
 refine⟨h2.set _ (by omega),?_⟩
 rw[vl_set _ _ _ (by omega),h3 _ (Nat.le_refl _)]
 rw[List.take_of_length_le (Nat.le_refl _),List.take_of_length_le hl] at h6
 rw[Int.sub_zero]
 exact h6
theorem badd_any (v1 v2:Value)(n1 n2:Int)(w:World)(h1:Dg w v1 n1)(h2:Dg w v2 n2)(hn1:n1<4294967296 ^ 8)(hn2:n2<4294967296 ^ 8) :
  Calls Tryz.prog 162 #[v1,v2] w fun e w'=>Below w.heap.size w w'∧∃ v',e=.returned v'∧Dg w' v' (n1+n2):=by
 obtain⟨L1,r1,i1⟩:=h1
 obtain⟨L2,r2,i2⟩:=h2
 by_cases hlen:L1.length<L2.length
 ·obtain⟨LA,hLA⟩:∃ LA,LA=L2:=⟨_,rfl⟩
  obtain⟨LB,hLB⟩:∃ LB,LB=L1:=⟨_,rfl⟩
  rw[← hLA] at r2 i2 hlen
  rw[← hLB] at r1 i1 hlen
  have rA:=r2
  have rB:=r1
  have iA:=i2
  have iB:=i1
  have hA:=hn2
  have hB:=hn1
  clear r1 r2 i1 i2 hn1 hn2 hLA hLB L1 L2
  have lA:=iA.len 8 hA
  have lB:=iB.len 8 hB
  obtain⟨aoA,capA,rfl,_,_,_,hA4,hA5,hA6⟩:=rA.at
  obtain⟨aoB,capB,rfl,_,_,_,hB4,hB5,hB6⟩:=rB.at
  have HRA:=zX (fun d (he:aoA=some ⟨d,0,none⟩)=>And.intro (hA4 d 0 none he).2.2 (hA6 d he))
  have HRB:=zX (fun d (he:aoB=some ⟨d,0,none⟩)=>And.intro (hB4 d 0 none he).2.2 (hB6 d he))
  have HA5:=zX hA5
  have HB5:=zX hB5
  have IA:=zX iA
  have IB:=zX iB
  clear hA4 hA5 hA6 hB4 hB5 hB6 rA rB iA iB
  have hle:LB.length≤LA.length:=by omega
  have hlb:decide ((LB.length:Int)<(LA.length:Int))=true:=by simp;omega
  go_enter Tryz.func162,Tryz.ntmps162
  have O0:=zX (Own32.new w (LA.length+1))
  have K0:=zX (qaa w (.cells (madeCells #[.int .u32 0] (LA.length+1)) 159))
  have hmk:=make32s LA.length (by omega)
  go_wp2_with fail
  clear hmk
  go_loopg [6,7] LA.length (fun g c t wr=>∃ (i:Nat) (cc:Int) (R:List Int),i≤LA.length∧g=LA.length - i∧c=.int .u64 cc∧t=.int .i64 i∧Hid (Own32 wr w.heap.size R)∧Hid (Below w.heap.size w wr)∧Hid (AddInv LA LB R i cc))
  case atStart=>exact⟨0,0,_,Nat.zero_le _,by simp,rfl,rfl,O0,K0,AddInv.start LA LB⟩
  case round =>
   obtain⟨i,cc,R,hi,hg,rfl,rfl,hO,hK,hI⟩:=hrel
   clear O0 K0
   have hz:=(uX hK).size
   have hlt:=(uX hO).lt
   have cc0:=(uX hI).c0
   have cc1:=(uX hI).c1
   have hRl:=zX (uX hI).len
   have hf:=(uX hO).frozen i
   by_cases hlt2:i<LA.length
   ·obtain⟨dA,rfl⟩:=uX HA5 (by omega)
    obtain⟨hdA,hcA⟩:=uX HRA dA rfl
    have cA:=zK (uX hK) hdA (hcA i hlt2)
    have gA:=(uX IA).1.get i
    have cR:=(uX hO).cell i (by have:=uX hRl;omega)
    have hne:dA≠w.heap.size:=by omega
    have hiA:(i:Int)<(LA.length:Int):=by omega
    have hiR:(i:Int)<(LA.length:Int)+1:=by omega
    clear hcA
    by_cases hb:i<LB.length
    ·obtain⟨dB,rfl⟩:=uX HB5 (by omega)
     obtain⟨hdB,hcB⟩:=uX HRB dB rfl
     have cB:=zK (uX hK) hdB (hcB i hb)
     have gB:=(uX IB).1.get i
     have hiB:(i:Int)<(LB.length:Int):=by omega
     have NX:=zX ((uX hI).next hlt2 (uX IA).1 (uX IB).1 (y:=LB.getD i 0) rfl)
     have OX:=zX ((uX hO).set i ((cc+LA.getD i 0+LB.getD i 0) % 4294967296) (by have:=uX hRl;omega))
     have KX:=zX ((uX hK).setCell (p:=⟨w.heap.size,i,none⟩) (Nat.le_refl _) (.int .u32 ((cc+LA.getD i 0+LB.getD i 0) % 4294967296)))
     clear hcB
     generalize LA.getD i 0=x at *
     generalize LB.getD i 0=y at *
     generalize R.getD i 0=z at *
     go_wp2_with fail
     go_roundg (LA.length - (i+1))
     case measure=>omega
     case rel=>exact⟨i+1,_,_,by omega,rfl,rfl,by go_num,OX,KX,NX⟩
    ·have hib:decide ((i:Int)<(LB.length:Int))=false:=by simp;omega
     have NX:=zX ((uX hI).next hlt2 (uX IA).1 (uX IB).1 (y:=0) (by rw[List.getD_eq_getElem?_getD,List.getElem?_eq_none (by omega)];rfl))
     rw[Int.add_zero] at NX
     have OX:=zX ((uX hO).set i ((cc+LA.getD i 0) % 4294967296) (by have:=uX hRl;omega))
     have KX:=zX ((uX hK).setCell (p:=⟨w.heap.size,i,none⟩) (Nat.le_refl _) (.int .u32 ((cc+LA.getD i 0) % 4294967296)))
     generalize LA.getD i 0=x at *
     generalize R.getD i 0=z at *
     go_wp2_with fail
     go_roundg (LA.length - (i+1))
     case measure=>omega
     case rel=>exact⟨i+1,_,_,by omega,rfl,rfl,by go_num,OX,KX,NX⟩
   ·have hiA:i=LA.length:=by omega
    subst hiA
    have cR:=(uX hO).cell LA.length (by have:=uX hRl;omega)
    have DN:=zX ((uX hI).done hle)
    have OX:=zX ((uX hO).set LA.length cc (by have:=uX hRl;omega))
    have KX:=zX ((uX hK).setCell (p:=⟨w.heap.size,LA.length,none⟩) (Nat.le_refl _) (.int .u32 cc))
    have hRX:(R.set LA.length cc).length=LA.length+1:=by rw[List.length_set];exact uX hRl
    have RW:=(uX OX).row (by rw[hRX];unfold maxLen;omega)
    have TR:=qbf _ _ _ RW (uX DN).1 (by rw[hRX];omega)
    rw[hRX,(uX DN).2,(uX IA).2.2,(uX IB).2.2] at TR
    have HT:=zX TR
    clear TR RW hRX
    generalize R.getD LA.length 0=z at *
    go_wp2_with fail
    refine (uX HT).mono ?_
    rintro e w1 ⟨rfl,v1,rfl,D1⟩
    have HD:=zX D1
    clear D1
    go_wp2_with fail
    go_ret
    exact⟨uX KX,_,rfl,by first|exact uX HD|exact Int.add_comm n2 n1 ▸ uX HD⟩
 ·obtain⟨LA,hLA⟩:∃ LA,LA=L1:=⟨_,rfl⟩
  obtain⟨LB,hLB⟩:∃ LB,LB=L2:=⟨_,rfl⟩
  rw[← hLA] at r1 i1 hlen
  rw[← hLB] at r2 i2 hlen
  have rA:=r1
  have rB:=r2
  have iA:=i1
  have iB:=i2
  have hA:=hn1
  have hB:=hn2
  clear r1 r2 i1 i2 hn1 hn2 hLA hLB L1 L2
  have lA:=iA.len 8 hA
  have lB:=iB.len 8 hB
  obtain⟨aoA,capA,rfl,_,_,_,hA4,hA5,hA6⟩:=rA.at
  obtain⟨aoB,capB,rfl,_,_,_,hB4,hB5,hB6⟩:=rB.at
  have HRA:=zX (fun d (he:aoA=some ⟨d,0,none⟩)=>And.intro (hA4 d 0 none he).2.2 (hA6 d he))
  have HRB:=zX (fun d (he:aoB=some ⟨d,0,none⟩)=>And.intro (hB4 d 0 none he).2.2 (hB6 d he))
  have HA5:=zX hA5
  have HB5:=zX hB5
  have IA:=zX iA
  have IB:=zX iB
  clear hA4 hA5 hA6 hB4 hB5 hB6 rA rB iA iB
  have hle:LB.length≤LA.length:=by omega
  have hlb:decide ((LA.length:Int)<(LB.length:Int))=false:=by simp;omega
  go_enter Tryz.func162,Tryz.ntmps162
  have O0:=zX (Own32.new w (LA.length+1))
  have K0:=zX (qaa w (.cells (madeCells #[.int .u32 0] (LA.length+1)) 159))
  have hmk:=make32s LA.length (by omega)
  go_wp2_with fail
  clear hmk
  go_loopg [6,7] LA.length (fun g c t wr=>∃ (i:Nat) (cc:Int) (R:List Int),i≤LA.length∧g=LA.length - i∧c=.int .u64 cc∧t=.int .i64 i∧Hid (Own32 wr w.heap.size R)∧Hid (Below w.heap.size w wr)∧Hid (AddInv LA LB R i cc))
  case atStart=>exact⟨0,0,_,Nat.zero_le _,by simp,rfl,rfl,O0,K0,AddInv.start LA LB⟩
  case round =>
   obtain⟨i,cc,R,hi,hg,rfl,rfl,hO,hK,hI⟩:=hrel
   clear O0 K0
   have hz:=(uX hK).size
   have hlt:=(uX hO).lt
   have cc0:=(uX hI).c0
   have cc1:=(uX hI).c1
   have hRl:=zX (uX hI).len
   have hf:=(uX hO).frozen i
   by_cases hlt2:i<LA.length
   ·obtain⟨dA,rfl⟩:=uX HA5 (by omega)
    obtain⟨hdA,hcA⟩:=uX HRA dA rfl
    have cA:=zK (uX hK) hdA (hcA i hlt2)
    have gA:=(uX IA).1.get i
    have cR:=(uX hO).cell i (by have:=uX hRl;omega)
    have hne:dA≠w.heap.size:=by omega
    have hiA:(i:Int)<(LA.length:Int):=by omega
    have hiR:(i:Int)<(LA.length:Int)+1:=by omega
    clear hcA
    by_cases hb:i<LB.length
    ·obtain⟨dB,rfl⟩:=uX HB5 (by omega)
     obtain⟨hdB,hcB⟩:=uX HRB dB rfl
     have cB:=zK (uX hK) hdB (hcB i hb)
     have gB:=(uX IB).1.get i
     have hiB:(i:Int)<(LB.length:Int):=by omega
     have NX:=zX ((uX hI).next hlt2 (uX IA).1 (uX IB).1 (y:=LB.getD i 0) rfl)
     have OX:=zX ((uX hO).set i ((cc+LA.getD i 0+LB.getD i 0) % 4294967296) (by have:=uX hRl;omega))
     have KX:=zX ((uX hK).setCell (p:=⟨w.heap.size,i,none⟩) (Nat.le_refl _) (.int .u32 ((cc+LA.getD i 0+LB.getD i 0) % 4294967296)))
     clear hcB
     generalize LA.getD i 0=x at *
     generalize LB.getD i 0=y at *
     generalize R.getD i 0=z at *
     go_wp2_with fail
     go_roundg (LA.length - (i+1))
     case measure=>omega
     case rel=>exact⟨i+1,_,_,by omega,rfl,rfl,by go_num,OX,KX,NX⟩
    ·have hib:decide ((i:Int)<(LB.length:Int))=false:=by simp;omega
     have NX:=zX ((uX hI).next hlt2 (uX IA).1 (uX IB).1 (y:=0) (by rw[List.getD_eq_getElem?_getD,List.getElem?_eq_none (by omega)];rfl))
     rw[Int.add_zero] at NX
     have OX:=zX ((uX hO).set i ((cc+LA.getD i 0) % 4294967296) (by have:=uX hRl;omega))
     have KX:=zX ((uX hK).setCell (p:=⟨w.heap.size,i,none⟩) (Nat.le_refl _) (.int .u32 ((cc+LA.getD i 0) % 4294967296)))
     generalize LA.getD i 0=x at *
     generalize R.getD i 0=z at *
     go_wp2_with fail
     go_roundg (LA.length - (i+1))
     case measure=>omega
     case rel=>exact⟨i+1,_,_,by omega,rfl,rfl,by go_num,OX,KX,NX⟩
   ·have hiA:i=LA.length:=by omega
    subst hiA
    have cR:=(uX hO).cell LA.length (by have:=uX hRl;omega)
    have DN:=zX ((uX hI).done hle)
    have OX:=zX ((uX hO).set LA.length cc (by have:=uX hRl;omega))
    have KX:=zX ((uX hK).setCell (p:=⟨w.heap.size,LA.length,none⟩) (Nat.le_refl _) (.int .u32 cc))
    have hRX:(R.set LA.length cc).length=LA.length+1:=by rw[List.length_set];exact uX hRl
    have RW:=(uX OX).row (by rw[hRX];unfold maxLen;omega)
    have TR:=qbf _ _ _ RW (uX DN).1 (by rw[hRX];omega)
    rw[hRX,(uX DN).2,(uX IA).2.2,(uX IB).2.2] at TR
    have HT:=zX TR
    clear TR RW hRX
    generalize R.getD LA.length 0=z at *
    go_wp2_with fail
    refine (uX HT).mono ?_
    rintro e w1 ⟨rfl,v1,rfl,D1⟩
    have HD:=zX D1
    clear D1
    go_wp2_with fail
    go_ret
    exact⟨uX KX,_,rfl,by first|exact uX HD|exact Int.add_comm n2 n1 ▸ uX HD⟩
theorem append_lies {P:Program}{w:World}{ops:Array Oper}{rest:List Oper}{o:Oper}{a:Act}{Q:Exit→Act→World→Prop}(hgd:o.guard=none)(s x:Operand)(t:TypeId)
  (ho:o.op=.call { callee:=.builtin .append,args:=#[s,x],argTypes:=#[t,t] })
  (base:Nat) (e:TypeId) (i:TypeInfo) (z:Value) (size bytes:Nat) (ht:P.underlying t=some (.slice e)) (hi:P.info? e=some i) (hz:i.zero=some z)
  (hsize:i.size=size) (hby:i.bytes=bytes) (hzs:z.cells.size=size) (hsz:0<size)
  (v:Value) (n:Nat) (xs:List Value) (hs:a.eval s=v) (hown:w.ownsRow base e size v n xs)
  (vx:Value) (m:Nat) (news:List Value) (hx:a.eval x=vx) (hl:Lies w size vx m news) (h1:∀ u∈news,u.oneCell'=true)
  (h63:n+m≤maxLen) (hbytes:(n+m)*bytes≤140737488355328) (hbase:base≤w.heap.size)
  (h:∀ v' w',w'.ownsRow base e size v' (n+m) (xs++news)→w.grownBy w' v.ownBlock→wpList P ops Q rest (a.put o.dst v') w'):wpList P ops Q (o::rest) a w:=by
 rcases hl.src with ⟨rfl,rfl,rfl⟩|⟨ad,cap,rfl,hlen,hc⟩
 ·exact wpList_append_own_none hgd s x t ho base e i size ht hi v n xs hs hown hx (h v w (by simpa using hown) (World.grownBy.refl _ _))
 ·exact wpList_append_own w hgd s x t ho base e i z size bytes ht hi hz hsize hby hzs hsz v n xs hs hown ad m cap news hx hlen hc h1 h63 hbytes hbase fun v' w' k1 k2 _=>h v' w' k1 k2
def cm (a b:Int):Int:=if a<b then -1 else if a=b then 0 else 1
theorem vl_parts (L:List Int)(m:Nat):vl L=vl (L.take m)+4294967296 ^ m*L.getD m 0+4294967296 ^ (m+1)*vl (L.drop (m+1)):=by
 have e:=vl_app (L.take (m+1)) (L.drop (m+1))
 rw[List.take_append_drop,vl_take] at e
 by_cases h:m+1≤L.length
 ·rw[List.length_take,Nat.min_eq_left h] at e;exact e
 ·rw[List.drop_eq_nil_of_le (by omega)] at e ⊢
  simpa [vl] using e
theorem drop_eq {A B:List Int}{k:Nat}(hl:A.length=B.length)(h:∀ j,k≤j→A.getD j 0=B.getD j 0):A.drop k=B.drop k:=by
 apply List.ext_getElem?
 intro j
 rw[List.getElem?_drop,List.getElem?_drop]
 by_cases hj:k+j<A.length
 ·rw[getD_of_lt hj,getD_of_lt (by omega),h _ (by omega)]
 ·rw[List.getElem?_eq_none (by omega),List.getElem?_eq_none (by omega)]
theorem cm_at {A B:List Int}{m:Nat}(hA:Wds A)(hB:Wds B)(hl:A.length=B.length)(hm:m<A.length)(h:∀ j,m+1≤j→A.getD j 0=B.getD j 0)(hx:A.getD m 0<B.getD m 0):vl A<vl B:=by
 have a:=vl_parts A m
 have b:=vl_parts B m
 rw[drop_eq hl h] at a
 have ta:=vl_hi (hA.take m)
 have tb:=vl_lo (hB.take m)
 rw[List.length_take,Nat.min_eq_left (by omega)] at ta
 have g:(4294967296:Int) ^ m*(A.getD m 0+1)≤4294967296 ^ m*B.getD m 0:=Int.mul_le_mul_of_nonneg_left (by omega) (Int.le_of_lt (bp_pos m))
 rw[Int.mul_add,Int.mul_one] at g
 omega
theorem cm_len {A B:List Int}{n m:Int}(hA:Is A n)(hB:Is B m)(h:A.length<B.length):n<m:=by
 have a:=hA.hi
 have b:=is_top hB (k:=B.length - 1) (by omega)
 have c:=bp_le (a:=A.length) (b:=B.length - 1) (by omega)
 omega
theorem drew_e1 (w:World)(a:Nat):∃ q,w.drewN a=w.drewN q:=⟨a,rfl⟩
theorem drew_e2 (w:World)(a b:Nat):∃ q,(w.drewN a).drewN b=w.drewN q:=⟨a+b,by rw[World.drewN_drewN]⟩
theorem drew_e3 (w:World)(a b c:Nat):∃ q,((w.drewN a).drewN b).drewN c=w.drewN q:=⟨a+(b+c),by rw[World.drewN_drewN,World.drewN_drewN]⟩
theorem cmp_any (v1 v2:Value)(n1 n2:Int)(w:World)(h1:Dg w v1 n1)(h2:Dg w v2 n2)(hn1:n1<4294967296 ^ 8)(hn2:n2<4294967296 ^ 8) :
  Calls Tryz.prog 109 #[v1,v2] w fun e w'=>(∃ q,w'=w.drewN q)∧e=.returned (.int .i64 (cm n1 n2)):=by
 obtain⟨LA,rA,iA⟩:=h1
 obtain⟨LB,rB,iB⟩:=h2
 have lA:=iA.len 8 hn1
 have lB:=iB.len 8 hn2
 obtain⟨aoA,capA,rfl,_,_,_,hA4,hA5,hA6⟩:=rA.at
 obtain⟨aoB,capB,rfl,_,_,_,hB4,hB5,hB6⟩:=rB.at
 have HRA:=zX (fun d (he:aoA=some ⟨d,0,none⟩)=>And.intro (hA4 d 0 none he).2.2 (hA6 d he))
 have HRB:=zX (fun d (he:aoB=some ⟨d,0,none⟩)=>And.intro (hB4 d 0 none he).2.2 (hB6 d he))
 have HA5:=zX hA5
 have HB5:=zX hB5
 have IA:=zX iA
 have IB:=zX iB
 clear hA4 hA5 hA6 hB4 hB5 hB6 rA rB iA iB
 by_cases hne:LA.length=LB.length
 ·have hE:((LA.length:Int) != (LB.length:Int))=false:=by rw[hne];simp
  have HN:=zX hne
  clear hne
  go_enter Tryz.func109,Tryz.ntmps109
  go_wp2_with fail
  clear hE
  go_loopg [5] LA.length (fun g t wr=>∃ (k:Nat),k≤LA.length∧g=k∧t=.int .i64 ((k:Int) - 1)∧(∃ q,wr=w.drewN q)∧Hid (∀ j,k≤j→LA.getD j 0=LB.getD j 0))
  case atStart =>
   refine⟨LA.length,Nat.le_refl _,rfl,by go_num,⟨0,rfl⟩,fun j hj=>?_⟩
   rw[List.getD_eq_getElem?_getD,List.getD_eq_getElem?_getD,List.getElem?_eq_none hj,List.getElem?_eq_none (by have:=uX HN;omega)]
  case round =>
   obtain⟨k,hk,hg,rfl,⟨q,rfl⟩,hz⟩:=hrel
   by_cases k0:k=0
   ·subst k0
    have hv:cm n1 n2=0:=by
     have e:=drop_eq (k:=0) (uX HN) (uX hz)
     rw[List.drop_zero,List.drop_zero] at e
     have:n1=n2:=by rw[← (uX IA).2.2,← (uX IB).2.2,e]
     simp[cm,this]
    have HV:=zX hv
    clear hv
    go_wp2_with fail
    go_ret
    exact⟨by first|exact drew_e1 _ _|exact drew_e2 _ _ _|exact drew_e3 _ _ _ _,congrArg (fun z=>Ending.returned (Value.int .i64 z)) (uX HV).symm⟩
   ·obtain⟨m,rfl⟩:∃ m,k=m+1:=⟨k - 1,by omega⟩
    obtain⟨dA,rfl⟩:=uX HA5 (by omega)
    obtain⟨hdA,hcA⟩:=uX HRA dA rfl
    have cA:=hcA m (by omega)
    obtain⟨dB,rfl⟩:=uX HB5 (by have:=uX HN;omega)
    obtain⟨hdB,hcB⟩:=uX HRB dB rfl
    have cB:=hcB m (by have:=uX HN;omega)
    have e1:(((m+1:Nat):Int) - 1)=(m:Int):=by omega
    have hm0:(0:Int)≤(m:Int):=by omega
    have hmA:(m:Int)<(LA.length:Int):=by omega
    have hmB:(m:Int)<(LB.length:Int):=by have:=uX HN;omega
    clear hcA hcB
    rcases Int.lt_trichotomy (LA.getD m 0) (LB.getD m 0) with hx|hx|hx
    ·have hv:cm n1 n2=-1:=by
      have:=cm_at (uX IA).1 (uX IB).1 (uX HN) (by omega) (uX hz) hx
      rw[(uX IA).2.2,(uX IB).2.2] at this
      simp[cm,this]
     have HV:=zX hv
     clear hv
     have hb1:(LA.getD m 0 != LB.getD m 0)=true:=bne_iff_ne.2 (by omega)
     have hb2:decide (LA.getD m 0<LB.getD m 0)=true:=decide_eq_true hx
     clear hx
     generalize LA.getD m 0=x at *
     generalize LB.getD m 0=y at *
     go_wp2_with fail
     go_quiet (fail)
     go_wp2_with fail
     go_quiet (fail)
     go_wp2_with fail
     go_ret
     exact⟨by first|exact drew_e1 _ _|exact drew_e2 _ _ _|exact drew_e3 _ _ _ _,congrArg (fun z=>Ending.returned (Value.int .i64 z)) (uX HV).symm⟩
    ·have hb1:(LA.getD m 0 != LB.getD m 0)=false:=by rw[hx];exact bne_self_eq_false _
     have HX:=zX hx
     clear hx
     generalize hx':LA.getD m 0=x at *
     generalize hy':LB.getD m 0=y at *
     have HX':=zX hx'
     have HY':=zX hy'
     clear hx' hy'
     go_wp2_with fail
     go_quiet (fail)
     go_wp2_with fail
     go_roundg m
     case measure=>omega
     case rel=>exact⟨m,by omega,rfl,by go_num,by first|exact drew_e1 _ _|exact drew_e2 _ _ _|exact drew_e3 _ _ _ _,fun j hj=>by
      by_cases e:j=m
      ·rw[e,uX HX',uX HY'];exact uX HX
      ·exact uX hz j (by omega)⟩
    ·have hv:cm n1 n2=1:=by
      have:=cm_at (uX IB).1 (uX IA).1 (uX HN).symm (by have:=uX HN;omega) (fun j hj=>(uX hz j hj).symm) hx
      rw[(uX IA).2.2,(uX IB).2.2] at this
      have a1:¬ n1<n2:=by omega
      have a2:¬ n1=n2:=by omega
      simp[cm,a1,a2]
     have HV:=zX hv
     clear hv
     have hb1:(LA.getD m 0 != LB.getD m 0)=true:=bne_iff_ne.2 (by omega)
     have hb2:decide (LA.getD m 0<LB.getD m 0)=false:=decide_eq_false (by omega)
     clear hx
     generalize LA.getD m 0=x at *
     generalize LB.getD m 0=y at *
     go_wp2_with fail
     go_quiet (fail)
     go_wp2_with fail
     go_quiet (fail)
     go_wp2_with fail
     go_ret
     exact⟨by first|exact drew_e1 _ _|exact drew_e2 _ _ _|exact drew_e3 _ _ _ _,congrArg (fun z=>Ending.returned (Value.int .i64 z)) (uX HV).symm⟩
 ·have hE:((LA.length:Int) != (LB.length:Int))=true:=by simp;omega
  by_cases hlt:LA.length<LB.length
  ·have hb:decide ((LA.length:Int)<(LB.length:Int))=true:=by simp;omega
   have hv:cm n1 n2=-1:=by have:=cm_len (uX IA) (uX IB) hlt;simp[cm,this]
   rw[hv]
   go_enter Tryz.func109,Tryz.ntmps109
   go_wp2_with fail
   go_ret
   exact⟨⟨0,rfl⟩,rfl⟩
  ·have hb:decide ((LA.length:Int)<(LB.length:Int))=false:=by simp;omega
   have hv:cm n1 n2=1:=by
    have:=cm_len (uX IB) (uX IA) (by omega)
    have a1:¬ n1<n2:=by omega
    have a2:¬ n1=n2:=by omega
    simp[cm,a1,a2]
   rw[hv]
   go_enter Tryz.func109,Tryz.ntmps109
   go_wp2_with fail
   go_ret
   exact⟨⟨0,rfl⟩,rfl⟩
def u32v (x:Int):Value:=.int .u32 x
theorem Row.lies {w:World}{v:Value}{L:List Int}(h:Row w v L):Lies w 1 v L.length (L.map u32v):=by
 refine⟨by simp,?_⟩
 rcases h with ⟨rfl,rfl⟩|⟨d,cap,cs,fz,rfl,h2,h3,h4,h5⟩
 ·exact⟨none,0,rfl,Nat.le_refl _,Nat.zero_le _,fun _=>rfl,fun h=>absurd rfl h⟩
 ·refine⟨_,cap,rfl,h2,h3,(fun h=>by cases h),fun _=>⟨d,0,rfl,(Array.getElem?_eq_some_iff.1 h4).1,fun j hj=>?_⟩⟩
  have hj':j<L.length:=by omega
  have:=h5 j hj'
  rw[Nat.zero_add,List.getElem?_map,getD_of_lt hj']
  simp only[World.cell?,h4,this,Option.map_some]
  rfl
theorem own_row {w:World}{B:Nat}{v:Value}{L:List Int}(h:w.ownsRow B 159 1 v L.length (L.map u32v)):Row w v L:=by
 obtain⟨h1,h2⟩:=h
 rcases h2 with ⟨rfl,h3⟩|⟨g,cap,cur,rfl,hb,hg,hn,hm,hs,ht⟩
 ·exact .inl ⟨rfl,List.eq_nil_of_length_eq_zero h3⟩
 ·refine .inr ⟨g,cap,cur,_,rfl,hn,hm,hg,fun j hj=>?_⟩
  have e:(cur.toList.take (L.length*1))[j]?=(L.map u32v)[j]?:=by rw[ht]
  rw[List.getElem?_take,if_pos (by omega),List.getElem?_map,getD_of_lt hj,Array.getElem?_toList] at e
  exact e
theorem u32_one (L:List Int):∀ u∈L.map u32v,u.oneCell'=true:=by
 intro u hu
 obtain⟨x,_,rfl⟩:=List.mem_map.1 hu
 rfl
theorem twin_any (v:Value)(n:Int)(w:World)(h:Dg w v n)(hn:n<4294967296 ^ 8) :
  Calls Tryz.prog 104 #[v] w fun e w'=>Below w.heap.size w w'∧∃ v',e=.returned v'∧Dg w' v' n:=by
 obtain⟨L,hr,hI⟩:=h
 have hl:=hI.len 8 hn
 obtain⟨i0,hi,hz0,hz1,hz2⟩:=info_parts Tryz.infoU32
 have HR:=zX hr
 have II:=zX hI
 clear hr hI
 go_enter Tryz.func104,Tryz.ntmps104
 go_wp2_with (at_builtin;refine append_lies rfl (.const (.slice none 0 0)) (.tmp 3) 125 rfl w.heap.size 159 i0 (.int .u32 0) 1 4 Tryz.underlying125 hi hz0 hz1 hz2 rfl (by decide) _ 0 [] rfl (World.ownsRow_nil _ _ _ _) _ _ _ rfl (uX HR).lies (u32_one _) (by unfold maxLen;omega) (by omega) (Nat.le_refl _) ?_;intro v3 w3 own3 grow3;rw[Nat.zero_add,List.nil_append] at own3;have R3:=zX (own_row own3);have K3:=zX ((Below.refl w.heap.size w).grown grow3 (Nat.le_refl _) (fun k hk=>nomatch (show (none:Option Nat)=some k from hk)));clear own3 grow3)
 go_ret
 exact⟨uX K3,_,rfl,L,uX R3,uX II⟩
structure MulInv (A B R:List Int)(i:Nat):Prop where
 len:R.length=A.length+B.length
 wds:Wds R
 zer:∀ j,i+B.length≤j→R.getD j 0=0
 val:vl R=vl (A.take i)*vl B
structure MulIn (S B R:List Int)(x:Int)(i j:Nat)(c:Int):Prop where
 len:R.length=S.length
 wds:Wds R
 rest:∀ k,i+j≤k→R.getD k 0=S.getD k 0
 c0:0≤c
 c1:c≤4294967295
 val:vl R+4294967296 ^ (i+j)*c=vl S+4294967296 ^ i*x*vl (B.take j)
theorem MulInv.start (A B:List Int):MulInv A B (List.replicate (A.length+B.length) 0) 0 :=
 ⟨by simp,wds_rep _,fun j _=>getD_rep _ j,by rw[vl_rep];simp[vl]⟩
theorem MulIn.start (S B:List Int)(x:Int)(i:Nat)(h:Wds S):MulIn S B S x i 0 0 :=
 ⟨rfl,h,fun _ _=>rfl,by decide,by decide,by simp[vl]⟩
theorem mul_lt {x y:Int}(hx:0≤x∧x≤4294967295)(hy:0≤y∧y≤4294967295):0≤x*y∧x*y≤18446744065119617025:=by
 refine⟨Int.mul_nonneg hx.1 hy.1,?_⟩
 have h1:x*y≤x*4294967295:=Int.mul_le_mul_of_nonneg_left hy.2 hx.1
 omega
theorem MulIn.next {S B R:List Int}{x:Int}{i j:Nat}{c:Int}(h:MulIn S B R x i j c)(hi:i+j<R.length)(hB:Wds B)(hx:0≤x∧x≤4294967295) :
  MulIn S B (R.set (i+j) ((c+(x*B.getD j 0+R.getD (i+j) 0)) % 4294967296)) x i (j+1) ((c+(x*B.getD j 0+R.getD (i+j) 0)) / 4294967296):=by
 obtain⟨h1,h2,h3,h4,h5,h6⟩:=h
 have b:=hB.get j
 have r:=h2.get (i+j)
 have m:=mul_lt hx b
 have t:=vl_take B j
 have s:=vl_set R (i+j) ((c+(x*B.getD j 0+R.getD (i+j) 0)) % 4294967296) hi
 have dm:c+(x*B.getD j 0+R.getD (i+j) 0)=(c+(x*B.getD j 0+R.getD (i+j) 0)) % 4294967296+4294967296*((c+(x*B.getD j 0+R.getD (i+j) 0)) / 4294967296):=by omega
 refine⟨by rw[List.length_set];exact h1,h2.set _ (by omega),fun k hk=>by rw[qal (by omega)];exact h3 k (by omega),by omega,by omega,?_⟩
 rw[t,s,show i+(j+1)=(i+j)+1 by omega,Int.pow_succ]
 have pe:(4294967296:Int) ^ (i+j)=4294967296 ^ i*4294967296 ^ j:=Int.pow_add ..
 rw[pe] at h6 ⊢
 generalize (c+(x*B.getD j 0+R.getD (i+j) 0)) % 4294967296=q at *
 generalize (c+(x*B.getD j 0+R.getD (i+j) 0)) / 4294967296=p at *
 generalize B.getD j 0=y at *
 generalize R.getD (i+j) 0=z at *
 generalize (4294967296:Int) ^ i=P at *
 generalize (4294967296:Int) ^ j=Q at *
 clear s t m r b h1 h2 h3 pe hi hB
 grind
theorem MulIn.done {A B S R:List Int}{i:Nat}{c:Int}(h:MulIn S B R (A.getD i 0) i B.length c)(hS:MulInv A B S i)(hi:i<A.length):MulInv A B (R.set (i+B.length) c) (i+1):=by
 obtain⟨h1,h2,h3,h4,h5,h6⟩:=h
 obtain⟨g1,g2,g3,g4⟩:=hS
 have s:=vl_set R (i+B.length) c (by omega)
 rw[h3 _ (Nat.le_refl _),g3 _ (Nat.le_refl _)] at s
 have t:=vl_take A i
 rw[List.take_of_length_le (Nat.le_refl _)] at h6
 refine⟨by rw[List.length_set];omega,h2.set _ (by omega),fun k hk=>by rw[qal (by omega),h3 k (by omega)];exact g3 k (by omega),?_⟩
 rw[s,t]
 generalize A.getD i 0=x at *
 generalize (4294967296:Int) ^ (i+B.length)=P at *
 generalize (4294967296:Int) ^ i=Q at *
 clear s t h1 h2 h3 g1 g2 g3
 grind
theorem make32p (n m:Nat)(hn:n+m≤900)(w:World):(Instr.makeSlice 125 (.int .i64 ((n:Int)+(m:Int))) (.int .i64 ((n:Int)+(m:Int)))).run Tryz.prog w=.ok (.slice (some ⟨w.heap.size,0,none⟩) (n+m) (n+m)) (w.alloc (.cells (madeCells #[.int .u32 0] (n+m)) 159)) :=
 make32 (n+m) (by omega) w
theorem mul_bany (v1 v2:Value)(n1 n2:Int)(w:World)(h1:Dg w v1 n1)(h2:Dg w v2 n2)(hn1:n1<4294967296 ^ 8)(hn2:n2<4294967296 ^ 8) :
  Calls Tryz.prog 143 #[v1,v2] w fun e w'=>Below w.heap.size w w'∧∃ v',e=.returned v'∧Dg w' v' (n1*n2):=by
 obtain⟨LA,rA,iA⟩:=h1
 obtain⟨LB,rB,iB⟩:=h2
 have lA:=iA.len 8 hn1
 have lB:=iB.len 8 hn2
 obtain⟨aoA,capA,rfl,_,_,_,hA4,hA5,hA6⟩:=rA.at
 obtain⟨aoB,capB,rfl,_,_,_,hB4,hB5,hB6⟩:=rB.at
 have HRA:=zX (fun d (he:aoA=some ⟨d,0,none⟩)=>And.intro (hA4 d 0 none he).2.2 (hA6 d he))
 have HRB:=zX (fun d (he:aoB=some ⟨d,0,none⟩)=>And.intro (hB4 d 0 none he).2.2 (hB6 d he))
 have HA5:=zX hA5
 have HB5:=zX hB5
 have IA:=zX iA
 have IB:=zX iB
 have zA:=iA.zero
 have zB:=iB.zero
 clear hA4 hA5 hA6 hB4 hB5 hB6 rA rB iA iB
 by_cases l0:LA.length=0
 ·have e0:=zA.1 l0
  subst e0
  have hb:((LA.length:Int)==0)=true:=by rw[l0];rfl
  rw[Int.zero_mul]
  rw[l0] at hb ⊢
  clear HRA HRB HA5 HB5 zA zB
  go_enter Tryz.func143,Tryz.ntmps143
  go_wp2_with fail
  go_ret
  exact⟨Below.refl _ _,_,rfl,Dg.nil _⟩
 ·by_cases m0:LB.length=0
  ·have e0:=zB.1 m0
   subst e0
   have hb1:((LA.length:Int)==0)=false:=zBq (by omega)
   rw[Int.mul_zero]
   rw[m0]
   clear HRA HRB HA5 HB5 zA zB
   go_enter Tryz.func143,Tryz.ntmps143
   go_wp2_with fail
   go_ret
   exact⟨Below.refl _ _,_,rfl,Dg.nil _⟩
  ·have hb1:((LA.length:Int)==0)=false:=zBq (by omega)
   have hb2:((LB.length:Int)==0)=false:=zBq (by omega)
   have O0:=zX (Own32.new w (LA.length+LB.length))
   have K0:=zX (qaa w (.cells (madeCells #[.int .u32 0] (LA.length+LB.length)) 159))
   have hmk:=make32p LA.length LB.length (by omega)
   obtain⟨dA,rfl⟩:=uX HA5 l0
   obtain⟨dB,rfl⟩:=uX HB5 m0
   obtain⟨hdA,hcA⟩:=uX HRA dA rfl
   obtain⟨hdB,hcB⟩:=uX HRB dB rfl
   have HCA:=zX hcA
   have HCB:=zX hcB
   clear hcA hcB HRA HRB HA5 HB5 zA zB
   go_enter Tryz.func143,Tryz.ntmps143
   go_wp2_with fail
   clear hmk hb1 hb2
   go_loopg [6] LA.length (fun g t wr=>∃ (i:Nat) (R:List Int),i≤LA.length∧g=LA.length - i∧t=.int .i64 i∧Hid (Own32 wr w.heap.size R)∧Hid (Below w.heap.size w wr)∧Hid (MulInv LA LB R i))
   case atStart=>exact⟨0,_,Nat.zero_le _,by simp,rfl,O0,K0,MulInv.start LA LB⟩
   case round =>
    obtain⟨i,S,hi,hg,rfl,hO,hK,hI⟩:=hrel
    clear O0 K0
    by_cases hlt2:i<LA.length
    ·have hiA:(i:Int)<(LA.length:Int):=by omega
     go_wp2_with fail
     go_loopg [7,8] LB.length (fun g c t ws=>∃ (j:Nat) (cc:Int) (R:List Int),j≤LB.length∧g=LB.length - j∧c=.int .u64 cc∧t=.int .i64 j∧Hid (Own32 ws w.heap.size R)∧Hid (Below w.heap.size w ws)∧Hid (MulIn S LB R (LA.getD i 0) i j cc))
     case atStart=>exact⟨0,0,S,Nat.zero_le _,by simp,rfl,rfl,hO,hK,MulIn.start S LB _ i (uX hI).wds⟩
     case round =>
      obtain⟨j,cc,R,hj,hgj,rfl,rfl,hO2,hK2,hM⟩:=hrel
      have hz:=(uX hK2).size
      have hlt:=(uX hO2).lt
      have cc0:=(uX hM).c0
      have cc1:=(uX hM).c1
      have hRl:=zX ((uX hM).len.trans (uX hI).len)
      have hfj:=(uX hO2).frozen (i+j)
      by_cases hjB:j<LB.length
      ·have cA:=zK (uX hK2) hdA (uX HCA i hlt2)
       have cB:=zK (uX hK2) hdB (uX HCB j hjB)
       have cR:=(uX hO2).cell (i+j) (by have:=uX hRl;omega)
       have gA:=(uX IA).1.get i
       have gB:=(uX IB).1.get j
       have gR:=(uX hM).wds.get (i+j)
       have hjb:(j:Int)<(LB.length:Int):=by omega
       have hij1:((i:Int)+(j:Int))<(LA.length:Int)+(LB.length:Int):=by omega
       have hij2:((i:Int)+(j:Int)).toNat=i+j:=by omega
       have hij0:(0:Int)≤(i:Int)+(j:Int):=by omega
       have NX:=zX ((uX hM).next (by have:=uX hRl;omega) (uX IB).1 gA)
       have OX:=zX ((uX hO2).set (i+j) ((cc+(LA.getD i 0*LB.getD j 0+R.getD (i+j) 0)) % 4294967296) (by have:=uX hRl;omega))
       have KX:=zX ((uX hK2).setCell (p:=⟨w.heap.size,i+j,none⟩) (Nat.le_refl _) (.int .u32 ((cc+(LA.getD i 0*LB.getD j 0+R.getD (i+j) 0)) % 4294967296)))
       have mm:=mul_lt gA gB
       have hneA:dA≠w.heap.size:=by omega
       have hneB:dB≠w.heap.size:=by omega
       obtain⟨x,hx⟩:∃ x,x=LA.getD i 0:=⟨_,rfl⟩
       rw[← hx] at cA gA NX OX KX mm
       have HX:=zX hx
       clear hx
       generalize LB.getD j 0=y at *
       generalize R.getD (i+j) 0=z at *
       obtain⟨p,hp⟩:∃ p,x*y=p:=⟨_,rfl⟩
       rw[hp] at NX OX KX mm
       go_wp2_with fail
       go_quiet (fail)
       go_wp2_with fail
       go_roundg (LB.length - (j+1))
       case measure=>omega
       case rel=>exact⟨j+1,_,_,by omega,rfl,rfl,by go_num,OX,⟨(uX KX).os,(uX KX).tape,(uX KX).output,(uX KX).size,(uX KX).block⟩,uX HX ▸ NX⟩
      ·have hjB':j=LB.length:=by omega
       subst hjB'
       have hjb:decide ((LB.length:Int)<(LB.length:Int))=false:=by simp
       have cR:=(uX hO2).cell (i+LB.length) (by have:=uX hRl;omega)
       have hij1:((i:Int)+(LB.length:Int))<(LA.length:Int)+(LB.length:Int):=by omega
       have hij2:((i:Int)+(LB.length:Int)).toNat=i+LB.length:=by omega
       have hij0:(0:Int)≤(i:Int)+(LB.length:Int):=by omega
       have NX:=zX ((uX hM).done (uX hI) hlt2)
       have OX:=zX ((uX hO2).set (i+LB.length) cc (by have:=uX hRl;omega))
       have KX:=zX ((uX hK2).setCell (p:=⟨w.heap.size,i+LB.length,none⟩) (Nat.le_refl _) (.int .u32 cc))
       generalize R.getD (i+LB.length) 0=z at *
       go_wp2_with fail
       go_roundg (LA.length - (i+1))
       case measure=>omega
       case rel=>exact⟨i+1,_,by omega,rfl,by go_num,OX,KX,NX⟩
    ·have hiA:i=LA.length:=by omega
     subst hiA
     have hz:=(uX hK).size
     have hRl:=(uX hI).len
     have hv:vl S=n1*n2:=by have:=(uX hI).val;rw[List.take_of_length_le (Nat.le_refl _),(uX IA).2.2,(uX IB).2.2] at this;exact this
     have RW:=(uX hO).row (by rw[hRl];unfold maxLen;omega)
     have TR:=qbf _ _ _ RW (uX hI).wds (by rw[hRl];omega)
     rw[hRl,hv] at TR
     have HT:=zX TR
     clear TR RW hv hRl
     go_wp2_with fail
     refine (uX HT).mono ?_
     rintro e w1 ⟨rfl,v1,rfl,D1⟩
     have HD:=zX D1
     clear D1
     go_wp2_with fail
     go_ret
     exact⟨uX hK,_,rfl,uX HD⟩
end Go.Proofs.YtjpnnmkefaodoaaGreat
