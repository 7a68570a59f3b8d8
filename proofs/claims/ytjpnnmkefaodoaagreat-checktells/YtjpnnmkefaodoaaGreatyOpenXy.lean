/-
  OpenX, OpenP.
-/
import Derived.ProofKit
import Derived.OpenShut
import Derived.Deep.Slices
import Derived.Test.YtjpnnmkefaodoaaGreatyTrPy
set_option maxHeartbeats 8000000
set_option maxRecDepth 100000
namespace Go.Proofs.YtjpnnmkefaodoaaGreat
open Go.RowKit Go.ChangeShapes Go.WideShapes Go.ChangeAt
set_option linter.unusedSimpArgs false
set_option linter.unusedVariables false
theorem Tryz.cIntP:Tryz.prog.cellsOf 3=1:=by kernel_rfl
theorem Tryz.cU64P:Tryz.prog.cellsOf 55=1:=by kernel_rfl
theorem Tryz.cBoolP:Tryz.prog.cellsOf 4=1:=by kernel_rfl
theorem Tryz.cStrP:Tryz.prog.cellsOf 9=1:=by kernel_rfl
theorem Tryz.cTypeP:Tryz.prog.cellsOf 34=2:=by kernel_rfl
theorem Tryz.cExP:Tryz.prog.cellsOf 57=6:=by kernel_rfl
theorem Tryz.cExsP:Tryz.prog.cellsOf 35=1:=by kernel_rfl
theorem flat_anyP {α:Type}{n:Nat}{c:α→List Value}(hc:∀ x,(c x).length=n):∀ (l:List α) (i:Nat) (h:i<l.length) (j:Nat),j<n→(l.flatMap c)[i*n+j]?=(c (l[i]'h))[j]?
 | [],i,h,_,_=>by simp at h
 | x::l,0,h,j,hj=>by
  rw[List.flatMap_cons,List.getElem?_append_left (by rw[hc];omega)];simp
 | x::l,i+1,h,j,hj=>by
  have ih:=flat_anyP hc l i (by simpa using h) j hj
  rw[List.flatMap_cons,List.getElem?_append_right (by rw[hc,Nat.add_mul];omega)]
  rw[show (i+1)*n+j - (c x).length=i*n+j by rw[hc,Nat.add_mul];omega,ih]
  simp
theorem flat_lenP {α:Type}{n:Nat}{c:α→List Value}(hc:∀ x,(c x).length=n)(l:List α):(l.flatMap c).length=l.length*n:=by
 induction l with
 | nil=>simp
 | cons x l ih=>rw[List.flatMap_cons,List.length_append,ih,hc,List.length_cons,Nat.add_mul];omega
theorem zip_back {α β:Type}(l:List (α × β)):(l.map (·.1)).zip (l.map (·.2))=l:=by
 induction l with
 | nil=>rfl
 | cons p l ih=>simp[ih]
section
variable {H:Type} {enc:TypeId × Value→H} {W:World}
theorem open_rowsP {α:Type} [Inhabited α] {n:Nat}(hn:0<n){c:α→List Value}(hcl:∀ x,(c x).length=n){T E:TypeId}(hT:Tryz.prog.underlying T=some (.slice E))(hE:Tryz.prog.cellsOf E=n)(Pr:α→Prop){fuel:Nat}{cs:List Value}{x:DataW H × List MemPlace}(hf:DataW.trod enc Tryz.prog W 0 (fun _=>true) true fuel T cs=some x)
  (op:∀ f,f<fuel→∀ (cs:List Value) (y:DataW H × List MemPlace),DataW.trod enc Tryz.prog W 0 (fun _=>true) true f E cs=some y→∃ a,cs=c a∧Pr a) :
  ∃ (v:Value) (l:List α),cs=[v]∧Lies W n v l.length (l.flatMap c)∧(∀ a∈l,Pr a)∧(∀ b,v.ownBlock=some b→l≠[]→b<W.heap.size):=by
 rcases DataW.trod_slice hT hf with ⟨rfl,_⟩|⟨a,len,cap,elems,rest,k,hk,rfl,rfl,hb,hl,hm,hlen,hel,_,_⟩
 ·exact⟨_,[],rfl,Lies.nil _ _,by simp,fun _ _ h=>absurd rfl h⟩
 ·have each:∀ i,i<len→∃ z:α,(∀ j,j<n→W.cell? (a.add (i*n+j))=(c z)[j]?)∧Pr z:=by
   intro i hi
   have key:=hel i hi
   rw[List.getElem?_eq_getElem (by omega)] at key
   obtain⟨cs',h1,h2⟩:=Option.bind_eq_some_iff.1 key
   rw[hE] at h1
   obtain⟨_,_,hcell⟩:=World.cells?_some h1
   obtain⟨z,rfl,hw⟩:=op k (by omega) _ _ h2
   exact⟨z,fun j hj=>by rw[← Go.Deep.add_add];exact hcell j hj,hw⟩
  obtain⟨f,hf'⟩:=Go.Deep.choose_lt each
  obtain⟨b,off,spot⟩:=a
  have c0:0<len→∃ u,W.cell? ⟨b,off,spot⟩=some u:=fun hpos=>by
   have:=(hf' 0 hpos).1 0 hn
   rw[List.getElem?_eq_getElem (by rw[hcl];exact hn)] at this
   exact⟨_,by simpa [Addr.add] using this⟩
  refine⟨_,(List.range len).map f,rfl,⟨flat_lenP hcl _,some ⟨b,off,spot⟩,_,by rw[List.length_map,List.length_range],by simpa using hl,hm,(fun h=>by cases h),fun hn'=>?_⟩,fun z hz=>?_,fun c' hc' hne=>?_⟩
  ·have hpos:0<len:=by simp at hn';omega
   obtain⟨u,c0⟩:=c0 hpos
   have hspot:spot=none:=World.cell?_spot c0
   subst hspot
   refine⟨b,off,rfl,World.block_lt_of_cell? W _ c0,fun j hj=>?_⟩
   simp only[List.length_map,List.length_range] at hj
   have hq:j / n<len:=Nat.div_lt_of_lt_mul (by rw[Nat.mul_comm];exact hj)
   have hr:j % n<n:=Nat.mod_lt _ hn
   have e:j / n*n+j % n=j:=by rw[Nat.mul_comm];exact Nat.div_add_mod j n
   have q:=flat_anyP hcl ((List.range len).map f) (j / n) (by simpa using hq) (j % n) hr
   rw[e] at q
   rw[q,← add_plain]
   have:=(hf' (j / n) hq).1 (j % n) hr
   rw[e] at this
   rw[this]
   simp
  ·obtain⟨k,hk,rfl⟩:=List.mem_map.1 hz
   exact (hf' k (by simpa using hk)).2
  ·have hpos:0<len:=by
    cases len with
    | zero=>exact absurd rfl hne
    | succ m=>omega
   obtain⟨u,c0⟩:=c0 hpos
   injection hc' with hc'
   subst hc'
   exact World.block_lt_of_cell? W _ c0
theorem open_ty {fuel:Nat}{cs:List Value}{x:DataW H × List MemPlace}(h:DataW.trod enc Tryz.prog W 0 (fun _=>true) true fuel 34 cs=some x) :
  ∃ (b:Int) (s:Bool),cs=[.int .i64 b,.bool s]:=by
 obtain⟨xs,k,_,_,hlen,hxl,hf⟩:=DataW.trod_struct Tryz.underlying34 h
 rw[Tryz.cTypeP] at hlen
 match xs,hxl,cs,hlen with
 | [y0,y1],_,[v0,v1],_ =>
  have g0:=hf 0 _ rfl
  have g1:=hf 1 _ rfl
  simp[Tryz.cIntP,Tryz.cBoolP] at g0 g1
  obtain⟨z0,e0,_,w0⟩:=DataW.trod_int Tryz.underlying3 g0
  obtain⟨z1,e1,_⟩:=DataW.trod_bool Tryz.underlying4 g1
  simp at e0 e1
  subst e0 e1
  exact⟨z0,z1,rfl⟩
def ExV (W:World)(p:Ex × Value):Prop:=ExF p.1∧ExL W.heap.size W p.2 p.1.kids
theorem open_exs {fuel:Nat}(IH:∀ f,f<fuel→∀ (cs:List Value) (y:DataW H × List MemPlace),DataW.trod enc Tryz.prog W 0 (fun _=>true) true f 57 cs=some y→∃ p:Ex × Value,cs=exC p.1 p.2∧ExV W p){cs:List Value}{x:DataW H × List MemPlace}(h:DataW.trod enc Tryz.prog W 0 (fun _=>true) true fuel 35 cs=some x) :
  ∃ (v:Value) (xs:List Ex),cs=[v]∧ExL W.heap.size W v xs:=by
 have:Inhabited (Ex × Value):=⟨(.mk 0 0 0 false ByteArray.empty [],undef)⟩
 obtain⟨v,l,rfl,h1,h2,h3⟩:=open_rowsP (n:=6) (c:=fun p:Ex × Value=>exC p.1 p.2) (by decide) (fun _=>rfl) Tryz.underlying35 Tryz.cExP (ExV W) h IH
 refine⟨v,l.map (·.1),rfl,.mk v _ (l.map (·.2)) (by simp) (fun c hc hn=>h3 c hc (fun e=>hn (by rw[e];rfl))) (by rw[List.length_map];unfold exCs;rw[zip_back];exact h1) (fun y hy=>?_) (fun i hi=>?_)⟩
 ·obtain⟨q,hq,rfl⟩:=List.mem_map.1 hy
  exact (h2 q hq).1
 ·have hi':i<l.length:=by simpa using hi
  have:=(h2 _ (List.getElem_mem hi')).2
  simpa using this
theorem open_ex:∀ (fuel:Nat) (cs:List Value) (x:DataW H × List MemPlace),DataW.trod enc Tryz.prog W 0 (fun _=>true) true fuel 57 cs=some x→∃ p:Ex × Value,cs=exC p.1 p.2∧ExV W p:=by
 intro fuel
 induction fuel using Nat.strongRecOn with
 | _ fuel ih =>
  intro cs x h
  obtain⟨xs,k,hk,_,hlen,hxl,hf⟩:=DataW.trod_struct Tryz.underlying57 h
  rw[Tryz.cExP] at hlen
  match xs,hxl,cs,hlen with
  | [y0,y1,y2,y3,y4],_,[v0,v1,v2,v3,v4,v5],_ =>
   have g0:=hf 0 _ rfl
   have g1:=hf 1 _ rfl
   have g2:=hf 2 _ rfl
   have g3:=hf 3 _ rfl
   have g4:=hf 4 _ rfl
   simp[Tryz.cIntP,Tryz.cU64P,Tryz.cTypeP,Tryz.cStrP,Tryz.cExsP] at g0 g1 g2 g3 g4
   obtain⟨z0,e0,_,_⟩:=DataW.trod_int Tryz.underlying3 g0
   obtain⟨z1,e1,_,w1⟩:=DataW.trod_int Tryz.underlying55 g1
   obtain⟨z2,z3,e2⟩:=open_ty g2
   obtain⟨z4,e4,_,w4⟩:=DataW.trod_string Tryz.underlying9 g3
   obtain⟨z5,kids,e5,w5⟩:=open_exs (fun f hf'=>ih f (by omega)) g4
   simp at e0 e1 e2 e4 e5
   obtain⟨rfl,rfl⟩:=e2
   subst e0 e1 e4 e5
   have hw:0≤z1∧z1≤18446744073709551615:=by
    have h1:IntKind.u64.min=0:=rfl
    have h2:IntKind.u64.max=18446744073709551615:=rfl
    simp only[Lit.wf,Bool.and_eq_true,decide_eq_true_eq] at w1
    omega
   exact⟨(.mk z0 z1 z2 z3 z4 kids,v5),rfl,⟨hw,w4⟩,w5⟩
end
theorem Tryz.cSmP:Tryz.prog.cellsOf 103=21:=by kernel_rfl
theorem Tryz.cSmsP:Tryz.prog.cellsOf 39=1:=by kernel_rfl
theorem Tryz.cPmP:Tryz.prog.cellsOf 74=3:=by kernel_rfl
theorem Tryz.cPmsP:Tryz.prog.cellsOf 38=1:=by kernel_rfl
theorem Tryz.cGbP:Tryz.prog.cellsOf 37=5:=by kernel_rfl
theorem Tryz.cGbsP:Tryz.prog.cellsOf 22=1:=by kernel_rfl
theorem Tryz.cFnP:Tryz.prog.cellsOf 41=5:=by kernel_rfl
theorem Tryz.cFnsP:Tryz.prog.cellsOf 23=1:=by kernel_rfl
theorem Tryz.cPgP:Tryz.prog.cellsOf 25=2:=by kernel_rfl
section
variable {H:Type} {enc:TypeId × Value→H} {W:World}
def SmV (W:World)(p:Sm × Sv):Prop:=SmF p.1∧SvL W.heap.size W p.1 p.2
theorem open_sms {fuel:Nat}(IH:∀ f,f<fuel→∀ (cs:List Value) (y:DataW H × List MemPlace),DataW.trod enc Tryz.prog W 0 (fun _=>true) true f 103 cs=some y→∃ p:Sm × Sv,cs=smC p.1 p.2∧SmV W p){cs:List Value}{x:DataW H × List MemPlace}(h:DataW.trod enc Tryz.prog W 0 (fun _=>true) true fuel 39 cs=some x) :
  ∃ (v:Value) (xs:List Sm),cs=[v]∧SmL W.heap.size W v xs:=by
 have:Inhabited (Sm × Sv):=⟨(.mk 0 0 false ByteArray.empty false (.mk 0 0 0 false ByteArray.empty []) (.mk 0 0 0 false ByteArray.empty []) [] [] [] [],⟨undef,undef,undef,undef,undef,undef⟩)⟩
 obtain⟨v,l,rfl,h1,h2,h3⟩:=open_rowsP (n:=21) (c:=fun p:Sm × Sv=>smC p.1 p.2) (by decide) (fun _=>rfl) Tryz.underlying39 Tryz.cSmP (SmV W) h IH
 have at':∀ i (h:i<(l.map (·.1)).length),SvL W.heap.size W (l.map (·.1))[i] ((l.map (·.2))[i]'(by simpa using h)):=fun i hi=>by
  have hi':i<l.length:=by simpa using hi
  have:=(h2 _ (List.getElem_mem hi')).2
  simpa using this
 refine⟨v,l.map (·.1),rfl,.mk v _ (l.map (·.2)) (by simp) (fun c hc hn=>h3 c hc (fun e=>hn (by rw[e];rfl))) (by rw[List.length_map];unfold smCs;rw[zip_back];exact h1) (fun y hy=>?_) (fun i hi=>(at' i hi).hx) (fun i hi=>(at' i hi).hi) (fun i hi=>(at' i hi).h1) (fun i hi=>(at' i hi).h2) (fun i hi=>(at' i hi).h3) (fun i hi=>(at' i hi).h4)⟩
 obtain⟨q,hq,rfl⟩:=List.mem_map.1 hy
 exact (h2 q hq).1
theorem open_sm:∀ (fuel:Nat) (cs:List Value) (x:DataW H × List MemPlace),DataW.trod enc Tryz.prog W 0 (fun _=>true) true fuel 103 cs=some x→∃ p:Sm × Sv,cs=smC p.1 p.2∧SmV W p:=by
 intro fuel
 induction fuel using Nat.strongRecOn with
 | _ fuel ih =>
  intro cs x h
  obtain⟨xs,k,hk,_,hlen,hxl,hf⟩:=DataW.trod_struct Tryz.underlying103 h
  rw[Tryz.cSmP] at hlen
  match xs,hxl,cs,hlen with
  | [y0,y1,y2,y3,y4,y5,y6,y7,y8,y9],_,[v0,v1,v2,v3,v4,v5,v6,v7,v8,v9,v10,v11,v12,v13,v14,v15,v16,v17,v18,v19,v20],_ =>
   have g0:=hf 0 _ rfl
   have g1:=hf 1 _ rfl
   have g2:=hf 2 _ rfl
   have g3:=hf 3 _ rfl
   have g4:=hf 4 _ rfl
   have g5:=hf 5 _ rfl
   have g6:=hf 6 _ rfl
   have g7:=hf 7 _ rfl
   have g8:=hf 8 _ rfl
   have g9:=hf 9 _ rfl
   simp[Tryz.cIntP,Tryz.cTypeP,Tryz.cStrP,Tryz.cBoolP,Tryz.cExP,Tryz.cSmsP] at g0 g1 g2 g3 g4 g5 g6 g7 g8 g9
   obtain⟨z0,e0,_,_⟩:=DataW.trod_int Tryz.underlying3 g0
   obtain⟨z1,z2,e1⟩:=open_ty g1
   obtain⟨z3,e3,_,w3⟩:=DataW.trod_string Tryz.underlying9 g2
   obtain⟨z4,e4,_⟩:=DataW.trod_bool Tryz.underlying4 g3
   obtain⟨⟨x8,xk⟩,e5,w5⟩:=open_ex _ _ _ g4
   obtain⟨⟨i8,ik⟩,e6,w6⟩:=open_ex _ _ _ g5
   obtain⟨s1,l1,e7,w7⟩:=open_sms (fun f hf'=>ih f (by omega)) g6
   obtain⟨s2,l2,e8,w8⟩:=open_sms (fun f hf'=>ih f (by omega)) g7
   obtain⟨s3,l3,e9,w9⟩:=open_sms (fun f hf'=>ih f (by omega)) g8
   obtain⟨s4,l4,e10,w10⟩:=open_sms (fun f hf'=>ih f (by omega)) g9
   simp at e0 e1 e3 e4 e7 e8 e9 e10
   simp only[exC,List.cons.injEq,and_true] at e5 e6
   obtain⟨rfl,rfl⟩:=e1
   obtain⟨rfl,rfl,rfl,rfl,rfl,rfl⟩:=e5
   obtain⟨rfl,rfl,rfl,rfl,rfl,rfl⟩:=e6
   subst e0 e3 e4 e7 e8 e9 e10
   exact⟨(.mk z0 z1 z2 z3 z4 x8 i8 l1 l2 l3 l4,⟨_,_,_,_,_,_⟩),rfl,⟨w3,w5.1,w6.1⟩,⟨w5.2,w6.2,w7,w8,w9,w10⟩⟩
def GbV (W:World)(p:Gb × Value):Prop:=GbP W.heap.size W p.1 p.2
theorem open_gb (fuel:Nat)(cs:List Value)(x:DataW H × List MemPlace)(h:DataW.trod enc Tryz.prog W 0 (fun _=>true) true fuel 37 cs=some x):∃ p:Gb × Value,cs=gbC p.1 p.2∧GbV W p:=by
 obtain⟨xs,k,hk,_,hlen,hxl,hf⟩:=DataW.trod_struct Tryz.underlying37 h
 rw[Tryz.cGbP] at hlen
 match xs,hxl,cs,hlen with
 | [y0,y1,y2,y3],_,[v0,v1,v2,v3,v4],_ =>
  have g0:=hf 0 _ rfl
  have g1:=hf 1 _ rfl
  have g2:=hf 2 _ rfl
  have g3:=hf 3 _ rfl
  simp[Tryz.cIntP,Tryz.cTypeP,Tryz.cStrP,Tryz.cExsP] at g0 g1 g2 g3
  obtain⟨z0,z1,e0⟩:=open_ty g0
  obtain⟨z2,e2,_,w2⟩:=DataW.trod_string Tryz.underlying9 g1
  obtain⟨z3,e3,_,_⟩:=DataW.trod_int Tryz.underlying3 g2
  obtain⟨z4,l,e4,w4⟩:=open_exs (fun f _=>open_ex f) g3
  simp at e0 e2 e3 e4
  obtain⟨rfl,rfl⟩:=e0
  subst e2 e3 e4
  exact⟨(⟨z0,z1,z2,z3,l⟩,v4),rfl,w2,w4⟩
def PmV (W:World)(p:Pm × Value):Prop:=PmP W p.1 p.2
theorem open_pm (fuel:Nat)(cs:List Value)(x:DataW H × List MemPlace)(h:DataW.trod enc Tryz.prog W 0 (fun _=>true) true fuel 74 cs=some x):∃ p:Pm × Value,cs=pmC p.1 p.2∧PmV W p:=by
 obtain⟨xs,k,hk,_,hlen,hxl,hf⟩:=DataW.trod_struct Tryz.underlying74 h
 rw[Tryz.cPmP] at hlen
 match xs,hxl,cs,hlen with
 | [y0,y1],_,[v0,v1,v2],_ =>
  have g0:=hf 0 _ rfl
  have g1:=hf 1 _ rfl
  simp[Tryz.cTypeP,Tryz.cStrP] at g0 g1
  obtain⟨z0,z1,e0⟩:=open_ty g0
  obtain⟨z2,e2,_,w2⟩:=DataW.trod_string Tryz.underlying9 g1
  simp at e0 e2
  obtain⟨rfl,rfl⟩:=e0
  subst e2
  exact⟨(⟨z0,z1,z2⟩,undef),rfl,w2⟩
theorem rowL_of {α β:Type}{n:Nat}{c:α→β→List Value}{Pr:World→α→β→Prop}{v:Value}{l:List (α × β)}(h1:Lies W n v l.length (l.flatMap fun p=>c p.1 p.2))(h2:∀ p∈l,Pr W p.1 p.2)(h3:∀ b,v.ownBlock=some b→l≠[]→b<W.heap.size):RowL n c Pr W.heap.size W v (l.map (·.1)) (l.map (·.2)):=by
 refine⟨by simp,fun b hb hn=>h3 b hb (fun e=>hn (by rw[e];rfl)),by rw[List.length_map,zip_back];exact h1,fun i hi=>?_⟩
 have hi':i<l.length:=by simpa using hi
 have:=h2 _ (List.getElem_mem hi')
 simpa using this
def FnVo (W:World)(p:Fn8 × (Value × Value)):Prop:=FnP W.heap.size W p.1 p.2
theorem open_fn (fuel:Nat)(cs:List Value)(x:DataW H × List MemPlace)(h:DataW.trod enc Tryz.prog W 0 (fun _=>true) true fuel 41 cs=some x):∃ p:Fn8 × (Value × Value),cs=fnC p.1 p.2∧FnVo W p:=by
 obtain⟨xs,k,hk,_,hlen,hxl,hf⟩:=DataW.trod_struct Tryz.underlying41 h
 rw[Tryz.cFnP] at hlen
 match xs,hxl,cs,hlen with
 | [y0,y1,y2,y3],_,[v0,v1,v2,v3,v4],_ =>
  have g0:=hf 0 _ rfl
  have g1:=hf 1 _ rfl
  have g2:=hf 2 _ rfl
  have g3:=hf 3 _ rfl
  simp[Tryz.cTypeP,Tryz.cStrP,Tryz.cPmsP,Tryz.cSmsP] at g0 g1 g2 g3
  obtain⟨z0,e0,_,w0⟩:=DataW.trod_string Tryz.underlying9 g0
  obtain⟨z1,z2,e1⟩:=open_ty g1
  have:Inhabited (Pm × Value):=⟨(⟨0,false,ByteArray.empty⟩,undef)⟩
  obtain⟨z3,l,e3,w3,w4,w5⟩:=open_rowsP (n:=3) (c:=fun p:Pm × Value=>pmC p.1 p.2) (by decide) (fun _=>rfl) Tryz.underlying38 Tryz.cPmP (PmV W) g2 (fun f _=>open_pm f)
  obtain⟨z4,sl,e4,w6⟩:=open_sms (fun f _=>open_sm f) g3
  simp at e0 e1 e3 e4
  obtain⟨rfl,rfl⟩:=e1
  subst e0 e3 e4
  exact⟨(⟨z0,z1,z2,l.map (·.1),sl⟩,(v3,v4)),rfl,w0,⟨_,rowL_of w3 w4 w5⟩,w6⟩
theorem open_Program {v:Value}{d:DataW H}{ps:List MemPlace}(h:DataW.Trod enc Tryz.prog W 0 (fun _=>true) true 25 v d ps):∃ (v1 v2:Value) (p:Pg),v=.agg #[v1,v2]∧PgL W.heap.size W v1 v2 p:=by
 obtain⟨fuel,hf0⟩:=h
 obtain⟨xs,k,hk,_,hlen,hxl,hf⟩:=DataW.trod_struct Tryz.underlying25 hf0
 rw[Tryz.cPgP] at hlen
 have hv:∃ cs:Array Value,v=.agg cs:=by
  cases v <;> first|exact⟨_,rfl⟩|(simp[Value.cells] at hlen)
 obtain⟨⟨cs⟩,rfl⟩:=hv
 simp only[Value.cells] at hlen hf
 match xs,hxl,cs,hlen with
 | [y0,y1],_,[v0,v1],_ =>
  have g0:=hf 0 _ rfl
  have g1:=hf 1 _ rfl
  simp[Tryz.cGbsP,Tryz.cFnsP] at g0 g1
  have:Inhabited (Gb × Value):=⟨(⟨0,false,ByteArray.empty,0,[]⟩,undef)⟩
  have:Inhabited (Fn8 × (Value × Value)):=⟨(⟨ByteArray.empty,0,false,[],[]⟩,(undef,undef))⟩
  obtain⟨z0,l,e0,w0,w1,w2⟩:=open_rowsP (n:=5) (c:=fun p:Gb × Value=>gbC p.1 p.2) (by decide) (fun _=>rfl) Tryz.underlying22 Tryz.cGbP (GbV W) g0 (fun f _=>open_gb f)
  obtain⟨z1,m,e1,u0,u1,u2⟩:=open_rowsP (n:=5) (c:=fun p:Fn8 × (Value × Value)=>fnC p.1 p.2) (by decide) (fun _=>rfl) Tryz.underlying23 Tryz.cFnP (FnVo W) g1 (fun f _=>open_fn f)
  simp at e0 e1
  subst e0 e1
  exact⟨v0,v1,⟨l.map (·.1),m.map (·.1)⟩,rfl,⟨⟨_,rowL_of w0 w1 w2⟩,⟨_,rowL_of u0 u1 u2⟩⟩⟩
end
end Go.Proofs.YtjpnnmkefaodoaaGreat
