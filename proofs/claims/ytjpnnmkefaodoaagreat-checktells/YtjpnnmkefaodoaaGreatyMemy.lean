/-
  Mem, TrA.
-/
import Derived.WalkKit
import Derived.Deep.QuietTactic
import Derived.BigQuiet
set_option maxHeartbeats 8000000
set_option maxRecDepth 100000
namespace Go.Proofs.YtjpnnmkefaodoaaGreat
open Go.RowKit
set_option linter.unusedSimpArgs false
set_option linter.unusedVariables false
theorem zTD {α:Type}:(∀ (a:α) (l:List α) (i:Nat),(a::l).take (i+1)=a::l.take i)∧(∀ l:List α,l.take 0=[])∧(∀ (a:α) (l:List α) (i:Nat),(a::l).drop (i+1)=l.drop i)∧(∀ l:List α,l.drop 0=l):=⟨fun _ _ _=>rfl,fun _=>rfl,fun _ _ _=>rfl,fun _=>rfl⟩
theorem zBq {α:Type} [BEq α] [LawfulBEq α] {a b:α}(h:a≠b):(a==b)=false:=by simpa using h
def Lies (w:World)(s:Nat)(v:Value)(n:Nat)(cs:List Value):Prop :=
 cs.length=n*s∧∃ ao cap,v=.slice ao n cap∧n≤cap∧cap≤maxLen∧(ao=none→cap=0)∧(n≠0→∃ b off,ao=some ⟨b,off,none⟩∧b<w.heap.size∧∀ j,j<n*s→w.cell? ⟨b,off+j,none⟩=cs[j]?)
theorem Lies.step {w w':World}{s n:Nat}{v:Value}{cs:List Value}(h:Lies w s v n cs)(k:Below w.heap.size w w'):Lies w' s v n cs:=by
 obtain⟨h1,ao,cap,h2,h3,h4,h6,h5⟩:=h
 refine⟨h1,ao,cap,h2,h3,h4,h6,fun hn=>?_⟩
 obtain⟨b,off,e,hb,hc⟩:=h5 hn
 exact⟨b,off,e,Nat.lt_of_lt_of_le hb k.size,fun j hj=>by rw[k.cell (p:=⟨b,off+j,none⟩) hb];exact hc j hj⟩
theorem Lies.nil (w:World)(s:Nat):Lies w s (.slice none 0 0) 0 []:=⟨by simp,none,0,rfl,Nat.le_refl _,Nat.zero_le _,fun _=>rfl,fun h=>absurd rfl h⟩
theorem Lies.owned {w:World}{B e s n:Nat}{v:Value}{cs:List Value}(h:w.ownsRow B e s v n cs):Lies w s v n cs:=by
 refine⟨h.1,?_⟩
 rcases h.2 with ⟨rfl,rfl⟩|⟨g,cap,cur,rfl,_,hg,hn,hm,hs,ht⟩
 ·exact⟨none,0,rfl,Nat.le_refl _,Nat.zero_le _,fun _=>rfl,fun h=>absurd rfl h⟩
 ·refine⟨_,cap,rfl,hn,hm,(fun h=>by cases h),fun _=>⟨g,0,rfl,?_,fun j hj=>?_⟩⟩
  ·exact (Array.getElem?_eq_some_iff.1 hg).1
  ·have:=World.ownsRow.cellAt (g:=g) h j hj
   rw[Nat.zero_add];exact this
theorem qay {w w':World}{B e s n:Nat}{v:Value}{cs:List Value}(h:w.ownsRow B e s v n cs)(k:Below w.heap.size w w'):w'.ownsRow B e s v n cs:=by
 refine⟨h.1,?_⟩
 rcases h.2 with hn|⟨g,cap,cur,rfl,hb,hg,r⟩
 ·exact .inl hn
 ·exact .inr ⟨g,cap,cur,rfl,hb,by rw[k.block g (Array.getElem?_eq_some_iff.1 hg).1];exact hg,r⟩
def int1 (x:Int):Value:=.int .i64 x
def Ints (w:World)(v:Value)(xs:List Int):Prop:=Lies w 1 v xs.length (xs.map int1)
theorem Ints.step {w w':World}{v:Value}{xs:List Int}(h:Ints w v xs)(k:Below w.heap.size w w'):Ints w' v xs:=Lies.step h k
theorem Ints.at {w:World}{v:Value}{xs:List Int}(h:Ints w v xs):∃ ao cap,v=.slice ao xs.length cap∧xs.length≤maxLen∧(xs≠[]→∃ b off,ao=some ⟨b,off,none⟩∧b<w.heap.size∧∀ j (hj:j<xs.length),w.cell? ⟨b,off+j,none⟩=some (.int .i64 (xs[j]'hj))):=by
 obtain⟨_,ao,cap,rfl,h3,h4,_,h5⟩:=h
 refine⟨ao,cap,rfl,Nat.le_trans h3 h4,fun hn=>?_⟩
 obtain⟨b,off,rfl,hb,hc⟩:=h5 (by intro h;exact hn (List.eq_nil_of_length_eq_zero h))
 refine⟨b,off,rfl,hb,fun j hj=>?_⟩
 rw[hc j (by omega),List.getElem?_map,List.getElem?_eq_getElem hj];rfl
def Box (w:World)(b:Nat)(cs:List Value):Prop:=b<w.heap.size∧(∀ j u,cs[j]?=some u→w.cell? ⟨b,j,none⟩=some u)∧∀ j,w.frozen? ⟨b,j,none⟩=false
theorem Box.step {w w':World}{b:Nat}{cs:List Value}(h:Box w b cs)(k:Below w.heap.size w w'):Box w' b cs :=
 ⟨Nat.lt_of_lt_of_le h.1 k.size,fun j u hu=>by rw[k.cell (p:=⟨b,j,none⟩) h.1];exact h.2.1 j u hu,fun j=>by rw[k.frozen (p:=⟨b,j,none⟩) h.1];exact h.2.2 j⟩
theorem Box.new (w:World)(cs:Array Value)(T:TypeId):Box (w.alloc (.cells cs T)) w.heap.size cs.toList:=by
 refine⟨by simp,fun j u hu=>?_,fun j=>?_⟩
 ·have:cs[j]?=some u:=by rw[← Array.getElem?_toList];exact hu
  simpa [go_sem] using this
 ·simp[go_sem]
theorem Box.at4 {w:World}{b:Nat}{a0 a1 a2 a3:Value}(h:Box w b [a0,a1,a2,a3]):w.cell? ⟨b,0,none⟩=some a0∧w.cell? ⟨b,1,none⟩=some a1∧w.cell? ⟨b,2,none⟩=some a2∧w.cell? ⟨b,3,none⟩=some a3 :=
 ⟨h.2.1 0 _ rfl,h.2.1 1 _ rfl,h.2.1 2 _ rfl,h.2.1 3 _ rfl⟩
theorem Box.at3 {w:World}{b:Nat}{a0 a1 a2:Value}(h:Box w b [a0,a1,a2]):w.cell? ⟨b,0,none⟩=some a0∧w.cell? ⟨b,1,none⟩=some a1∧w.cell? ⟨b,2,none⟩=some a2 :=
 ⟨h.2.1 0 _ rfl,h.2.1 1 _ rfl,h.2.1 2 _ rfl⟩
theorem Box.at2 {w:World}{b:Nat}{a0 a1:Value}(h:Box w b [a0,a1]):w.cell? ⟨b,0,none⟩=some a0∧w.cell? ⟨b,1,none⟩=some a1 :=
 ⟨h.2.1 0 _ rfl,h.2.1 1 _ rfl⟩
theorem Box.other {w:World}{b b' j:Nat}{cs:List Value}{u:Value}(h:Box w b cs)(hne:b≠b'):Box (w.setCell ⟨b',j,none⟩ u) b cs:=by
 refine⟨by simpa [World.setCell] using h.1,fun i v hv=>?_,fun i=>?_⟩
 ·rw[World.cell?_of_block (w:=w) (a:=⟨b,i,none⟩) (Below.heap_setCell _ _ _ _ hne)];exact h.2.1 i v hv
 ·rw[World.frozen?_of_block (w:=w) (a:=⟨b,i,none⟩) (Below.heap_setCell _ _ _ _ hne)];exact h.2.2 i
theorem Box.set {w:World}{b j:Nat}{cs:List Value}{u:Value}(h:Box w b cs)(hj:j<cs.length):Box (w.setCell ⟨b,j,none⟩ u) b (cs.set j u):=by
 refine⟨by simpa [World.setCell] using h.1,fun i v hv=>?_,fun i=>?_⟩
 ·by_cases e:j=i
  ·subst e
   have:v=u:=by rw[List.getElem?_set_self hj] at hv;simpa using hv.symm
   rw[this]
   exact World.cell?_setCell_same' _ _ _ (by rw[h.2.1 j _ (List.getElem?_eq_getElem hj)];rfl)
  ·rw[List.getElem?_set_ne e] at hv
   rw[World.cell?_setCell_other _ _ _ _ (by intro h;exact e (congrArg Addr.off h))]
   exact h.2.1 i v hv
 ·rw[World.frozen?_setCell];exact h.2.2 i
theorem Lies.src {w:World}{s n:Nat}{v:Value}{cs:List Value}(h:Lies w s v n cs):(v=.slice none 0 0∧n=0∧cs=[])∨∃ ad cap,v=.slice (some ad) n cap∧cs.length=n*s∧∀ j u,cs[j]?=some u→w.cell? (ad.add j)=some u:=by
 obtain⟨h1,ao,cap,rfl,h3,h4,h6,h5⟩:=h
 by_cases hn:n=0
 ·subst hn
  have hc:cs=[]:=List.eq_nil_of_length_eq_zero (by simpa using h1)
  cases ao with
  | none=>have:=h6 rfl;subst this;exact .inl ⟨rfl,rfl,hc⟩
  | some ad=>exact .inr ⟨ad,cap,rfl,h1,by rw[hc];intro j u hu;simp at hu⟩
 ·obtain⟨b,off,rfl,hb,hc⟩:=h5 hn
  refine .inr ⟨_,cap,rfl,h1,fun j u hu=>?_⟩
  have hj:j<n*s:=by rw[← h1];exact (List.getElem?_eq_some_iff.1 hu).1
  have e:(⟨b,off,none⟩:Addr).add j=⟨b,off+j,none⟩:=by unfold Addr.add;split <;> simp_all
  rw[e,hc j hj];exact hu
theorem Lies.other {w:World}{s n b j:Nat}{v u:Value}{cs:List Value}(h:Lies w s v n cs)(hne:∀ k,v.ownBlock=some k→k≠b):Lies (w.setCell ⟨b,j,none⟩ u) s v n cs:=by
 obtain⟨h1,ao,cap,rfl,h3,h4,h6,h5⟩:=h
 refine⟨h1,ao,cap,rfl,h3,h4,h6,fun hn=>?_⟩
 obtain⟨c,off,rfl,hb,hc⟩:=h5 hn
 refine⟨c,off,rfl,by simpa [World.setCell] using hb,fun i hi=>?_⟩
 rw[World.cell?_of_block (w:=w) (a:=⟨c,off+i,none⟩) (Below.heap_setCell _ _ _ _ (hne c rfl))];exact hc i hi
theorem zK {w w':World}{b o:Nat}{v:Value}(k:Below w.heap.size w w')(hb:b<w.heap.size)(h:w.cell? ⟨b,o,none⟩=some v):w'.cell? ⟨b,o,none⟩=some v:=by
 rw[k.cell (p:=⟨b,o,none⟩) hb];exact h
theorem qaa (w:World)(o:Obj):Below w.heap.size w (w.alloc o):=(Below.refl _ _).alloc (Nat.le_refl _) _
theorem zY {B b:Nat}{u v:World}(h:Below B u v)(hb:B≤b)(a0 a1:Value):Below B u ((v.setCell ⟨b,0,none⟩ a0).setCell ⟨b,1,none⟩ a1) :=
 (h.setCell hb _).setCell hb _
theorem qad {W v:World}(h:Below W.heap.size W v):(∀ b o,b<W.heap.size→v.cell? ⟨b,o,none⟩=W.cell? ⟨b,o,none⟩)∧(∀ b o,b<W.heap.size→v.frozen? ⟨b,o,none⟩=W.frozen? ⟨b,o,none⟩) :=
 ⟨fun b o hb=>h.cell (p:=⟨b,o,none⟩) hb,fun b o hb=>h.frozen (p:=⟨b,o,none⟩) hb⟩
theorem zL {P:Program}{id:Nat}{Q:Exit→Act→World→Prop}{a:Act}{w:World}{l:List Oper}(hm:P.follows .mixedOrders=true)(hB:Region.lexB .any l.toArray=true)
  (h:∀ (L:Type) [Nonempty L] (lt:L→World),(∀ x b o,b<w.heap.size→(lt x).cell? ⟨b,o,none⟩=w.cell? ⟨b,o,none⟩)→(∀ x b o,b<w.heap.size→(lt x).frozen? ⟨b,o,none⟩=w.frozen? ⟨b,o,none⟩) →
   Hid ((∀ x,Below w.heap.size w (lt x))∧(∀ v,Below w.heap.size w v→∃ x,v=lt x)) →
   wpQuiet P l.toArray (fun w'=>∃ x,w'=lt x) (fun a'=>∀ w',Below w.heap.size w w'→Q .normal a' w') l a):(Code.region id l.toArray true).wp P Q a w:=by
 refine wp_region_quiet (C:=fun w'=>∃ x:{v // Below w.heap.size w v},w'=x.1) hm hB ⟨⟨_,(Below.refl _ _).drew⟩,rfl⟩ ?_
 have:Nonempty {v // Below w.heap.size w v}:=⟨⟨w,Below.refl _ _⟩⟩
 have:=h {v // Below w.heap.size w v} (fun x=>x.1) (fun x=>(qad x.2).1) (fun x=>(qad x.2).2) ⟨fun x=>x.2,fun v hv=>⟨⟨v,hv⟩,rfl⟩⟩
 have e:(fun a'=>∀ w',(∃ x:{v // Below w.heap.size w v},w'=x.1)→Q .normal a' w')=(fun a'=>∀ w',Below w.heap.size w w'→Q .normal a' w'):=by
  funext a'
  exact propext ⟨fun k w' hw=>k w' ⟨⟨w',hw⟩,rfl⟩,fun k w' ⟨x,hx⟩=>k w' (hx ▸ x.2)⟩
 rw[e]
 simpa using this
theorem zM {P:Program}{f:FuncId}{args:Array Value}{w:World}{v:Value}{L:Type}{lt:L→World}{x:L}(hl:Hid ((∀ x,Below w.heap.size w (lt x))∧(∀ v,Below w.heap.size w v→∃ x,v=lt x)))
  (h:Calls P f args (lt x) fun e w'=>e=.returned v∧Below (lt x).heap.size (lt x) w'):Calls P f args (lt x) fun e w''=>e=.returned v∧∃ y,w''=lt y :=
 h.mono fun _ _ ⟨he,hb⟩=>⟨he,hl.2 _ ((hl.1 x).trans (hb.mono (hl.1 x).size))⟩
inductive Ex where
 | mk (k n b:Int) (s:Bool) (nm:ByteArray) (kids:List Ex)
def Ex.k:Ex→Int | .mk k _ _ _ _ _=>k
def Ex.n:Ex→Int | .mk _ n _ _ _ _=>n
def Ex.b:Ex→Int | .mk _ _ b _ _ _=>b
def Ex.s:Ex→Bool | .mk _ _ _ s _ _=>s
def Ex.nm:Ex→ByteArray | .mk _ _ _ _ nm _=>nm
def Ex.kids:Ex→List Ex | .mk _ _ _ _ _ l=>l
theorem Ex.ind {P:Ex→Prop}(h:∀ x:Ex,(∀ y∈x.kids,P y)→P x):∀ x,P x
 | .mk k n b s nm l=>h _ fun y hy=>by
  have:SizeOf.sizeOf y<SizeOf.sizeOf l:=List.sizeOf_lt_of_mem hy
  exact Ex.ind h y
termination_by x=>SizeOf.sizeOf x
decreasing_by simp;omega
def exC (x:Ex)(kv:Value):List Value:=[.int .i64 x.k,.int .u64 x.n,.int .i64 x.b,.bool x.s,.string x.nm,kv]
def exCs (xs:List Ex)(ks:List Value):List Value:=(xs.zip ks).flatMap fun p=>exC p.1 p.2
def ExF (x:Ex):Prop:=(0≤x.n∧x.n≤18446744073709551615)∧x.nm.size≤maxLen
inductive ExL (B:Nat) (w:World):Value→List Ex→Prop
 | mk (v:Value) (xs:List Ex) (ks:List Value) (hl:ks.length=xs.length) (hv:∀ c,v.ownBlock=some c→xs≠[]→c<B) (lies:Lies w 6 v xs.length (exCs xs ks)) (ok:∀ x∈xs,ExF x) (kids:∀ i (h:i<xs.length),ExL B w (ks[i]'(by omega)) xs[i].kids):ExL B w v xs
inductive Sm where
 | mk (k b:Int) (s:Bool) (nm:ByteArray) (has:Bool) (x i:Ex) (init step body els:List Sm)
def Sm.k:Sm→Int | .mk k _ _ _ _ _ _ _ _ _ _=>k
def Sm.b:Sm→Int | .mk _ b _ _ _ _ _ _ _ _ _=>b
def Sm.s:Sm→Bool | .mk _ _ s _ _ _ _ _ _ _ _=>s
def Sm.nm:Sm→ByteArray | .mk _ _ _ nm _ _ _ _ _ _ _=>nm
def Sm.has:Sm→Bool | .mk _ _ _ _ h _ _ _ _ _ _=>h
def Sm.x:Sm→Ex | .mk _ _ _ _ _ x _ _ _ _ _=>x
def Sm.i:Sm→Ex | .mk _ _ _ _ _ _ i _ _ _ _=>i
def Sm.init:Sm→List Sm | .mk _ _ _ _ _ _ _ l _ _ _=>l
def Sm.step:Sm→List Sm | .mk _ _ _ _ _ _ _ _ l _ _=>l
def Sm.body:Sm→List Sm | .mk _ _ _ _ _ _ _ _ _ l _=>l
def Sm.els:Sm→List Sm | .mk _ _ _ _ _ _ _ _ _ _ l=>l
theorem Sm.ind {P:Sm→Prop}(h:∀ x:Sm,(∀ y∈x.init,P y)→(∀ y∈x.step,P y)→(∀ y∈x.body,P y)→(∀ y∈x.els,P y)→P x):∀ x,P x
 | .mk k b s nm has x i li ls lb le=>h _
  (fun y hy=>by have:SizeOf.sizeOf y<SizeOf.sizeOf li:=List.sizeOf_lt_of_mem hy;exact Sm.ind h y)
  (fun y hy=>by have:SizeOf.sizeOf y<SizeOf.sizeOf ls:=List.sizeOf_lt_of_mem hy;exact Sm.ind h y)
  (fun y hy=>by have:SizeOf.sizeOf y<SizeOf.sizeOf lb:=List.sizeOf_lt_of_mem hy;exact Sm.ind h y)
  (fun y hy=>by have:SizeOf.sizeOf y<SizeOf.sizeOf le:=List.sizeOf_lt_of_mem hy;exact Sm.ind h y)
termination_by x=>SizeOf.sizeOf x
decreasing_by all_goals (simp;omega)
structure Sv where
 xk:Value
 ik:Value
 init:Value
 step:Value
 body:Value
 els:Value
def smC (x:Sm)(v:Sv):List Value:=[.int .i64 x.k,.int .i64 x.b,.bool x.s,.string x.nm,.bool x.has]++exC x.x v.xk++exC x.i v.ik++[v.init,v.step,v.body,v.els]
def smCs (xs:List Sm)(ks:List Sv):List Value:=(xs.zip ks).flatMap fun p=>smC p.1 p.2
def SmF (x:Sm):Prop:=x.nm.size≤maxLen∧ExF x.x∧ExF x.i
inductive SmL (B:Nat) (w:World):Value→List Sm→Prop
 | mk (v:Value) (xs:List Sm) (ks:List Sv) (hl:ks.length=xs.length) (hv:∀ c,v.ownBlock=some c→xs≠[]→c<B) (lies:Lies w 21 v xs.length (smCs xs ks)) (ok:∀ x∈xs,SmF x)
   (hx:∀ i (h:i<xs.length),ExL B w (ks[i]'(by omega)).xk xs[i].x.kids) (hi:∀ i (h:i<xs.length),ExL B w (ks[i]'(by omega)).ik xs[i].i.kids)
   (h1:∀ i (h:i<xs.length),SmL B w (ks[i]'(by omega)).init xs[i].init) (h2:∀ i (h:i<xs.length),SmL B w (ks[i]'(by omega)).step xs[i].step)
   (h3:∀ i (h:i<xs.length),SmL B w (ks[i]'(by omega)).body xs[i].body) (h4:∀ i (h:i<xs.length),SmL B w (ks[i]'(by omega)).els xs[i].els):SmL B w v xs
theorem zip_flat {α β:Type}{n:Nat}{c:α→β→List Value}(hc:∀ x y,(c x y).length=n):∀ (l:List α) (m:List β) (hl:m.length=l.length) (i:Nat) (h:i<l.length) (j:Nat),j<n→((l.zip m).flatMap fun p=>c p.1 p.2)[i*n+j]?=(c (l[i]'h) (m[i]'(by omega)))[j]?
 | [],_,_,i,h,_,_=>by simp at h
 | x::l,[],hl,_,_,_,_=>by simp at hl
 | x::l,y::m,hl,0,h,j,hj=>by
  rw[List.zip_cons_cons,List.flatMap_cons,List.getElem?_append_left (by rw[hc];omega)];simp
 | x::l,y::m,hl,i+1,h,j,hj=>by
  have ih:=zip_flat hc l m (by simpa using hl) i (by simpa using h) j hj
  rw[List.zip_cons_cons,List.flatMap_cons,List.getElem?_append_right (by rw[hc,Nat.add_mul];omega)]
  rw[show (i+1)*n+j - (c x y).length=i*n+j by rw[hc,Nat.add_mul];omega,ih]
  simp
theorem lies_below {B:Nat}{w w':World}{s n:Nat}{v:Value}{cs:List Value}(h:Lies w s v n cs)(hv:n≠0→∀ c,v.ownBlock=some c→c<B)(k:Below B w w'):Lies w' s v n cs:=by
 obtain⟨h1,ao,cap,h2,h3,h4,h6,h5⟩:=h
 refine⟨h1,ao,cap,h2,h3,h4,h6,fun hn=>?_⟩
 obtain⟨b,off,e,hb,hc⟩:=h5 hn
 have hbB:b<B:=hv hn b (by rw[h2,e];rfl)
 exact⟨b,off,e,Nat.lt_of_lt_of_le hb k.size,fun j hj=>by rw[k.cell (p:=⟨b,off+j,none⟩) hbB];exact hc j hj⟩
theorem ExL.step {B:Nat}{w w':World}{v:Value}{xs:List Ex}(h:ExL B w v xs)(k:Below B w w'):ExL B w' v xs:=by
 induction h with
 | mk v xs ks hl hv lies ok kids ih=>exact .mk v xs ks hl hv (lies_below lies (fun hn c hc=>hv c hc (fun e=>hn (by rw[e];rfl))) k) ok ih
theorem SmL.step {B:Nat}{w w':World}{v:Value}{xs:List Sm}(h:SmL B w v xs)(k:Below B w w'):SmL B w' v xs:=by
 induction h with
 | mk v xs ks hl hv lies ok hx hi h1 h2 h3 h4 i1 i2 i3 i4=>exact .mk v xs ks hl hv (lies_below lies (fun hn c hc=>hv c hc (fun e=>hn (by rw[e];rfl))) k) ok (fun i h=>(hx i h).step k) (fun i h=>(hi i h).step k) i1 i2 i3 i4
theorem ExL.at {B:Nat}{w:World}{v:Value}{xs:List Ex}(h:ExL B w v xs):∃ ao cap,v=.slice ao xs.length cap∧xs.length≤maxLen∧(xs≠[]→∃ b off,ao=some ⟨b,off,none⟩∧b<B∧b<w.heap.size∧∀ j (hj:j<xs.length),∃ kv,ExL B w kv (xs[j]'hj).kids∧ExF (xs[j]'hj) ∧
  w.cell? ⟨b,off+j*6,none⟩=some (.int .i64 (xs[j]'hj).k)∧w.cell? ⟨b,off+j*6+1,none⟩=some (.int .u64 (xs[j]'hj).n)∧w.cell? ⟨b,off+j*6+2,none⟩=some (.int .i64 (xs[j]'hj).b)∧w.cell? ⟨b,off+j*6+3,none⟩=some (.bool (xs[j]'hj).s)∧w.cell? ⟨b,off+j*6+4,none⟩=some (.string (xs[j]'hj).nm)∧w.cell? ⟨b,off+j*6+5,none⟩=some kv):=by
 cases h with
 | mk v xs ks hl hv lies ok kids =>
  obtain⟨h1,ao,cap,rfl,h3,h4,h6,h5⟩:=lies
  refine⟨ao,cap,rfl,Nat.le_trans h3 h4,fun hn=>?_⟩
  obtain⟨b,off,rfl,hb,hc⟩:=h5 (by intro e;exact hn (List.eq_nil_of_length_eq_zero e))
  refine⟨b,off,rfl,hv b rfl hn,hb,fun j hj=>⟨ks[j]'(by omega),kids j hj,ok _ (List.getElem_mem hj),?_⟩⟩
  have at6:∀ t,t<6→w.cell? ⟨b,off+(j*6+t),none⟩=(exC (xs[j]'hj) (ks[j]'(by omega)))[t]?:=fun t ht=>by
   rw[hc (j*6+t) (by have:j*6+6≤xs.length*6:=(by omega);omega)]
   exact zip_flat (n:=6) (c:=exC) (fun _ _=>rfl) xs ks hl j hj t ht
  exact⟨at6 0 (by decide),by rw[Nat.add_assoc];exact at6 1 (by decide),by rw[Nat.add_assoc];exact at6 2 (by decide),by rw[Nat.add_assoc];exact at6 3 (by decide),by rw[Nat.add_assoc];exact at6 4 (by decide),by rw[Nat.add_assoc];exact at6 5 (by decide)⟩
theorem SmL.at {B:Nat}{w:World}{v:Value}{xs:List Sm}(h:SmL B w v xs):∃ ao cap,v=.slice ao xs.length cap∧xs.length≤maxLen∧(xs≠[]→∃ b off,ao=some ⟨b,off,none⟩∧b<B∧b<w.heap.size∧∀ j (hj:j<xs.length),∃ sv:Sv,SmF (xs[j]'hj)∧ExL B w sv.xk (xs[j]'hj).x.kids∧ExL B w sv.ik (xs[j]'hj).i.kids∧SmL B w sv.init (xs[j]'hj).init∧SmL B w sv.step (xs[j]'hj).step∧SmL B w sv.body (xs[j]'hj).body∧SmL B w sv.els (xs[j]'hj).els ∧
  ∀ t,t<21→w.cell? ⟨b,off+j*21+t,none⟩=(smC (xs[j]'hj) sv)[t]?):=by
 cases h with
 | mk v xs ks hl hv lies ok hx hi h1' h2' h3' h4' =>
  obtain⟨h1,ao,cap,rfl,h3,h4,h6,h5⟩:=lies
  refine⟨ao,cap,rfl,Nat.le_trans h3 h4,fun hn=>?_⟩
  obtain⟨b,off,rfl,hb,hc⟩:=h5 (by intro e;exact hn (List.eq_nil_of_length_eq_zero e))
  refine⟨b,off,rfl,hv b rfl hn,hb,fun j hj=>⟨ks[j]'(by omega),ok _ (List.getElem_mem hj),hx j hj,hi j hj,h1' j hj,h2' j hj,h3' j hj,h4' j hj,fun t ht=>?_⟩⟩
  rw[Nat.add_assoc,hc (j*21+t) (by have:j*21+21≤xs.length*21:=(by omega);omega)]
  exact zip_flat (n:=21) (c:=smC) (fun _ _=>rfl) xs ks hl j hj t ht
end Go.Proofs.YtjpnnmkefaodoaaGreat
