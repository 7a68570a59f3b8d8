/-
  MapV, CkB, CkC.
-/
import Derived.Test.YtjpnnmkefaodoaaGreatRows
import Derived.Maps.OwnSet
import Derived.Maps.OwnOps
import Derived.StringKeys
import Derived.Test.YtjpnnmkefaodoaaGreatyR7By
set_option maxHeartbeats 8000000
set_option maxRecDepth 100000
namespace Go.Proofs.YtjpnnmkefaodoaaGreat
open Go.RowKit Go.Maps
set_option linter.unusedSimpArgs false
set_option linter.unusedVariables false
theorem Tryz.keySV:Keyed Tryz.prog 9:=string_keyed Tryz.underlying9
def heldR (v:Value):Option (DataW Value × List MemPlace):=some (.held v,[])
def Mv (w:World)(b n:Nat)(f:ByteArray→Option Value):Prop:=∃ D:DataW Value,w.ownsMap Tryz.prog 9 heldR b n D∧∀ (k:ByteArray) (z:Value),Maps.has D (.string k.data.toList)=(f k).isSome∧D.atKey (.string k.data.toList) (.held z)=.held ((f k).getD z)
def putV (f:ByteArray→Option Value)(k:ByteArray)(x:Value):ByteArray→Option Value:=fun j=>if j=k then some x else f j
theorem Mv.made (w:World):Mv (w.alloc (.map #[] 0)) w.heap.size 0 (fun _=>none):=⟨_,World.ownsMap_made _ _ _ _,fun _ _=>⟨rfl,rfl⟩⟩
theorem Mv.lt {w:World}{b n:Nat}{f:ByteArray→Option Value}(h:Mv w b n f):b<w.heap.size:=by obtain⟨D,h1,_⟩:=h;exact h1.lt
theorem Mv.blk {w w':World}{b n:Nat}{f:ByteArray→Option Value}(h:Mv w b n f)(k:w'.heap[b]?=w.heap[b]?):Mv w' b n f:=by
 obtain⟨D,⟨es,c,h1,h2⟩,h3⟩:=h
 exact⟨D,⟨es,c,by rw[k];exact h1,h2⟩,h3⟩
theorem Mv.step {w w':World}{b n:Nat}{f:ByteArray→Option Value}(h:Mv w b n f)(k:Below w.heap.size w w'):Mv w' b n f:=h.blk (k.block b h.lt)
theorem Mv.at {w:World}{b n:Nat}{f:ByteArray→Option Value}(h:Mv w b n f):∃ es c,w.heap[b]?=some (.map es c):=by
 obtain⟨D,⟨es,c,h1,_⟩,_⟩:=h
 exact⟨es,c,h1⟩
theorem Mv.setCell {w:World}{b n p j:Nat}{f:ByteArray→Option Value}{u:Value}(h:Mv w b n f)(hne:b≠p):Mv (w.setCell ⟨p,j,none⟩ u) b n f:=by
 obtain⟨D,h1,h2⟩:=h
 exact⟨D,h1.setCell hne u,h2⟩
theorem Mv.congr {w:World}{b n:Nat}{f g:ByteArray→Option Value}(h:Mv w b n f)(e:∀ k,f k=g k):Mv w b n g:=by
 obtain rfl:f=g:=funext e
 exact h
theorem Mv.more {w:World}{b n m:Nat}{f:ByteArray→Option Value}(h:Mv w b n f)(hm:n≤m):Mv w b m f:=by
 obtain⟨D,h1,h2⟩:=h
 exact⟨D,h1.mono hm,h2⟩
theorem bytes_inj {a b:ByteArray}(h:a.data.toList=b.data.toList):a=b:=by
 obtain⟨⟨x⟩⟩:=a
 obtain⟨⟨y⟩⟩:=b
 have h:x=y:=h
 rw[h]
theorem Mv.put {w:World}{b n:Nat}{f:ByteArray→Option Value}{k:ByteArray}{x:Value}{D:DataW Value}(hD:IsMap D)(h2:∀ (k:ByteArray) (z:Value),Maps.has D (.string k.data.toList)=(f k).isSome∧D.atKey (.string k.data.toList) (.held z)=.held ((f k).getD z))(h1:w.ownsMap Tryz.prog 9 heldR b (n+1) (D.put (.string k.data.toList) (.held x))):Mv w b (n+1) (putV f k x):=by
 refine⟨_,h1,fun j z=>?_⟩
 unfold putV
 by_cases e:j=k
 ·subst e
  rw[if_pos rfl]
  exact⟨by rw[has_put_same hD (show WideAt.IsKeyLit (.string j.data.toList) from trivial)];rfl,by rw[atKey_put_same hD (show WideAt.IsKeyLit (.string j.data.toList) from trivial)];rfl⟩
 ·have e2:(Lit.string j.data.toList)≠Lit.string k.data.toList:=fun h=>e (bytes_inj (by injection h))
  rw[if_neg e]
  exact⟨by rw[has_put_other e2];exact (h2 j z).1,by rw[atKey_put_other e2];exact (h2 j z).2⟩
section
variable {w:World} {ops:Array Oper} {rest:List Oper} {o:Oper} {a:Act} {Q:Exit→Act→World→Prop}
theorem held_inv {v:Value}{d:DataW Value}{ps:List MemPlace}(h:heldR v=some (d,ps)):d=.held v:=by
 unfold heldR at h
 injection h with h
 injection h with h _
 exact h.symm
theorem Mv.run {b n:Nat}{f:ByteArray→Option Value}(h:Mv w b n f){t e:TypeId}(ht:Tryz.prog.underlying t=some (.map 9 e)){z:Value}(hz:(zeroValue e).run Tryz.prog w=.ok z w)(s:ByteArray)(hs:s.size≤maxLen):(Instr.lookup t (.map (some b)) (.string s) false).run Tryz.prog w=.ok ((f s).getD z) w:=by
 obtain⟨D,h1,h2⟩:=h
 obtain⟨v,ps,hrun,hv⟩:=h1.lookup Tryz.keySV ht hz (zd:=.held z) (zp:=[]) rfl (Go.WideMaps.keyOf_string_mk Tryz.underlying9 hs)
 have e1:=held_inv hv
 rw[(h2 s z).2] at e1
 injection e1 with e1
 subst e1
 exact hrun
theorem Mv.run_ok {b n:Nat}{f:ByteArray→Option Value}(h:Mv w b n f){t e:TypeId}(ht:Tryz.prog.underlying t=some (.map 9 e)){z:Value}(hz:(zeroValue e).run Tryz.prog w=.ok z w)(s:ByteArray)(hs:s.size≤maxLen):(Instr.lookup t (.map (some b)) (.string s) true).run Tryz.prog w=.ok (.tuple #[(f s).getD z,.bool (f s).isSome]) w:=by
 obtain⟨D,h1,h2⟩:=h
 obtain⟨v,ps,hrun,hv⟩:=h1.look_ok Tryz.keySV ht hz (zd:=.held z) (zp:=[]) rfl (Go.WideMaps.keyOf_string_mk Tryz.underlying9 hs)
 have e1:=held_inv hv
 rw[(h2 s z).2] at e1
 injection e1 with e1
 subst e1
 rw[(h2 s z).1] at hrun
 exact hrun
theorem wpList_putVv (hg:o.guard=none)(m x v:Operand)(t e:TypeId)(hop:o.op=Op.mapUpdate t m x v)(ht:Tryz.prog.underlying t=some (.map 9 e))(b n:Nat)(f:ByteArray→Option Value)(hm:a.eval m=.map (some b))(hM:Mv w b n f)(hl:n<maxLen)(s:ByteArray)(hx:a.eval x=.string s)(hs:s.size≤maxLen)(y:Value)(hv:a.eval v=y)
  (hK:∀ w',Mv w' b (n+1) (putV f s y)→w.grownBy w' (some b)→wpList Tryz.prog ops Q rest (a.put o.dst undef) w'):wpList Tryz.prog ops Q (o::rest) a w:=by
 obtain⟨D,h1,h2⟩:=hM
 refine wpList_mapUpdate_own w hg m x v t hop 9 e Tryz.keySV ht heldR b n D hm h1 hl _ _ _ hx hv (Go.WideMaps.keyOf_string_mk Tryz.underlying9 hs) (.held y) [] rfl ?_
 intro w' hown hgrow
 exact hK w' (Mv.put h1.isMap h2 hown) hgrow
end
def encV (x:Int × Bool × Bool):Value:=.agg #[.int .i64 x.1,.bool x.2.1,.bool x.2.2]
def FnV (o:Option (Int × Bool × Nat))(u:Option Value):Prop :=
 match o with
 | none=>u=none
 | some (b,s,m)=>∃ nm a c ba bn bc,u=some (.agg #[.string nm,.int .i64 b,.bool s,.slice a m c,.slice ba bn bc])
structure Nm (w:World)(vb fb:Nat)(E:Nev):Prop where
 v:∃ n,Mv w vb n (fun k=>(E.v k).map encV)
 f:∃ n g,Mv w fb n g∧∀ k,FnV (E.f k) (g k)
theorem Nm.blk {w w':World}{vb fb:Nat}{E:Nev}(h:Nm w vb fb E)(k:∀ b,b=vb∨b=fb→w'.heap[b]?=w.heap[b]?):Nm w' vb fb E:=by
 obtain⟨⟨n,h1⟩,⟨m,g,h2,h3⟩⟩:=h
 exact⟨⟨n,h1.blk (k _ (.inl rfl))⟩,⟨m,g,h2.blk (k _ (.inr rfl)),h3⟩⟩
theorem Nm.lt {w:World}{vb fb:Nat}{E:Nev}(h:Nm w vb fb E):vb<w.heap.size∧fb<w.heap.size:=by
 obtain⟨⟨n,h1⟩,⟨m,g,h2,h3⟩⟩:=h
 exact⟨h1.lt,h2.lt⟩
theorem Nm.step {w w':World}{vb fb:Nat}{E:Nev}(h:Nm w vb fb E)(k:Below w.heap.size w w'):Nm w' vb fb E:=h.blk fun b hb=>k.block b (by rcases hb with rfl|rfl;exact h.lt.1;exact h.lt.2)
theorem Nm.low {w w':World}{vb fb B:Nat}{E:Nev}(h:Nm w vb fb E)(k:Below B w w')(hv:vb<B)(hf:fb<B):Nm w' vb fb E:=h.blk fun b hb=>k.block b (by rcases hb with rfl|rfl;exact hv;exact hf)
structure Wc (sb lb:Nat)(w w':World):Prop where
 os:w'.os=w.os
 tape:w'.tape=w.tape
 output:w'.output=w.output
 size:w.heap.size≤w'.heap.size
 block:∀ k o,w.heap[k]?=some o→k≠sb→k≠lb→(∀ cs fr,o≠.cells cs 9 fr)→w'.heap[k]?=some o
theorem Wc.refl (sb lb:Nat)(w:World):Wc sb lb w w:=⟨rfl,rfl,rfl,Nat.le_refl _,fun _ _ h _ _ _=>h⟩
theorem Wc.trans {sb lb:Nat}{u v w:World}(h:Wc sb lb u v)(k:Wc sb lb v w):Wc sb lb u w :=
 ⟨k.os.trans h.os,k.tape.trans h.tape,k.output.trans h.output,Nat.le_trans h.size k.size,fun n o hn hs hl ht=>k.block n o (h.block n o hn hs hl ht) hs hl ht⟩
theorem Wc.of {sb lb:Nat}{w w':World}(h:Below w.heap.size w w'):Wc sb lb w w' :=
 ⟨h.os,h.tape,h.output,h.size,fun k o hk _ _ _=>by rw[h.block k (Array.getElem?_eq_some_iff.1 hk).1];exact hk⟩
theorem Wc.setCell {sb lb:Nat}(w:World){j:Nat}(v:Value):Wc sb lb w (w.setCell ⟨sb,j,none⟩ v) :=
 ⟨rfl,rfl,rfl,by simp,fun k o hk hb _ _=>by simp[World.setCell,Array.getElem?_modify,Ne.symm hb,hk]⟩
theorem Wc.drew {sb lb:Nat}{u v:World}(h:Wc sb lb u v):Wc sb lb u v.drew:=⟨h.os,h.tape,h.output,h.size,h.block⟩
theorem Wc.map {sb lb:Nat}{w w':World}(h:w.grownBy w' (some lb)):Wc sb lb w w' :=
 ⟨h.os,h.tape,h.output,h.size,fun k o hk _ hl _=>by rw[h.block k (Array.getElem?_eq_some_iff.1 hk).1 (fun e=>hl (by injection e))];exact hk⟩
theorem Wc.row {sb lb B n:Nat}{w w':World}{v:Value}{cs:List Value}(ho:w.ownsRow B 9 1 v n cs)(h:w.grownBy w' v.ownBlock):Wc sb lb w w':=by
 refine⟨h.os,h.tape,h.output,h.size,fun k o hk _ _ ht=>?_⟩
 rw[h.block k (Array.getElem?_eq_some_iff.1 hk).1 ?_]
 ·exact hk
 ·intro e
  rcases ho.2 with ⟨hv,_⟩|⟨g,cap,cur,hv,_,hg,_⟩
  ·rw[hv] at e;simp[Value.ownBlock] at e
  ·rw[hv] at e
   simp[Value.ownBlock] at e
   subst e
   rw[hk] at hg
   injection hg with hg
   exact ht _ _ hg
def BoxC (w:World)(b:Nat)(cs:Array Value)(T:TypeId):Prop:=w.heap[b]?=some (.cells cs T (0,0))∧T≠9
theorem BoxC.new (w:World)(cs:Array Value)(T:TypeId)(hT:T≠9):BoxC (w.alloc (.cells cs T)) w.heap.size cs T:=⟨by show (w.heap.push _)[w.heap.size]?=_;simp,hT⟩
theorem BoxC.lt {w:World}{b:Nat}{cs:Array Value}{T:TypeId}(h:BoxC w b cs T):b<w.heap.size:=(Array.getElem?_eq_some_iff.1 h.1).1
theorem BoxC.wc {w w':World}{b sb lb:Nat}{cs:Array Value}{T:TypeId}(h:BoxC w b cs T)(k:Wc sb lb w w')(hs:b≠sb)(hl:b≠lb):BoxC w' b cs T :=
 ⟨k.block b _ h.1 hs hl (fun cs' fr e=>by injection e with _ e _;exact h.2 e),h.2⟩
theorem BoxC.step {w w':World}{b:Nat}{cs:Array Value}{T:TypeId}(h:BoxC w b cs T)(k:Below w.heap.size w w'):BoxC w' b cs T:=⟨(k.block b h.lt).trans h.1,h.2⟩
theorem BoxC.box {w:World}{b:Nat}{cs:Array Value}{T:TypeId}(h:BoxC w b cs T):Box w b cs.toList:=by
 refine⟨h.lt,fun j u hu=>?_,fun j=>Lib.frozen_of_heap h.1 j⟩
 unfold World.cell?
 simp only[h.1]
 simpa using hu
theorem BoxC.set {w:World}{b j:Nat}{cs:Array Value}{T:TypeId}{u:Value}(h:BoxC w b cs T):BoxC (w.setCell ⟨b,j,none⟩ u) b (cs.setIfInBounds j u) T:=by
 refine⟨?_,h.2⟩
 simp[World.setCell,Array.getElem?_modify,h.1]
theorem BoxC.other {w:World}{b b' j:Nat}{cs:Array Value}{T:TypeId}{u:Value}(h:BoxC w b cs T)(hne:b≠b'):BoxC (w.setCell ⟨b',j,none⟩ u) b cs T:=⟨(Below.heap_setCell _ _ _ _ hne).trans h.1,h.2⟩
structure Sc (B:Nat)(w:World)(sb vb fb lb:Nat)(wd:Int)(E:Nev)(L:Loc)(res:Int × Bool)(lp:Nat):Prop where
 has:∃ v n,BoxC w sb #[.map (some vb),.map (some fb),.int .i64 wd,.map (some lb),v,.int .i64 L.fr,.int .i64 (lp:Int),.int .i64 res.1,.bool res.2] 87 ∧
  w.ownsRow B 9 1 v L.op.length (L.op.map .string)∧Mv w lb n (fun k=>(L.m k).map encV)∧((n+L.op.length:Nat):Int)≤2*L.fr
 nm:Nm w vb fb E
 hs:B≤sb
 hl:B≤lb
 hv:vb<B
 hf:fb<B
 hB:B≤w.heap.size
theorem Sc.step {B:Nat}{w w':World}{sb vb fb lb:Nat}{wd:Int}{E:Nev}{L:Loc}{res:Int × Bool}{lp:Nat}(h:Sc B w sb vb fb lb wd E L res lp)(k:Below w.heap.size w w'):Sc B w' sb vb fb lb wd E L res lp:=by
 obtain⟨⟨v,n,h1,h2,h3,h4⟩,hn,a1,a2,a3,a4,a5⟩:=h
 exact⟨⟨v,n,h1.step k,qay h2 k,h3.step k,h4⟩,hn.step k,a1,a2,a3,a4,Nat.le_trans a5 k.size⟩
theorem Sc.lts {B:Nat}{w:World}{sb vb fb lb:Nat}{wd:Int}{E:Nev}{L:Loc}{res:Int × Bool}{lp:Nat}(h:Sc B w sb vb fb lb wd E L res lp):sb<w.heap.size∧lb<w.heap.size:=by
 obtain⟨⟨v,n,h1,h2,h3,h4⟩,hn,a1,a2,a3,a4,a5⟩:=h
 exact⟨h1.lt,h3.lt⟩
structure Wd9 (B sb lb:Nat)(w w':World):Prop where
 below:Below B w w'
 wc:Wc sb lb w w'
theorem Wd9.refl (B sb lb:Nat)(w:World):Wd9 B sb lb w w:=⟨Below.refl _ _,Wc.refl _ _ _⟩
theorem Wd9.trans {B sb lb:Nat}{u v w:World}(h:Wd9 B sb lb u v)(k:Wd9 B sb lb v w):Wd9 B sb lb u w:=⟨h.below.trans k.below,h.wc.trans k.wc⟩
theorem Wd9.of {B sb lb:Nat}{w w':World}(h:Below w.heap.size w w')(hB:B≤w.heap.size):Wd9 B sb lb w w':=⟨h.mono hB,Wc.of h⟩
theorem Wd9.drew {B sb lb:Nat}{u v:World}(h:Wd9 B sb lb u v):Wd9 B sb lb u v.drew:=⟨h.below.drew,h.wc.drew⟩
theorem Box.twoC {w:World}{b:Nat}{x y:Value}(h:Box w b [x,y])(u v:Value):Box ((w.setCell ⟨b,0,none⟩ u).setCell ⟨b,1,none⟩ v) b [u,v]:=(h.set (j:=0) (u:=u) (by simp)).set (j:=1) (u:=v) (by simp)
theorem zLocal (w:World):(zeroValue 112).run Tryz.prog w=.ok (.agg #[.int .i64 0,.bool false,.bool false]) w:=by kernel_rfl
theorem zVar (w:World):(zeroValue 77).run Tryz.prog w=.ok (.agg #[.int .i64 0,.bool false,.bool false]) w:=by kernel_rfl
theorem enc_getD (o:Option (Int × Bool × Bool)):(o.map encV).getD (.agg #[.int .i64 0,.bool false,.bool false])=encV (o.getD (0,false,false)):=by cases o <;> rfl
theorem zC {w:World}{b:Nat}{cs:Array Value}{T:TypeId}(h:BoxC w b cs T)(j:Nat)(u:Value)(e:cs.toList[j]?=some u):w.cell? ⟨b,j,none⟩=some u:=h.box.2.1 j u e
theorem varC_seen {E:Nev}{L:Loc}{nm:ByteArray}{b:Int}{s:Bool}(h:(L.m nm).getD (0,false,false)=(b,s,true)):varC E L nm=some (b,s,false):=by
 unfold varC
 cases e:L.m nm with
 | none=>rw[e] at h;simp at h
 | some x=>rw[e] at h;simp at h;subst h;rfl
theorem varC_all {E:Nev}{L:Loc}{nm:ByteArray}{b:Int}{s:Bool}(h:(L.m nm).getD (0,false,false)=(b,s,false)):varC E L nm=E.v nm:=by
 unfold varC
 cases e:L.m nm with
 | none=>rfl
 | some x=>rw[e] at h;simp at h;subst h;rfl
theorem variable_any (B:Nat)(w:World)(sb vb fb lb:Nat)(wd:Int)(E:Nev)(L:Loc)(res:Int × Bool)(lp:Nat)(h:Sc B w sb vb fb lb wd E L res lp)(nm:ByteArray)(hn:nm.size≤maxLen):Calls Tryz.prog 161 #[.pointer (some ⟨sb,0,none⟩),.string nm] w fun e w'=>e=.returned (.tuple #[encV ((varC E L nm).getD (0,false,false)),.int .i64 (if (varC E L nm).isSome=true then 0 else 7)])∧Below w.heap.size w w':=by
 obtain⟨⟨v,n,h1,-,h3,-⟩,⟨⟨m,h5⟩,-⟩,-⟩:=h
 have k1:=qaa w (.cells #[.int .i64 0,.bool false,.bool false] 77)
 have q3:=h3.step k1
 have q1:=h1.step k1
 have q5:=h5.step k1
 have R1:=q3.run Tryz.underlying85 (zLocal _) nm hn
 have R2:=q5.run_ok Tryz.underlying44 (zVar _) nm hn
 rw[enc_getD] at R1 R2
 have R2':∀ o:Obj,(Instr.lookup 44 (.map (some vb)) (.string nm) true).run Tryz.prog ((w.alloc (.cells #[.int .i64 0,.bool false,.bool false] 77)).alloc o)=.ok (.tuple #[encV ((E.v nm).getD (0,false,false)),.bool ((E.v nm).map encV).isSome]) ((w.alloc (.cells #[.int .i64 0,.bool false,.bool false] 77)).alloc o):=fun o=>by
  have:=(q5.step (qaa _ o)).run_ok Tryz.underlying44 (zVar _) nm hn
  rw[enc_getD] at this
  exact this
 have a0:=zC h1 0 _ rfl
 have a1:=zC h1 3 _ rfl
 have hsb:=h1.lt
 clear h1 h3 h5 q1 q3 q5 R2 hn k1
 rcases hx:(L.m nm).getD (0,false,false) with ⟨b,s,c⟩
 rw[hx] at R1
 cases c with
 | true =>
  rw[varC_seen hx]
  have HX:=zH hx
  clear hx R2'
  unfold encV at *
  go_enter Tryz.func161,Tryz.ntmps161
  go_wp2_with fail
  exact bodyPost_ret (v:=.tuple #[.agg #[.int .i64 b,.bool s,.bool false],.int .i64 0]) (by simp[results,Tryz.results161,go_sem]) rfl ⟨rfl,(by repeat (first|exact (Below.refl _ _)|refine Below.setCell ?_ (by first|exact Nat.le_refl _|(simp;done)|omega|(simp;omega)) _|refine Below.alloc ?_ (by first|(simp;done)|omega|(simp;omega)) _))⟩
 | false =>
  rw[varC_all hx]
  have HX:=zH hx
  clear hx
  cases hv:E.v nm with
  | none =>
   rw[hv] at R2'
   have R3:=R2' (.cells #[.int .i64 b,.bool s,.bool false] 112)
   clear R2'
   have HV:=zH hv
   clear hv
   unfold encV at *
   simp only[Option.getD_none,Option.map_none,Option.isSome_none] at R3 ⊢
   go_enter Tryz.func161,Tryz.ntmps161
   go_wp2_with fail
   exact bodyPost_ret (v:=.tuple #[.agg #[.int .i64 0,.bool false,.bool false],.int .i64 7]) (by simp[results,Tryz.results161,go_sem]) rfl ⟨rfl,(by repeat (first|exact (Below.refl _ _)|refine Below.setCell ?_ (by first|exact Nat.le_refl _|(simp;done)|omega|(simp;omega)) _|refine Below.alloc ?_ (by first|(simp;done)|omega|(simp;omega)) _))⟩
  | some y =>
   rw[hv] at R2'
   have R3:=R2' (.cells #[.int .i64 b,.bool s,.bool false] 112)
   clear R2'
   have HV:=zH hv
   clear hv
   obtain⟨yb,ys,ya⟩:=y
   unfold encV at *
   simp only[Option.getD_some,Option.map_some,Option.isSome_some] at R3 ⊢
   go_enter Tryz.func161,Tryz.ntmps161
   go_wp2_with fail
   exact bodyPost_ret (v:=.tuple #[.agg #[.int .i64 yb,.bool ys,.bool ya],.int .i64 0]) (by simp[results,Tryz.results161,go_sem]) rfl ⟨rfl,(by repeat (first|exact (Below.refl _ _)|refine Below.setCell ?_ (by first|exact Nat.le_refl _|(simp;done)|omega|(simp;omega)) _|refine Below.alloc ?_ (by first|(simp;done)|omega|(simp;omega)) _))⟩
theorem asked_any (B:Nat)(w:World)(sb vb fb lb:Nat)(wd:Int)(E:Nev)(L:Loc)(res:Int × Bool)(lp:Nat)(h:Sc B w sb vb fb lb wd E L res lp)(nm:ByteArray)(hn:nm.size≤maxLen)(arr:Bool):Calls Tryz.prog 134 #[.pointer (some ⟨sb,0,none⟩),.string nm,.bool arr] w fun e w'=>e=.returned (.tuple #[.agg #[.int .i64 (askC E L nm arr).1.1,.bool (askC E L nm arr).1.2],.int .i64 (askC E L nm arr).2])∧Below w.heap.size w w':=by
 have k1:=qaa w (.cells #[.int .i64 0,.bool false] 34)
 have B1:=zH (Box.new w #[.int .i64 0,.bool false] 34)
 have CV:=zH (variable_any B _ sb vb fb lb wd E L res lp (h.step k1) nm hn)
 have K1:=zH k1
 obtain⟨R,hR⟩:∃ R,R=askC E L nm arr:=⟨_,rfl⟩
 rw[← hR]
 unfold askC at hR
 clear k1 h hn
 generalize varC E L nm=V at *
 generalize hW0:w.alloc (.cells #[.int .i64 0,.bool false] 34)=W0 at *
 cases V with
 | none =>
  subst hR
  simp only[Option.getD_none,Option.isSome_none] at CV ⊢
  unfold encV at *
  go_enter Tryz.func134,Tryz.ntmps134
  go_wp2_with fail
  refine (uI CV).mono ?_
  rintro e w1 ⟨rfl,k1⟩
  have K2:=zH (bT (uI K1) k1)
  have B2:=zH ((uI B1).step k1)
  clear CV k1 B1 K1
  obtain⟨z0,z1⟩:=(uI B2).at2
  have zf:=(uI B2).2.2
  have zl:=(uI B2).1
  go_wp2_with fail
  obtain⟨p0,p1⟩:=(((uI B2).twoC (.int .i64 0) (.bool false)).step (qaa _ (.cells #[.int .i64 0,.bool false,.bool false] 77))).at2
  exact bodyPost_ret (v:=.tuple #[.agg #[.int .i64 0,.bool false],.int .i64 7]) (by simp[results,Tryz.results134,go_sem,p0,p1]) rfl ⟨rfl,(by repeat (first|exact uI K2|refine Below.setCell ?_ (by first|exact Nat.le_refl _|(simp;done)|omega|(simp;omega)) _|refine Below.alloc ?_ (by first|(simp;done)|omega|(simp;omega)) _))⟩
 | some y =>
  obtain⟨b,s,a⟩:=y
  simp only[Option.getD_some,Option.isSome_some] at CV
  dsimp only at hR
  unfold encV at *
  by_cases ha:a=arr
  ·subst ha
   rw[if_pos rfl] at hR
   subst hR
   have ea:(a==a)=true:=beq_self_eq_true a
   have en:(a != a)=false:=by simp
   go_enter Tryz.func134,Tryz.ntmps134
   go_wp2_with fail
   refine (uI CV).mono ?_
   rintro e w1 ⟨rfl,k1⟩
   have K2:=zH (bT (uI K1) k1)
   have B2:=zH ((uI B1).step k1)
   clear CV k1 B1 K1
   obtain⟨z0,z1⟩:=(uI B2).at2
   have zf:=(uI B2).2.2
   have zl:=(uI B2).1
   go_wp2_with fail
   obtain⟨p0,p1⟩:=(((uI B2).twoC (.int .i64 b) (.bool s)).step (qaa _ (.cells #[.int .i64 b,.bool s,.bool a] 77))).at2
   exact bodyPost_ret (v:=.tuple #[.agg #[.int .i64 b,.bool s],.int .i64 0]) (by simp[results,Tryz.results134,go_sem,p0,p1]) rfl ⟨rfl,(by repeat (first|exact uI K2|refine Below.setCell ?_ (by first|exact Nat.le_refl _|(simp;done)|omega|(simp;omega)) _|refine Below.alloc ?_ (by first|(simp;done)|omega|(simp;omega)) _))⟩
  ·rw[if_neg ha] at hR
   subst hR
   have ea:(a==arr)=false:=zBq ha
   have en:(a != arr)=true:=bne_iff_ne.2 ha
   clear ha
   go_enter Tryz.func134,Tryz.ntmps134
   go_wp2_with fail
   refine (uI CV).mono ?_
   rintro e w1 ⟨rfl,k1⟩
   have K2:=zH (bT (uI K1) k1)
   have B2:=zH ((uI B1).step k1)
   clear CV k1 B1 K1
   obtain⟨z0,z1⟩:=(uI B2).at2
   have zf:=(uI B2).2.2
   have zl:=(uI B2).1
   go_wp2_with fail
   obtain⟨p0,p1⟩:=(((uI B2).twoC (.int .i64 0) (.bool false)).step (qaa _ (.cells #[.int .i64 b,.bool s,.bool a] 77))).at2
   exact bodyPost_ret (v:=.tuple #[.agg #[.int .i64 0,.bool false],.int .i64 9]) (by simp[results,Tryz.results134,go_sem,p0,p1]) rfl ⟨rfl,(by repeat (first|exact uI K2|refine Below.setCell ?_ (by first|exact Nat.le_refl _|(simp;done)|omega|(simp;omega)) _|refine Below.alloc ?_ (by first|(simp;done)|omega|(simp;omega)) _))⟩
end Go.Proofs.YtjpnnmkefaodoaaGreat
