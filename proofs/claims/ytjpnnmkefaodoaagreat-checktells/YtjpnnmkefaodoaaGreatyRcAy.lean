/-
  RcA, RcB, RcC.
-/
import Derived.Test.YtjpnnmkefaodoaaGreatyClGy
set_option maxHeartbeats 8000000
set_option maxRecDepth 100000
namespace Go.Proofs.YtjpnnmkefaodoaaGreat
open Go.RowKit Go.Maps Go.Great
set_option linter.unusedSimpArgs false
set_option linter.unusedVariables false
structure Se where
 nm:ByteArray
 b:Int
 s:Bool
def seC (x:Se):List Value:=[.string x.nm,.int .i64 x.b,.bool x.s,.int .i64 0,.bool false]
def mtC (t:Int × Bool):List Value:=[.int .i64 t.1,.bool t.2]
def wdsS:List (Int × Bool)→Int
 | []=>0
 | t::l=>wds t.1+wdsS l
theorem wdsS_app (l m:List (Int × Bool)):wdsS (l++m)=wdsS l+wdsS m:=by
 induction l with
 | nil=>show wdsS m=0+wdsS m;omega
 | cons a l ih=>show wds a.1+wdsS (l++m)=wds a.1+wdsS l+wdsS m;omega
def lookS (l:List Se)(k:ByteArray):Option (Int × Bool):=(l.find? fun x=>decide (x.nm=k)).map fun x=>(x.b,x.s)
theorem lookS_none {l:List Se}{k:ByteArray}(h:∀ x∈l,x.nm≠k):lookS l k=none:=by
 unfold lookS
 rw[List.find?_eq_none.2 (fun x hx=>by simpa using h x hx)]
 rfl
theorem lookS_mem {l:List Se}{k:ByteArray}{x:Se}(hn:(l.map (·.nm)).Nodup)(hx:x∈l)(e:x.nm=k):lookS l k=some (x.b,x.s):=by
 induction l with
 | nil=>simp at hx
 | cons a l ih =>
  rw[List.map_cons,List.nodup_cons] at hn
  unfold lookS
  rw[List.find?_cons]
  by_cases h:a.nm=k
  ·rw[decide_eq_true h]
   rcases List.mem_cons.1 hx with rfl|hx
   ·rfl
   ·exact absurd (List.mem_map.2 ⟨x,hx,e.trans h.symm⟩) hn.1
  ·rw[decide_eq_false h]
   rcases List.mem_cons.1 hx with rfl|hx
   ·exact absurd e h
   ·exact ih hn.2 hx
theorem lookS_some {l:List Se}{k:ByteArray}{t:Int × Bool}(h:lookS l k=some t):∃ x∈l,x.nm=k∧t=(x.b,x.s):=by
 unfold lookS at h
 cases e:l.find? fun x=>decide (x.nm=k) with
 | none=>rw[e] at h;cases h
 | some x =>
  rw[e] at h
  injection h with h
  exact⟨x,List.mem_of_find?_eq_some e,by simpa using List.find?_some e,h.symm⟩
def hasB (l:List ByteArray)(k:ByteArray):Bool:=l.any fun j=>decide (j=k)
theorem hasB_app (l:List ByteArray)(nm k:ByteArray):hasB (l++[nm]) k=(hasB l k || decide (nm=k)):=by
 unfold hasB
 rw[List.any_append]
 simp
structure Rel (L:Loc)(see:List Se)(had:List ByteArray)(mine:List (Int × Bool)):Prop where
 op:L.op=see.map (·.nm)
 m:∀ k,L.m k=match lookS see k with
  | some (b,s)=>some (b,s,true)
  | none=>if hasB had k=true then some (0,false,false) else none
 fr:L.fr=wdsS mine
 sub:∀ x∈see,hasB had x.nm=true
 nd:(see.map (·.nm)).Nodup
 iw:∀ t∈mine,IsW t.1
theorem Rel.start:Rel ⟨fun _=>none,[],0⟩ [] [] []:=⟨rfl,fun k=>by show none=_;rw[lookS_none (fun x hx=>by simp at hx)];rfl,rfl,fun x hx=>by simp at hx,by simp,fun t ht=>by simp at ht⟩
theorem Rel.isSome {L:Loc}{see:List Se}{had:List ByteArray}{mine:List (Int × Bool)}(h:Rel L see had mine)(k:ByteArray):(L.m k).isSome=hasB had k:=by
 rw[h.m k]
 cases e:lookS see k with
 | some t =>
  obtain⟨x,hx,rfl,rfl⟩:=lookS_some e
  rw[h.sub x hx]
  rfl
 | none =>
  dsimp only
  cases hasB had k <;> rfl
theorem Rel.add {L:Loc}{see:List Se}{had:List ByteArray}{mine:List (Int × Bool)}(h:Rel L see had mine)(b:Int)(s:Bool)(nm:ByteArray)(hn:hasB had nm=false)(hb:IsW b):Rel (declC L b s nm).2 (see++[⟨nm,b,s⟩]) (had++[nm]) (mine++[(b,s)]):=by
 have hs:(L.m nm).isSome=false:=by rw[h.isSome,hn]
 have hd:(declC L b s nm).2=⟨fun j=>if j=nm then some (b,s,true) else L.m j,L.op++[nm],L.fr+wds b⟩:=by
  unfold declC
  rw[if_neg (by simp[hs])]
 have hns:∀ x∈see,x.nm≠nm:=fun x hx e=>by have:=h.sub x hx;rw[e,hn] at this;cases this
 have nd':((see++[(⟨nm,b,s⟩:Se)]).map (·.nm)).Nodup:=by
  rw[List.map_append,List.nodup_append]
  refine⟨h.nd,by simp,fun a ha c hc e=>?_⟩
  obtain⟨x,hx,rfl⟩:=List.mem_map.1 ha
  simp at hc
  exact hns x hx (e.trans hc)
 rw[hd]
 refine⟨by rw[h.op];simp,fun k=>?_,by show L.fr+wds b=_;rw[h.fr,wdsS_app];show _=_+(wds b+0);omega,fun x hx=>?_,nd',fun t ht=>by
  rcases List.mem_append.1 ht with ht|ht
  ·exact h.iw t ht
  ·rw[List.mem_singleton.1 ht];exact hb⟩
 ·show (if k=nm then some (b,s,true) else L.m k)=_
  by_cases e:k=nm
  ·subst e
   rw[if_pos rfl,lookS_mem nd' (x:=⟨k,b,s⟩) (by simp) rfl]
  ·rw[if_neg e,h.m k]
   have e2:lookS (see++[(⟨nm,b,s⟩:Se)]) k=lookS see k:=by
    unfold lookS
    rw[List.find?_append]
    cases (see.find? fun x=>decide (x.nm=k)) with
    | some x=>rfl
    | none=>simp[Ne.symm e]
   rw[e2]
   rw[hasB_app,decide_eq_false (Ne.symm e),Bool.or_false]
 ·rcases List.mem_append.1 hx with hx|hx
  ·rw[hasB_app,h.sub x hx];rfl
  ·rw[List.mem_singleton.1 hx,hasB_app];simp
theorem Rel.zX {L:Loc}{see:List Se}{had:List ByteArray}{mine:List (Int × Bool)}(h:Rel L see had mine)(n:Nat):Rel (hideC n L) (see.take n) had mine:=by
 have nd':((see.take n).map (·.nm)).Nodup:=by rw[List.map_take];exact h.nd.sublist (List.take_sublist _ _)
 refine⟨by show L.op.take n=_;rw[h.op,List.map_take],fun k=>?_,h.fr,fun x hx=>h.sub x (List.mem_of_mem_take hx),nd',h.iw⟩
 show (if (L.op.drop n).any (fun j=>decide (k=j))=true then some (0,false,false) else L.m k)=_
 have hdrop:(L.op.drop n).any (fun j=>decide (k=j))=true↔∃ x∈see.drop n,x.nm=k:=by
  rw[h.op,← List.map_drop,List.any_eq_true]
  constructor
  ·rintro⟨j,hj,e⟩
   obtain⟨x,hx,rfl⟩:=List.mem_map.1 hj
   exact⟨x,hx,(of_decide_eq_true e).symm⟩
  ·rintro⟨x,hx,e⟩
   exact⟨x.nm,List.mem_map.2 ⟨x,hx,rfl⟩,decide_eq_true e.symm⟩
 have hsplit:see=see.take n++see.drop n:=(List.take_append_drop n see).symm
 by_cases hd:∃ x∈see.drop n,x.nm=k
 ·rw[if_pos (hdrop.2 hd)]
  obtain⟨x,hx,e⟩:=hd
  have ht:∀ y∈see.take n,y.nm≠k:=by
   intro y hy e2
   have hn:=h.nd
   rw[hsplit,List.map_append,List.nodup_append] at hn
   exact hn.2.2 _ (List.mem_map.2 ⟨y,hy,rfl⟩) _ (List.mem_map.2 ⟨x,hx,rfl⟩) (e2.trans e.symm)
  rw[lookS_none ht]
  dsimp only
  rw[if_pos (by rw[← e];exact h.sub x (List.mem_of_mem_drop hx))]
 ·rw[if_neg (fun q=>hd (hdrop.1 q)),h.m k]
  have e2:lookS see k=lookS (see.take n) k:=by
   cases e:lookS (see.take n) k with
   | some t =>
    obtain⟨x,hx,rfl,rfl⟩:=lookS_some e
    exact lookS_mem h.nd (List.mem_of_mem_take hx) rfl
   | none =>
    refine lookS_none fun x hx e3=>?_
    rw[hsplit] at hx
    rcases List.mem_append.1 hx with hx|hx
    ·rw[lookS_mem nd' hx e3] at e;cases e
    ·exact hd ⟨x,hx,e3⟩
  rw[e2]
theorem grown_below3 {H:Nat}{w W W':World}{r:Option Nat}(k:Below H w W)(hH:H≤W.heap.size)(hb:∀ b,r=some b→H≤b)(g:W.grownBy W' r):Below H w W' :=
 ⟨g.os.trans k.os,g.tape.trans k.tape,g.output.trans k.output,Nat.le_trans k.size g.size,fun n hn=>(g.block n (Nat.lt_of_lt_of_le hn hH) (fun e=>by have:=hb n e.symm;omega)).trans (k.block n hn)⟩
theorem toL_inj {a b:ByteArray}(h:a.toList=b.toList):a=b:=by
 rw[ByteArray.toList_eq,ByteArray.toList_eq] at h
 exact bytes_inj h
structure Rk where
 p:Pg
 f:Fn8
 gv:Value
 fv:Value
 pv:Value
 bv:Value
def Rk.cs (K:Rk)(sv hv mv:Value)(lp:Nat):Array Value:=#[K.gv,K.fv,.string K.f.nm,.int .i64 K.f.b,.bool K.f.s,K.pv,K.bv,sv,hv,mv,.int .i64 (lp:Int)]
structure Wr (B rb:Nat)(w w':World):Prop where
 below:Below B w w'
 block:∀ k o,w.heap[k]?=some o→k≠rb→(∀ cs fr,o≠.cells cs 138 fr)→(∀ cs fr,o≠.cells cs 9 fr)→(∀ cs fr,o≠.cells cs 34 fr)→w'.heap[k]?=some o
theorem Wr.refl (B rb:Nat)(w:World):Wr B rb w w:=⟨Below.refl _ _,fun _ _ h _ _ _ _=>h⟩
theorem Wr.trans {B rb:Nat}{u v w:World}(h:Wr B rb u v)(k:Wr B rb v w):Wr B rb u w:=⟨h.below.trans k.below,fun n o hn h1 h2 h3 h4=>k.block n o (h.block n o hn h1 h2 h3 h4) h1 h2 h3 h4⟩
theorem Wr.of {B rb:Nat}{w w':World}(h:Below w.heap.size w w')(hB:B≤w.heap.size):Wr B rb w w':=⟨h.mono hB,fun k o hk _ _ _ _=>by rw[h.block k (Array.getElem?_eq_some_iff.1 hk).1];exact hk⟩
theorem Wr.drew {B rb:Nat}{u v:World}(h:Wr B rb u v):Wr B rb u v.drew:=⟨h.below.drew,h.block⟩
theorem Wr.setCell {B rb:Nat}(w:World){j:Nat}(v:Value)(hB:B≤rb):Wr B rb w (w.setCell ⟨rb,j,none⟩ v) :=
 ⟨Below.setCell (Below.refl _ _) hB _,fun k o hk hb _ _ _=>by simp[World.setCell,Array.getElem?_modify,Ne.symm hb,hk]⟩
theorem Wr.row {B rb n e sz:Nat}{w w':World}{v:Value}{cs:List Value}(ho:w.ownsRow B e sz v n cs)(h:w.grownBy w' v.ownBlock)(hB:B≤w.heap.size)(he:e=138∨e=9∨e=34):Wr B rb w w':=by
 refine⟨grown_below3 (Below.refl _ _) hB (fun b hb=>(ho.lt b hb).1) h,fun k o hk _ h1 h2 h3=>?_⟩
 rw[h.block k (Array.getElem?_eq_some_iff.1 hk).1 ?_]
 ·exact hk
 ·intro e2
  obtain⟨-,cur,fr,hc⟩:=qbo ho k e2.symm
  rw[hk] at hc
  injection hc with hc
  rcases he with rfl|rfl|rfl
  ·exact h1 _ _ hc
  ·exact h2 _ _ hc
  ·exact h3 _ _ hc
def BoxR (w:World)(b:Nat)(cs:Array Value)(T:TypeId):Prop:=w.heap[b]?=some (.cells cs T (0,0))∧T≠138∧T≠9∧T≠34
theorem BoxR.new (w:World)(cs:Array Value)(T:TypeId)(hT:T≠138∧T≠9∧T≠34):BoxR (w.alloc (.cells cs T)) w.heap.size cs T:=⟨by show (w.heap.push _)[w.heap.size]?=_;simp,hT⟩
theorem BoxR.lt {w:World}{b:Nat}{cs:Array Value}{T:TypeId}(h:BoxR w b cs T):b<w.heap.size:=(Array.getElem?_eq_some_iff.1 h.1).1
theorem BoxR.wr {w w':World}{B b rb:Nat}{cs:Array Value}{T:TypeId}(h:BoxR w b cs T)(k:Wr B rb w w')(hr:b≠rb):BoxR w' b cs T :=
 ⟨k.block b _ h.1 hr (fun cs' fr e=>by injection e with _ e _;exact h.2.1 e) (fun cs' fr e=>by injection e with _ e _;exact h.2.2.1 e) (fun cs' fr e=>by injection e with _ e _;exact h.2.2.2 e),h.2⟩
theorem BoxR.step {w w':World}{b:Nat}{cs:Array Value}{T:TypeId}(h:BoxR w b cs T)(k:Below w.heap.size w w'):BoxR w' b cs T:=⟨(k.block b h.lt).trans h.1,h.2⟩
theorem BoxR.c {w:World}{b:Nat}{cs:Array Value}{T:TypeId}(h:BoxR w b cs T):BoxC w b cs T:=⟨h.1,h.2.2.1⟩
structure Rm (B:Nat)(w:World)(rb:Nat)(K:Rk)(L:Loc)(lp:Nat):Prop where
 has:∃ sv hv mv see had mine,BoxC w rb (K.cs sv hv mv lp) 67 ∧
  w.ownsRow B 138 5 sv see.length (see.flatMap seC)∧w.ownsRow B 9 1 hv had.length (had.map .string)∧w.ownsRow B 34 2 mv mine.length (mine.flatMap mtC)∧Rel L see had mine∧(had.length=mine.length∧see.length≤mine.length∧∀ k∈had,k.size≤maxLen)
 pg:PgL B w K.gv K.fv K.p
 hB:B≤rb
theorem Rm.lt {B:Nat}{w:World}{rb:Nat}{K:Rk}{L:Loc}{lp:Nat}(h:Rm B w rb K L lp):rb<w.heap.size:=by
 obtain⟨_,_,_,_,_,_,h1,_⟩:=h.has
 exact h1.lt
theorem Rm.le {B:Nat}{w:World}{rb:Nat}{K:Rk}{L:Loc}{lp:Nat}(h:Rm B w rb K L lp):B≤w.heap.size:=Nat.le_trans h.hB (Nat.le_of_lt h.lt)
theorem Rm.step {B:Nat}{w w':World}{rb:Nat}{K:Rk}{L:Loc}{lp:Nat}(h:Rm B w rb K L lp)(k:Below w.heap.size w w'):Rm B w' rb K L lp:=by
 obtain⟨sv,hv,mv,see,had,mine,h1,h2,h3,h4,h5⟩:=h.has
 exact⟨⟨sv,hv,mv,see,had,mine,h1.step k,qay h2 k,qay h3 k,qay h4 k,h5⟩,h.pg.step (k.mono h.le),h.hB⟩
theorem in9_any (l:List ByteArray)(v:Value)(s:ByteArray)(w:World)(hl:Lies w 1 v l.length (l.map .string)):Calls Tryz.prog 16 #[v,.string s] w fun e w'=>e=.returned (.bool (hasB l s))∧w'=w:=by
 obtain⟨h1,ao,cap,rfl,h3,h4,h6,h5⟩:=hl
 unfold maxLen at h4
 have H5:=zH h5
 obtain⟨R,hR⟩:∃ R,R=hasB l s:=⟨_,rfl⟩
 rw[← hR]
 have HR:=zH (show hasB (l.drop 0) s=R from hR.symm)
 clear hR h1 h5 h6
 go_enter Tryz.func16,Tryz.ntmps16
 go_wp2_with fail
 go_loopg [9] l.length (fun g t wr=>∃ (i:Nat),i≤l.length∧g=l.length - i∧t=.int .i64 (i:Int)∧wr=w∧Hid (hasB (l.drop i) s=R))
 case atStart=>exact⟨0,Nat.zero_le _,rfl,rfl,rfl,HR⟩
 case round =>
  obtain⟨i,hi,hg,rfl,rfl,HE⟩:=hrel
  by_cases hlt:i<l.length
  ·obtain⟨b,off,rfl,hb,hc⟩:=uI H5 (by omega)
   have hiI:(i:Int)<(l.length:Int):=by omega
   have hi0:(0:Int)≤(i:Int):=by omega
   have hcell:wr.cell? ⟨b,off+i,none⟩=some (.string l[i]):=by
    rw[hc i (by omega)]
    simp[hlt]
   have HD:=zH (show l.drop i=l[i]::l.drop (i+1) from List.drop_eq_getElem_cons hlt)
   rw[uI HD] at HE
   clear hc HD
   generalize l[i]=y at *
   by_cases hy:y.toList=s.toList
   ·have e1:(y.toList==s.toList)=true:=beq_iff_eq.2 hy
    have hys:y=s:=toL_inj hy
    have h2:=uI HE
    unfold hasB at h2
    rw[List.any_cons,decide_eq_true hys,Bool.true_or] at h2
    subst h2
    clear hys hy
    go_wp2_with fail
    go_ret
    exact⟨rfl,rfl⟩
   ·have e1:(y.toList==s.toList)=false:=zBq hy
    have hys:¬ y=s:=fun e=>hy (by rw[e])
    have h2:=uI HE
    unfold hasB at h2
    rw[List.any_cons,decide_eq_false hys,Bool.false_or] at h2
    have H2:=zH (show hasB (l.drop (i+1)) s=R from h2)
    clear h2 hys hy
    go_wp2_with fail
    go_roundg (l.length - (i+1))
    case measure=>omega
    case rel=>exact⟨i+1,by omega,rfl,by go_num,rfl,H2⟩
  ·have hiI:¬ (i:Int)<(l.length:Int):=by omega
   have h2:=uI HE
   rw[List.drop_eq_nil_of_le (by omega)] at h2
   have h2:false=R:=h2
   subst h2
   go_wp2_with fail
   go_ret
   exact⟨rfl,rfl⟩
theorem Box.five9 {w:World}{b:Nat}{x0 x1 x2 x3 x4:Value}(h:Box w b [x0,x1,x2,x3,x4])(u0 u1 u2 u3 u4:Value):Box (((((w.setCell ⟨b,0,none⟩ u0).setCell ⟨b,1,none⟩ u1).setCell ⟨b,2,none⟩ u2).setCell ⟨b,3,none⟩ u3).setCell ⟨b,4,none⟩ u4) b [u0,u1,u2,u3,u4] :=
 ((((h.set (j:=0) (u:=u0) (by simp)).set (j:=1) (u:=u1) (by simp)).set (j:=2) (u:=u2) (by simp)).set (j:=3) (u:=u3) (by simp)).set (j:=4) (u:=u4) (by simp)
theorem below_5z {B b:Nat}{w w':World}(k:Below B w w')(h:B≤b)(u0 u1 u2 u3 u4:Value):Below B w (((((w'.setCell ⟨b,0,none⟩ u0).setCell ⟨b,1,none⟩ u1).setCell ⟨b,2,none⟩ u2).setCell ⟨b,3,none⟩ u3).setCell ⟨b,4,none⟩ u4) :=
 Below.setCell (Below.setCell (Below.setCell (Below.setCell (Below.setCell k h _) h _) h _) h _) h _
theorem qa3 {B:Nat}{w w':World}(k:Below B w w')(h:B≤w.heap.size)(o:Obj):Below B w (w'.alloc o):=k.trans ((qaa w' o).mono (Nat.le_trans h k.size))
theorem flat_read {α:Type}{n:Nat}{c:α→List Value}(hc:∀ x,(c x).length=n):∀ (l:List α) (i:Nat) (h:i<l.length) (j:Nat),j<n→(l.flatMap c)[i*n+j]?=(c (l[i]'h))[j]?
 | [],i,h,_,_=>by simp at h
 | x::l,0,h,j,hj=>by
  rw[List.flatMap_cons,List.getElem?_append_left (by rw[hc];omega)];simp
 | x::l,i+1,h,j,hj=>by
  have ih:=flat_read hc l i (by simpa using h) j hj
  rw[List.flatMap_cons,List.getElem?_append_right (by rw[hc,Nat.add_mul];omega)]
  rw[show (i+1)*n+j - (c x).length=i*n+j by rw[hc,Nat.add_mul];omega,ih]
  simp
theorem see_read {w:World}{v:Value}{l:List Se}(h:Lies w 5 v l.length (l.flatMap seC))(i:Nat)(hi:i<l.length):∃ b off cap,v=.slice (some ⟨b,off,none⟩) l.length cap∧b<w.heap.size ∧
  w.cell? ⟨b,off+i*5,none⟩=some (.string l[i].nm)∧w.cell? ⟨b,off+i*5+1,none⟩=some (.int .i64 l[i].b)∧w.cell? ⟨b,off+i*5+2,none⟩=some (.bool l[i].s)∧w.cell? ⟨b,off+i*5+3,none⟩=some (.int .i64 0)∧w.cell? ⟨b,off+i*5+4,none⟩=some (.bool false):=by
 obtain⟨h1,ao,cap,rfl,h3,h4,h6,h5⟩:=h
 obtain⟨b,off,rfl,hb,hc⟩:=h5 (by omega)
 have key:∀ j u,(seC l[i])[j]?=some u→w.cell? ⟨b,off+i*5+j,none⟩=some u:=fun j u hu=>by
  have hj:j<5:=(List.getElem?_eq_some_iff.1 hu).1
  have hlt:i*5+j<l.length*5:=by omega
  rw[Nat.add_assoc,hc (i*5+j) hlt,flat_read (n:=5) (c:=seC) (fun _=>rfl) l i hi j hj]
  exact hu
 exact⟨b,off,cap,rfl,hb,key 0 _ rfl,key 1 _ rfl,key 2 _ rfl,key 3 _ rfl,key 4 _ rfl⟩
def vOf (gs:List Gb)(k:ByteArray):Option (Int × Bool × Bool):=(gs.find? fun g=>decide (g.nm=k)).map fun g=>(g.b,g.s,decide (0<g.size))
theorem vOf_at {gs:List Gb}{k:ByteArray}(i:Nat)(h:i<gs.length)(hb:∀ j (_:j<i) (h':j<gs.length),gs[j].nm≠k)(e:gs[i].nm=k):vOf gs k=some (gs[i].b,gs[i].s,decide (0<gs[i].size)):=by
 have e2:(gs.find? fun g=>decide (g.nm=k))=some gs[i]:=by
  rw[List.find?_eq_some_iff_getElem]
  exact⟨by simpa using e,i,h,rfl,fun j hj=>by simpa using hb j hj (by omega)⟩
 unfold vOf
 rw[e2]
 rfl
theorem vOf_none {gs:List Gb}{k:ByteArray}(h:∀ g∈gs,g.nm≠k):vOf gs k=none:=by
 unfold vOf
 rw[List.find?_eq_none.2 (fun x hx=>by simpa using h x hx)]
 rfl
def FiR (E:Nev)(L:Loc)(nm:ByteArray)(w:World)(e:Ending)(w':World):Prop:=∃ nm' b s sz gl,e=.returned (.tuple #[.agg #[.string nm',.int .i64 b,.bool s,.int .i64 sz,.bool gl],.bool (varC E L nm).isSome])∧(∀ y,varC E L nm=some y→y=(b,s,decide (0<sz)))∧Below w.heap.size w w'
theorem Rel.found {L:Loc}{see:List Se}{had:List ByteArray}{mine:List (Int × Bool)}(h:Rel L see had mine)(E:Nev){x:Se}(hx:x∈see):varC E L x.nm=some (x.b,x.s,false):=by
 unfold varC
 rw[h.m,lookS_mem h.nd hx rfl]
theorem Rel.lost {L:Loc}{see:List Se}{had:List ByteArray}{mine:List (Int × Bool)}(h:Rel L see had mine)(E:Nev){k:ByteArray}(hx:∀ x∈see,x.nm≠k):varC E L k=E.v k:=by
 unfold varC
 rw[h.m,lookS_none hx]
 dsimp only
 cases hasB had k <;> rfl
theorem find_any (E:Nev)(B:Nat)(w:World)(rb:Nat)(K:Rk)(L:Loc)(lp:Nat)(h:Rm B w rb K L lp)(hE:∀ k,E.v k=vOf K.p.globals k)(nm:ByteArray) :
  Calls Tryz.prog 76 #[.pointer (some ⟨rb,0,none⟩),.string nm] w (FiR E L nm w):=by
 obtain⟨sv,hv,mv,see,had,mine,h1,h2,-,-,hr,-⟩:=h.has
 have hl1:see.length≤9223372036854775807:=by obtain⟨-,_,_,_,q1,q2,-⟩:=Lies.owned h2;exact Nat.le_trans q1 q2
 obtain⟨ga,gc,eg,hgm⟩:=h.pg.g.slice
 unfold maxLen at hgm
 have k0:=qaa w (.cells #[.string ⟨#[]⟩,.int .i64 0,.bool false,.int .i64 0,.bool false] 138)
 have BX:=Box.new w #[.string ⟨#[]⟩,.int .i64 0,.bool false,.int .i64 0,.bool false] 138
 have h1':=h1.step k0
 have hL:=(Lies.owned h2).step k0
 have HG:=zH (h.pg.g.step (k0.mono h.le))
 have hBl:=Nat.le_trans h.le k0.size
 have a0:=zC h1' 0 _ rfl
 have a7:=zC h1' 7 _ rfl
 have hrb:=h1'.lt
 have hrbw:=h1.lt
 rw[eg] at a0
 rw[eg] at HG
 obtain⟨sa,sc,rfl⟩:=qaj h2
 obtain⟨z0,z1,z2,z3,z4⟩:=qat BX
 have zf:=BX.2.2
 have zl:=BX.1
 have HBX:=zH BX
 have HKW:=zH k0
 have HL:=zH hL
 have HR:=zH hr
 have HE:=zH hE
 have hP:FiR E L nm w=fun e w'=>FiR E L nm w e w':=rfl
 clear h1 h1' h2 hr hE k0 BX hL eg h hP
 obtain⟨Q,hQ⟩:∃ Q,Q=FiR E L nm w:=⟨_,rfl⟩
 rw[← hQ]
 have HQ:=zH hQ
 clear hQ
 go_enter Tryz.func76,Tryz.ntmps76
 go_wp2_with fail
 generalize hW0:w.alloc (.cells #[.string ⟨#[]⟩,.int .i64 0,.bool false,.int .i64 0,.bool false] 138)=W0 at *
 go_loopg [6] see.length (fun g t wr=>∃ (k:Nat),k≤see.length∧g=k∧t=.int .i64 ((k:Int) - 1)∧wr=W0∧Hid (∀ j (_:k≤j) (h:j<see.length),see[j].nm≠nm))
 case atStart=>exact⟨see.length,Nat.le_refl _,rfl,rfl,rfl,zH (fun j h1 h2=>by omega)⟩
 case round =>
  obtain⟨k,hk,hg,rfl,hwr,HN⟩:=hrel
  subst wr
  cases k with
  | zero =>
   have eq:((0:Nat):Int) - 1=-1:=rfl
   rw[eq]
   clear eq
   have HV:=zH ((uI HR).lost E (k:=nm) (fun y hy=>by obtain⟨j,hj,rfl⟩:=List.mem_iff_getElem.1 hy;exact uI HN j (by omega) hj))
   clear HN HL HR a7
   go_wp2_with fail
   clear a0
   go_loopg [42] K.p.globals.length (fun g t wr'=>∃ (i:Nat),i≤K.p.globals.length∧g=K.p.globals.length - i∧t=.int .i64 (i:Int)∧Hid (Below W0.heap.size W0 wr')∧Hid (∀ j (_:j<i) (h':j<K.p.globals.length),K.p.globals[j].nm≠nm))
   case atStart=>exact⟨0,Nat.zero_le _,rfl,rfl,zH (Below.refl _ _),zH (fun j h _=>absurd h (Nat.not_lt_zero _))⟩
   case round =>
    clear z0 z1 z2 z3 z4 zf
    obtain⟨i,hi,hg,rfl,HC,HM⟩:=hrel
    generalize wr=V0 at *
    have P5:=(uI HG).step ((uI HC).mono hBl)
    have BXV:=zH ((uI HBX).step (uI HC))
    have KV:=zH ((uI HKW).trans ((uI HC).mono (uI HKW).size))
    obtain⟨z0,z1,z2,z3,z4⟩:=qat (uI BXV)
    have zf:=(uI BXV).2.2
    have zl:=(uI BXV).1
    by_cases hlt:i<K.p.globals.length
    ·obtain⟨b1,o1,ka,kc,rfl,hb1,hnm,hx,x0,x1,x2,x3,x4⟩:=P5.read i hlt
     have hiI:(i:Int)<(K.p.globals.length:Int):=by omega
     have hi0:(0:Int)≤(i:Int):=by omega
     obtain⟨y,hy⟩:∃ y,y=K.p.globals[i]:=⟨_,rfl⟩
     rw[← hy] at x0 x1 x2 x3 x4 hnm hx
     have HY:=zH hy
     have ka:=qaa V0 (.cells #[.int .i64 y.b,.bool y.s,.string y.nm,.int .i64 y.size,.slice ka y.init.length kc] 37)
     have KA:=zH (bT (uI HC) ka)
     have KA2:=zH ((uI KV).trans (ka.mono (uI KV).size))
     have BXA:=zH ((uI BXV).step ka)
     clear hy hx P5 ka
     by_cases hnn:y.nm.toList=nm.toList
     ·have e1:(y.nm.toList==nm.toList)=true:=beq_iff_eq.2 hnn
      have HW:=zH (show varC E L nm=some (y.b,y.s,decide (0<y.size)) from by
       rw[uI HV,uI HE,vOf_at i hlt (uI HM) (by rw[← uI HY];exact toL_inj hnn),← uI HY])
      clear hnn
      go_wp2_with fail
      obtain⟨p0,p1,p2,p3,p4⟩:=qat (((uI BXV).five9 (.string nm) (.int .i64 y.b) (.bool y.s) (.int .i64 y.size) (.bool true)).step (qaa _ (.cells #[.int .i64 y.b,.bool y.s,.string y.nm,.int .i64 y.size,.slice ka y.init.length kc] 37)))
      have K5:=qa3 (below_5z (uI KV) (Nat.le_refl _) (.string nm) (.int .i64 y.b) (.bool y.s) (.int .i64 y.size) (.bool true)) (Nat.le_refl _) (.cells #[.int .i64 y.b,.bool y.s,.string y.nm,.int .i64 y.size,.slice ka y.init.length kc] 37)
      generalize (((((V0.setCell ⟨w.heap.size,0,none⟩ (.string nm)).setCell ⟨w.heap.size,1,none⟩ (.int .i64 y.b)).setCell ⟨w.heap.size,2,none⟩ (.bool y.s)).setCell ⟨w.heap.size,3,none⟩ (.int .i64 y.size)).setCell ⟨w.heap.size,4,none⟩ (.bool true)).alloc (.cells #[.int .i64 y.b,.bool y.s,.string y.nm,.int .i64 y.size,.slice ka y.init.length kc] 37)=W5 at *
      refine bodyPost_ret (v:=.tuple #[.agg #[.string nm,.int .i64 y.b,.bool y.s,.int .i64 y.size,.bool true],.bool true]) (by simp[results,Tryz.results76,go_sem,p0,p1,p2,p3,p4]) rfl ?_
      rw[uI HQ]
      unfold FiR
      rw[uI HW]
      exact⟨_,_,_,_,_,rfl,fun t ht=>by injection ht with ht;rw[← ht],K5⟩
     ·have e1:(y.nm.toList==nm.toList)=false:=zBq hnn
      have HNN:=zH (show y.nm≠nm from fun e=>hnn (by rw[e]))
      clear hnn z0 z1 z2 z3 z4 zf
      go_wp2_with fail
      go_roundg (K.p.globals.length - (i+1))
      case measure=>omega
      case rel =>
       refine⟨i+1,by omega,rfl,by go_num,KA,zH (fun j h h'=>?_)⟩
       by_cases hji:j=i
       ·subst hji;rw[← uI HY];exact uI HNN
       ·exact uI HM j (by omega) h'
    ·have hiI:¬ (i:Int)<(K.p.globals.length:Int):=by omega
     have HW:=zH (show varC E L nm=none from by
      rw[uI HV,uI HE,vOf_none (fun g hg=>by obtain⟨j,hj,rfl⟩:=List.mem_iff_getElem.1 hg;exact uI HM j (by omega) hj)])
     clear P5
     go_wp2_with fail
     obtain⟨p0,p1,p2,p3,p4⟩:=qat ((uI BXV).five9 (.string ⟨#[]⟩) (.int .i64 0) (.bool false) (.int .i64 0) (.bool false))
     have K5:=below_5z (uI KV) (Nat.le_refl _) (.string ⟨#[]⟩) (.int .i64 0) (.bool false) (.int .i64 0) (.bool false)
     generalize (((((V0.setCell ⟨w.heap.size,0,none⟩ (.string ⟨#[]⟩)).setCell ⟨w.heap.size,1,none⟩ (.int .i64 0)).setCell ⟨w.heap.size,2,none⟩ (.bool false)).setCell ⟨w.heap.size,3,none⟩ (.int .i64 0)).setCell ⟨w.heap.size,4,none⟩ (.bool false))=W5 at *
     refine bodyPost_ret (v:=.tuple #[.agg #[.string ⟨#[]⟩,.int .i64 0,.bool false,.int .i64 0,.bool false],.bool false]) (by simp[results,Tryz.results76,go_sem,p0,p1,p2,p3,p4]) rfl ?_
     rw[uI HQ]
     unfold FiR
     rw[uI HW]
     exact⟨_,_,_,_,_,rfl,fun t ht=>(by cases ht),K5⟩
  | succ q =>
   have eq:((q+1:Nat):Int) - 1=(q:Int):=by omega
   rw[eq]
   clear eq
   obtain⟨b,off,cap,e1,hb,x0,x1,x2,x3,x4⟩:=see_read (uI HL) q (by omega)
   injection e1 with e1 _ e2
   subst e1 e2
   have hq:(q:Int)<(see.length:Int):=by omega
   have hq0:(0:Int)≤(q:Int):=by omega
   obtain⟨y,hy⟩:∃ y,y=see[q]:=⟨_,rfl⟩
   rw[← hy] at x0 x1 x2
   have HY:=zH hy
   clear hy
   by_cases hnn:y.nm.toList=nm.toList
   ·have e1:(y.nm.toList==nm.toList)=true:=beq_iff_eq.2 hnn
    have HV:=zH (show varC E L nm=some (y.b,y.s,false) from by rw[← toL_inj hnn];exact (uI HR).found E (by rw[uI HY];exact List.getElem_mem _))
    clear hnn
    go_wp2_with fail
    obtain⟨p0,p1,p2,p3,p4⟩:=qat ((uI HBX).five9 (.string y.nm) (.int .i64 y.b) (.bool y.s) (.int .i64 0) (.bool false))
    have K5:=below_5z (uI HKW) (Nat.le_refl _) (.string y.nm) (.int .i64 y.b) (.bool y.s) (.int .i64 0) (.bool false)
    generalize (((((W0.setCell ⟨w.heap.size,0,none⟩ (.string y.nm)).setCell ⟨w.heap.size,1,none⟩ (.int .i64 y.b)).setCell ⟨w.heap.size,2,none⟩ (.bool y.s)).setCell ⟨w.heap.size,3,none⟩ (.int .i64 0)).setCell ⟨w.heap.size,4,none⟩ (.bool false))=W5 at *
    refine bodyPost_ret (v:=.tuple #[.agg #[.string y.nm,.int .i64 y.b,.bool y.s,.int .i64 0,.bool false],.bool true]) (by simp[results,Tryz.results76,go_sem,p0,p1,p2,p3,p4]) rfl ?_
    rw[uI HQ]
    unfold FiR
    rw[uI HV]
    exact⟨_,_,_,_,_,rfl,fun t ht=>by injection ht with ht;rw[← ht];rfl,K5⟩
   ·have e1:(y.nm.toList==nm.toList)=false:=zBq hnn
    have HNN:=zH (show y.nm≠nm from fun e=>hnn (by rw[e]))
    clear hnn
    go_wp2_with fail
    go_roundg q
    case measure=>omega
    case rel =>
     refine⟨q,by omega,rfl,by go_num,rfl,zH (fun j h1 h2=>?_)⟩
     by_cases hj:j=q
     ·subst hj;rw[← uI HY];exact uI HNN
     ·exact uI HN j (by omega) h2
end Go.Proofs.YtjpnnmkefaodoaaGreat
