/-
  ClB, ClC, CkZ.
-/
import Derived.Test.YtjpnnmkefaodoaaGreatyCkTy
import Derived.Test.YtjpnnmkefaodoaaGreatyTrPy
set_option maxHeartbeats 8000000
set_option maxRecDepth 100000
namespace Go.Proofs.YtjpnnmkefaodoaaGreat
open Go.RowKit
set_option linter.unusedSimpArgs false
set_option linter.unusedVariables false
theorem thn_inv {r:Int × Nat}{f:Nat→Int × Nat}(h:(thn r f).1=0):r.1=0∧thn r f=f r.2:=by
 unfold thn at *
 split at h
 ·rename_i h1;exact absurd h h1
 ·rename_i h1
  exact⟨by simpa using h1,if_neg h1⟩
theorem lkE_ge:∀ (x:Ex) (d c:Nat),c≤(lkE x d c).2:=by
 apply Ex.ind
 intro x IH d c
 obtain⟨k,n,b,s,nm,kids⟩:=x
 have all:∀ (l:List Ex),(∀ y∈l,∀ d c,c≤(lkE y d c).2)→∀ d c,c≤(lkEs l d c).2:=by
  intro l
  induction l with
  | nil=>intro _ d c;rw[lkEs];exact Nat.le_refl _
  | cons a l ih =>
   intro I d c
   rw[lkEs]
   have h1:=I a List.mem_cons_self d c
   split
   ·exact h1
   ·exact Nat.le_trans h1 (ih (fun y hy=>I y (List.mem_cons_of_mem _ hy)) d _)
 have h1:=all kids IH (d+1) (c+1)
 rw[lkE]
 repeat' split
 all_goals first|omega|(dsimp only;omega)
theorem lkEs_ge:∀ (l:List Ex) (d c:Nat),c≤(lkEs l d c).2:=by
 intro l
 induction l with
 | nil=>intro d c;rw[lkEs];exact Nat.le_refl _
 | cons a l ih =>
  intro d c
  rw[lkEs]
  have h1:=lkE_ge a d c
  split
  ·exact h1
  ·exact Nat.le_trans h1 (ih d _)
theorem tvEs_of:∀ (l:List Ex) (d c:Nat),(lkEs l d c).1=0→∀ y∈l,TvE y:=by
 intro l
 induction l with
 | nil=>intro _ _ _ y hy;simp at hy
 | cons a l ih =>
  intro d c h y hy
  rw[lkEs] at h
  by_cases e:(lkE a d c).1=0
  ·rw[if_neg (by simpa using e)] at h
   rcases List.mem_cons.1 hy with rfl|hy
   ·exact tvE_of _ d c e
   ·exact ih d _ h y hy
  ·rw[if_pos e] at h;exact absurd h e
def lsA (k:Int)(l:List Sm)(d c:Nat):Int × Nat:=if k=7 then (if 1<l.length then (5,c) else if isSE l=true then lkSs l (d+1) c else (8,c)) else (0,c)
def lsI (k:Int)(has:Bool)(i:Ex)(d c:Nat):Int × Nat:=if k=3∧has=true then lkE i (d+1) c else (0,c)
def lsX (k:Int)(has:Bool)(x:Ex)(d c:Nat):Int × Nat:=if hasX k has=true then lkE x (d+1) c else (0,c)
def lsB (k:Int)(body els:List Sm)(d c:Nat):Int × Nat:=if k=5 then thn (lkSs body (d+1) c) fun c=>lkSs els (d+1) c else if k=6∨k=7∨k=11 then lkSs body (d+1) c else (0,c)
theorem lkS_at (k b:Int)(s:Bool)(nm:ByteArray)(has:Bool)(x i:Ex)(init step body els:List Sm)(d c:Nat):lkS (.mk k b s nm has x i init step body els) d c =
  if nodeW d c≠0 then (nodeW d c,c+1)
  else if k<1∨11<k then (1,c+1)
  else if wSmF k b nm≠0 then (wSmF k b nm,c+1)
  else thn (lsA k init d (c+1)) fun c=>thn (lsI k has i d c) fun c=>thn (lsX k has x d c) fun c=>thn (lsA k step d c) fun c=>lsB k body els d c:=by
 rw[lkS]
 rfl
def SmG (x:Sm):Prop:=∀ d c,(lkS x d c).1=0→TvS x∧szS x+c≤(lkS x d c).2
theorem ls_good:∀ (l:List Sm),(∀ y∈l,SmG y)→∀ d c,(lkSs l d c).1=0→(∀ y∈l,TvS y)∧szL l+c≤(lkSs l d c).2:=by
 intro l
 induction l with
 | nil=>intro _ d c _;rw[lkSs,szL];exact⟨fun y hy=>by simp at hy,by simp⟩
 | cons a l ih =>
  intro I d c h
  rw[lkSs] at h ⊢
  rw[szL]
  by_cases e:(lkS a d c).1=0
  ·rw[if_neg (by simpa using e)] at h ⊢
   obtain⟨h1,h2⟩:=I a List.mem_cons_self d c e
   obtain⟨h3,h4⟩:=ih (fun y hy=>I y (List.mem_cons_of_mem _ hy)) d _ h
   refine⟨fun y hy=>?_,by omega⟩
   rcases List.mem_cons.1 hy with rfl|hy
   ·exact h1
   ·exact h3 y hy
  ·rw[if_pos e] at h;exact absurd h e
theorem lsA_good {k:Int}{l:List Sm}{d c:Nat}(I:∀ y∈l,SmG y)(h:(lsA k l d c).1=0):c≤(lsA k l d c).2∧(k=7→(∀ y∈l,TvS y)∧szL l+c≤(lsA k l d c).2):=by
 unfold lsA at *
 by_cases h7:k=7
 ·rw[if_pos h7] at h ⊢
  split at h
  ·cases h
  ·rename_i h1
   rw[if_neg h1]
   split at h
   ·rename_i h2
    rw[if_pos h2]
    obtain⟨h3,h4⟩:=ls_good l I _ _ h
    exact⟨by omega,fun _=>⟨h3,h4⟩⟩
   ·cases h
 ·rw[if_neg h7]
  exact⟨Nat.le_refl _,fun e=>absurd e h7⟩
theorem sm_good:∀ x:Sm,SmG x:=by
 apply Sm.ind
 intro x I1 I2 I3 I4 d c h
 obtain⟨k,b,s,nm,has,x,i,init,step,body,els⟩:=x
 simp only[Sm.init,Sm.step,Sm.body,Sm.els] at I1 I2 I3 I4
 obtain⟨z1,z5,z6,z7⟩:=szS_at (Sm.mk k b s nm has x i init step body els)
 simp only[Sm.k,Sm.init,Sm.step,Sm.body,Sm.els] at z5 z6 z7
 have z0:¬ (k=5∨k=6∨k=7∨k=11)→szS (Sm.mk k b s nm has x i init step body els)=1:=by
  intro hk
  rw[szS,if_neg (by omega),if_neg hk,if_neg (by omega)]
 generalize szS (Sm.mk k b s nm has x i init step body els)=z at *
 rw[lkS_at] at h ⊢
 split at h
 ·rename_i h1;exact absurd h h1
 rename_i h1
 split at h
 ·cases h
 rename_i h2
 split at h
 ·rename_i h3;exact absurd h h3
 rename_i h3
 rw[if_neg h1,if_neg h2,if_neg h3]
 obtain⟨a1,e1⟩:=thn_inv h
 rw[e1] at h ⊢
 obtain⟨p1,q1⟩:=lsA_good I1 a1
 generalize (lsA k init d (c+1)).2=c1 at *
 obtain⟨a2,e2⟩:=thn_inv h
 rw[e2] at h ⊢
 have p2:c1≤(lsI k has i d c1).2:=by
  unfold lsI
  split
  ·exact lkE_ge _ _ _
  ·exact Nat.le_refl _
 have q2:k=3→has=true→TvE i:=by
  intro u v
  unfold lsI at a2
  rw[if_pos ⟨u,v⟩] at a2
  exact tvE_of _ _ _ a2
 generalize (lsI k has i d c1).2=c2 at *
 obtain⟨a3,e3⟩:=thn_inv h
 rw[e3] at h ⊢
 have p3:c2≤(lsX k has x d c2).2:=by
  unfold lsX
  split
  ·exact lkE_ge _ _ _
  ·exact Nat.le_refl _
 have q3:hasX k has=true→TvE x:=by
  intro u
  unfold lsX at a3
  rw[if_pos u] at a3
  exact tvE_of _ _ _ a3
 generalize (lsX k has x d c2).2=c3 at *
 obtain⟨a4,e4⟩:=thn_inv h
 rw[e4] at h ⊢
 obtain⟨p4,q4⟩:=lsA_good I2 a4
 generalize (lsA k step d c3).2=c4 at *
 have hb:k=2→IsW b:=by
  intro u
  unfold wSmF at h3
  rw[if_pos u] at h3
  unfold wTyped at h3
  split at h3
  ·rename_i h5;exact isWB_of h5
  ·exact absurd h3 (by decide)
 have hX:(k=3∨k=4∨k=5∨k=6)∨((k=2∨k=7∨k=8)∧has=true)→TvE x:=by
  intro u
  refine q3 ?_
  unfold hasX
  rcases u with u|⟨u,v⟩
  ·rw[if_pos u]
  ·rw[if_neg (by omega),if_pos (by omega),v]
 have hB:(k=5∨k=6∨k=7∨k=11→∀ y∈body,TvS y)∧(k=5→∀ y∈els,TvS y)∧c4≤(lsB k body els d c4).2∧(k=5→szL body+szL els+c4≤(lsB k body els d c4).2)∧(k=6∨k=7∨k=11→szL body+c4≤(lsB k body els d c4).2):=by
  unfold lsB at *
  by_cases h5:k=5
  ·rw[if_pos h5] at h ⊢
   obtain⟨g1,g2⟩:=thn_inv h
   rw[g2] at h ⊢
   obtain⟨g3,g4⟩:=ls_good body I3 _ _ g1
   obtain⟨g5,g6⟩:=ls_good els I4 _ _ h
   exact⟨fun _=>g3,fun _=>g5,by omega,fun _=>by omega,fun u=>by omega⟩
  ·rw[if_neg h5] at h ⊢
   by_cases h6:k=6∨k=7∨k=11
   ·rw[if_pos h6] at h ⊢
    obtain⟨g3,g4⟩:=ls_good body I3 _ _ h
    exact⟨fun _=>g3,fun u=>absurd u h5,by omega,fun u=>absurd u h5,fun _=>g4⟩
   ·rw[if_neg h6]
    exact⟨fun u=>by omega,fun u=>absurd u h5,Nat.le_refl _,fun u=>absurd u h5,fun u=>absurd u h6⟩
 obtain⟨b1,b2,b3,b4,b5⟩:=hB
 refine⟨.mk _ hX q2 hb (fun u=>(q1 u).1) (fun u=>(q4 u).1) b1 b2,?_⟩
 by_cases k5:k=5
 ·have:=z5 k5;have:=b4 k5;omega
 by_cases k6:k=6∨k=11
 ·have:=z6 k6;have:=b5 (by omega);omega
 by_cases k7:k=7
 ·have:=z7 k7;have:=b5 (by omega);have:=(q1 k7).2;have:=(q4 k7).2;omega
 ·have:=z0 (by omega);omega
structure FnG (f:Fn8):Prop where
 nm:namN f.nm=true
 res:isWB f.b=true∨(f.b=0∧f.s=false)
 pl:f.params.length≤8
 ps:∀ p∈f.params,IsW p.b∧namN p.nm=true
 st:∀ y∈f.body,TvS y
 sz:szL f.body≤20000
structure GbG (g:Gb):Prop where
 b:IsW g.b
 nm:namN g.nm=true
 sz:0≤g.size∧g.size≤8000
 il:(g.init.length:Int)≤max 1 g.size
 ex:∀ y∈g.init,TvE y
theorem wTyped_good {b:Int}{nm:ByteArray}(h:wTyped b nm=0):IsW b∧namN nm=true:=by
 unfold wTyped at h
 split at h
 ·rename_i h1
  refine⟨isWB_of h1,?_⟩
  unfold wName at h
  split at h
  ·assumption
  ·cases h
 ·cases h
theorem lkPs_good:∀ l:List Pm,lkPs l=0→∀ p∈l,IsW p.b∧namN p.nm=true:=by
 intro l
 induction l with
 | nil=>intro _ p hp;simp at hp
 | cons a l ih =>
  intro h p hp
  rw[lkPs_cons] at h
  split at h
  ·rename_i h1;exact absurd h h1
  ·rename_i h1
   rcases List.mem_cons.1 hp with rfl|hp
   ·exact wTyped_good (by simpa using h1)
   ·exact ih h p hp
theorem lkF_good9 {f:Fn8}{c:Nat}(hc:c≤20000)(h:(lkF f c).1=0):FnG f:=by
 have hle:=lkF_le f c hc h
 unfold lkF at h hle
 split at h
 ·cases h
 rename_i h1
 split at h
 ·cases h
 rename_i h2
 split at h
 ·cases h
 rename_i h3
 split at h
 ·rename_i h4;exact absurd h h4
 rename_i h4
 split at h
 ·rename_i h5;exact absurd h h5
 rename_i h5
 rw[if_neg h1,if_neg h2,if_neg h3,if_neg h4,if_neg h5] at hle
 obtain⟨g1,g2⟩:=ls_good f.body (fun y _=>sm_good y) _ _ h
 refine⟨by simpa using h1,?_,by omega,lkPs_good _ (by simpa using h4),g1,by omega⟩
 cases hw:isWB f.b
 ·refine .inr ?_
  by_cases e:f.b=0∧f.s=false
  ·exact e
  ·exact absurd ⟨hw,e⟩ h2
 ·exact .inl rfl
theorem lkG_good9 {g:Gb}{c:Nat}(h:(lkG g c).1=0):GbG g:=by
 unfold lkG at h
 split at h
 ·rename_i h1;exact absurd h h1
 rename_i h1
 split at h
 ·cases h
 rename_i h2
 split at h
 ·cases h
 rename_i h3
 split at h
 ·rename_i h4;exact absurd h h4
 obtain⟨w1,w2⟩:=wTyped_good (by simpa using h1)
 exact⟨w1,w2,by omega,by omega,tvEs_of _ _ _ h⟩
theorem lkG_ge9 {g:Gb}{c:Nat}(h:(lkG g c).1=0):c+1≤(lkG g c).2:=by
 unfold lkG at h ⊢
 split at h
 ·rename_i h1;exact absurd h h1
 rename_i h1
 split at h
 ·cases h
 rename_i h2
 split at h
 ·cases h
 rename_i h3
 split at h
 ·rename_i h4;exact absurd h h4
 rename_i h4
 rw[if_neg h1,if_neg h2,if_neg h3,if_neg h4]
 exact lkEs_ge _ _ _
theorem lkFs_good9:∀ (l:List Fn8) (c:Nat),c≤20000→(lkFs l c).1=0→∀ f∈l,FnG f:=by
 intro l
 induction l with
 | nil=>intro _ _ _ f hf;simp at hf
 | cons a l ih =>
  intro c hc h f hf
  rw[lkFs_cons] at h
  obtain⟨h1,h2⟩:=thn_inv h
  rw[h2] at h
  rcases List.mem_cons.1 hf with rfl|hf
  ·exact lkF_good9 hc h1
  ·exact ih _ (lkF_le _ _ hc h1) h f hf
theorem lkGs_good9:∀ (l:List Gb) (c:Nat),c≤20000→(lkGs l c).1=0→(∀ g∈l,GbG g)∧(lkGs l c).2≤20000∧l.length+c≤(lkGs l c).2:=by
 intro l
 induction l with
 | nil=>intro c hc _;rw[lkGs];exact⟨fun g hg=>by simp at hg,hc,by simp⟩
 | cons a l ih =>
  intro c hc h
  rw[lkGs_cons] at h ⊢
  obtain⟨h1,h2⟩:=thn_inv h
  rw[h2] at h ⊢
  obtain⟨i1,i2,i3⟩:=ih _ (lkG_le _ _ hc h1) h
  have i4:=lkG_ge9 h1
  refine⟨fun g hg=>?_,i2,by simp only[List.length_cons];omega⟩
  rcases List.mem_cons.1 hg with rfl|hg
  ·exact lkG_good9 h1
  ·exact i1 g hg
structure PgG (p:Pg):Prop where
 fl:p.funcs.length≤100
 gl:p.globals.length≤20000
 g:∀ g∈p.globals,GbG g
 f:∀ f∈p.funcs,FnG f
theorem lkP_good9 {p:Pg}(h:(lkP p).1=0):PgG p:=by
 unfold lkP at h
 split at h
 ·cases h
 rename_i h1
 obtain⟨h2,h3⟩:=thn_inv h
 rw[h3] at h
 obtain⟨g1,g2,g3⟩:=lkGs_good9 _ 0 (by omega) h2
 exact⟨by omega,by omega,g1,lkFs_good9 _ _ g2 h⟩
open Go.RowKit Go.Maps
structure Ng (H:Nat)(w W:World)(nb vb fb nv nf:Nat)(E:Nev)(wd:Int):Prop where
 bx:BoxC W nb #[.map (some vb),.map (some fb),.int .i64 wd] 47
 v:Mv W vb nv (fun k=>(E.v k).map encV)
 f:∃ g,Mv W fb nf g∧∀ k,FnV (E.f k) (g k)
 hn:H≤nb
 hv:H≤vb
 hf:H≤fb
 ne:vb≠fb
 hH:H≤w.heap.size
 k:Below H w W
section
variable {H:Nat} {w W W':World} {nb vb fb nv nf:Nat} {E:Nev} {wd:Int}
theorem Ng.step (h:Ng H w W nb vb fb nv nf E wd)(k:Below W.heap.size W W'):Ng H w W' nb vb fb nv nf E wd:=by
 obtain⟨g,h1,h2⟩:=h.f
 exact⟨h.bx.step k,h.v.step k,⟨g,h1.step k,h2⟩,h.hn,h.hv,h.hf,h.ne,h.hH,h.k.trans (k.mono (Nat.le_trans h.hH h.k.size))⟩
theorem Ng.nv' (h:Ng H w W nb vb fb nv nf E wd):nb≠vb:=by
 obtain⟨es,c,h1⟩:=h.v.at
 rintro rfl
 rw[h.bx.1] at h1
 cases h1
theorem Ng.nf' (h:Ng H w W nb vb fb nv nf E wd):nb≠fb:=by
 obtain⟨g,h0,-⟩:=h.f
 obtain⟨es,c,h1⟩:=h0.at
 rintro rfl
 rw[h.bx.1] at h1
 cases h1
theorem Ng.nm (h:Ng H w W nb vb fb nv nf E wd):Nm W vb fb E:=by
 obtain⟨g,h1,h2⟩:=h.f
 exact⟨⟨nv,h.v⟩,⟨nf,g,h1,h2⟩⟩
theorem grown_below {H b:Nat}{w W W':World}(k:Below H w W)(hH:H≤W.heap.size)(hb:H≤b)(g:W.grownBy W' (some b)):Below H w W' :=
 ⟨g.os.trans k.os,g.tape.trans k.tape,g.output.trans k.output,Nat.le_trans k.size g.size,fun n hn=>(g.block n (Nat.lt_of_lt_of_le hn hH) (fun e=>by injection e with e;omega)).trans (k.block n hn)⟩
theorem Ng.le (h:Ng H w W nb vb fb nv nf E wd):H≤W.heap.size:=Nat.le_trans h.hH h.k.size
theorem Ng.addV {g:Gb}(h:Ng H w W nb vb fb nv nf E wd)(hm:Mv W' vb (nv+1) (putV (fun k=>(E.v k).map encV) g.nm (encV (g.b,g.s,decide (0<g.size)))))(gr:W.grownBy W' (some vb)):Ng H w W' nb vb fb (nv+1) nf (E.addV g) wd:=by
 obtain⟨q,h1,h2⟩:=h.f
 refine⟨⟨(gr.block nb h.bx.lt (fun e=>by injection e with e;exact h.nv' e)).trans h.bx.1,h.bx.2⟩,hm.congr fun k=>?_,⟨q,h1.blk (gr.block fb h1.lt (fun e=>by injection e with e;exact h.ne e.symm)),h2⟩,h.hn,h.hv,h.hf,h.ne,h.hH,grown_below h.k h.le h.hv gr⟩
 show putV (fun k=>(E.v k).map encV) g.nm (encV (g.b,g.s,decide (0<g.size))) k=(if k=g.nm then some (g.b,g.s,decide (0<g.size)) else E.v k).map encV
 unfold putV
 split <;> rfl
theorem Ng.addF {f:Fn8}{q:ByteArray→Option Value}{a ba:Option Addr}{c bn bc:Nat}(h:Ng H w W nb vb fb nv nf E wd)(hq:∀ k,FnV (E.f k) (q k))(hm:Mv W' fb (nf+1) (putV q f.nm (.agg #[.string f.nm,.int .i64 f.b,.bool f.s,.slice a f.params.length c,.slice ba bn bc])))(gr:W.grownBy W' (some fb)):Ng H w W' nb vb fb nv (nf+1) (E.addF f) wd:=by
 refine⟨⟨(gr.block nb h.bx.lt (fun e=>by injection e with e;exact h.nf' e)).trans h.bx.1,h.bx.2⟩,h.v.blk (gr.block vb h.v.lt (fun e=>by injection e with e;exact h.ne e)),⟨_,hm,fun k=>?_⟩,h.hn,h.hv,h.hf,h.ne,h.hH,grown_below h.k h.le h.hf gr⟩
 unfold putV
 show FnV (if k=f.nm then some (f.b,f.s,f.params.length) else E.f k) _
 split
 ·exact⟨_,_,_,_,_,_,rfl⟩
 ·exact hq k
theorem Ng.store (h:Ng H w W nb vb fb nv nf E wd)(wd':Int):Ng H w (W.setCell ⟨nb,2,none⟩ (.int .i64 wd')) nb vb fb nv nf E wd':=by
 obtain⟨q,h1,h2⟩:=h.f
 exact⟨by simpa using h.bx.set (j:=2) (u:=.int .i64 wd'),h.v.setCell (Ne.symm h.nv'),⟨q,h1.setCell (Ne.symm h.nf'),h2⟩,h.hn,h.hv,h.hf,h.ne,h.hH,Below.setCell h.k h.hn _⟩
end
theorem taken_any {H:Nat}{w0 w:World}{nb vb fb nv nf:Nat}{E:Nev}{wd:Int}(h:Ng H w0 w nb vb fb nv nf E wd)(nm:ByteArray)(hn:nm.size≤maxLen) :
  Calls Tryz.prog 26 #[.pointer (some ⟨nb,0,none⟩),.string nm] w fun e w'=>e=.returned (.bool (E.taken nm))∧Below w.heap.size w w':=by
 obtain⟨q,h1,h2⟩:=h.f
 have R1:=h.v.run_ok Tryz.underlying44 (zVar _) nm hn
 rw[enc_getD] at R1
 have R2:∀ o:Obj,(Instr.lookup 45 (.map (some fb)) (.string nm) true).run Tryz.prog (w.alloc o)=.ok (.tuple #[(q nm).getD (.agg #[.string ⟨#[]⟩,.int .i64 0,.bool false,.slice none 0 0,.slice none 0 0]),.bool (q nm).isSome]) (w.alloc o):=fun o=>(h1.step (qaa _ o)).run_ok Tryz.underlying45 (zFunc _) nm hn
 have h3:=h2 nm
 have a0:=zC h.bx 0 _ rfl
 have a1:=zC h.bx 1 _ rfl
 have hsb:=h.bx.lt
 unfold Nev.taken
 generalize E.v nm=ov at *
 generalize E.f nm=of at *
 generalize q nm=oq at *
 clear h h1 h2 hn
 cases of with
 | none =>
  have h3:oq=none:=h3
  subst h3
  cases ov with
  | none =>
   have R3:=R2 (.cells #[.int .i64 0,.bool false,.bool false] 77)
   clear R2
   simp only[Option.getD_none,Option.map_none,Option.isSome_none,encV,Bool.or_self] at R1 R3 ⊢
   go_enter Tryz.func26,Tryz.ntmps26
   go_wp2_with fail
   go_ret
   exact⟨rfl,(by repeat (first|exact (Below.refl _ _)|refine Below.setCell ?_ (by first|exact Nat.le_refl _|(simp;done)|omega|(simp;omega)) _|refine Below.alloc ?_ (by first|(simp;done)|omega|(simp;omega)) _))⟩
  | some y =>
   obtain⟨yb,ys,ya⟩:=y
   have R3:=R2 (.cells #[.int .i64 yb,.bool ys,.bool ya] 77)
   clear R2
   simp only[Option.getD_none,Option.isSome_none,Option.map_some,Option.getD_some,Option.isSome_some,encV,Bool.true_or] at R1 R3 ⊢
   go_enter Tryz.func26,Tryz.ntmps26
   go_wp2_with fail
   go_ret
   exact⟨rfl,(by repeat (first|exact (Below.refl _ _)|refine Below.setCell ?_ (by first|exact Nat.le_refl _|(simp;done)|omega|(simp;omega)) _|refine Below.alloc ?_ (by first|(simp;done)|omega|(simp;omega)) _))⟩
 | some x =>
  obtain⟨xb,xs,m⟩:=x
  obtain⟨fnm,fa,fc,fba,fbn,fbc,rfl⟩:∃ nm a c ba bn bc,oq=some (.agg #[.string nm,.int .i64 xb,.bool xs,.slice a m c,.slice ba bn bc]):=h3
  cases ov with
  | none =>
   have R3:=R2 (.cells #[.int .i64 0,.bool false,.bool false] 77)
   clear R2
   simp only[Option.getD_none,Option.map_none,Option.isSome_none,Option.getD_some,Option.isSome_some,encV,Bool.false_or] at R1 R3 ⊢
   go_enter Tryz.func26,Tryz.ntmps26
   go_wp2_with fail
   go_ret
   exact⟨rfl,(by repeat (first|exact (Below.refl _ _)|refine Below.setCell ?_ (by first|exact Nat.le_refl _|(simp;done)|omega|(simp;omega)) _|refine Below.alloc ?_ (by first|(simp;done)|omega|(simp;omega)) _))⟩
  | some y =>
   obtain⟨yb,ys,ya⟩:=y
   have R3:=R2 (.cells #[.int .i64 yb,.bool ys,.bool ya] 77)
   clear R2
   simp only[Option.getD_some,Option.map_some,Option.isSome_some,encV,Bool.true_or] at R1 R3 ⊢
   go_enter Tryz.func26,Tryz.ntmps26
   go_wp2_with fail
   go_ret
   exact⟨rfl,(by repeat (first|exact (Below.refl _ _)|refine Below.setCell ?_ (by first|exact Nat.le_refl _|(simp;done)|omega|(simp;omega)) _|refine Below.alloc ?_ (by first|(simp;done)|omega|(simp;omega)) _))⟩
def mainB (E:Nev):Bool:=match E.f nMain with
 | some (_,_,m)=>decide (m=0)
 | none=>false
theorem hasMain_any {H:Nat}{w0 w:World}{nb vb fb nv nf:Nat}{E:Nev}{wd:Int}(h:Ng H w0 w nb vb fb nv nf E wd)(hm:∀ x,E.f nMain=some x→x.2.2≤100) :
  Calls Tryz.prog 14 #[.pointer (some ⟨nb,0,none⟩)] w fun e w'=>e=.returned (.bool (mainB E))∧Below w.heap.size w w':=by
 obtain⟨q,h1,h2⟩:=h.f
 have R1:=h1.run_ok Tryz.underlying45 (zFunc _) nMain (by decide)
 have h3:=h2 nMain
 have a1:=zC h.bx 1 _ rfl
 have hsb:=h.bx.lt
 unfold mainB
 generalize E.f nMain=of at *
 generalize q nMain=oq at *
 unfold nMain at R1
 clear h h1 h2
 cases of with
 | none =>
  have h3:oq=none:=h3
  subst h3
  simp only[Option.getD_none,Option.isSome_none] at R1 ⊢
  go_enter Tryz.func14,Tryz.ntmps14
  go_wp2_with fail
  go_ret
  exact⟨rfl,(by repeat (first|exact (Below.refl _ _)|refine Below.setCell ?_ (by first|exact Nat.le_refl _|(simp;done)|omega|(simp;omega)) _|refine Below.alloc ?_ (by first|(simp;done)|omega|(simp;omega)) _))⟩
 | some x =>
  obtain⟨xb,xs,m⟩:=x
  obtain⟨fnm,fa,fc,fba,fbn,fbc,rfl⟩:∃ nm a c ba bn bc,oq=some (.agg #[.string nm,.int .i64 xb,.bool xs,.slice a m c,.slice ba bn bc]):=h3
  have hm:=hm _ rfl
  dsimp only at hm
  simp only[Option.getD_some,Option.isSome_some] at R1 ⊢
  have e:(((m:Nat):Int)==0)=decide (m=0):=by
   by_cases hz:m=0
   ·subst hz;rfl
   ·rw[decide_eq_false hz,beq_eq_false_iff_ne];omega
  rw[← e]
  clear e
  go_enter Tryz.func14,Tryz.ntmps14
  go_wp2_with fail
  go_ret
  exact⟨rfl,(by repeat (first|exact (Below.refl _ _)|refine Below.setCell ?_ (by first|exact Nat.le_refl _|(simp;done)|omega|(simp;omega)) _|refine Below.alloc ?_ (by first|(simp;done)|omega|(simp;omega)) _))⟩
open Go.RowKit Go.Maps Go.Great
theorem World.heap_alloc_size (w:World)(o:Obj):(w.alloc o).heap.size=w.heap.size+1:=Array.size_push ..
theorem newScope_any (B:Nat)(w:World)(vb fb:Nat)(wd:Int)(E:Nev)(res:Int × Bool)(h:Nm w vb fb E)(hv:vb<B)(hf:fb<B)(hB:B≤w.heap.size) :
  Calls Tryz.prog 29 #[.agg #[.map (some vb),.map (some fb),.int .i64 wd],.agg #[.int .i64 res.1,.bool res.2]] w fun e w'=>∃ sb lb,e=.returned (.pointer (some ⟨sb,0,none⟩))∧Sc B w' sb vb fb lb wd E ⟨fun _=>none,[],0⟩ res 0∧Below w.heap.size w w':=by
 obtain⟨rb,rs⟩:=res
 dsimp only
 have hmm:=@run_makeMap Tryz.prog
 go_enter Tryz.func29,Tryz.ntmps29
 go_wp2_with fail
 clear hmm
 go_ret
 have k1:=qaa w (.cells #[.map (some vb),.map (some fb),.int .i64 wd] 47)
 have s1:(w.alloc (.cells #[.map (some vb),.map (some fb),.int .i64 wd] 47)).heap.size=w.heap.size+1:=World.heap_alloc_size _ _
 generalize w.alloc (.cells #[.map (some vb),.map (some fb),.int .i64 wd] 47)=w1 at *
 have k2:=bT k1 (qaa w1 (.cells #[.int .i64 rb,.bool rs] 34))
 have s2:(w1.alloc (.cells #[.int .i64 rb,.bool rs] 34)).heap.size=w.heap.size+1+1:=by rw[World.heap_alloc_size,s1]
 generalize w1.alloc (.cells #[.int .i64 rb,.bool rs] 34)=w2 at *
 have M:=Mv.made w2
 have k3:=bT k2 (qaa w2 (.map #[] 0))
 have s3:(w2.alloc (.map #[] 0)).heap.size=w.heap.size+1+1+1:=by rw[World.heap_alloc_size,s2]
 rw[s2] at M
 generalize w2.alloc (.map #[] 0)=w3 at *
 have BN:=BoxC.new w3 #[.map (some vb),.map (some fb),.int .i64 wd,.map (some (w.heap.size+1+1)),.slice none 0 0,.int .i64 0,.int .i64 0,.int .i64 rb,.bool rs] 87 (by decide)
 have k4:=qaa w3 (.cells #[.map (some vb),.map (some fb),.int .i64 wd,.map (some (w.heap.size+1+1)),.slice none 0 0,.int .i64 0,.int .i64 0,.int .i64 rb,.bool rs] 87)
 rw[s3] at BN
 have M4:=M.step k4
 have K:=bT k3 k4
 refine⟨w.heap.size+1+1+1,w.heap.size+1+1,rfl,⟨⟨_,0,BN,World.ownsRow_nil _ _ _ _,M4,by simp⟩,h.step K,by omega,by omega,hv,hf,Nat.le_trans hB K.size⟩,K⟩
end Go.Proofs.YtjpnnmkefaodoaaGreat
