/-
  Writing: the writer in memory; the builder's functions at a writer.
-/
import Derived.Test.YtbakhengcgclmaaGreatDoorTrPz
import Derived.Lib.Builder
import Derived.Lib.AppendStr
import Derived.Lib.UnsafeStr
import Derived.Laws.Externs
import Derived.WalkKit
import Derived.Laws.IdiomStrings
import Derived.Deep.LoopGhost
import Derived.Shelf.RegionOpenPlain
import Derived.Test.YtbakhengcgclmaaGreatDoorTyNz
import Derived.Lib.ItoaNum
namespace Go.Proofs.YtbakhengcgclmaaGreatDoor
open Go.RowKit
set_option linter.unusedSimpArgs false
set_option linter.unusedVariables false

/-- All blocks but those of X are as they were. -/
structure Kq (X : Nat → Prop) (w w' : World) : Prop where
  os : w'.os = w.os
  tape : w'.tape = w.tape
  output : w'.output = w.output
  size : w.heap.size ≤ w'.heap.size
  block : ∀ k, k < w.heap.size → ¬ X k → w'.heap[k]? = w.heap[k]?
theorem Kq.refl (X : Nat → Prop) (w : World) : Kq X w w := ⟨rfl, rfl, rfl, Nat.le_refl _, fun _ _ _ => rfl⟩
theorem Kq.of {X : Nat → Prop} {w w' : World} (h : Below w.heap.size w w') : Kq X w w' := ⟨h.os, h.tape, h.output, h.size, fun k hk _ => h.block k hk⟩
theorem Kq.trans {X Y Z : Nat → Prop} {a b c : World} (h : Kq X a b) (k : Kq Y b c) (hX : ∀ n, X n → Z n) (hY : ∀ n, Y n → n < a.heap.size → Z n) : Kq Z a c :=
  ⟨k.os.trans h.os, k.tape.trans h.tape, k.output.trans h.output, Nat.le_trans h.size k.size, fun n hn hz => by rw [k.block n (Nat.lt_of_lt_of_le hn h.size) (fun y => hz (hY n y hn)), h.block n hn (fun x => hz (hX n x))]⟩
theorem Kq.below {X : Nat → Prop} {w w' : World} {B : Nat} (h : Kq X w w') (hB : B ≤ w.heap.size) (hX : ∀ n, X n → B ≤ n) : Below B w w' := ⟨h.os, h.tape, h.output, h.size, fun k hk => h.block k (by omega) (fun x => by have := hX k x; omega)⟩
theorem Kq.cell {X : Nat → Prop} {w w' : World} (h : Kq X w w') {b o : Nat} (hb : b < w.heap.size) (hx : ¬ X b) : w'.cell? ⟨b, o, none⟩ = w.cell? ⟨b, o, none⟩ := by
  unfold World.cell?; rw [h.block b hb hx]
theorem Kq.frozen {X : Nat → Prop} {w w' : World} (h : Kq X w w') {b o : Nat} (hb : b < w.heap.size) (hx : ¬ X b) : w'.frozen? ⟨b, o, none⟩ = w.frozen? ⟨b, o, none⟩ := by
  unfold World.frozen?; rw [h.block b hb hx]
theorem Box.kq {X : Nat → Prop} {w w' : World} {b : Nat} {cs : List Value} (h : Box w b cs) (k : Kq X w w') (hx : ¬ X b) : Box w' b cs :=
  ⟨Nat.lt_of_lt_of_le h.1 k.size, fun j u hu => by rw [k.cell h.1 hx]; exact h.2.1 j u hu, fun j => by rw [k.frozen h.1 hx]; exact h.2.2 j⟩
theorem Kq.setCell {X : Nat → Prop} (w : World) {c j : Nat} (v : Value) (hx : X c) : Kq X w (w.setCell ⟨c, j, none⟩ v) :=
  ⟨rfl, rfl, rfl, by simp, fun k _ hk => by
    have : c ≠ k := fun e => hk (e ▸ hx)
    simp [World.setCell, Array.getElem?_modify, this]⟩
theorem Kq.grown {X : Nat → Prop} {w w' : World} {row : Option Nat} (h : w.grownBy w' row) (hx : ∀ k, row = some k → X k) : Kq X w w' :=
  ⟨h.os, h.tape, h.output, h.size, fun k hk hn => h.block k hk (fun e => hn (hx k e.symm))⟩
theorem Kq.mono {X Y : Nat → Prop} {w w' : World} (h : Kq X w w') (hxy : ∀ k, X k → Y k) : Kq Y w w' := ⟨h.os, h.tape, h.output, h.size, fun k hk hn => h.block k hk (fun x => hn (hxy k x))⟩
theorem Tryz.infoBtw : (Tryz.prog.info? 5).map (fun i => (i.zero, i.size, i.bytes)) = some (some (.int .u8 0), 1, 1) := by kernel_rfl
theorem Tryz.infoBldw : (Tryz.prog.info? 36).map (·.size) = some 2 := by kernel_rfl
theorem Tryz.liesBldw : liesAt Tryz.prog Tryz.prog.depth 38 (4 / Tryz.prog.cellsOf 38) 0 36 1 = true := by kernel_rfl
theorem Tryz.cellsBtw : Tryz.prog.cellsOf 5 = 1 := by kernel_rfl
/-- A writer: where it lies, how many words its numbers have, what it has written, where that lies. -/
def Ww (w : World) (B b : Nat) (mv : Value) (n : Nat) (t : List UInt8) (g : Option Nat) : Prop := ∃ p v, B ≤ b ∧ w.heap[b]? = some (.cells #[p, v, mv, .int .i64 (n : Int)] 38 (0, 0)) ∧ (p = .pointer none ∨ p = .pointer (some ⟨b, 0, none⟩)) ∧ w.ownsRow B 5 1 v t.length (Lib.byteCells t) ∧ v.ownBlock = g ∧ g ≠ some b
theorem own_stepRw {w w' : World} {B e s n : Nat} {v : Value} {cs : List Value} (h : w.ownsRow B e s v n cs) (k : Below w.heap.size w w') : w'.ownsRow B e s v n cs := own_step h k
theorem Ww.lt {w : World} {B b n : Nat} {mv : Value} {t : List UInt8} {g : Option Nat} (h : Ww w B b mv n t g) : b < w.heap.size := by
  obtain ⟨p, v, _, h2, _⟩ := h
  exact (Array.getElem?_eq_some_iff.1 h2).1
theorem Ww.step {w w' : World} {B b n : Nat} {mv : Value} {t : List UInt8} {g : Option Nat} (h : Ww w B b mv n t g) (k : Below w.heap.size w w') : Ww w' B b mv n t g := by
  have hl := h.lt
  obtain ⟨p, v, h1, h2, h3, h4, h5⟩ := h
  exact ⟨p, v, h1, by rw [k.block b hl]; exact h2, h3, own_step h4 k, h5⟩
theorem Ww.glt {w : World} {B b n : Nat} {mv : Value} {t : List UInt8} {g : Option Nat} (h : Ww w B b mv n t g) : ∀ k, g = some k → k < w.heap.size := by
  obtain ⟨p, v, h1, h2, h3, h4, h5, h6⟩ := h
  intro k hk
  exact (h4.lt k (h5.trans hk)).2
theorem Ww.words {w : World} {B b n : Nat} {mv : Value} {t : List UInt8} {g : Option Nat} (h : Ww w B b mv n t g) : w.cell? ⟨b, 2, none⟩ = some mv ∧ w.cell? ⟨b, 3, none⟩ = some (.int .i64 (n : Int)) := by
  obtain ⟨p, v, _, h2, _⟩ := h
  exact ⟨by rw [Lib.cell_of_heap h2]; rfl, by rw [Lib.cell_of_heap h2]; rfl⟩
theorem heap_setCellw {w : World} {b j : Nat} {cs : Array Value} {T : TypeId} {fr : Nat × Nat} {x : Value} (h : w.heap[b]? = some (.cells cs T fr)) : (w.setCell ⟨b, j, none⟩ x).heap[b]? = some (.cells (cs.setIfInBounds j x) T fr) := by
  unfold World.setCell
  simp [Array.getElem?_modify, h]
theorem own_setRw {w : World} {B e s n b j : Nat} {v x : Value} {cs : List Value} (h : w.ownsRow B e s v n cs) (hne : v.ownBlock ≠ some b) : (w.setCell ⟨b, j, none⟩ x).ownsRow B e s v n cs := by
  refine ⟨h.1, ?_⟩
  rcases h.2 with hn | ⟨g, cap, cur, rfl, hb, hg, rest⟩
  · exact .inl hn
  · refine .inr ⟨g, cap, cur, rfl, hb, ?_, rest⟩
    have hgb : b ≠ g := fun e => hne (by simp [Value.ownBlock, e])
    unfold World.setCell
    simp [Array.getElem?_modify, hgb, hg]
set_option maxHeartbeats 1000000 in
set_option maxRecDepth 100000 in
theorem wcopyCheck_any (B b n : Nat) (mv : Value) (t : List UInt8) (g : Option Nat) (w : World) (h : Ww w B b mv n t g) : Calls Tryz.prog 45 #[.pointer (some ⟨b, 0, none⟩)] w fun e w' => e = .returned (.tuple #[]) ∧ Ww w' B b mv n t g ∧ Below B w w' ∧ Kq (fun k => k = b) w w' ∧ w'.heap.size = w.heap.size ∧ w'.cell? ⟨b, 0, none⟩ = some (.pointer (some ⟨b, 0, none⟩)) := by
  obtain ⟨j, hj, hjs⟩ := Option.map_eq_some_iff.1 Tryz.infoBldw
  obtain ⟨p, v, hB, hbk, hp, hown, hg, hne⟩ := h
  subst hg
  have h0 : w.cell? ⟨b, 0, none⟩ = some p := by rw [Lib.cell_of_heap hbk]; rfl
  have hf : w.frozen? ⟨b, 0, none⟩ = false := Lib.frozen_of_heap hbk 0
  have hsh : w.shape? b = some (38, 4) := by simp [World.shape?, hbk]
  have HO := hideI hown
  have HK := hideI hbk
  rcases hp with rfl | rfl
  · have hk := heap_setCellw (j := 0) (x := .pointer (some ⟨b, 0, none⟩)) hbk
    have hown2 : (w.setCell ⟨b, 0, none⟩ (.pointer (some ⟨b, 0, none⟩))).ownsRow B 5 1 v t.length (Lib.byteCells t) := own_setRw hown hne
    have W2 : Hid (Ww (w.setCell ⟨b, 0, none⟩ (.pointer (some ⟨b, 0, none⟩))) B b mv n t v.ownBlock) := ⟨_, v, hB, hk, .inr rfl, hown2, rfl, hne⟩
    have C2 : Hid ((w.setCell ⟨b, 0, none⟩ (.pointer (some ⟨b, 0, none⟩))).cell? ⟨b, 0, none⟩ = some (.pointer (some ⟨b, 0, none⟩))) := by show _ = _; rw [Lib.cell_of_heap hk]; rfl
    clear hown hbk hown2 hk
    go_enter Tryz.func45, Tryz.ntmps45
    go_wp2_with fail
    rw [Lib.run_to_unsafe w ⟨b, 0, none⟩ Tryz.underlying33 Tryz.underlying114 hj (by rw [hjs]; decide) hsh (Nat.zero_lt_succ 3)]
    simp only [Result.andThen]
    rw [Oper.upon_value]
    go_wp2_with fail
    rw [run_callFunc_extern Tryz.func63 (by kernel_rfl) (by kernel_rfl) (by kernel_rfl) (e := Extern.AbiNoEscape.same) (by kernel_rfl)]
    rw [Lib.run_noEscape]
    simp only [Result.andThen]
    rw [Oper.upon_value]
    go_wp2_with fail
    rw [Lib.run_from_unsafe w ⟨b, 0, none⟩ Tryz.underlying114 Tryz.underlying33 hj hsh Tryz.liesBldw]
    simp only [Result.andThen]
    rw [Oper.upon_value]
    go_wp2_with fail
    go_end0
    exact ⟨rfl, unhideI W2, (Below.refl B w).setCell (p := ⟨b, 0, none⟩) hB _, Kq.setCell _ _ rfl, by simp, unhideI C2⟩
  · clear hown hbk
    go_enter Tryz.func45, Tryz.ntmps45
    go_wp2_with fail
    rw [Lib.run_neq_ptr_same w _ Tryz.underlying33 hj]
    go_wp2_with fail
    go_end0
    exact ⟨rfl, ⟨_, v, hB, unhideI HK, .inr rfl, unhideI HO, rfl, hne⟩, Below.refl B _, Kq.refl _ _, rfl, h0⟩
theorem Ww.buf {w : World} {B b n : Nat} {mv : Value} {t : List UInt8} {g : Option Nat} (h : Ww w B b mv n t g) : ∃ v, w.cell? ⟨b, 1, none⟩ = some v ∧ w.frozen? ⟨b, 1, none⟩ = false ∧ w.ownsRow B 5 1 v t.length (Lib.byteCells t) ∧ v.ownBlock = g ∧ v.ownBlock ≠ some b ∧ B ≤ b ∧ ∃ p, w.heap[b]? = some (.cells #[p, v, mv, .int .i64 (n : Int)] 38 (0, 0)) ∧ (p = .pointer none ∨ p = .pointer (some ⟨b, 0, none⟩)) := by
  obtain ⟨p, v, h1, h2, h3, h4, h5, h6⟩ := h
  exact ⟨v, by rw [Lib.cell_of_heap h2]; rfl, Lib.frozen_of_heap h2 1, h4, h5, by rw [h5]; exact h6, h1, p, h2, h3⟩
set_option maxHeartbeats 2000000 in
set_option maxRecDepth 100000 in
theorem wwriteString_any (B b n : Nat) (mv : Value) (t : List UInt8) (g : Option Nat) (s : ByteArray) (w : World) (h : Ww w B b mv n t g) (hlen : t.length + s.size ≤ 1099511627776) (hBw : B ≤ w.heap.size) : Calls Tryz.prog 25 #[.pointer (some ⟨b, 0, none⟩), .string s] w fun e w' => (∃ v, e = .returned v) ∧ (∃ g', Ww w' B b mv n (t ++ s.data.toList) g') ∧ Below B w w' ∧ Kq (fun k => k = b ∨ g = some k) w w' := by
  obtain ⟨i0, hi, hz0, hz1, hz2⟩ := info_parts Tryz.infoBtw
  have CC := hideI (wcopyCheck_any B b n mv t g w h)
  go_enter Tryz.func25, Tryz.ntmps25
  go_wp2_with fail
  refine (unhideI CC).mono ?_
  rintro e w1 ⟨rfl, h1, k1, q1, s1, c0⟩
  have hBw1 : B ≤ w1.heap.size := by omega
  have HK1 := hideI k1
  have HQ1 := hideI q1
  have hlt := h1.lt
  obtain ⟨v, c1, f1, hown, hvg, hne, hB, p, hbk, hp⟩ := h1.buf
  subst hvg
  have HO := hideI hown
  have HKB := hideI hbk
  have hbl : (Lib.byteCells t).length = t.length := by simp [Lib.byteCells]
  clear CC k1 q1 h1 hown hbk h s1
  go_wp2_with (at_builtin; refine Lib.wpList_append_own_string _ rfl _ _ 34 9 rfl B 5 i0 Tryz.underlying34 Tryz.underlying9 hi hz0 hz1 hz2 _ _ _ rfl (unhideI HO) s rfl (by unfold maxLen; omega) (by omega) (by omega) ?_; intro v' w2 hown' hgrow _; have O2 := hideI hown'; have G2 := hideI hgrow; have hb2 : w2.heap[b]? = some (.cells #[p, v, mv, .int .i64 (n : Int)] 38 (0, 0)) := (by rw [hgrow.block b hlt (fun e => hne e.symm)]; exact unhideI HKB); have d1 : w2.cell? ⟨b, 1, none⟩ = some v := (by rw [Lib.cell_of_heap hb2]; rfl); have f1 : w2.frozen? ⟨b, 1, none⟩ = false := Lib.frozen_of_heap hb2 1; have HB2 := hideI hb2; obtain ⟨ao, n', cap, rfl⟩ : ∃ ao n' cap, v' = .slice ao n' cap := (by rcases hown'.2 with ⟨hv, _⟩ | ⟨g, cap, cur, hv, _⟩; exact ⟨_, _, _, hv⟩; exact ⟨_, _, _, hv⟩); clear hown' hgrow hb2)
  go_ret2
  have hk := heap_setCellw (j := 1) (x := Value.slice ao n' cap) (unhideI HB2)
  have hx := unhideI O2
  have hnb : (Value.slice ao n' cap).ownBlock ≠ some b := fun e => by
    rcases hx.2 with ⟨hv, _⟩ | ⟨g, cap', cur, hv, _, hg, _⟩
    · rw [hv] at e; simp [Value.ownBlock] at e
    · rw [hv] at e; simp [Value.ownBlock] at e; subst e
      rw [unhideI HB2] at hg
      injection hg with hg
      injection hg with _ hg _
      exact absurd hg (by decide)
  refine ⟨⟨_, rfl⟩, ⟨_, p, _, hB, hk, hp, ?_, rfl, hnb⟩, ?_, ?_⟩
  · have := own_setRw (j := 1) (x := Value.slice ao n' cap) hx hnb
    have e1 : Lib.byteCells (t ++ s.data.toList) = Lib.byteCells t ++ Lib.strCells s := by simp [Lib.byteCells, Lib.strCells]
    have e2 : (t ++ s.data.toList).length = t.length + s.size := by simp
    rw [e1, e2]
    exact this
  · exact ((unhideI HK1).grown (unhideI G2) (by omega) (fun k hk => ((unhideI HO).lt k hk).1)).setCell (p := ⟨b, 1, none⟩) hB _
  · exact ((unhideI HQ1).trans (Kq.grown (X := fun k => v.ownBlock = some k) (unhideI G2) (fun _ h => h)) (Z := fun k => k = b ∨ v.ownBlock = some k) (fun _ h => .inl h) (fun _ h _ => .inr h)).trans (Kq.setCell (X := fun k => k = b) _ _ rfl) (fun _ h => h) (fun _ h _ => .inl h)
theorem sbt_c1 (u : World) (x : Value) (T : TypeId) : ∀ (j : Nat) y, [x][j]? = some y → (u.alloc (.cells #[x] T)).cell? ((⟨u.heap.size, 0, none⟩ : Addr).add j) = some y := by
  intro j y hj
  match j, hj with
  | 0, hj => simp at hj; subst hj; simp [Addr.add]
theorem sbt_c2 (x : Int) : ∀ u ∈ [Value.int .u8 x], u.oneCell' = true := by intro u hu; simp at hu; subst hu; rfl
set_option maxHeartbeats 2000000 in
set_option maxRecDepth 100000 in
theorem wwriteByte_any (B b n : Nat) (mv : Value) (t : List UInt8) (g : Option Nat) (c : UInt8) (w : World) (h : Ww w B b mv n t g) (hlen : t.length + 1 ≤ 1099511627776) (hBw : B ≤ w.heap.size) : Calls Tryz.prog 28 #[.pointer (some ⟨b, 0, none⟩), .int .u8 ((c.toNat : Nat) : Int)] w fun e w' => (∃ v, e = .returned v) ∧ (∃ g', Ww w' B b mv n (t ++ [c]) g') ∧ Below B w w' ∧ Kq (fun k => k = b ∨ g = some k) w w' := by
  obtain ⟨i0, hi, hz0, hz1, hz2⟩ := info_parts Tryz.infoBtw
  have CC := hideI (wcopyCheck_any B b n mv t g w h)
  go_enter Tryz.func28, Tryz.ntmps28
  go_wp2_with fail
  refine (unhideI CC).mono ?_
  rintro e w1 ⟨rfl, h1, k1, q1, s1, c0⟩
  have hBw1 : B ≤ w1.heap.size := by omega
  clear s1
  have HK1 := hideI k1
  have HQ1 := hideI q1
  have hlt := h1.lt
  obtain ⟨v, c1, f1, hown, hvg, hne, hB, p, hbk, hp⟩ := h1.buf
  subst hvg
  have HO := hideI hown
  have HKB := hideI hbk
  have hbl : (Lib.byteCells t).length = t.length := by simp [Lib.byteCells]
  clear CC k1 q1 h1 hown hbk h
  go_wp2_with (at_builtin; refine wpList_append_own _ rfl _ _ 34 rfl B 5 i0 (.int .u8 0) 1 1 Tryz.underlying34 hi hz0 hz1 hz2 rfl (by decide) _ _ _ rfl ((unhideI HO).alloc _) ⟨w1.heap.size, 0, none⟩ 1 1 [.int .u8 ((c.toNat : Nat) : Int)] rfl rfl (sbt_c1 _ _ _) (sbt_c2 _) (by unfold maxLen; omega) (by omega) (by simp; omega) ?_; intro v' w2 hown' hgrow _; have O2 := hideI hown'; have G2 := hideI hgrow; have hb2 : w2.heap[b]? = some (.cells #[p, v, mv, .int .i64 (n : Int)] 38 (0, 0)) := (by rw [hgrow.block b (by simp; omega) (fun e => hne e.symm), Lib.alloc_old w1 _ b hlt]; exact unhideI HKB); have d1 : w2.cell? ⟨b, 1, none⟩ = some v := (by rw [Lib.cell_of_heap hb2]; rfl); have f1 : w2.frozen? ⟨b, 1, none⟩ = false := Lib.frozen_of_heap hb2 1; have HB2 := hideI hb2; obtain ⟨ao, n', cap, rfl⟩ : ∃ ao n' cap, v' = .slice ao n' cap := (by rcases hown'.2 with ⟨hv, _⟩ | ⟨g, cap, cur, hv, _⟩; exact ⟨_, _, _, hv⟩; exact ⟨_, _, _, hv⟩); clear hown' hgrow hb2)
  go_ret
  have hk := heap_setCellw (j := 1) (x := Value.slice ao n' cap) (unhideI HB2)
  have hx := unhideI O2
  have hnb : (Value.slice ao n' cap).ownBlock ≠ some b := fun e => by
    rcases hx.2 with ⟨hv, _⟩ | ⟨g, cap', cur, hv, _, hg, _⟩
    · rw [hv] at e; simp [Value.ownBlock] at e
    · rw [hv] at e; simp [Value.ownBlock] at e; subst e
      rw [unhideI HB2] at hg
      injection hg with hg
      injection hg with _ hg _
      exact absurd hg (by decide)
  refine ⟨⟨_, rfl⟩, ⟨_, p, _, hB, hk, hp, ?_, rfl, hnb⟩, ?_, ?_⟩
  · have := own_setRw (j := 1) (x := Value.slice ao n' cap) hx hnb
    have e1 : Lib.byteCells (t ++ [c]) = Lib.byteCells t ++ [.int .u8 ((c.toNat : Nat) : Int)] := by simp [Lib.byteCells]
    have e2 : (t ++ [c]).length = t.length + 1 := by simp
    rw [e1, e2]
    exact this
  · exact (((unhideI HK1).alloc (by omega) _).grown (unhideI G2) (by simp; omega) (fun k hk => ((unhideI HO).lt k hk).1)).setCell (p := ⟨b, 1, none⟩) hB _
  · exact ((((unhideI HQ1).trans (Kq.of (X := fun _ => False) (below_a _ _)) (Z := fun k => k = b) (fun _ h => h) (fun _ h _ => h.elim)).trans (Kq.grown (X := fun k => v.ownBlock = some k) (unhideI G2) (fun _ h => h)) (Z := fun k => k = b ∨ v.ownBlock = some k) (fun _ h => .inl h) (fun _ h _ => .inr h)).trans (Kq.setCell (X := fun k => k = b) _ _ rfl) (fun _ h => h) (fun _ h _ => .inl h))
set_option maxHeartbeats 2000000 in
set_option maxRecDepth 100000 in
theorem wstring_any (B b n : Nat) (mv : Value) (t : List UInt8) (g : Option Nat) (w : World) (h : Ww w B b mv n t g) (ht : t ≠ []) (hl : t.length ≤ 1099511627776) : Calls Tryz.prog 12 #[.pointer (some ⟨b, 0, none⟩)] w fun e w' => e = .returned (.string ⟨t.toArray⟩) ∧ Below B w w' := by
  obtain ⟨v, _, _, hown, _, hne, hB, p, hbk, hp⟩ := h.buf
  have hl0 : t.length ≠ 0 := by simpa using ht
  obtain ⟨g, cap, cur, rfl, hbg, hg, hnc, hcm, hcs, htake⟩ : ∃ g cap cur, v = .slice (some ⟨g, 0, none⟩) t.length cap ∧ B ≤ g ∧ w.heap[g]? = some (.cells cur 5 (0, 0)) ∧ t.length ≤ cap ∧ cap ≤ maxLen ∧ cur.size = cap * 1 ∧ cur.toList.take (t.length * 1) = Lib.byteCells t := by
    rcases hown.2 with ⟨_, hz⟩ | ⟨g, cap, cur, hv, r⟩
    · exact absurd hz hl0
    · exact ⟨g, cap, cur, hv, r⟩
  have c1 : w.drew.cell? ⟨b, 1, none⟩ = some (.slice (some ⟨g, 0, none⟩) t.length cap) := by
    have : w.drew.heap[b]? = some (.cells #[p, .slice (some ⟨g, 0, none⟩) t.length cap, mv, .int .i64 (n : Int)] 38 (0, 0)) := hbk
    rw [Lib.cell_of_heap this]; rfl
  have hSD : (Builtin.unsafeSliceData_ #[34] 84 #[.slice (some ⟨g, 0, none⟩) t.length cap]).run Tryz.prog w.drew = .ok (.pointer (some ⟨g, 0, none⟩)) w.drew :=
    Lib.run_unsafeSliceData_row _ _ _ _ _ _ (by omega)
  have hUS : (Builtin.unsafeString_ #[84, 3] 9 #[.pointer (some ⟨g, 0, none⟩), .int .i64 t.length]).run Tryz.prog w.drew = .ok (.string ⟨t.toArray⟩) (w.drew.freeze ⟨g, 0, none⟩ t.length) := by
    refine Lib.run_unsafeString_row w.drew 84 3 9 5 Tryz.underlying84 Tryz.cellsBtw g cur.size (by have hg' : w.drew.heap[g]? = some (.cells cur 5 (0, 0)) := hg; simp [World.shape?, hg']) t ht (by omega) (by unfold maxLen at hcm; omega) ?_
    intro j x hx
    exact hown.cells (g := g) rfl j (.int .u8 x.toNat) (by simp [Lib.byteCells, hx])
  clear hown hbk hg htake
  have mixed : Tryz.prog.follows Departure.mixedOrders = true := by kernel_rfl
  go_enter Tryz.func12, Tryz.ntmps12
  go_wp2_with fail
  go_region_o
  all_goals (go_wp2_with fail; go_ret; exact ⟨rfl, Lib.below_freeze (Below.drew (Below.refl B w)) (p := ⟨g, 0, none⟩) hbg _⟩)
end Go.Proofs.YtbakhengcgclmaaGreatDoor

/-
  Writing: what a call of the writer leaves as it was; the builder's functions in these words.
-/
namespace Go.Proofs.YtbakhengcgclmaaGreatDoor
open Go.RowKit
set_option linter.unusedSimpArgs false
set_option linter.unusedVariables false

/-- All blocks but b and rows of bytes are as they were. -/
structure Wf (b : Nat) (w w' : World) : Prop where
  os : w'.os = w.os
  tape : w'.tape = w.tape
  output : w'.output = w.output
  size : w.heap.size ≤ w'.heap.size
  block : ∀ k o, w.heap[k]? = some o → k ≠ b → (∀ cs fr, o ≠ .cells cs 5 fr) → w'.heap[k]? = some o
theorem Wf.refl (b : Nat) (w : World) : Wf b w w := ⟨rfl, rfl, rfl, Nat.le_refl _, fun _ _ h _ _ => h⟩
theorem Wf.trans {b : Nat} {u v w : World} (h : Wf b u v) (k : Wf b v w) : Wf b u w :=
  ⟨k.os.trans h.os, k.tape.trans h.tape, k.output.trans h.output, Nat.le_trans h.size k.size, fun n o hn hb ht => k.block n o (h.block n o hn hb ht) hb ht⟩
theorem Wf.of {b : Nat} {w w' : World} (h : Below w.heap.size w w') : Wf b w w' :=
  ⟨h.os, h.tape, h.output, h.size, fun k o hk _ _ => by rw [h.block k (Array.getElem?_eq_some_iff.1 hk).1]; exact hk⟩
theorem Wf.setCell {b : Nat} (w : World) {j : Nat} (v : Value) : Wf b w (w.setCell ⟨b, j, none⟩ v) :=
  ⟨rfl, rfl, rfl, by simp, fun k o hk hb _ => by simp [World.setCell, Array.getElem?_modify, Ne.symm hb, hk]⟩
theorem Wf.drew {b : Nat} {u v : World} (h : Wf b u v) : Wf b u v.drew := ⟨h.os, h.tape, h.output, h.size, h.block⟩
/-- What a call of the writer leaves: all below B, and all blocks that are not its own. -/
structure Wd (B b : Nat) (w w' : World) : Prop where
  below : Below B w w'
  wf : Wf b w w'
theorem Wd.refl (B b : Nat) (w : World) : Wd B b w w := ⟨Below.refl _ _, Wf.refl _ _⟩
theorem Wd.trans {B b : Nat} {u v w : World} (h : Wd B b u v) (k : Wd B b v w) : Wd B b u w := ⟨h.below.trans k.below, h.wf.trans k.wf⟩
theorem Wd.of {B b : Nat} {w w' : World} (h : Below w.heap.size w w') (hB : B ≤ w.heap.size) : Wd B b w w' := ⟨h.mono hB, Wf.of h⟩
theorem Wd.drew {B b : Nat} {u v : World} (h : Wd B b u v) : Wd B b u v.drew := ⟨h.below.drew, h.wf.drew⟩
/-- A writer that has written t: its map, how deep it is. -/
def Wz (w : World) (B b : Nat) (mv : Value) (n : Nat) (t : List UInt8) : Prop := ∃ g, Ww w B b mv n t g
theorem Wz.step {w w' : World} {B b n : Nat} {mv : Value} {t : List UInt8} (h : Wz w B b mv n t) (k : Below w.heap.size w w') : Wz w' B b mv n t := by
  obtain ⟨g, h⟩ := h
  exact ⟨g, h.step k⟩
theorem Wz.lt {w : World} {B b n : Nat} {mv : Value} {t : List UInt8} (h : Wz w B b mv n t) : b < w.heap.size := by
  obtain ⟨g, h⟩ := h
  exact h.lt
theorem Wz.ge {w : World} {B b n : Nat} {mv : Value} {t : List UInt8} (h : Wz w B b mv n t) : B ≤ b := by
  obtain ⟨g, p, v, h1, _⟩ := h
  exact h1
theorem Wz.cells {w : World} {B b n : Nat} {mv : Value} {t : List UInt8} (h : Wz w B b mv n t) : w.cell? ⟨b, 2, none⟩ = some mv ∧ w.cell? ⟨b, 3, none⟩ = some (.int .i64 (n : Int)) := by
  obtain ⟨g, h⟩ := h
  exact h.words
theorem Wz.thaw {w : World} {B b n : Nat} {mv : Value} {t : List UInt8} (h : Wz w B b mv n t) (j : Nat) : w.frozen? ⟨b, j, none⟩ = false := by
  obtain ⟨g, p, v, _, h2, _⟩ := h
  exact Lib.frozen_of_heap h2 j
theorem wf_of_kq {w w' : World} {B b n : Nat} {mv : Value} {t : List UInt8} {g : Option Nat} (h : Ww w B b mv n t g) (k : Kq (fun k => k = b ∨ g = some k) w w') : Wf b w w' := by
  refine ⟨k.os, k.tape, k.output, k.size, fun i o hi hb ht => ?_⟩
  rw [k.block i (Array.getElem?_eq_some_iff.1 hi).1 ?_]
  · exact hi
  · rintro (rfl | hg)
    · exact hb rfl
    · obtain ⟨p, v, _, _, _, h4, h5, _⟩ := h
      rcases h4.2 with ⟨hv, _⟩ | ⟨c, cap, cur, hv, _, hh, _⟩
      · rw [hv, hg] at h5; simp [Value.ownBlock] at h5
      · rw [hv, hg] at h5
        simp [Value.ownBlock] at h5
        subst h5
        rw [hi] at hh
        injection hh with hh
        exact ht _ _ hh
theorem zstr_any (B b n : Nat) (mv : Value) (t : List UInt8) (s : ByteArray) (w : World) (h : Wz w B b mv n t) (hlen : t.length + s.size ≤ 1099511627776) (hBw : B ≤ w.heap.size) : Calls Tryz.prog 25 #[.pointer (some ⟨b, 0, none⟩), .string s] w fun e w' => (∃ v, e = .returned v) ∧ Wz w' B b mv n (t ++ s.data.toList) ∧ Wd B b w w' := by
  obtain ⟨g, h⟩ := h
  exact (wwriteString_any B b n mv t g s w h hlen hBw).mono fun e w' ⟨h1, h2, h3, h4⟩ => ⟨h1, h2, h3, wf_of_kq h h4⟩
theorem zbyte_any (B b n : Nat) (mv : Value) (t : List UInt8) (c : UInt8) (w : World) (h : Wz w B b mv n t) (hlen : t.length + 1 ≤ 1099511627776) (hBw : B ≤ w.heap.size) : Calls Tryz.prog 28 #[.pointer (some ⟨b, 0, none⟩), .int .u8 ((c.toNat : Nat) : Int)] w fun e w' => (∃ v, e = .returned v) ∧ Wz w' B b mv n (t ++ [c]) ∧ Wd B b w w' := by
  obtain ⟨g, h⟩ := h
  exact (wwriteByte_any B b n mv t g c w h hlen hBw).mono fun e w' ⟨h1, h2, h3, h4⟩ => ⟨h1, h2, h3, wf_of_kq h h4⟩
/-- A block of its own with what it holds, no row of bytes. -/
def BoxT (w : World) (b : Nat) (cs : Array Value) (T : TypeId) : Prop := w.heap[b]? = some (.cells cs T (0, 0)) ∧ T ≠ 5
theorem BoxT.new (w : World) (cs : Array Value) (T : TypeId) (hT : T ≠ 5) : BoxT (w.alloc (.cells cs T)) w.heap.size cs T := ⟨by show (w.heap.push _)[w.heap.size]? = _; simp, hT⟩
theorem BoxT.lt {w : World} {b : Nat} {cs : Array Value} {T : TypeId} (h : BoxT w b cs T) : b < w.heap.size := (Array.getElem?_eq_some_iff.1 h.1).1
theorem BoxT.wf {w w' : World} {b c : Nat} {cs : Array Value} {T : TypeId} (h : BoxT w b cs T) (k : Wf c w w') (hc : b ≠ c) : BoxT w' b cs T :=
  ⟨k.block b _ h.1 hc (fun cs' fr e => by injection e with _ e _; exact h.2 e), h.2⟩
theorem BoxT.step {w w' : World} {b : Nat} {cs : Array Value} {T : TypeId} (h : BoxT w b cs T) (k : Below w.heap.size w w') : BoxT w' b cs T := ⟨(k.block b h.lt).trans h.1, h.2⟩
theorem BoxT.box {w : World} {b : Nat} {cs : Array Value} {T : TypeId} (h : BoxT w b cs T) : Box w b cs.toList := by
  refine ⟨h.lt, fun j u hu => ?_, fun j => Lib.frozen_of_heap h.1 j⟩
  unfold World.cell?
  simp only [h.1]
  simpa using hu
end Go.Proofs.YtbakhengcgclmaaGreatDoor

/-
  How a program is written, as plain functions: bytes.
-/
namespace Go.Proofs.YtbakhengcgclmaaGreatDoor
open Go.RowKit
set_option linter.unusedSimpArgs false
set_option linter.unusedVariables false

/-- A type's name. -/
def tyN (b : Int) (s : Bool) : ByteArray := if isWB b = true then nmT b s else if b = 0 then ⟨#[118, 111, 105, 100]⟩ else ⟨#[]⟩
/-- Signs and weights of operators, from the kind CMul on. -/
def opT : List (List UInt8 × Nat) := [([42], 10), ([47], 10), ([37], 10), ([43], 9), ([45], 9), ([60, 60], 8), ([62, 62], 8), ([60], 7), ([60, 61], 7), ([62], 7), ([62, 61], 7), ([61, 61], 6), ([33, 61], 6), ([38], 5), ([94], 4), ([124], 3), ([38, 38], 2), ([124, 124], 1)]
def opS (k : Int) : List UInt8 := ((opT[(k - 9).toNat]?).map (·.1)).getD []
def opW (k : Int) : Nat := ((opT[(k - 9).toNat]?).map (·.2)).getD 0
/-- Where kids stand: how weak an operator may be there. -/
def kidW (k : Int) (i : Nat) : Nat := if 9 ≤ k then (if i = 0 then opW k else opW k + 1) else if k = 3 ∨ k = 4 then 1 else 11
/-- With commas between. -/
def joinC : List (List UInt8) → List UInt8
  | [] => []
  | [x] => x
  | x :: y :: l => x ++ [44, 32] ++ joinC (y :: l)
/-- What stands ahead of the one kid. -/
def headT (k b : Int) (s : Bool) : List UInt8 := if k = 6 then [45] else if k = 7 then [126] else if k = 8 then [33] else [40] ++ (tyN b s).data.toList ++ [41]
/-- An expression, its kids being written. -/
def putE (k n b : Int) (s : Bool) (nm : ByteArray) (least : Nat) (l : List (List UInt8)) : List UInt8 :=
  if 9 ≤ k then
    (if opW k < least then [40] ++ (l.getD 0 [] ++ ([32] ++ opS k ++ [32]) ++ l.getD 1 []) ++ [41] else l.getD 0 [] ++ ([32] ++ opS k ++ [32]) ++ l.getD 1 [])
  else if k = 1 then Lib.decDigits n.toNat ++ (if s = true then [] else [117])
  else if k = 2 then nm.data.toList
  else if k = 3 then nm.data.toList ++ ([91] ++ l.getD 0 [] ++ [93])
  else if k = 4 then nm.data.toList ++ [40] ++ joinC l ++ [41]
  else headT k b s ++ l.getD 0 []
mutual
def shE : Ex → Nat → List UInt8
  | .mk k n b s nm kids, least => putE k n b s nm least (shL (kidW k) kids 0)
def shL (f : Nat → Nat) : List Ex → Nat → List (List UInt8)
  | [], _ => []
  | x :: xs, i => shE x (f i) :: shL f xs (i + 1)
end
theorem shE_eq (x : Ex) (least : Nat) : shE x least = putE x.k x.n x.b x.s x.nm least (shL (kidW x.k) x.kids 0) := by
  obtain ⟨k, n, b, s, nm, l⟩ := x
  rw [shE]; rfl
theorem shL_cons (f : Nat → Nat) (x : Ex) (xs : List Ex) (i : Nat) : shL f (x :: xs) i = shE x (f i) :: shL f xs (i + 1) := by rw [shL]
end Go.Proofs.YtbakhengcgclmaaGreatDoor
