/-
  What AddWords and SubWords do with two lists of one to four words: word by word, with what is carried.
-/
import Derived.Test.YtmjnihepgglbdaaChain
import Derived.Deep.LoopGhost
import Derived.Deep.RegionWith
namespace Go.Proofs.Ytmjnihepgglbdaa
open Go.RowKit
set_option linter.unusedSimpArgs false
set_option linter.unusedVariables false

/-- What lies in the memory of the chain, ahead of a round: pr the result's flags, pd the step, pc what is carried, po the words, pl the last flags. -/
structure Lp (w : World) (k L pr pd pc po pl : Nat) (c : Bool) (out : Nat → Int) (f : Bool × Bool × Bool × Bool) (u : World) : Prop where
  bel : Below w.heap.size w u
  sz : pl < u.heap.size
  d : u.cell? ⟨pd, 0, none⟩ = some (.func (.func k) #[] #[])
  c : u.cell? ⟨pc, 0, none⟩ = some (.bool c)
  cf : u.frozen? ⟨pc, 0, none⟩ = false
  o : ∀ j, j < L → u.cell? ⟨po, j, none⟩ = some (.int .i64 (out j))
  of : ∀ j, j < L → u.frozen? ⟨po, j, none⟩ = false
  l0 : u.cell? ⟨pl, 0, none⟩ = some (.bool f.1)
  l1 : u.cell? ⟨pl, 1, none⟩ = some (.bool f.2.1)
  l2 : u.cell? ⟨pl, 2, none⟩ = some (.bool f.2.2.1)
  l3 : u.cell? ⟨pl, 3, none⟩ = some (.bool f.2.2.2)
  lf0 : u.frozen? ⟨pl, 0, none⟩ = false
  lf1 : u.frozen? ⟨pl, 1, none⟩ = false
  lf2 : u.frozen? ⟨pl, 2, none⟩ = false
  lf3 : u.frozen? ⟨pl, 3, none⟩ = false
  r : ∀ j, j < 4 → ∃ v, u.cell? ⟨pr, j, none⟩ = some v
  rf : ∀ j, j < 4 → u.frozen? ⟨pr, j, none⟩ = false

theorem Lp.drew {w u : World} {k L pr pd pc po pl : Nat} {c : Bool} {out : Nat → Int} {f : Bool × Bool × Bool × Bool} (M : Lp w k L pr pd pc po pl c out f u) : Lp w k L pr pd pc po pl c out f u.drew :=
  ⟨M.bel.drew, M.sz, M.d, M.c, M.cf, M.o, M.of, M.l0, M.l1, M.l2, M.l3, M.lf0, M.lf1, M.lf2, M.lf3, M.r, M.rf⟩

/-- The blocks' order. -/
def Ord (B pr pd pc po pl : Nat) : Prop := B ≤ pr ∧ pr < pd ∧ pd < pc ∧ pc < po ∧ po < pl

/-- Behind the closure's call all but what is carried is as it was. -/
theorem Lp.call {w u u' : World} {k L pr pd pc po pl : Nat} {c C : Bool} {out : Nat → Int} {f : Bool × Bool × Bool × Bool} (M : Lp w k L pr pd pc po pl c out f u) (h : Ord w.heap.size pr pd pc po pl)
    (on : Only pc u u') (hc : u'.cell? ⟨pc, 0, none⟩ = some (.bool C)) (hf : u'.frozen? ⟨pc, 0, none⟩ = false) : Lp w k L pr pd pc po pl C out f u' := by
  obtain ⟨h0, h1, h2, h3, h4⟩ := h
  have hs := M.sz
  have hz := on.size
  have bel : Below w.heap.size w u' := M.bel.trans ⟨on.os, on.tape, on.output, on.size, fun j hj => on.block j (by omega) (by omega)⟩
  have e : ∀ b i, b ≤ pl → b ≠ pc → u'.cell? ⟨b, i, none⟩ = u.cell? ⟨b, i, none⟩ := fun b i hb hn => on.cell (p := ⟨b, i, none⟩) (by show b < _; omega) hn
  have g : ∀ b i, b ≤ pl → b ≠ pc → u'.frozen? ⟨b, i, none⟩ = u.frozen? ⟨b, i, none⟩ := fun b i hb hn => on.frozen (p := ⟨b, i, none⟩) (by show b < _; omega) hn
  refine ⟨bel, by omega, ?_, hc, hf, ?_, ?_, ?_, ?_, ?_, ?_, ?_, ?_, ?_, ?_, ?_, ?_⟩
  · rw [e _ _ (by omega) (by omega)]; exact M.d
  · intro j hj; rw [e _ _ (by omega) (by omega)]; exact M.o j hj
  · intro j hj; rw [g _ _ (by omega) (by omega)]; exact M.of j hj
  · rw [e _ _ (by omega) (by omega)]; exact M.l0
  · rw [e _ _ (by omega) (by omega)]; exact M.l1
  · rw [e _ _ (by omega) (by omega)]; exact M.l2
  · rw [e _ _ (by omega) (by omega)]; exact M.l3
  · rw [g _ _ (by omega) (by omega)]; exact M.lf0
  · rw [g _ _ (by omega) (by omega)]; exact M.lf1
  · rw [g _ _ (by omega) (by omega)]; exact M.lf2
  · rw [g _ _ (by omega) (by omega)]; exact M.lf3
  · intro j hj; rw [e _ _ (by omega) (by omega)]; exact M.r j hj
  · intro j hj; rw [g _ _ (by omega) (by omega)]; exact M.rf j hj

/-- A word is laid, and the last flags. -/
theorem Lp.put {w u : World} {k L pr pd pc po pl : Nat} {c C Z N V : Bool} {out : Nat → Int} {f : Bool × Bool × Bool × Bool} (M : Lp w k L pr pd pc po pl c out f u) (h : Ord w.heap.size pr pd pc po pl) {i : Nat} (hi : i < L) (x : Int) :
    Lp w k L pr pd pc po pl c (fun j => if j = i then x else out j) (C, Z, N, V) (((((u.setCell ⟨po, i, none⟩ (.int .i64 x)).setCell ⟨pl, 0, none⟩ (.bool C)).setCell ⟨pl, 1, none⟩ (.bool Z)).setCell ⟨pl, 2, none⟩ (.bool N)).setCell ⟨pl, 3, none⟩ (.bool V)) := by
  obtain ⟨h0, h1, h2, h3, h4⟩ := h
  have e : ∀ b j, b ≠ pl → b ≠ po → (((((u.setCell ⟨po, i, none⟩ (.int .i64 x)).setCell ⟨pl, 0, none⟩ (.bool C)).setCell ⟨pl, 1, none⟩ (.bool Z)).setCell ⟨pl, 2, none⟩ (.bool N)).setCell ⟨pl, 3, none⟩ (.bool V)).cell? ⟨b, j, none⟩ = u.cell? ⟨b, j, none⟩ := fun b j hb hn => by
    rw [oth (ad_ne (.inl (Ne.symm hb))), oth (ad_ne (.inl (Ne.symm hb))), oth (ad_ne (.inl (Ne.symm hb))), oth (ad_ne (.inl (Ne.symm hb))), oth (ad_ne (.inl (Ne.symm hn)))]
  have s : ∀ {p : Addr} {t : World} {v : Value}, (t.setCell p v).heap.size = t.heap.size := by intro p t v; simp [World.setCell]
  refine ⟨((((M.bel.setCell (p := ⟨po, i, none⟩) (by show _ ≤ po; omega) _).setCell (p := ⟨pl, 0, none⟩) (by show _ ≤ pl; omega) _).setCell (p := ⟨pl, 1, none⟩) (by show _ ≤ pl; omega) _).setCell (p := ⟨pl, 2, none⟩) (by show _ ≤ pl; omega) _).setCell (p := ⟨pl, 3, none⟩) (by show _ ≤ pl; omega) _, ?_, ?_, ?_, ?_, ?_, ?_, ?_, ?_, ?_, ?_, ?_, ?_, ?_, ?_, ?_, ?_⟩
  · rw [s, s, s, s, s]; exact M.sz
  · rw [e _ _ (by omega) (by omega)]; exact M.d
  · rw [e _ _ (by omega) (by omega)]; exact M.c
  · simp only [World.frozen?_setCell]; exact M.cf
  · intro j hj
    rw [oth (ad_ne (.inl (by omega))), oth (ad_ne (.inl (by omega))), oth (ad_ne (.inl (by omega))), oth (ad_ne (.inl (by omega)))]
    by_cases hji : j = i
    · subst hji; rw [if_pos rfl]; exact sam (M.o j hj)
    · rw [if_neg hji, oth (ad_ne (.inr (Ne.symm hji)))]; exact M.o j hj
  · intro j hj; simp only [World.frozen?_setCell]; exact M.of j hj
  · rw [oth (ad_ne (.inr (by decide))), oth (ad_ne (.inr (by decide))), oth (ad_ne (.inr (by decide)))]
    exact sam ((oth (ad_ne (.inl (by omega)))).trans M.l0)
  · rw [oth (ad_ne (.inr (by decide))), oth (ad_ne (.inr (by decide)))]
    exact sam ((oth (ad_ne (.inr (by decide)))).trans ((oth (ad_ne (.inl (by omega)))).trans M.l1))
  · rw [oth (ad_ne (.inr (by decide)))]
    exact sam ((oth (ad_ne (.inr (by decide)))).trans ((oth (ad_ne (.inr (by decide)))).trans ((oth (ad_ne (.inl (by omega)))).trans M.l2)))
  · exact sam ((oth (ad_ne (.inr (by decide)))).trans ((oth (ad_ne (.inr (by decide)))).trans ((oth (ad_ne (.inr (by decide)))).trans ((oth (ad_ne (.inl (by omega)))).trans M.l3))))
  · simp only [World.frozen?_setCell]; exact M.lf0
  · simp only [World.frozen?_setCell]; exact M.lf1
  · simp only [World.frozen?_setCell]; exact M.lf2
  · simp only [World.frozen?_setCell]; exact M.lf3
  · intro j hj; rw [e _ _ (by omega) (by omega)]; exact M.r j hj
  · intro j hj; simp only [World.frozen?_setCell]; exact M.rf j hj

/-- The start. -/
theorem lp_start (w : World) (k L : Nat) (cells : Array Value) (t t' tb tf : TypeId) (hc : ∀ j, j < L → cells[j]? = some (.int .i64 0)) :
    Lp w k L w.heap.size (w.heap.size + 1) (w.heap.size + 1 + 1) (w.heap.size + 1 + 1 + 1) (w.heap.size + 1 + 1 + 1 + 1) false (fun _ => 0) (false, false, false, false)
      (((((w.alloc (.cells #[.bool false, .bool false, .bool false, .bool false] t)).alloc (.cells #[.func (.func k) #[] #[]] tf)).alloc (.cells #[.bool false] tb)).alloc (.cells cells t')).alloc (.cells #[.bool false, .bool false, .bool false, .bool false] t)) := by
  have s1 : ∀ j, j < L → j < cells.size := fun j hj => by
    have := hc j hj
    rcases Nat.lt_or_ge j cells.size with h | h
    · exact h
    · rw [Array.getElem?_eq_none h] at this; exact absurd this (by simp)
  generalize e1 : w.alloc (.cells #[.bool false, .bool false, .bool false, .bool false] t) = w1
  generalize e2 : w1.alloc (.cells #[.func (.func k) #[] #[]] tf) = w2
  generalize e3 : w2.alloc (.cells #[.bool false] tb) = w3
  generalize e4 : w3.alloc (.cells cells t') = w4
  have z1 : w1.heap.size = w.heap.size + 1 := by rw [← e1]; simp
  have z2 : w2.heap.size = w.heap.size + 1 + 1 := by rw [← e2]; simp [z1]
  have z3 : w3.heap.size = w.heap.size + 1 + 1 + 1 := by rw [← e3]; simp [z2]
  have z4 : w4.heap.size = w.heap.size + 1 + 1 + 1 + 1 := by rw [← e4]; simp [z3]
  have k5 : Below w4.heap.size w4 (w4.alloc (.cells #[.bool false, .bool false, .bool false, .bool false] t)) := (Below.refl _ _).alloc (Nat.le_refl _) _
  have k4 : Below w3.heap.size w3 w4 := e4 ▸ (Below.refl _ _).alloc (Nat.le_refl _) _
  have k3 : Below w2.heap.size w2 w3 := e3 ▸ (Below.refl _ _).alloc (Nat.le_refl _) _
  have k2 : Below w1.heap.size w1 w2 := e2 ▸ (Below.refl _ _).alloc (Nat.le_refl _) _
  have k1 : Below w.heap.size w w1 := e1 ▸ (Below.refl _ _).alloc (Nat.le_refl _) _
  have j4 : Below w3.heap.size w3 (w4.alloc (.cells #[.bool false, .bool false, .bool false, .bool false] t)) := k4.trans (k5.mono (by omega))
  have j3 : Below w2.heap.size w2 (w4.alloc (.cells #[.bool false, .bool false, .bool false, .bool false] t)) := k3.trans (j4.mono (by omega))
  have j2 : Below w1.heap.size w1 (w4.alloc (.cells #[.bool false, .bool false, .bool false, .bool false] t)) := k2.trans (j3.mono (by omega))
  refine ⟨k1.trans (j2.mono (by omega)), by simp [z4], ?_, ?_, ?_, ?_, ?_, ?_, ?_, ?_, ?_, ?_, ?_, ?_, ?_, ?_, ?_⟩
  · rw [j3.cell (p := ⟨w.heap.size + 1, 0, none⟩) (by show w.heap.size + 1 < _; omega), ← e2, ← z1]; simp [go_sem]
  · rw [j4.cell (p := ⟨w.heap.size + 1 + 1, 0, none⟩) (by show w.heap.size + 1 + 1 < _; omega), ← e3, ← z2]; simp [go_sem]
  · rw [j4.frozen (p := ⟨w.heap.size + 1 + 1, 0, none⟩) (by show w.heap.size + 1 + 1 < _; omega), ← e3, ← z2]; simp [go_sem]
  · intro j hj
    rw [k5.cell (p := ⟨w.heap.size + 1 + 1 + 1, j, none⟩) (by show w.heap.size + 1 + 1 + 1 < _; omega), ← e4, ← z3]
    simp [go_sem, hc j hj]
  · intro j hj
    have := s1 j hj
    rw [k5.frozen (p := ⟨w.heap.size + 1 + 1 + 1, j, none⟩) (by show w.heap.size + 1 + 1 + 1 < _; omega), ← e4, ← z3]
    simp [go_sem]
  all_goals first | (rw [← z4]; simp [go_sem]; done) | skip
  · intro j hj
    rw [j2.cell (p := ⟨w.heap.size, j, none⟩) (by show w.heap.size < _; omega), ← e1]
    have hj' : j = 0 ∨ j = 1 ∨ j = 2 ∨ j = 3 := by omega
    rcases hj' with rfl | rfl | rfl | rfl <;> simp [go_sem]
  · intro j hj
    rw [j2.frozen (p := ⟨w.heap.size, j, none⟩) (by show w.heap.size < _; omega), ← e1]
    simp [go_sem]
end Go.Proofs.Ytmjnihepgglbdaa
