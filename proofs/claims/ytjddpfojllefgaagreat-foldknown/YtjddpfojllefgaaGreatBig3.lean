/-
  Whole numbers in memory: a block with a sign and a row; give, and what is made of a number of 64 bits.
-/
import Derived.Test.YtjddpfojllefgaaGreatBig1z
namespace Go.Proofs.YtjddpfojllefgaaGreat
open Go.RowKit
set_option linter.unusedSimpArgs false
set_option linter.unusedVariables false

/-- Of what was there one block alone may have turned. -/
structure Tn (p : Nat) (w w' : World) : Prop where
  os : w'.os = w.os
  tape : w'.tape = w.tape
  output : w'.output = w.output
  size : w.heap.size ≤ w'.heap.size
  block : ∀ k, k < w.heap.size → k ≠ p → w'.heap[k]? = w.heap[k]?
theorem Tn.refl (p : Nat) (w : World) : Tn p w w := ⟨rfl, rfl, rfl, Nat.le_refl _, fun _ _ _ => rfl⟩
theorem Tn.trans {p : Nat} {a b c : World} (h : Tn p a b) (k : Tn p b c) : Tn p a c :=
  ⟨k.os.trans h.os, k.tape.trans h.tape, k.output.trans h.output, Nat.le_trans h.size k.size, fun i hi hn => (k.block i (Nat.lt_of_lt_of_le hi h.size) hn).trans (h.block i hi hn)⟩
theorem Tn.of {p : Nat} {w w' : World} (h : Below w.heap.size w w') : Tn p w w' := ⟨h.os, h.tape, h.output, h.size, fun k hk _ => h.block k hk⟩
theorem Tn.below {p B : Nat} {w w' : World} (h : Tn p w w') (hp : B ≤ p) (hB : B ≤ w.heap.size) : Below B w w' := ⟨h.os, h.tape, h.output, h.size, fun k hk => h.block k (by omega) (by omega)⟩
/-- A number's block. -/
def IntAt (w : World) (p : Nat) : Prop := ∃ s v, w.heap[p]? = some (.cells #[.bool s, v] 69)
/-- A number in memory. -/
def Big (w : World) (p : Nat) (z : Int) : Prop := ∃ v, w.heap[p]? = some (.cells #[.bool (decide (z < 0)), v] 69) ∧ Dg w v z.natAbs
theorem Big.int {w : World} {p : Nat} {z : Int} (h : Big w p z) : IntAt w p := by
  obtain ⟨v, h1, _⟩ := h
  exact ⟨_, v, h1⟩
theorem IntAt.lt {w : World} {p : Nat} (h : IntAt w p) : p < w.heap.size := by
  obtain ⟨s, v, h1⟩ := h
  exact (Array.getElem?_eq_some_iff.1 h1).1
theorem Big.lt {w : World} {p : Nat} {z : Int} (h : Big w p z) : p < w.heap.size := h.int.lt
theorem Big.step {w w' : World} {p : Nat} {z : Int} (h : Big w p z) (k : Below w.heap.size w w') : Big w' p z := by
  have := h.lt
  obtain ⟨v, h1, h2⟩ := h
  exact ⟨v, by rw [k.block p this]; exact h1, h2.step k⟩
theorem IntAt.step {w w' : World} {p : Nat} (h : IntAt w p) (k : Below w.heap.size w w') : IntAt w' p := by
  have := h.lt
  obtain ⟨s, v, h1⟩ := h
  exact ⟨s, v, by rw [k.block p this]; exact h1⟩
theorem Row.tn {w w' : World} {p : Nat} {v : Value} {L : List Int} (h : Row w v L) (k : Tn p w w') (hp : IntAt w p) : Row w' v L := by
  rcases h with h | ⟨d, cap, cs, fz, h1, h2, h3, h4, h5⟩
  · exact .inl h
  · refine .inr ⟨d, cap, cs, fz, h1, h2, h3, ?_, h5⟩
    rw [k.block d (Array.getElem?_eq_some_iff.1 h4).1 ?_]; exact h4
    rintro rfl
    obtain ⟨s, u, e⟩ := hp
    rw [h4] at e
    simp at e
theorem Dg.tn {w w' : World} {p : Nat} {v : Value} {n : Int} (h : Dg w v n) (k : Tn p w w') (hp : IntAt w p) : Dg w' v n := by
  obtain ⟨L, h1, h2⟩ := h
  exact ⟨L, h1.tn k hp, h2⟩
theorem Big.tn {w w' : World} {p q : Nat} {z : Int} (h : Big w q z) (k : Tn p w w') (hp : IntAt w p) (hq : q ≠ p) : Big w' q z := by
  have := h.lt
  obtain ⟨v, h1, h2⟩ := h
  exact ⟨v, by rw [k.block q this hq]; exact h1, h2.tn k hp⟩
theorem IntAt.tn {w w' : World} {p q : Nat} (h : IntAt w q) (k : Tn p w w') (hq : q ≠ p) : IntAt w' q := by
  have := h.lt
  obtain ⟨s, v, h1⟩ := h
  exact ⟨s, v, by rw [k.block q this hq]; exact h1⟩
theorem Big.new (w : World) : Big (w.alloc (.cells #[.bool false, .slice none 0 0] 69)) w.heap.size 0 := by
  refine ⟨.slice none 0 0, ?_, Dg.nil _⟩
  show (w.heap.push _)[w.heap.size]? = _
  simp
theorem Big.cells {w : World} {p : Nat} {z : Int} (h : Big w p z) : ∃ v, w.cell? ⟨p, 0, none⟩ = some (.bool (decide (z < 0))) ∧ w.cell? ⟨p, 1, none⟩ = some v ∧ Dg w v z.natAbs ∧ p < w.heap.size := by
  have hl := h.lt
  obtain ⟨v, h1, h2⟩ := h
  exact ⟨v, by simp [World.cell?, h1], by simp [World.cell?, h1], h2, hl⟩
theorem IntAt.cells {w : World} {p : Nat} (h : IntAt w p) : ∃ s v, w.cell? ⟨p, 0, none⟩ = some (.bool s) ∧ w.cell? ⟨p, 1, none⟩ = some v ∧ w.frozen? ⟨p, 0, none⟩ = false ∧ w.frozen? ⟨p, 1, none⟩ = false := by
  obtain ⟨s, v, h1⟩ := h
  exact ⟨s, v, by simp [World.cell?, h1], by simp [World.cell?, h1], by simp [World.frozen?, h1], by simp [World.frozen?, h1]⟩
/-- What give leaves. -/
theorem given {w : World} {p : Nat} {v : Value} {n z : Int} {s : Bool} (hp : IntAt w p) (hd : Dg w v n) (hs : s = decide (z < 0)) (hn : n = z.natAbs) : Tn p w ((w.setCell ⟨p, 1, none⟩ v).setCell ⟨p, 0, none⟩ (.bool s)) ∧ Big ((w.setCell ⟨p, 1, none⟩ v).setCell ⟨p, 0, none⟩ (.bool s)) p z := by
  have k : Tn p w ((w.setCell ⟨p, 1, none⟩ v).setCell ⟨p, 0, none⟩ (.bool s)) :=
    ⟨rfl, rfl, rfl, by simp [World.setCell], fun k hk hn => by rw [Below.heap_setCell _ _ _ _ hn, Below.heap_setCell _ _ _ _ hn]⟩
  refine ⟨k, v, ?_, hn ▸ hd.tn k hp⟩
  obtain ⟨s0, v0, h1⟩ := hp
  subst hs
  simp [World.setCell, Array.getElem?_modify, h1]
theorem ret_eq3 {a b : Value} (h : a = b) : Ending.returned a = .returned b := by rw [h]
/-- With its sign. -/
def sg (b : Bool) (n : Int) : Int := if b then -n else n
theorem give_any (p : Nat) (b : Bool) (v : Value) (n : Int) (w : World) (hp : IntAt w p) (hd : Dg w v n) (hn : n < 4294967296 ^ 8) :
    Calls Tryz.prog 51 #[.pointer (some ⟨p, 0, none⟩), .bool b, v] w fun e w' => e = .returned (.pointer (some ⟨p, 0, none⟩)) ∧ Tn p w w' ∧ Big w' p (sg b n) := by
  obtain ⟨ao, cap, L, rfl, hI, hl8, hr, hc1, _, _⟩ := hd.at hn
  obtain ⟨s0, v0, c0, c1, f0, f1⟩ := hp.cells
  have n0 := hI.lo
  have nz := hI.zero
  cases b
  · have GV := hide (given (s := false) (z := n) hp hd (by simp; omega) (by omega))
    have hlt := hp.lt
    clear hr hI nz hp hd
    go_enter Tryz.func51, Tryz.ntmps51
    go_wp2_with fail
    go_ret
    exact ⟨rfl, (unhide GV).1, (unhide GV).2⟩
  · have hb : decide (0 < L.length) = decide (-n < 0) := by
      by_cases h : L.length = 0
      · have := nz.1 h; simp [h]; omega
      · have : n ≠ 0 := fun e => h (nz.2 e)
        have a1 : decide (0 < L.length) = true := by simp; omega
        have a2 : decide (-n < 0) = true := by simp; omega
        rw [a1, a2]
    have GV := hide (given (s := decide (0 < L.length)) (z := -n) hp hd hb (by omega))
    have hlt := hp.lt
    clear hr hI nz hp hd hb
    go_enter Tryz.func51, Tryz.ntmps51
    go_wp2_with fail
    go_ret
    exact ⟨rfl, (unhide GV).1, (unhide GV).2⟩
theorem setU_any (p : Nat) (x : Int) (w : World) (hp : IntAt w p) (hx : U x) :
    Calls Tryz.prog 46 #[.pointer (some ⟨p, 0, none⟩), .int .u64 x] w fun e w' => e = .returned (.pointer (some ⟨p, 0, none⟩)) ∧ Tn p w w' ∧ Big w' p x := by
  have HP := hide hp
  clear hp
  go_enter Tryz.func46, Tryz.ntmps46
  go_wp2_with fail
  refine (words_any x _ hx).mono ?_
  rintro e w1 ⟨k1, v1, rfl, D1⟩
  have K1 := hide k1
  have HD := hide D1
  clear k1 D1
  go_wp2_with fail
  refine (give_any p false v1 x _ ((unhide HP).step (unhide K1)) (unhide HD) (by unfold U at hx; omega)).mono ?_
  rintro e w2 ⟨rfl, k2, b2⟩
  have K2 := hide k2
  have B2 := hide b2
  clear k2 b2
  go_wp2_with fail
  go_ret
  exact ⟨rfl, (Tn.of (unhide K1)).trans (unhide K2), unhide B2⟩
theorem whole_any (x : Int) (w : World) (hx : U x) :
    Calls Tryz.prog 29 #[.int .u64 x] w fun e w' => e = .returned (.pointer (some ⟨w.heap.size, 0, none⟩)) ∧ Below w.heap.size w w' ∧ Big w' w.heap.size x := by
  have HB := hide (Big.new w)
  have KA := hide (below_a w (.cells #[.bool false, .slice none 0 0] 69))
  go_enter Tryz.func29, Tryz.ntmps29
  go_wp2_with fail
  refine (setU_any w.heap.size x _ (unhide HB).int hx).mono ?_
  rintro e w1 ⟨rfl, k1, b1⟩
  have K1 := hide k1
  have B1 := hide b1
  clear k1 b1
  go_wp2_with fail
  go_ret
  exact ⟨rfl, (unhide KA).trans ((unhide K1).below (Nat.le_refl _) (by simp)), unhide B1⟩
def I64 (x : Int) : Prop := -9223372036854775808 ≤ x ∧ x ≤ 9223372036854775807
theorem setI_any (p : Nat) (x : Int) (w : World) (hp : IntAt w p) (hx : I64 x) :
    Calls Tryz.prog 72 #[.pointer (some ⟨p, 0, none⟩), .int .i64 x] w fun e w' => e = .returned (.pointer (some ⟨p, 0, none⟩)) ∧ Tn p w w' ∧ Big w' p x := by
  have HP := hide hp
  obtain ⟨h0, h1⟩ := hx
  clear hp
  by_cases hneg : x < 0
  · have e1 : IntKind.u64.wrap (-IntKind.u64.wrap x) = -x := by rw [u64_wrap, u64_wrap]; omega
    have e2 : (-(x + 18446744073709551616)) % 18446744073709551616 = -x := by omega
    have hb : decide (x < 0) = true := by simp [hneg]
    go_enter Tryz.func72, Tryz.ntmps72
    go_wp2_with fail
    refine (words_any (-x) _ ⟨by omega, by omega⟩).mono ?_
    rintro e w1 ⟨k1, v1, rfl, D1⟩
    have K1 := hide k1
    have HD := hide D1
    clear k1 D1
    go_wp2_with fail
    refine (give_any p true v1 (-x) _ ((unhide HP).step (unhide K1)) (unhide HD) (by omega)).mono ?_
    rintro e w2 ⟨rfl, k2, b2⟩
    have hs : sg true (-x) = x := by simp [sg]
    rw [hs] at b2
    have K2 := hide k2
    have B2 := hide b2
    clear k2 b2
    go_wp2_with fail
    go_ret
    exact ⟨rfl, (Tn.of (unhide K1)).trans (unhide K2), unhide B2⟩
  · have e1 : IntKind.u64.wrap x = x := by rw [u64_wrap]; omega
    have hb : decide (x < 0) = false := by simp; omega
    go_enter Tryz.func72, Tryz.ntmps72
    go_wp2_with fail
    refine (words_any x _ ⟨by omega, by omega⟩).mono ?_
    rintro e w1 ⟨k1, v1, rfl, D1⟩
    have K1 := hide k1
    have HD := hide D1
    clear k1 D1
    go_wp2_with fail
    refine (give_any p false v1 x _ ((unhide HP).step (unhide K1)) (unhide HD) (by omega)).mono ?_
    rintro e w2 ⟨rfl, k2, b2⟩
    have K2 := hide k2
    have B2 := hide b2
    clear k2 b2
    go_wp2_with fail
    go_ret
    exact ⟨rfl, (Tn.of (unhide K1)).trans (unhide K2), unhide B2⟩
theorem newI_any (x : Int) (w : World) (hx : I64 x) :
    Calls Tryz.prog 50 #[.int .i64 x] w fun e w' => e = .returned (.pointer (some ⟨w.heap.size, 0, none⟩)) ∧ Below w.heap.size w w' ∧ Big w' w.heap.size x := by
  have HB := hide (Big.new w)
  have KA := hide (below_a w (.cells #[.bool false, .slice none 0 0] 69))
  go_enter Tryz.func50, Tryz.ntmps50
  go_wp2_with fail
  refine (setI_any w.heap.size x _ (unhide HB).int hx).mono ?_
  rintro e w1 ⟨rfl, k1, b1⟩
  have K1 := hide k1
  have B1 := hide b1
  clear k1 b1
  go_wp2_with fail
  go_ret
  exact ⟨rfl, (unhide KA).trans ((unhide K1).below (Nat.le_refl _) (by simp)), unhide B1⟩
/-- The low 64 bits, without the sign; here of numbers that fit. -/
theorem uint_any (p : Nat) (z : Int) (w : World) (h : Big w p z) (hz : z.natAbs < 18446744073709551616) :
    Calls Tryz.prog 48 #[.pointer (some ⟨p, 0, none⟩)] w fun e w' => w' = w ∧ e = .returned (.int .u64 z.natAbs) := by
  obtain ⟨v, cs, c1, hD, hlt⟩ := h.cells
  have hn : ((z.natAbs : Nat) : Int) < 18446744073709551616 := by omega
  generalize ((z.natAbs : Nat) : Int) = n at *
  obtain ⟨ao, cap, L, rfl, hI, hl8, hr, hc1, hd, hc⟩ := hD.at (by omega)
  obtain ⟨q1, q2, q3, q4⟩ := is_two hI hn
  have g0 := hI.1.get 0
  have g1 := hI.1.get 1
  have HC := hide hc
  have HQ := hide q1
  clear hr hI hc q1 h hD hz cs
  by_cases l0 : L.length = 0
  · have := q2 l0
    subst this
    rw [l0] at c1
    go_enter Tryz.func48, Tryz.ntmps48
    go_wp2_with fail
    go_ret
    exact ⟨rfl, rfl⟩
  · obtain ⟨d, rfl, hdl⟩ := hd l0
    have k0 := unhide HC d rfl 0 (by omega)
    by_cases l1 : L.length = 1
    · have := q3 l1
      rw [l1] at c1
      clear q3 q2 g1 hd
      generalize L.getD 0 0 = x at *
      subst this
      go_enter Tryz.func48, Tryz.ntmps48
      go_wp2_with fail
      go_ret
      exact ⟨rfl, rfl⟩
    · have l2 : L.length = 2 := by omega
      have k1 := unhide HC d rfl 1 (by omega)
      have ho := or_two _ _ g0 g1
      rw [← unhide HQ] at ho
      rw [l2] at c1
      generalize L.getD 0 0 = x at *
      generalize L.getD 1 0 = y at *
      go_enter Tryz.func48, Tryz.ntmps48
      go_wp2_with fail
      go_ret
      exact ⟨rfl, rfl⟩
end Go.Proofs.YtjddpfojllefgaaGreat
