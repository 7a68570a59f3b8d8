/-
  What is wrong with a program: the document's looker: nodes, kids, names.
-/
import Derived.Test.YtjddpfojllefgaaGreatLwCz
import Derived.Test.YtjddpfojllefgaaGreatR7G
namespace Go.Proofs.YtjddpfojllefgaaGreat
open Go.RowKit
set_option linter.unusedSimpArgs false
set_option linter.unusedVariables false

theorem rone_any (lb c d : Nat) (w : World) (h : Box w lb [.int .i64 (c : Int)]) (hc : c ≤ 20000) (hd : d ≤ 101) : Calls Tryz.prog 8 #[.pointer (some ⟨lb, 0, none⟩), .int .i64 (d : Int)] w fun e w' => e = .returned (.int .i64 (nodeW d c)) ∧ Ctd w w' lb (c + 1) := by
  have BX := hideI (h.set (j := 0) (u := .int .i64 ((c + 1 : Nat) : Int)) (by simp))
  have c0 := h.2.1 0 _ rfl
  have f0 := h.2.2 0
  have hlb := h.1
  have c1 := (unhideI BX).2.1 0 _ rfl
  unfold nodeW
  by_cases h1 : 20000 < c + 1
  · have h1I : (20000 : Int) < (c : Int) + 1 := by omega
    rw [if_pos (.inl h1)]
    go_enter Tryz.func8, Tryz.ntmps8
    go_wp2_with fail
    go_ret
    exact ⟨rfl, unhideI BX, Kb.setCell _ _⟩
  · have h1I : ¬ (20000 : Int) < (c : Int) + 1 := by omega
    by_cases h2 : 100 < d
    · have h2I : (100 : Int) < (d : Int) := by omega
      rw [if_pos (.inr h2)]
      go_enter Tryz.func8, Tryz.ntmps8
      go_wp2_with fail
      go_ret
      exact ⟨rfl, unhideI BX, Kb.setCell _ _⟩
    · have h2I : ¬ (100 : Int) < (d : Int) := by omega
      rw [if_neg (by omega)]
      go_enter Tryz.func8, Tryz.ntmps8
      go_wp2_with fail
      go_ret
      exact ⟨rfl, unhideI BX, Kb.setCell _ _⟩
theorem rnamed8 (nm : ByteArray) (w : World) (h : nm.size ≤ maxLen) : Calls Tryz.prog 11 #[.string nm] w fun e w' => e = .returned (.bool (namN nm)) ∧ Below w.heap.size w w' := named8_any nm.data.toList w (by simpa using h)
theorem rvalid8 (b : Int) (s : Bool) (w : World) : Calls Tryz.prog 12 #[.agg #[.int .i64 b, .bool s]] w fun e w' => e = .returned (.bool (isWB b)) ∧ Below w.heap.size w w' := by
  cases h : isWB b
  · exact rvalid7_no b s w (noW_of h)
  · exact rvalid7_yes b s w (isW_of h)
def kidN (k : Int) : Int := if k < 1 ∨ 26 < k then -2 else if k ≤ 2 then 0 else if k = 4 then -1 else if k ≤ 8 then 1 else 2
theorem rkids_any (k : Int) (w : World) : Calls Tryz.prog 9 #[.int .i64 k] w fun e w' => e = .returned (.int .i64 (kidN k)) ∧ w' = w := by
  unfold kidN
  by_cases h1 : k < 1
  · rw [if_pos (.inl h1)]
    go_enter Tryz.func9, Tryz.ntmps9
    go_wp2_with fail
    go_ret
    exact ⟨rfl, rfl⟩
  · by_cases h2 : 26 < k
    · rw [if_pos (.inr h2)]
      go_enter Tryz.func9, Tryz.ntmps9
      go_wp2_with fail
      go_ret
      exact ⟨rfl, rfl⟩
    · rw [if_neg (by omega)]
      by_cases h3 : k ≤ 2
      · rw [if_pos h3]
        go_enter Tryz.func9, Tryz.ntmps9
        go_wp2_with fail
        go_ret
        exact ⟨rfl, rfl⟩
      · rw [if_neg h3]
        by_cases h4 : k = 4
        · subst h4
          go_enter Tryz.func9, Tryz.ntmps9
          go_wp2_with fail
          go_ret
          exact ⟨rfl, rfl⟩
        · have e4 : (k == 4) = false := beq_eq_false_iff_ne.2 h4
          rw [if_neg h4]
          by_cases h5 : k ≤ 8
          · rw [if_pos h5]
            go_enter Tryz.func9, Tryz.ntmps9
            go_wp2_with fail
            go_ret
            exact ⟨rfl, rfl⟩
          · rw [if_neg h5]
            go_enter Tryz.func9, Tryz.ntmps9
            go_wp2_with fail
            go_ret
            exact ⟨rfl, rfl⟩
end Go.Proofs.YtjddpfojllefgaaGreat
