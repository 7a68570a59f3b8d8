/-
  Words added, or taken away: the program's answer and the document's are the same.
-/
import Derived.Test.YtmjnihepgglbdaaWcXa
import Derived.Test.YtmjnihepgglbdaaWcXn
import Derived.Test.YtmjnihepgglbdaaWcXp
namespace Go.Proofs.Ytmjnihepgglbdaa
open Go.RowKit
set_option linter.unusedSimpArgs false
set_option linter.unusedVariables false

/-- Words, flags, an error: what both answer. -/
def WcPost (L : List Int) (f0 f1 f2 f3 : Bool) (er : Int) (w : World) (e : Ending) (w' : World) : Prop := ∃ v, e = .returned (.tuple #[v, .agg #[.bool f0, .bool f1, .bool f2, .bool f3], .int .i64 er]) ∧ Below w.heap.size w w' ∧ Ints w' v L
theorem ints_at {u : World} {L po : Nat} {out : Nat → Int} (h : po < u.heap.size) (h4 : L ≤ 4) (ho : ∀ j, j < L → u.cell? ⟨po, j, none⟩ = some (.int .i64 (out j))) : Ints u (.slice (some ⟨po, 0, none⟩) L L) ((List.range L).map out) := by
  have hl : ((List.range L).map out).length = L := by simp
  unfold Ints
  rw [hl]
  refine ⟨by simp, _, _, rfl, Nat.le_refl _, by unfold maxLen; omega, (fun h => by cases h), fun _ => ⟨po, 0, rfl, h, fun j hj => ?_⟩⟩
  have hj' : j < L := by omega
  rw [Nat.zero_add, ho j hj', List.getElem?_map, List.getElem?_map, List.getElem?_range hj']
  rfl
theorem jw_in (LA : List Int) {n : Nat} (h : LA.length = n) : 0 ≤ jw (LA.map lw) ∧ jw (LA.map lw) < 2 ^ (16 * n) := by
  have := jw_b (lws_b LA) n (by rw [List.length_map]; omega)
  rw [List.take_of_length_le (by rw [List.length_map]; omega)] at this
  rw [q65536]
  exact this
theorem getD_at {LA : List Int} {j : Nat} (h : j < LA.length) : LA[j] = LA.getD j 0 := by
  rw [List.getD_eq_getElem?_getD, List.getElem?_eq_getElem h]; rfl
theorem both_add (LA LB : List Int) (va vb : Value) : ∃ L f0 f1 f2 f3 er, (∀ w, Ints w va LA → Ints w vb LB → Calls Try.prog 8 #[va, vb] w (WcPost L f0 f1 f2 f3 er w)) ∧ (∀ w, Ints w va LA → Ints w vb LB → Calls Try.prog 9 #[va, vb, .bool true] w (WcPost L f0 f1 f2 f3 er w)) := by
  by_cases hn : NoLen LA.length LB.length
  · refine ⟨[], false, false, false, false, 5, fun w ha hb => ?_, fun w ha hb => ?_⟩
    · obtain ⟨ao, ca, rfl, -, -⟩ := ha.at
      obtain ⟨bo, cb, rfl, -, -⟩ := hb.at
      refine (add_no2 _ _ _ _ _ _ _ hn).mono ?_
      rintro e w' ⟨rfl, k⟩
      exact ⟨_, rfl, k, Lies.nil _ _⟩
    · obtain ⟨ao, ca, rfl, -, -⟩ := ha.at
      obtain ⟨bo, cb, rfl, -, -⟩ := hb.at
      refine (rwords_no _ _ _ _ _ _ _ _ hn).mono ?_
      rintro e w' ⟨rfl, k⟩
      exact ⟨_, rfl, k, Lies.nil _ _⟩
  · have hl : LB.length = LA.length ∧ 1 ≤ LA.length ∧ LA.length ≤ 4 := by unfold NoLen at hn; omega
    obtain ⟨l2, h1, h4⟩ := hl
    obtain ⟨i, l1⟩ : ∃ i, LA.length = i + 1 := ⟨LA.length - 1, by omega⟩
    rw [l1] at l2 h1 h4
    have WC := wc_sum (fun j => LA.getD j 0) (fun j => LB.getD j 0) i
    rw [← jw_all l1, ← jw_all l2] at WC
    have bx := jw_in LA l1
    have by' := jw_in LB l2
    refine ⟨(List.range (i + 1)).map (sumw (fun j => LA.getD j 0) (fun j => LB.getD j 0)), (sumf (fun j => LA.getD j 0) (fun j => LB.getD j 0) (i + 1)).1, sumz (fun j => LA.getD j 0) (fun j => LB.getD j 0) (i + 1), (sumf (fun j => LA.getD j 0) (fun j => LB.getD j 0) (i + 1)).2.2.1, (sumf (fun j => LA.getD j 0) (fun j => LB.getD j 0) (i + 1)).2.2.2, 0, fun w ha hb => ?_, fun w ha hb => ?_⟩
    · obtain ⟨ao, ca, rfl, -, hat⟩ := ha.at
      obtain ⟨bo, cb, rfl, -, hbt⟩ := hb.at
      obtain ⟨b1, o1, rfl, q1, c1⟩ := hat (by intro h; rw [h] at l1; simp at l1)
      obtain ⟨b2, o2, rfl, q2, c2⟩ := hbt (by intro h; rw [h] at l2; simp at l2)
      rw [l1, l2]
      refine (aw_sum (i + 1) (fun j => LA.getD j 0) (fun j => LB.getD j 0) b1 o1 ca b2 o2 cb w h1 h4 q1 q2 (fun j hj => ?_) (fun j hj => ?_)).mono ?_
      · rw [c1 j (by omega), getD_at]
      · rw [c2 j (by omega), getD_at]
      · rintro e w' ⟨rfl, M⟩
        exact ⟨_, rfl, M.bel, ints_at M.sz h4 M.o⟩
    · have R : Calls Try.prog 9 #[va, vb, .bool true] w fun e w' => RwRet (i + 1) (jw (LA.map lw) + jw (LB.map lw)) (sgw (16 * (i + 1)) (jw (LA.map lw)) + sgw (16 * (i + 1)) (jw (LB.map lw))) w e w' := by
        exact rwords_add LA LB va vb (i + 1) w ha hb l1 l2 h1 h4 _ _ rfl rfl bx by' _ _ rfl rfl
      refine R.mono ?_
      rintro e w' ⟨v, rfl, k, hI⟩
      have e2 : (2 : Int) ^ (16 * (i + 1) - 1) = 32768 * 65536 ^ i := by rw [show 16 * (i + 1) - 1 = 15 + 16 * i by omega, Int.pow_add, q65536]; rfl
      rw [q65536, WC.1] at hI
      refine ⟨v, ?_, k, ?_⟩
      · rw [q65536, WC.1, WC.2.1, WC.2.2.1, WC.2.2.2.1, WC.2.2.2.2, sgw_sgd, sgw_sgd, sgw_sgd, e2, Bool.decide_or]
      · have : (List.range (i + 1)).map (sumw (fun j => LA.getD j 0) (fun j => LB.getD j 0)) = rdl (nd (sumw (fun j => LA.getD j 0) (fun j => LB.getD j 0)) (i + 1)) (i + 1) := by
          unfold rdl
          refine List.map_congr_left fun j hj => ?_
          have hj' : j < i + 1 := List.mem_range.1 hj
          have := nd_dig (sumw_in (fun j => LA.getD j 0) (fun j => LB.getD j 0)) j (i - j)
          rw [show j + 1 + (i - j) = i + 1 by omega] at this
          exact this.symm
        rw [this]
        exact hI
theorem both_sub (LA LB : List Int) (va vb : Value) : ∃ L f0 f1 f2 f3 er, (∀ w, Ints w va LA → Ints w vb LB → Calls Try.prog 11 #[va, vb] w (WcPost L f0 f1 f2 f3 er w)) ∧ (∀ w, Ints w va LA → Ints w vb LB → Calls Try.prog 9 #[va, vb, .bool false] w (WcPost L f0 f1 f2 f3 er w)) := by
  by_cases hn : NoLen LA.length LB.length
  · refine ⟨[], false, false, false, false, 5, fun w ha hb => ?_, fun w ha hb => ?_⟩
    · obtain ⟨ao, ca, rfl, -, -⟩ := ha.at
      obtain ⟨bo, cb, rfl, -, -⟩ := hb.at
      refine (sub_no2 _ _ _ _ _ _ _ hn).mono ?_
      rintro e w' ⟨rfl, k⟩
      exact ⟨_, rfl, k, Lies.nil _ _⟩
    · obtain ⟨ao, ca, rfl, -, -⟩ := ha.at
      obtain ⟨bo, cb, rfl, -, -⟩ := hb.at
      refine (rwords_no _ _ _ _ _ _ _ _ hn).mono ?_
      rintro e w' ⟨rfl, k⟩
      exact ⟨_, rfl, k, Lies.nil _ _⟩
  · have hl : LB.length = LA.length ∧ 1 ≤ LA.length ∧ LA.length ≤ 4 := by unfold NoLen at hn; omega
    obtain ⟨l2, h1, h4⟩ := hl
    obtain ⟨i, l1⟩ : ∃ i, LA.length = i + 1 := ⟨LA.length - 1, by omega⟩
    rw [l1] at l2 h1 h4
    have WC := wc_dif (fun j => LA.getD j 0) (fun j => LB.getD j 0) i
    rw [← jw_all l1, ← jw_all l2] at WC
    have bx := jw_in LA l1
    have by' := jw_in LB l2
    refine ⟨(List.range (i + 1)).map (difw (fun j => LA.getD j 0) (fun j => LB.getD j 0)), (diff (fun j => LA.getD j 0) (fun j => LB.getD j 0) (i + 1)).1, difz (fun j => LA.getD j 0) (fun j => LB.getD j 0) (i + 1), (diff (fun j => LA.getD j 0) (fun j => LB.getD j 0) (i + 1)).2.2.1, (diff (fun j => LA.getD j 0) (fun j => LB.getD j 0) (i + 1)).2.2.2, 0, fun w ha hb => ?_, fun w ha hb => ?_⟩
    · obtain ⟨ao, ca, rfl, -, hat⟩ := ha.at
      obtain ⟨bo, cb, rfl, -, hbt⟩ := hb.at
      obtain ⟨b1, o1, rfl, q1, c1⟩ := hat (by intro h; rw [h] at l1; simp at l1)
      obtain ⟨b2, o2, rfl, q2, c2⟩ := hbt (by intro h; rw [h] at l2; simp at l2)
      rw [l1, l2]
      refine (aw_dif (i + 1) (fun j => LA.getD j 0) (fun j => LB.getD j 0) b1 o1 ca b2 o2 cb w h1 h4 q1 q2 (fun j hj => ?_) (fun j hj => ?_)).mono ?_
      · rw [c1 j (by omega), getD_at]
      · rw [c2 j (by omega), getD_at]
      · rintro e w' ⟨rfl, M⟩
        exact ⟨_, rfl, M.bel, ints_at M.sz h4 M.o⟩
    · have R : Calls Try.prog 9 #[va, vb, .bool false] w fun e w' => RwRet (i + 1) (jw (LA.map lw) - jw (LB.map lw)) (sgw (16 * (i + 1)) (jw (LA.map lw)) - sgw (16 * (i + 1)) (jw (LB.map lw))) w e w' := by
        by_cases hz : jw (LA.map lw) - jw (LB.map lw) < 0
        · exact rwords_sub_neg LA LB va vb (i + 1) w ha hb l1 l2 h1 h4 _ _ rfl rfl bx by' _ _ rfl hz rfl
        · exact rwords_sub_pos LA LB va vb (i + 1) w ha hb l1 l2 h1 h4 _ _ rfl rfl bx by' _ _ rfl hz rfl
      refine R.mono ?_
      rintro e w' ⟨v, rfl, k, hI⟩
      have e2 : (2 : Int) ^ (16 * (i + 1) - 1) = 32768 * 65536 ^ i := by rw [show 16 * (i + 1) - 1 = 15 + 16 * i by omega, Int.pow_add, q65536]; rfl
      rw [q65536, WC.1] at hI
      refine ⟨v, ?_, k, ?_⟩
      · rw [q65536, WC.1, WC.2.1, WC.2.2.1, WC.2.2.2.1, WC.2.2.2.2, sgw_sgd, sgw_sgd, sgw_sgd, e2, Bool.decide_or]
      · have : (List.range (i + 1)).map (difw (fun j => LA.getD j 0) (fun j => LB.getD j 0)) = rdl (nd (difw (fun j => LA.getD j 0) (fun j => LB.getD j 0)) (i + 1)) (i + 1) := by
          unfold rdl
          refine List.map_congr_left fun j hj => ?_
          have hj' : j < i + 1 := List.mem_range.1 hj
          have := nd_dig (difw_in (fun j => LA.getD j 0) (fun j => LB.getD j 0)) j (i - j)
          rw [show j + 1 + (i - j) = i + 1 by omega] at this
          exact this.symm
        rw [this]
        exact hI
end Go.Proofs.Ytmjnihepgglbdaa
