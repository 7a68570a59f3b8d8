/-
  Small functions of package instr: long, within, fromFirst, first; Wrong, Uses, Long.
-/
import Derived.Test.YtjlbenbfmookoaaInsF
import Derived.Deep.QuietTactic
import Derived.BigQuiet
namespace Go.Proofs.Ytjlbenbfmookoaa
open Go.RowKit
set_option linter.unusedSimpArgs false
set_option linter.unusedVariables false

theorem long_any (a b c : Bool) (w : World) : Calls Try.prog 37 #[.agg #[.bool a, .bool b, .bool c]] w fun e w' => e = .returned (.int .i64 (if c = true then 2 else 1)) ∧ Below w.heap.size w w' := by
  cases c
  all_goals
    go_enter Try.func37, Try.ntmps37
    go_wp2
    go_ret
    exact ⟨rfl, (Below.refl _ _).alloc (Nat.le_refl _) _⟩

theorem within_any (x t : Int) (w : World) : Calls Try.prog 56 #[.int .i64 x, .int .i64 t] w fun e w' => e = .returned (.bool (inR x t)) ∧ w' = w := by
  by_cases h : 0 ≤ x
  · by_cases h2 : x ≤ t
    · have hv : inR x t = true := by unfold inR; simp [h, h2]
      rw [hv]
      go_enter Try.func56, Try.ntmps56
      go_wp2
      go_ret
      exact ⟨rfl, rfl⟩
    · have hv : inR x t = false := by unfold inR; simp [h2]
      rw [hv]
      go_enter Try.func56, Try.ntmps56
      go_wp2
      go_ret
      exact ⟨rfl, rfl⟩
  · have hv : inR x t = false := by unfold inR; simp [h]
    rw [hv]
    go_enter Try.func56, Try.ntmps56
    go_wp2
    go_ret
    exact ⟨rfl, rfl⟩

theorem and7 (x : Int) : bits .and .i64 x 7 = x % 8 := by
  have e : bits .and .i64 x 7 = IntKind.i64.wrap (((BitVec.ofInt 64 x &&& BitVec.ofInt 64 7).toNat : Nat) : Int) := rfl
  have f : (BitVec.ofInt 64 7).toNat = 2 ^ 3 - 1 := by decide
  rw [e, BitVec.toNat_and, f, Nat.and_two_pow_sub_one_eq_mod, BitVec.toNat_ofInt, IntKind.wrap_i64]
  omega

theorem fromFirst_any (x : Int) (w : World) : Calls Try.prog 35 #[.int .i64 x] w fun e w' => e = .returned (.agg #[.int .i64 (x / 1024), .int .i64 (x / 128 % 8), .int .i64 (x / 16 % 8), .int .i64 0]) ∧ Below w.heap.size w w' := by
  have e1 := and7 (x / 128)
  have e2 := and7 (x / 16)
  go_enter Try.func35, Try.ntmps35
  go_wp2
  exact bodyPost_ret (v := .agg #[.int .i64 (x / 1024), .int .i64 (x / 128 % 8), .int .i64 (x / 16 % 8), .int .i64 0]) (by simp [results, Try.results35, go_sem]) rfl ⟨rfl, (Below.refl _ _).alloc (Nat.le_refl _) _⟩

/-- An instruction as a value. -/
def agg (i : Ins) : Value := .agg #[.int .i64 i.o, .int .i64 i.d, .int .i64 i.s, .int .i64 i.m]
def fag (o : Int) : Value := .agg #[.bool (hD o), .bool (hS o), .bool (hI o)]

theorem bt {u v x : World} (k1 : Below u.heap.size u v) (k2 : Below v.heap.size v x) : Below u.heap.size u x := k1.trans (k2.mono k1.size)

theorem bdr {B : Nat} {u v : World} (h : Below B u v) (q : Nat) : Below B u (v.drewN q) := ⟨h.os, h.tape, h.output, h.size, h.block⟩
theorem bcell {W w1 : World} (hb : Below W.heap.size W w1) : (∀ b o, b < W.heap.size → w1.cell? ⟨b, o, none⟩ = W.cell? ⟨b, o, none⟩) ∧ (∀ b o, b < W.heap.size → w1.frozen? ⟨b, o, none⟩ = W.frozen? ⟨b, o, none⟩) :=
  ⟨fun b o h => hb.cell (p := ⟨b, o, none⟩) h, fun b o h => hb.frozen (p := ⟨b, o, none⟩) h⟩

theorem lt1 {u v : World} {o : Obj} (k : Below (u.alloc o).heap.size (u.alloc o) v) : u.heap.size < v.heap.size := by have := k.size; simp at this; omega

set_option maxHeartbeats 1000000 in
theorem first_ok (i : Ins) (w : World) (h : wrg i = 0) : Calls Try.prog 39 #[agg i, fag i.o] w fun e w' => e = .returned (.int .i64 (fst i)) ∧ Below w.heap.size w w' := by
  obtain ⟨b0, b1, hd, hs, _⟩ := wr_fields h
  clear h
  obtain ⟨o, d, s, m⟩ := i
  unfold fst bare agg fag
  dsimp only at *
  have hend : Below w.heap.size w ((w.alloc (.cells #[.int .i64 o, .int .i64 d, .int .i64 s, .int .i64 m] 49)).alloc (.cells #[.bool (hD o), .bool (hS o), .bool (hI o)] 80)) := ((Below.refl _ _).alloc (Nat.le_refl _) _).alloc (by simp) _
  generalize hD o = a at *
  generalize hS o = b at *
  cases a <;> cases b <;> simp at hd hs
  all_goals
    go_enter Try.func39, Try.ntmps39
    go_wp2
    go_ret
    exact ⟨by simp, hend⟩

theorem long_fag (o : Int) (w : World) : Calls Try.prog 37 #[fag o] w fun e w' => e = .returned (.int .i64 (lng o)) ∧ Below w.heap.size w w' := long_any _ _ _ w

theorem three (a x : Bool) : (a = true ∧ x = false) ∨ a = false ∨ (a = true ∧ x = true) := by cases a <;> cases x <;> simp

set_option maxHeartbeats 4000000 in
theorem wrong_any (i : Ins) (w : World) : Calls Try.prog 38 #[agg i] w fun e w' => e = .returned (.int .i64 (wrg i)) ∧ Below w.heap.size w w' := by
  obtain ⟨o, d, s, m⟩ := i
  unfold agg
  dsimp only
  by_cases hk : kn o = true
  · have h0 := ke_yes hk
    have key : ∀ b, bad ⟨o, d, s, m⟩ = b → wrg ⟨o, d, s, m⟩ = (if b = true then (3 : Int) else 0) := by
      intro b hb
      unfold wrg
      dsimp only
      rw [if_pos hk, hb]
    rcases three (hD o) (inR d 7) with ⟨ha, hx⟩ | ha | ⟨ha, hx⟩
    · rw [key true (by unfold bad; simp [ha, hx])]
      clear key hk
      rw [if_pos rfl]
      go_enter Try.func38, Try.ntmps38
      go_wp2_with (first | (go_at_call 36; refine (fo_any _ _).mono ?_; rintro e w1 ⟨rfl, k1⟩; unfold fo; obtain ⟨hcl, hf⟩ := bcell k1; have hlt := lt1 k1) | (go_at_call 56; refine (within_any _ _ _).mono ?_; rintro e w2 ⟨rfl, hw⟩; subst w2))
      go_ret
      exact ⟨rfl, (bt ((Below.refl _ _).alloc (Nat.le_refl _) _) k1).alloc (Nat.le_of_lt hlt) _⟩
    all_goals
      rcases three (hS o) (inR s 7) with ⟨hb, hy⟩ | hb | ⟨hb, hy⟩
      · rw [key true (by unfold bad; simp [hb, hy])]
        clear key hk
        rw [if_pos rfl]
        go_enter Try.func38, Try.ntmps38
        go_wp2_with (first | (go_at_call 36; refine (fo_any _ _).mono ?_; rintro e w1 ⟨rfl, k1⟩; unfold fo; obtain ⟨hcl, hf⟩ := bcell k1; have hlt := lt1 k1) | (go_at_call 56; refine (within_any _ _ _).mono ?_; rintro e w2 ⟨rfl, hw⟩; subst w2))
        go_ret
        exact ⟨rfl, (bt ((Below.refl _ _).alloc (Nat.le_refl _) _) k1).alloc (Nat.le_of_lt hlt) _⟩
      all_goals
        rcases three (hI o) (inR m 65535) with ⟨hc, hz⟩ | hc | ⟨hc, hz⟩
        · rw [key true (by unfold bad; simp [hc, hz])]
          clear key hk
          rw [if_pos rfl]
          go_enter Try.func38, Try.ntmps38
          go_wp2_with (first | (go_at_call 36; refine (fo_any _ _).mono ?_; rintro e w1 ⟨rfl, k1⟩; unfold fo; obtain ⟨hcl, hf⟩ := bcell k1; have hlt := lt1 k1) | (go_at_call 56; refine (within_any _ _ _).mono ?_; rintro e w2 ⟨rfl, hw⟩; subst w2))
          go_ret
          exact ⟨rfl, (bt ((Below.refl _ _).alloc (Nat.le_refl _) _) k1).alloc (Nat.le_of_lt hlt) _⟩
        all_goals
          rw [key false (by unfold bad; simp_all)]
          clear key hk
          rw [if_neg (by decide)]
          go_enter Try.func38, Try.ntmps38
          go_wp2_with (first | (go_at_call 36; refine (fo_any _ _).mono ?_; rintro e w1 ⟨rfl, k1⟩; unfold fo; obtain ⟨hcl, hf⟩ := bcell k1; have hlt := lt1 k1) | (go_at_call 56; refine (within_any _ _ _).mono ?_; rintro e w2 ⟨rfl, hw⟩; subst w2))
          go_ret
          exact ⟨rfl, (bt ((Below.refl _ _).alloc (Nat.le_refl _) _) k1).alloc (Nat.le_of_lt hlt) _⟩
  · have hk' : kn o = false := by simpa using hk
    have h0 := ke_no hk'
    rw [wr_no hk']
    clear hk hk'
    go_enter Try.func38, Try.ntmps38
    go_wp2_with (go_at_call 36; refine (fo_any _ _).mono ?_; rintro e w1 ⟨rfl, k1⟩; unfold fo; obtain ⟨hcl, hf⟩ := bcell k1; have hlt := lt1 k1)
    go_ret
    exact ⟨rfl, (bt ((Below.refl _ _).alloc (Nat.le_refl _) _) k1).alloc (Nat.le_of_lt hlt) _⟩

end Go.Proofs.Ytjlbenbfmookoaa
