/-
  Runs that go on: who has more time comes to the same.
-/
import Derived.Test.YtjlbenbfmookoaaEmuR
namespace Go.Proofs.Ytjlbenbfmookoaa
open Go.RowKit
set_option linter.unusedSimpArgs false
set_option linter.unusedVariables false

theorem ite_keep {P : Ma → Prop} {c : Prop} [Decidable c] {a b : Ma} (h1 : P a) (h2 : P b) : P (if c then a else b) := by split <;> assumption
/-- What holds of each of its ways holds of what an instruction does. -/
theorem act_keep (P : Ma → Prop) (m : Ma) (i : Ins) (bs : List Int) (same : ∀ m' : Ma, m'.how = m.how → m'.trap = m.trap → m'.out = m.out → m'.rd = m.rd → P m') (halt : P { m with how := 1 }) (trap : P { m with how := 2, trap := i.m })
    (tell : P (m.tell (m.reg i.s))) (take : P ((m.take bs).setR i.d (m.took1 bs))) : P (m.act i bs) := by
  have J : ∀ b x, P (m.jump b x) := fun b x => by
    unfold Ma.jump
    exact ite_keep (same _ rfl rfl rfl rfl) (same _ rfl rfl rfl rfl)
  unfold Ma.act
  generalize m.tell (m.reg i.s) = T at *
  generalize (m.take bs).setR i.d (m.took1 bs) = U at *
  repeat' refine ite_keep (P := P) ?_ ?_
  all_goals first | exact halt | exact trap | exact tell | exact take | exact J _ _ | exact same _ rfl rfl rfl rfl
theorem act_how (m : Ma) (i : Ins) (bs : List Int) : (m.act i bs).how = m.how ∨ (m.act i bs).how = 1 ∨ (m.act i bs).how = 2 ∨ (m.act i bs).how = 5 := by
  refine act_keep (fun m' => m'.how = m.how ∨ m'.how = 1 ∨ m'.how = 2 ∨ m'.how = 5) m i bs (fun m' h _ _ _ => .inl h) (.inr (.inl rfl)) (.inr (.inr (.inl rfl))) ?_ ?_
  · unfold Ma.tell; exact ite_keep (P := fun m' => m'.how = m.how ∨ m'.how = 1 ∨ m'.how = 2 ∨ m'.how = 5) (.inr (.inr (.inr rfl))) (.inl rfl)
  · refine .inl ?_
    show (m.take bs).how = m.how
    unfold Ma.take; exact ite_keep (P := fun m' => m'.how = m.how) rfl rfl
theorem step_how (m : Ma) (xs bs : List Int) (h : m.how = 0) : ¬ (m.step xs bs).how = 3 := by
  unfold Ma.step
  split
  · show ¬ (4 : Int) = 3; decide
  · have := act_how ({ m with took := m.took + 1, pc := lw (m.pc + (oneA xs m.pc).2) } : Ma) (oneA xs m.pc).1 bs
    generalize ({ m with took := m.took + 1, pc := lw (m.pc + (oneA xs m.pc).2) } : Ma).act (oneA xs m.pc).1 bs = m2 at *
    dsimp only at this ⊢
    rw [h] at this
    split
    · omega
    · show ¬ m2.how = 3; omega
theorem act_out (m : Ma) (i : Ins) (bs : List Int) : (∃ t, (m.act i bs).out = m.out ++ t) ∧ m.rd ≤ (m.act i bs).rd := by
  refine act_keep (fun m' => (∃ t, m'.out = m.out ++ t) ∧ m.rd ≤ m'.rd) m i bs (fun m' _ _ h h' => ⟨⟨[], by rw [h]; simp⟩, by omega⟩) ⟨⟨[], by simp⟩, Nat.le_refl _⟩ ⟨⟨[], by simp⟩, Nat.le_refl _⟩ ?_ ?_
  · unfold Ma.tell; exact ite_keep (P := fun m' => (∃ t, m'.out = m.out ++ t) ∧ m.rd ≤ m'.rd) ⟨⟨[], by simp⟩, Nat.le_refl _⟩ ⟨⟨_, rfl⟩, Nat.le_refl _⟩
  · show (∃ t, (m.take bs).out = m.out ++ t) ∧ m.rd ≤ (m.take bs).rd
    unfold Ma.take; exact ite_keep (P := fun m' => (∃ t, m'.out = m.out ++ t) ∧ m.rd ≤ m'.rd) ⟨⟨[], by simp⟩, Nat.le_refl _⟩ ⟨⟨[], by simp⟩, Nat.le_succ _⟩
theorem step_out (m : Ma) (xs bs : List Int) : (∃ t, (m.step xs bs).out = m.out ++ t) ∧ m.rd ≤ (m.step xs bs).rd := by
  unfold Ma.step
  split
  · exact ⟨⟨[], by simp⟩, Nat.le_refl _⟩
  · have := act_out ({ m with took := m.took + 1, pc := lw (m.pc + (oneA xs m.pc).2) } : Ma) (oneA xs m.pc).1 bs
    dsimp only at this ⊢
    split
    · exact this
    · exact this
theorem run_mono (xs bs : List Int) : ∀ (k : Nat) (m : Ma), (∃ t, (Ma.run xs bs k m).out = m.out ++ t) ∧ m.rd ≤ (Ma.run xs bs k m).rd ∧ m.took ≤ (Ma.run xs bs k m).took
  | 0, m => by
    unfold Ma.run
    split
    · exact ⟨⟨[], by simp⟩, Nat.le_refl _, Int.le_refl _⟩
    · exact ⟨⟨[], by simp⟩, Nat.le_refl _, Int.le_refl _⟩
  | k + 1, m => by
    unfold Ma.run
    split
    · obtain ⟨⟨t, h1⟩, h2, h3⟩ := run_mono xs bs k (m.step xs bs)
      obtain ⟨⟨u, g1⟩, g2⟩ := step_out m xs bs
      have g3 := step_took m xs bs
      exact ⟨⟨u ++ t, by rw [h1, g1, List.append_assoc]⟩, Nat.le_trans g2 h2, by omega⟩
    · exact ⟨⟨[], by simp⟩, Nat.le_refl _, Int.le_refl _⟩
/-- It ended; or it goes on from where it is. -/
theorem run_longer (xs bs : List Int) : ∀ (k : Nat) (m : Ma), m.how = 0 → (¬ (Ma.run xs bs k m).how = 3 ∧ ∀ j, Ma.run xs bs (k + j) m = Ma.run xs bs k m) ∨
    (∃ mk : Ma, mk.how = 0 ∧ Ma.run xs bs k m = { mk with how := 3 } ∧ mk.took = m.took + k ∧ ∀ j, Ma.run xs bs (k + j) m = Ma.run xs bs j mk)
  | 0, m, h => .inr ⟨m, h, by unfold Ma.run; rw [if_pos h], by simp, fun j => by rw [Nat.zero_add]⟩
  | k + 1, m, h => by
    have e : ∀ n, Ma.run xs bs (n + 1) m = Ma.run xs bs n (m.step xs bs) := fun n => by
      rw [Ma.run, if_pos h]
    have e2 : ∀ j, Ma.run xs bs (k + 1 + j) m = Ma.run xs bs (k + j) (m.step xs bs) := fun j => by
      rw [show k + 1 + j = k + j + 1 by omega]; exact e _
    by_cases hs : (m.step xs bs).how = 0
    · rcases run_longer xs bs k (m.step xs bs) hs with ⟨h1, h2⟩ | ⟨mk, h1, h2, h3, h4⟩
      · exact .inl ⟨by rw [e]; exact h1, fun j => by rw [e2, e]; exact h2 j⟩
      · exact .inr ⟨mk, h1, by rw [e]; exact h2, by rw [h3, step_took]; omega, fun j => by rw [e2]; exact h4 j⟩
    · refine .inl ⟨?_, fun j => ?_⟩
      · rw [e, run_end _ _ _ _ hs]; exact step_how m xs bs h
      · rw [e2, e, run_end _ _ _ _ hs, run_end _ _ _ _ hs]

/-- Two runs, the second with more time. -/
theorem longer (xs bs : List Int) (s : St) (F M : Int) (h0 : (runA xs s bs F).2 = 0) (hl : F ≤ M) (hm : M ≤ 1000000) :
    (runA xs s bs M).2 = 0 ∧ (runA xs s bs F).1.out.length ≤ (runA xs s bs M).1.out.length ∧ (runA xs s bs F).1.took ≤ (runA xs s bs M).1.took ∧ (runA xs s bs F).1.rd ≤ (runA xs s bs M).1.rd ∧
    (¬ (runA xs s bs F).1.how = 3 → runA xs s bs M = runA xs s bs F) ∧ ((runA xs s bs F).1.how = 3 → (runA xs s bs F).1.took = F ∧ (runA xs s bs F).1.out = (runA xs s bs M).1.out.take (runA xs s bs F).1.out.length) := by
  unfold runA at h0 ⊢
  split at h0
  · exact absurd h0 (by decide)
  rename_i n1
  rw [if_neg n1, if_neg n1]
  split at h0
  · exact absurd h0 (by decide)
  rename_i n2
  rw [if_neg n2, if_neg n2]
  split at h0
  rotate_left
  · rename_i n3; exact absurd h0 n3
  rename_i n3
  rw [if_pos n3, if_pos n3]
  split at h0
  · exact absurd h0 (by decide)
  rename_i n4
  split at h0
  · exact absurd h0 (by decide)
  rename_i n5
  rw [if_neg n4, if_neg n5, if_neg (by omega), if_neg (by omega)]
  obtain ⟨j, hj⟩ : ∃ j, M.toNat = F.toNat + j := ⟨M.toNat - F.toNat, by omega⟩
  rw [hj]
  dsimp only
  rcases run_longer xs bs F.toNat (startM s) rfl with ⟨h1, h2⟩ | ⟨mk, h1, h2, h3, h4⟩
  · rw [h2 j]
    exact ⟨rfl, Nat.le_refl _, Int.le_refl _, Nat.le_refl _, fun _ => rfl, fun h => absurd h h1⟩
  · rw [h4 j, h2]
    obtain ⟨⟨t, g1⟩, g2, g3⟩ := run_mono xs bs j mk
    dsimp only
    refine ⟨rfl, by rw [g1, List.length_append]; omega, g3, g2, fun h => absurd rfl h, fun _ => ⟨?_, ?_⟩⟩
    · rw [h3]; show (0 : Int) + _ = _; omega
    · rw [g1, List.take_left]
end Go.Proofs.Ytjlbenbfmookoaa
