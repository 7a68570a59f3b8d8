/-
  ProbeGoesOn: a run that stops at a place is a run with less fuel (mathematics).
-/
import Derived.Test.YtjlbenbfmookoaaEmuP
import Derived.Test.YtjlbenbfmookoaaPrUa
namespace Go.Proofs.Ytjlbenbfmookoaa
open Go.RowKit
set_option linter.unusedSimpArgs false
set_option linter.unusedVariables false

theorem step_how6 (m : Ma) (xs bs : List Int) (h : m.how = 0) : ¬ (m.step xs bs).how = 6 := by
  unfold Ma.step
  split
  · show ¬ (4 : Int) = 6; decide
  · have := act_how ({ m with took := m.took + 1, pc := lw (m.pc + (oneA xs m.pc).2) } : Ma) (oneA xs m.pc).1 bs
    generalize ({ m with took := m.took + 1, pc := lw (m.pc + (oneA xs m.pc).2) } : Ma).act (oneA xs m.pc).1 bs = m2 at *
    dsimp only at this ⊢
    rw [h] at this
    split
    · omega
    · show ¬ m2.how = 6; omega
/-- A run that stopped took so many steps of the run that does not stop. -/
theorem goW_six {σ : Type} {xs bs : List Int} {st : Int → Bool} {tk : σ → Sht → Bool → σ} : ∀ (k : Nat) (m : Ma) (s : σ), m.how = 0 → (goW xs bs st tk k m s).1.how = 6 →
    ∃ j, j ≤ k ∧ (Ma.run xs bs j m).how = 3 ∧ (goW xs bs st tk k m s).1 = { Ma.run xs bs j m with how := 6 } ∧ (goW xs bs st tk k m s).1.took = m.took + j ∧ st (goW xs bs st tk k m s).1.pc = true
  | k, m, s, h, h6 => by
    by_cases hs : 0 < m.took ∧ st m.pc = true
    · rw [goW_stop k m s h hs.1 hs.2]
      refine ⟨0, Nat.zero_le _, ?_, ?_, ?_, hs.2⟩
      · rw [Ma.run, if_pos h]
      · rw [Ma.run, if_pos h]
      · show m.took = m.took + ((0 : Nat) : Int); omega
    · match k with
      | 0 =>
        rw [goW_fuel m s h hs] at h6
        exact absurd h6 (by show ¬ (3 : Int) = 6; decide)
      | k + 1 =>
        rw [goW_step k m s h hs] at h6 ⊢
        by_cases h2 : (m.step xs bs).how = 0
        · obtain ⟨j, a, b, c, d, e⟩ := goW_six k _ _ h2 h6
          have ht := took_step m xs bs
          refine ⟨j + 1, by omega, ?_, ?_, ?_, e⟩
          · rw [Ma.run, if_pos h]; exact b
          · rw [Ma.run, if_pos h]; exact c
          · rw [d, ht]; push_cast; omega
        · rw [goW_end _ _ _ h2] at h6
          exact absurd h6 (step_how6 m xs bs h)
/-- .. in the words of runA. -/
theorem stop_runs {xs : List Int} {s : St} {bs : List Int} {F : Int} {st : Int → Bool} {m : Ma} (h : (runW xs s bs F st (fun (u : Unit) _ _ => u) ()).1 = (m, 0)) (h6 : m.how = 6) :
    ∃ j : Nat, (j : Int) ≤ F ∧ F ≤ 1000000 ∧ m.took = j ∧ st m.pc = true ∧ (runA xs s bs j).2 = 0 ∧ (runA xs s bs j).1.how = 3 ∧ m = { (runA xs s bs j).1 with how := 6 } := by
  unfold runW at h
  by_cases h1 : 65536 < xs.length
  · rw [if_pos h1] at h; have := congrArg Prod.snd h; exact absurd this (by show ¬ (4 : Int) = 0; decide)
  rw [if_neg h1] at h
  by_cases h2 : 65536 < bs.length
  · rw [if_pos h2] at h; have := congrArg Prod.snd h; exact absurd this (by show ¬ (4 : Int) = 0; decide)
  rw [if_neg h2] at h
  by_cases h3 : s.wrong = 0
  · rw [if_pos h3] at h
    by_cases h4 : F < 0
    · rw [if_pos h4] at h; have := congrArg Prod.snd h; exact absurd this (by show ¬ (3 : Int) = 0; decide)
    rw [if_neg h4] at h
    by_cases h5 : 1000000 < F
    · rw [if_pos h5] at h; have := congrArg Prod.snd h; exact absurd this (by show ¬ (3 : Int) = 0; decide)
    rw [if_neg h5] at h
    have e := congrArg Prod.fst h
    dsimp only at e
    obtain ⟨j, a, b, c, d, f⟩ := goW_six (xs := xs) (bs := bs) (st := st) (tk := fun (u : Unit) _ _ => u) F.toNat (startM s) () rfl (by rw [e]; exact h6)
    rw [e] at c d f
    have hr : runA xs s bs (j : Int) = (Ma.run xs bs j (startM s), 0) := by
      unfold runA
      rw [if_neg h1, if_neg h2, if_pos h3, if_neg (by omega), if_neg (by omega), Int.toNat_natCast]
    refine ⟨j, by omega, by omega, ?_, f, ?_, ?_, ?_⟩
    · rw [d]; show (0 : Int) + j = j; omega
    · rw [hr]
    · rw [hr]; exact b
    · rw [hr]; exact c
  · rw [if_neg h3] at h; have := congrArg Prod.snd h; exact absurd this h3
/-- What comes of going on. -/
theorem goes_math {xs : List Int} {s : St} {bs : List Int} {F : Int} {pl : List Int} {m : Ma} (h : (runW xs s bs F (isAt pl) (fun (u : Unit) _ _ => u) ()).1 = (m, 0)) (h6 : m.how = 6) (hf : m.Fine bs) :
    isAt pl m.pc = true ∧ 0 ≤ m.took ∧ m.took ≤ F ∧ F ≤ 1000000 ∧ (runA xs m.left (bs.drop m.rd) (F - m.took)).2 = 0 ∧ (runA xs s bs F).2 = 0 ∧
    (m.out.length + (runA xs m.left (bs.drop m.rd) (F - m.took)).1.out.length ≤ 65536 → (runA xs s bs F).1 = (runA xs m.left (bs.drop m.rd) (F - m.took)).1.shift m.out m.rd m.took) := by
  obtain ⟨j, a, b, c, d, e, f, g⟩ := stop_runs h h6
  have e1 : m.left = (runA xs s bs j).1.left := by rw [g]; rfl
  have e2 : m.rd = (runA xs s bs j).1.rd := by rw [g]
  have e3 : m.out = (runA xs s bs j).1.out := by rw [g]
  have e4 : m.took = (runA xs s bs j).1.took := by rw [g]
  have hf2 : (runA xs s bs j).1.Fine bs := by
    refine ⟨fun i hi => ?_, fun i hi => ?_, ?_, ?_, ?_, ?_, hf.inp⟩
    · have := hf.r i hi; rw [g] at this; exact this
    · have := hf.mem i hi; rw [g] at this; exact this
    · have := hf.pc; rw [g] at this; exact this
    · have := hf.out; rw [g] at this; exact this
    · have := hf.told; rw [g] at this; exact this
    · have := hf.rd; rw [g] at this; exact this
  obtain ⟨p, q, r⟩ := split_runs xs bs s j (F - j) e f hf2 (by omega) (by omega) (by omega)
  rw [show (j : Int) + (F - j) = F by omega] at q r
  rw [← e1, ← e2] at p r
  rw [← e3, ← e4] at r
  rw [← c] at p r
  exact ⟨d, by omega, by omega, b, p, q, r⟩
end Go.Proofs.Ytjlbenbfmookoaa
