/-
  Watched runs: what steps tell (mathematics).
-/
import Derived.Test.YtjlbenbfmookoaaEmuV
namespace Go.Proofs.Ytjlbenbfmookoaa
open Go.RowKit
set_option linter.unusedSimpArgs false
set_option linter.unusedVariables false

theorem tell_pc (m : Ma) (x : Int) : (m.tell x).pc = m.pc := by unfold Ma.tell; split <;> rfl
theorem take_pc (m : Ma) (bs : List Int) : (m.take bs).pc = m.pc := by unfold Ma.take; split <;> rfl
theorem ite_pc {c : Prop} [Decidable c] {a b : Ma} {x : Int} (ha : c → a.pc = x) (hb : ¬ c → b.pc = x) : (if c then a else b).pc = x := by
  split
  · exact ha (by assumption)
  · exact hb (by assumption)
/-- What does not jump goes on behind itself. -/
theorem act_pc (m : Ma) (i : Ins) (bs : List Int) (h : i.o < 19 ∨ 27 < i.o) (h0 : 0 ≤ i.o) : (m.act i bs).pc = m.pc := by
  unfold Ma.act
  repeat' refine ite_pc (fun _ => ?_) (fun _ => ?_)
  all_goals first | rfl | exact tell_pc _ _ | exact take_pc _ _ | omega
theorem took_act (m : Ma) (i : Ins) (bs : List Int) : (m.act i bs).took = m.took := by
  simp only [Ma.act, Ma.jump, Ma.tell, Ma.take, apply_ite Ma.took, Ma.setR, Ma.st, Ma.sum, Ma.cmp, Ma.dif, Ma.become, Ma.push, Ma.pop, ite_self]
theorem took_step (m : Ma) (xs bs : List Int) : (m.step xs bs).took = m.took + 1 := by
  unfold Ma.step
  split
  · rfl
  · dsimp only
    split
    · rw [took_act]
    · dsimp only; rw [took_act]
theorem step_bad {m : Ma} {xs bs : List Int} (h : (oneA xs m.pc).2 = 0) : m.step xs bs = { m with took := m.took + 1, how := 4 } := by
  unfold Ma.step; rw [if_pos h]
theorem step_pc {m : Ma} {xs bs : List Int} (h : ¬ (oneA xs m.pc).2 = 0) (hh : (m.step xs bs).how = 0) (ho : (oneA xs m.pc).1.o < 19 ∨ 27 < (oneA xs m.pc).1.o) (h0 : 0 ≤ (oneA xs m.pc).1.o) : (m.step xs bs).pc = lw (m.pc + (oneA xs m.pc).2) := by
  unfold Ma.step at hh ⊢
  rw [if_neg h] at hh ⊢
  dsimp only at hh ⊢
  split
  · rw [act_pc _ _ _ ho h0]
  · rename_i h2
    rw [if_neg h2] at hh
    exact absurd hh h2
theorem one_in {xs : List Int} {p : Int} (h : ¬ (oneA xs p).2 = 0) : 0 ≤ p ∧ p < xs.length := by
  unfold oneA at h
  by_cases hp : 0 ≤ p
  · refine ⟨hp, ?_⟩
    rw [if_pos hp] at h
    by_cases hl : p < xs.length
    · exact hl
    · rw [List.drop_eq_nil_of_le (by omega)] at h
      exact absurd rfl h
  · rw [if_neg hp] at h
    exact absurd rfl h

/-- The first steps at which instructions stand, so many at most. -/
def tkT (most : Nat) (l : List Sht) (x : Sht) (b : Bool) : List Sht := if b = true ∧ l.length < most then l ++ [x] else l
/-- What is asked of the steps. -/
structure TrOk (xs : List Int) (a0 : Int) (l : List Sht) : Prop where
  one : ∀ i (h : i < l.length), ¬ (oneA xs l[i].a).2 = 0 ∧ (oneA xs l[i].a).1 = l[i].i
  at0 : ∀ h : 0 < l.length, l[0].a = a0
  next : ∀ i (h : i + 1 < l.length), (l[i].i.o < 19 ∨ 27 < l[i].i.o) → l[i + 1].a = lw (l[i].a + (oneA xs l[i].a).2)
structure TrJ (xs : List Int) (a0 : Int) (most : Nat) (m : Ma) (l : List Sht) : Prop where
  ok : TrOk xs a0 l
  le : l.length ≤ most
  tk : (l.length : Int) ≤ m.took
  full : l.length < most → (l.length : Int) = m.took
  pc0 : m.took = 0 → m.pc = a0
  pc : (l.length : Int) = m.took → ∀ h : 0 < l.length, (l[l.length - 1].i.o < 19 ∨ 27 < l[l.length - 1].i.o) → m.pc = lw (l[l.length - 1].a + (oneA xs l[l.length - 1].a).2)
theorem seen_ok {xs bs : List Int} {a0 : Int} {most : Nat} {m : Ma} {l : List Sht} (ho : ∀ p, ¬ (oneA xs p).2 = 0 → 0 ≤ (oneA xs p).1.o) (J : TrJ xs a0 most m l) :
    TrOk xs a0 (m.seen xs bs (tkT most) l) ∧ (m.seen xs bs (tkT most) l).length ≤ most ∧ ((m.seen xs bs (tkT most) l).length : Int) ≤ (m.step xs bs).took ∧ ((m.step xs bs).how = 0 → TrJ xs a0 most (m.step xs bs) (m.seen xs bs (tkT most) l)) := by
  have ht := took_step m xs bs
  have h0 := J.tk
  unfold Ma.seen tkT
  by_cases hn : (oneA xs m.pc).2 = 0
  · rw [if_neg (by simp [hn])]
    refine ⟨J.ok, J.le, by omega, fun h => ?_⟩
    rw [step_bad hn] at h
    exact absurd h (by show ¬ (4 : Int) = 0; decide)
  · by_cases hl : l.length < most
    · rw [if_pos ⟨by simp [hn], hl⟩]
      have hf := J.full hl
      have ok : TrOk xs a0 (l ++ [shtOf m.pc (oneA xs m.pc).1 (m.step xs bs)]) := by
        refine ⟨fun i h => ?_, fun h => ?_, fun i h hj => ?_⟩
        · rw [List.getElem_append]
          split
          · exact J.ok.one i _
          · have : i - l.length = 0 := by simp at h; omega
            simp only [this, List.getElem_cons_zero]
            exact ⟨hn, rfl⟩
        · by_cases he : 0 < l.length
          · rw [List.getElem_append_left he]; exact J.ok.at0 he
          · have e0 : l = [] := List.eq_nil_of_length_eq_zero (by omega)
            subst e0
            exact J.pc0 (by simp at hf; omega)
        · by_cases he : i + 1 < l.length
          · rw [List.getElem_append_left he, List.getElem_append_left (by omega)]
            rw [List.getElem_append_left (by omega)] at hj
            exact J.ok.next i he hj
          · have e1 : i + 1 = l.length := by simp at h; omega
            have e2 : i = l.length - 1 := by omega
            subst e2
            have hlt : l.length - 1 < l.length := by omega
            have e4 : (l ++ [shtOf m.pc (oneA xs m.pc).1 (m.step xs bs)])[l.length - 1]'(by simp; omega) = l[l.length - 1] := List.getElem_append_left hlt
            have e5 : (l ++ [shtOf m.pc (oneA xs m.pc).1 (m.step xs bs)])[l.length - 1 + 1]'h = shtOf m.pc (oneA xs m.pc).1 (m.step xs bs) := by
              rw [List.getElem_append_right (by omega)]
              have e6 : l.length - 1 + 1 - l.length = 0 := by omega
              simp only [e6, List.getElem_cons_zero]
            rw [e4] at hj
            rw [e4, e5]
            exact J.pc hf (by omega) hj
      have hlen : (l ++ [shtOf m.pc (oneA xs m.pc).1 (m.step xs bs)]).length = l.length + 1 := by simp
      refine ⟨ok, by omega, by omega, fun h => ⟨ok, by omega, by omega, fun _ => by omega, fun h9 => by omega, fun _ h1 hj => ?_⟩⟩
      have e3 : (l ++ [shtOf m.pc (oneA xs m.pc).1 (m.step xs bs)])[(l ++ [shtOf m.pc (oneA xs m.pc).1 (m.step xs bs)]).length - 1] = shtOf m.pc (oneA xs m.pc).1 (m.step xs bs) := by
        rw [List.getElem_append_right (by simp)]
        simp
      rw [e3] at hj ⊢
      exact step_pc hn h hj (ho _ hn)
    · rw [if_neg (fun h => hl h.2)]
      have hle := J.le
      refine ⟨J.ok, J.le, by omega, fun h => ⟨J.ok, J.le, by omega, fun h9 => absurd h9 hl, fun h9 => by omega, fun h9 => by omega⟩⟩
theorem goW_trace {xs bs : List Int} {a0 : Int} {most : Nat} {st : Int → Bool} (ho : ∀ p, ¬ (oneA xs p).2 = 0 → 0 ≤ (oneA xs p).1.o) : ∀ (k : Nat) (m : Ma) (l : List Sht), m.how = 0 → TrJ xs a0 most m l →
    TrOk xs a0 (goW xs bs st (tkT most) k m l).2 ∧ (goW xs bs st (tkT most) k m l).2.length ≤ most ∧ ((goW xs bs st (tkT most) k m l).2.length : Int) ≤ (goW xs bs st (tkT most) k m l).1.took
  | k, m, l, h, J => by
    by_cases hs : 0 < m.took ∧ st m.pc = true
    · rw [goW_stop k m l h hs.1 hs.2]; exact ⟨J.ok, J.le, J.tk⟩
    · match k with
      | 0 => rw [goW_fuel m l h hs]; exact ⟨J.ok, J.le, J.tk⟩
      | k + 1 =>
        rw [goW_step k m l h hs]
        obtain ⟨a, b, c, d⟩ := seen_ok (bs := bs) ho J
        by_cases h2 : (m.step xs bs).how = 0
        · exact goW_trace ho k _ _ h2 (d h2)
        · rw [goW_end _ _ _ h2]; exact ⟨a, b, c⟩
theorem wrap16 {x : Int} (h : 0 ≤ x) (h' : x < 9223372036854775808) : IntKind.i64.wrap x = x := by simp [IntKind.wrap, IntKind.bits, IntKind.signed]; omega
/-- How often each word was come to. -/
def tkH (l : List Int) (x : Sht) (_ : Bool) : List Int := if 0 ≤ x.a ∧ x.a < l.length then l.set x.a.toNat (IntKind.i64.wrap (l.getD x.a.toNat 0 + 1)) else l
theorem sum_set : ∀ (l : List Int) (n : Nat), n < l.length → (l.set n (l.getD n 0 + 1)).sum = l.sum + 1
  | [], n, h => by simp at h
  | x :: l, 0, _ => by simp; omega
  | x :: l, n + 1, h => by
    have := sum_set l n (by simpa using h)
    simp only [List.set_cons_succ, List.sum_cons, List.getD_cons_succ] at this ⊢
    omega
structure HtJ (xs : List Int) (l : List Int) (t : Int) : Prop where
  len : l.length = xs.length
  pos : ∀ x ∈ l, 0 ≤ x ∧ x ≤ t
theorem tkH_ok {xs l : List Int} {t : Int} (J : HtJ xs l t) (ht : 0 ≤ t) (ht' : t ≤ 1000000) (x : Sht) (b : Bool) : HtJ xs (tkH l x b) (t + 1) ∧ (0 ≤ x.a ∧ x.a < xs.length → (tkH l x b).sum = l.sum + 1) ∧ (¬ (0 ≤ x.a ∧ x.a < xs.length) → tkH l x b = l) := by
  unfold tkH
  rw [J.len]
  by_cases h : 0 ≤ x.a ∧ x.a < xs.length
  · rw [if_pos h]
    have hg : 0 ≤ l.getD x.a.toNat 0 ∧ l.getD x.a.toNat 0 ≤ t := by
      rw [List.getD_eq_getElem?_getD, List.getElem?_eq_getElem (by rw [J.len]; omega)]
      exact J.pos _ (List.getElem_mem _)
    rw [wrap16 (by omega) (by omega)]
    refine ⟨⟨by simp [J.len], fun y hy => ?_⟩, fun _ => sum_set _ _ (by rw [J.len]; omega), fun hn => absurd h hn⟩
    rcases List.mem_or_eq_of_mem_set hy with hy | rfl
    · have := J.pos y hy; omega
    · omega
  · rw [if_neg h]; exact ⟨⟨J.len, fun y hy => by have := J.pos y hy; omega⟩, fun hn => absurd hn h, fun _ => rfl⟩
/-- Each step is somewhere. -/
theorem goW_hits {xs bs : List Int} {st : Int → Bool} : ∀ (k : Nat) (m : Ma) (l : List Int), m.how = 0 → HtJ xs l m.took → 0 ≤ m.took → m.took + k ≤ 1000000 →
    (goW xs bs st tkH k m l).2.length = xs.length ∧ (∀ x ∈ (goW xs bs st tkH k m l).2, 0 ≤ x ∧ x ≤ 1000000) ∧ ((goW xs bs st tkH k m l).2.sum + m.took = l.sum + (goW xs bs st tkH k m l).1.took ∨ ((goW xs bs st tkH k m l).1.how = 4 ∧ (goW xs bs st tkH k m l).2.sum + 1 + m.took = l.sum + (goW xs bs st tkH k m l).1.took ∧ ((xs.length : Int) ≤ (goW xs bs st tkH k m l).1.pc ∨ (goW xs bs st tkH k m l).1.pc < 0)))
  | k, m, l, h, J, hp, hk => by
    have hJ : ∀ x ∈ l, 0 ≤ x ∧ x ≤ 1000000 := fun x hx => by have := J.pos x hx; omega
    by_cases hs : 0 < m.took ∧ st m.pc = true
    · rw [goW_stop k m l h hs.1 hs.2]; exact ⟨J.len, hJ, .inl rfl⟩
    · match k, hk with
      | 0, hk => rw [goW_fuel m l h hs]; exact ⟨J.len, hJ, .inl rfl⟩
      | k + 1, hk =>
        rw [goW_step k m l h hs]
        have ht := took_step m xs bs
        obtain ⟨a, b, c⟩ := tkH_ok J hp (by omega) (shtOf m.pc (oneA xs m.pc).1 (m.step xs bs)) (decide (¬ (oneA xs m.pc).2 = 0))
        have e : m.seen xs bs tkH l = tkH l (shtOf m.pc (oneA xs m.pc).1 (m.step xs bs)) (decide (¬ (oneA xs m.pc).2 = 0)) := rfl
        rw [← e] at a b c
        have ea : (shtOf m.pc (oneA xs m.pc).1 (m.step xs bs)).a = m.pc := rfl
        rw [ea] at b c
        have ha : ∀ x ∈ m.seen xs bs tkH l, 0 ≤ x ∧ x ≤ 1000000 := fun x hx => by have := a.pos x hx; omega
        rw [← ht] at a
        by_cases hin : 0 ≤ m.pc ∧ m.pc < xs.length
        · have hb := b hin
          by_cases h2 : (m.step xs bs).how = 0
          · obtain ⟨r1, r3, r2⟩ := goW_hits (bs := bs) (st := st) k _ _ h2 a (by omega) (by omega)
            refine ⟨r1, r3, ?_⟩
            rcases r2 with r2 | ⟨r2, r3, r4⟩
            · left; omega
            · right; exact ⟨r2, by omega, r4⟩
          · rw [goW_end _ _ _ h2]
            refine ⟨a.len, ha, .inl ?_⟩
            show (m.seen xs bs tkH l).sum + m.took = l.sum + (m.step xs bs).took
            omega
        · have hb := c hin
          have hn : (oneA xs m.pc).2 = 0 := by
            by_cases hn : (oneA xs m.pc).2 = 0
            · exact hn
            · exact absurd (one_in hn) hin
          have h2 : ¬ (m.step xs bs).how = 0 := by rw [step_bad hn]; show ¬ (4 : Int) = 0; decide
          rw [goW_end _ _ _ h2]
          refine ⟨a.len, ha, .inr ⟨by rw [step_bad hn], ?_, ?_⟩⟩
          · show (m.seen xs bs tkH l).sum + 1 + m.took = l.sum + (m.step xs bs).took
            rw [hb]; omega
          · show (xs.length : Int) ≤ (m.step xs bs).pc ∨ (m.step xs bs).pc < 0
            rw [step_bad hn]
            show (xs.length : Int) ≤ m.pc ∨ m.pc < 0
            omega
end Go.Proofs.Ytjlbenbfmookoaa
