/-
  (*linker).owner, place.
-/
import Derived.Test.YtodfjomglgmffaaGreatDoorLkPz
namespace Go.Proofs.YtodfjomglgmffaaGreatDoor
open Go.RowKit Go.Maps
set_option linter.unusedSimpArgs false
set_option linter.unusedVariables false

def faL (k : List UInt8) : Bool := match k with | [] => false | x :: _ => ((x.toNat : Int) != 46)
theorem fa_list (s : ByteArray) : fa s = faL s.toList := by
  unfold fa emp faL
  cases h : s.toList with
  | nil => rfl
  | cons x r =>
    have hz : 0 < s.size := by
      rcases Nat.eq_zero_or_pos s.size with h0 | h0
      · obtain rfl : s = ByteArray.empty := by simpa using h0
        rw [ByteArray.toList_eq] at h; cases h
      · exact h0
    rw [byt_at hz]
    have e : s[0] = x := by
      rw [ByteArray.toList_eq] at h
      have h2 : s.data.toList[0]? = some x := by rw [h]; rfl
      rw [Array.getElem?_toList] at h2
      have h3 := (Array.getElem?_eq_some_iff.1 h2).2
      exact h3
    rw [e]; simp
def ownerL (O : Nmd) (P : List (Pt × Nat)) (n : Nat) (k : List UInt8) : Int × Bool :=
  if faL k = true then (atA O k, hasA O k) else ((n : Int), match P[n]? with | some p => hasA p.1.A k | none => false)
theorem ownerL_all {O : Nmd} {P : List (Pt × Nat)} {n : Nat} {k : List UInt8} (h : faL k = true) : ownerL O P n k = (atA O k, hasA O k) := by unfold ownerL; rw [if_pos h]
theorem ownerL_own {O : Nmd} {P : List (Pt × Nat)} {n : Nat} {k : List UInt8} (h : faL k = false) (hn : n < P.length) : ownerL O P n k = ((n : Int), hasA (P[n]'hn).1.A k) := by unfold ownerL; rw [if_neg (by simp [h]), List.getElem?_eq_getElem hn]

set_option maxHeartbeats 1000000 in
theorem owner_any (c : Lf) (s : Ls) (vo : Value) (u : World) (x : ByteArray) (n : Nat) (h : LkAt c s vo u) (hn : n < s.P.length) (hx : x.size ≤ maxLen) :
    Calls Tryz.prog 93 #[.pointer (some ⟨c.pk, 0, none⟩), .string x, .int .i64 n] u fun e u' => e = .returned (.tuple #[.int .i64 (ownerL c.O s.P n x.toList).1, .bool (ownerL c.O s.P n x.toList).2]) ∧ u' = u := by
  obtain ⟨hB, hM, hP, hO, hpB, hoB, hpo⟩ := h
  have FA := fun w => forAll_any x w
  rw [fa_list] at FA
  have b1 := hB.2.1 1 _ rfl
  have b2 := hB.2.1 2 _ rfl
  have HM := hideI hM
  by_cases hf : faL x.toList = true
  · rw [ownerL_all hf]
    rw [hf] at FA
    clear hB hM hP hO
    go_enter Tryz.func93, Tryz.ntmps93
    go_wp2_with fail
    refine (FA _).mono ?_
    rintro e w1 ⟨rfl, hw⟩
    subst w1
    go_wp2_with (at_lookup; refine wpList_look_ok rfl (.tmp 18) (.tmp 19) rfl c.ow c.O rfl (unhideI HM) x rfl hx ?_)
    go_ret2
    exact ⟨rfl, rfl⟩
  · replace hf : faL x.toList = false := by simpa using hf
    rw [ownerL_own hf hn]
    rw [hf] at FA
    have hne : s.P ≠ [] := by intro e; rw [e] at hn; simp at hn
    obtain ⟨g, cap, hvp, hBg, hgl, hfz, hcs⟩ := hP.at hne
    rw [hvp] at b1
    obtain ⟨c0, -, -, -⟩ := hcs n hn
    have MP := hideI ((hP.2 _ (List.getElem_mem hn)).1)
    generalize s.P[n] = pn at *
    clear hB hM hP hO hcs hfz
    go_enter Tryz.func93, Tryz.ntmps93
    go_wp2_with fail
    refine (FA _).mono ?_
    rintro e w1 ⟨rfl, hw⟩
    subst w1
    go_wp2_with (at_lookup; refine wpList_look_ok rfl (.tmp 33) (.tmp 34) rfl pn.2 pn.1.A rfl (unhideI MP) x rfl hx ?_)
    go_ret2
    exact ⟨rfl, rfl⟩

set_option maxHeartbeats 1000000 in
theorem placeL_any (c : Lf) (s : Ls) (vo : Value) (u : World) (x : ByteArray) (n : Nat) (h : LkAt c s vo u) (hn : n < s.P.length) (hx : x.size ≤ maxLen) (h0 : 0 ≤ (s.P[n]'hn).1.start) (h1 : (s.P[n]'hn).1.start ≤ 30000000) (h2 : 0 ≤ atA (s.P[n]'hn).1.A x.toList) (h3 : atA (s.P[n]'hn).1.A x.toList ≤ 65536) :
    Calls Tryz.prog 53 #[.pointer (some ⟨c.pk, 0, none⟩), .string x, .int .i64 n] u fun e u' => e = .returned (.int .i64 ((s.P[n]'hn).1.start + atA (s.P[n]'hn).1.A x.toList)) ∧ ∃ q, u' = u.drewN q := by
  obtain ⟨hB, hM, hP, hO, hpB, hoB, hpo⟩ := h
  have b1 := hB.2.1 1 _ rfl
  have hne : s.P ≠ [] := by intro e; rw [e] at hn; simp at hn
  obtain ⟨g, cap, hvp, hBg, hgl, hfz, hcs⟩ := hP.at hne
  rw [hvp] at b1
  obtain ⟨c0, -, -, c3⟩ := hcs n hn
  have RO := fun q => (((hP.2 _ (List.getElem_mem hn)).1).drewN q).run x hx
  generalize s.P[n] = pn at *
  obtain ⟨⟨A, nw, pt, st⟩, bm⟩ := pn
  dsimp only at *
  generalize atA A x.toList = y at *
  clear hB hM hP hO hcs hfz
  go_enter Tryz.func53, Tryz.ntmps53
  go_wp2_with fail
  go_quiet (fail)
  go_wp2_with fail
  go_ret
  exact ⟨rfl, _, rfl⟩
end Go.Proofs.YtodfjomglgmffaaGreatDoor
