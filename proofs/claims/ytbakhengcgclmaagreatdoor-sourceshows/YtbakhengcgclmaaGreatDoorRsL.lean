/-
  Writing: the document's answer: digits; programs on the way (written by mkRsL.py).
-/
import Derived.Test.YtbakhengcgclmaaGreatDoorRsK
import Derived.Test.YtbakhengcgclmaaGreatDoorRwE
namespace Go.Proofs.YtbakhengcgclmaaGreatDoor
open Go.RowKit Go.Great
set_option linter.unusedSimpArgs false
set_option linter.unusedVariables false

set_option maxRecDepth 100000 in
set_option maxHeartbeats 1000000 in
theorem rdig_any (n : Nat) (hn : n ≤ 9223372036854775807) (w : World) : Calls Tryz.prog 14 #[.int .i64 (n : Int)] w fun e w' => e = .returned (.string (ba (Lib.decDigits n))) ∧ Below w.heap.size w w' := by
  induction n using Nat.strongRecOn generalizing w with
  | _ n ih =>
    by_cases h : n < 10
    · have e : Lib.decDigits n = [UInt8.ofNat (48 + n)] := by rw [Lib.decDigits, dif_pos h]
      rw [e, ← enc_d8 n h]
      have h' : (n : Int) < 10 := by omega
      go_enter Tryz.func14, Tryz.ntmps14
      go_wp2_with fail
      go_ret
      exact ⟨rfl, Below.refl _ _⟩
    · have e : Lib.decDigits n = Lib.decDigits (n / 10) ++ [UInt8.ofNat (48 + n % 10)] := by rw [Lib.decDigits, dif_neg h]
      have IH := ih (n / 10) (by omega) (by omega)
      have h' : ¬ (n : Int) < 10 := by omega
      have hq : ((n / 10 : Nat) : Int) = (n : Int) / 10 := by omega
      have hr : ((n % 10 : Nat) : Int) = (n : Int) % 10 := by omega
      have hen := enc_d8 (n % 10) (by omega)
      have hsz : (ba (Lib.decDigits (n / 10))).size ≤ 20 := by rw [ba_size]; exact decDigits_le _ (by omega)
      have hdl : (ba [UInt8.ofNat (48 + n % 10)]).size = 1 := rfl
      have hcat : ba (Lib.decDigits (n / 10)) ++ ba [UInt8.ofNat (48 + n % 10)] = ba (Lib.decDigits n) := by rw [e]; exact bcat _ _
      have hno : ¬ 9223372036854775807 < (ba (Lib.decDigits (n / 10))).size + (ba [UInt8.ofNat (48 + n % 10)]).size := by omega
      rw [← hcat]
      rw [hr] at hen
      rw [hq] at IH
      rw [← hen] at hno ⊢
      clear hcat hdl hsz hen hr hq e ih
      generalize ba (Lib.decDigits (n / 10)) = A at *
      go_enter Tryz.func14, Tryz.ntmps14
      go_wp2_with fail
      refine (IH _).mono ?_
      rintro e w1 ⟨rfl, k1⟩
      go_wp2_with fail
      go_ret
      exact ⟨rfl, k1⟩
theorem kdF (f : Fn8) (c : Nat) (h : (lkF f c).1 = 0) : ∀ y ∈ f.body, KdS y := by
  unfold lkF at h
  split at h
  · cases h
  · split at h
    · cases h
    · split at h
      · cases h
      · split at h
        · rename_i h4; exact absurd h h4
        · split at h
          · rename_i h5; exact absurd h h5
          · exact kdL f.body (fun y _ => kgood y) _ _ h
theorem kdFs (fs : List Fn8) : ∀ c, (lkFs fs c).1 = 0 → ∀ f ∈ fs, ∀ y ∈ f.body, KdS y := by
  induction fs with
  | nil => intro c _ f hf; simp at hf
  | cons a l ih =>
    intro c h f hf
    rw [lkFs_cons] at h
    obtain ⟨r1, e1⟩ := thn_zero h
    rw [e1] at h
    rcases List.mem_cons.1 hf with rfl | hf
    · exact kdF _ _ r1
    · exact ih _ h f hf
theorem kdP (p : Pg) (h : (lkP p).1 = 0) : ∀ f ∈ p.funcs, ∀ y ∈ f.body, KdS y := by
  have e : lkP p = if 100 < p.funcs.length then (5, 0) else thn (lkGs p.globals 0) (lkFs p.funcs) := rfl
  rw [e] at h
  split at h
  · cases h
  · obtain ⟨r1, e1⟩ := thn_zero h
    rw [e1] at h
    exact kdFs _ _ h
/-- On the way through a program that the document writes. -/
structure Dp (w W : World) (p : Pg) (v1 v2 : Value) : Prop where
  d : Below w.heap.size w W
  bx : Box W w.heap.size [v1, v2]
  hp : PgL w.heap.size W v1 v2 p
theorem Dp.next {w W W' : World} {p : Pg} {v1 v2 : Value} (h : Dp w W p v1 v2) (q : Below W.heap.size W W') : Dp w W' p v1 v2 :=
  ⟨bT h.d q, h.bx.step q, h.hp.step (q.mono h.d.size)⟩
theorem Box.lt8 {w : World} {b : Nat} {l : List Value} (h : Box w b l) : b < w.heap.size := h.1
end Go.Proofs.YtbakhengcgclmaaGreatDoor
