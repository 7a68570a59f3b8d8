/-
  The document's answer on lines: Digits. (Where 9 is its Show.)
-/
import Derived.Test.YtoopgkbefhoeiaaDoorShA
namespace Go.Proofs.YtoopgkbefhoeiaaDoor
open Go.RowKit
set_option linter.unusedSimpArgs false
set_option linter.unusedVariables false

theorem enc_dig (d : Nat) (h : d < 10) : Utf8.encode (48 + (d : Int)) = ba [UInt8.ofNat (48 + d)] := by
  have : d = 0 ∨ d = 1 ∨ d = 2 ∨ d = 3 ∨ d = 4 ∨ d = 5 ∨ d = 6 ∨ d = 7 ∨ d = 8 ∨ d = 9 := by omega
  rcases this with rfl | rfl | rfl | rfl | rfl | rfl | rfl | rfl | rfl | rfl <;> rfl
set_option maxRecDepth 100000 in
set_option maxHeartbeats 1000000 in
theorem digits4_nat (n : Nat) (hn : n ≤ 65535) (w : World) : Calls Tryd.prog 24 #[.int .i64 (n : Int)] w fun e w' => e = .returned (.string (ba (Lib.decDigits n))) ∧ Below w.heap.size w w' := by
  induction n using Nat.strongRecOn generalizing w with
  | _ n ih =>
    by_cases h : n < 10
    · have e : Lib.decDigits n = [UInt8.ofNat (48 + n)] := by rw [Lib.decDigits, dif_pos h]
      rw [e, ← enc_dig n h]
      have h' : (n : Int) < 10 := by omega
      go_enter Tryd.func24, Tryd.ntmps24
      go_wp2_with fail
      go_ret
      exact ⟨rfl, Below.refl _ _⟩
    · have e : Lib.decDigits n = Lib.decDigits (n / 10) ++ [UInt8.ofNat (48 + n % 10)] := by rw [Lib.decDigits, dif_neg h]
      have IH := ih (n / 10) (by omega) (by omega)
      have h' : ¬ (n : Int) < 10 := by omega
      have hq : ((n / 10 : Nat) : Int) = (n : Int) / 10 := by omega
      have hr : ((n % 10 : Nat) : Int) = (n : Int) % 10 := by omega
      have hen := enc_dig (n % 10) (by omega)
      have hsz : (ba (Lib.decDigits (n / 10))).size ≤ 5 := by rw [ba_size, Lib.decDigits_length]; exact nDig5 (by omega)
      have hdl : (ba [UInt8.ofNat (48 + n % 10)]).size = 1 := rfl
      have hcat : ba (Lib.decDigits (n / 10)) ++ ba [UInt8.ofNat (48 + n % 10)] = ba (Lib.decDigits n) := by rw [e]; exact ba_cat _ _
      have hno : ¬ 9223372036854775807 < (ba (Lib.decDigits (n / 10))).size + (ba [UInt8.ofNat (48 + n % 10)]).size := by omega
      rw [← hcat]
      rw [hr] at hen
      rw [hq] at IH
      rw [← hen] at hno ⊢
      clear hcat hdl hsz hen hr hq e ih
      generalize ba (Lib.decDigits (n / 10)) = A at *
      go_enter Tryd.func24, Tryd.ntmps24
      go_wp2_with fail
      refine (IH _).mono ?_
      rintro e w1 ⟨rfl, k1⟩
      go_wp2_with fail
      go_ret
      exact ⟨rfl, k1⟩
theorem digits4_any (n : Int) (h : 0 ≤ n ∧ n ≤ 65535) (w : World) : Calls Tryd.prog 24 #[.int .i64 n] w fun e w' => e = .returned (.string (ba (Lib.itoa n))) ∧ Below w.heap.size w w' := by
  obtain ⟨k, rfl⟩ : ∃ k : Nat, n = k := ⟨n.toNat, by omega⟩
  rw [Lib.itoa_nonneg]
  exact digits4_nat k (by omega) w
end Go.Proofs.YtoopgkbefhoeiaaDoor
