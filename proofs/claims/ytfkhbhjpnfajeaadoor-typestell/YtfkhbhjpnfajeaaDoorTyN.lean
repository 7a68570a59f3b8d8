/-
  Types of numbers: how a type is written.
-/
import Derived.Test.YtfkhbhjpnfajeaaDoorTyA
import Derived.Test.YtfkhbhjpnfajeaaDoorShelf
namespace Go.Proofs.YtfkhbhjpnfajeaaDoor
open Go.RowKit
set_option linter.unusedSimpArgs false
set_option linter.unusedVariables false

/-- How a type of numbers is written. -/
def dgT (b : Int) : Array UInt8 := if b = 8 then #[56] else if b = 16 then #[49, 54] else if b = 32 then #[51, 50] else #[54, 52]
def nmT (b : Int) (s : Bool) : ByteArray := (if s = true then ⟨#[105]⟩ else ⟨#[117]⟩) ++ ⟨dgT b⟩
theorem dec8 : Lib.decDigits 8 = [56] := by decide +kernel
theorem dec16 : Lib.decDigits 16 = [49, 54] := by decide +kernel
theorem dec32 : Lib.decDigits 32 = [51, 50] := by decide +kernel
theorem dec64 : Lib.decDigits 64 = [54, 52] := by decide +kernel
theorem itoa_w (b : Int) (w : World) (h : IsW b) : Calls Tryd.prog 31 #[.int .i64 b] w fun e w' => e = .returned (.string ⟨dgT b⟩) ∧ w' = w := by
  have H8 := Tryd.strconv_Itoa_small 8 (by decide) w
  have H16 := Tryd.strconv_Itoa_small 16 (by decide) w
  have H32 := Tryd.strconv_Itoa_small 32 (by decide) w
  have H64 := Tryd.strconv_Itoa_small 64 (by decide) w
  rw [dec8] at H8
  rw [dec16] at H16
  rw [dec32] at H32
  rw [dec64] at H64
  rcases h with rfl | rfl | rfl | rfl
  · exact H8
  · exact H16
  · exact H32
  · exact H64
set_option maxHeartbeats 1000000 in
theorem name_yes (b : Int) (s : Bool) (w : World) (h : IsW b) : Calls Tryd.prog 10 #[.agg #[.int .i64 b, .bool s]] w fun e w' => e = .returned (.string (nmT b s)) ∧ Below w.heap.size w w' := by
  have HI := hide (fun (w : World) => itoa_w b w h)
  have HV := hide (fun (w : World) => tvalid_yes b s w h)
  have h0 : (b == 0) = false := by rcases h with rfl | rfl | rfl | rfl <;> decide
  have hD : ¬ (9223372036854775807 < 1 + (dgT b).size) := by rcases h with rfl | rfl | rfl | rfl <;> decide
  cases s
  all_goals
    unfold nmT
    generalize dgT b = D at *
    go_enter Tryd.func10, Tryd.ntmps10
    go_wp2_with (first | (go_at_call 8; refine (unhide HV _).mono ?_; rintro e w1 ⟨rfl, k1⟩; have R1 := hide ((Box.new w #[_, _] 23).step k1); obtain ⟨x0, x1⟩ := (unhide R1).at2) | (go_at_call 31; refine (unhide HI _).mono ?_; rintro e w' ⟨rfl, rfl⟩))
    go_ret
    exact ⟨rfl, bT (below_a _ _) k1⟩
theorem name_no (b : Int) (s : Bool) (w : World) (h : NoW b) : Calls Tryd.prog 10 #[.agg #[.int .i64 b, .bool s]] w fun e w' => e = .returned (.string (if b = 0 then ⟨#[118, 111, 105, 100]⟩ else ⟨#[]⟩)) ∧ Below w.heap.size w w' := by
  have HV := hide (fun (w : World) => tvalid_no b s w h)
  by_cases hb : b = 0
  · subst hb
    go_enter Tryd.func10, Tryd.ntmps10
    go_wp2
    go_ret
    exact ⟨rfl, below_a _ _⟩
  · rw [if_neg hb]
    have h0 : (b == 0) = false := beq_eq_false_iff_ne.2 hb
    go_enter Tryd.func10, Tryd.ntmps10
    go_wp2_with (go_at_call 8; refine (unhide HV _).mono ?_; rintro e w1 ⟨rfl, k1⟩)
    go_ret
    exact ⟨rfl, bT (below_a _ _) k1⟩
end Go.Proofs.YtfkhbhjpnfajeaaDoor
