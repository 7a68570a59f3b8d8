/-
  pairlegallaw6.RtSar64, walked.
-/
import Derived.Test.YtlkoidkdeopgjaaGreatDoorqa
import Derived.Test.YtlkoidkdeopgjaaGreatDoorbh
namespace Go.Proofs.YtlkoidkdeopgjaaGreatDoor
open Go.RowKit Go.Maps
set_option linter.unusedSimpArgs false
set_option linter.unusedVariables false

theorem rtSar64_long : wln (hdI ++ shftC (dnI 17 4 4) 3 4) ≤ 65535 := by decide +kernel
theorem rtSar64_links : lkOk (linkL (unR ⟨#[115, 97, 114, 52]⟩) [109, 97, 105, 110]) ((hdI ++ shftC (dnI 17 4 4) 3 4).flatMap ws) = true := by kernel_rfl
theorem rtSar64_asked (a b : Int) : Asked ((hdI ++ shftC (dnI 17 4 4) 3 4).flatMap ws) 4 1 a b (cut ((16 * 4 : Nat) : Int) (mn true ((16 * 4 : Nat) : Int) a / 2 ^ min (b % 65536).toNat 64)) false :=
  asked_of rfl rtSar64_long (rout_shft (by omega) (by omega) rtSar64_long (by decide +kernel) (by decide +kernel) (sar_moves 4 (by omega) (by omega))) (by omega) (by omega) (fun h => by cases h) (fun _ h => by cases h) (fun _ => by rw [← cut_w (n := 4) (.inr (.inr rfl)), want_sar (.inr (.inr rfl)) a (b % 65536), Int.pow_one])
set_option maxRecDepth 100000 in
set_option maxHeartbeats 1000000 in
theorem walk_rtSar64 (a b p q sp fill : Int) (w : World) (G : Ga w) (wa : (Lit.int .u64 a).wf = true) (wb : (Lit.int .u64 b).wf = true) (_ : (Lit.int .i64 p).wf = true) (_ : (Lit.int .i64 q).wf = true) (_ : (Lit.int .i64 sp).wf = true) (_ : (Lit.int .i64 fill).wf = true) :
    Calls Tryz.prog 14 #[.int .u64 a, .int .u64 b, .int .i64 p, .int .i64 q, .int .i64 sp, .int .i64 fill] w fun e w' => e = .returned (.bool true) ∧ Below w.heap.size w w' := by
  have ha : U a := u_of wa
  have hb : U b := u_of wb
  have HG := zH G
  clear G wa wb
  have DO := zH (fun w => shift_down a (b % 65536) ((16 * 4 : Nat) : Int) true w (isW_w (n := 4) (.inr (.inr rfl))) ha (mod_u hb))
  have DS := zH (fun w G => does_any ⟨#[115, 97, 114, 52]⟩ _ rtSar64_links 4 1 (.inr (.inr rfl)) (.inl rfl) a b (cut ((16 * 4 : Nat) : Int) (mn true ((16 * 4 : Nat) : Int) a / 2 ^ min (b % 65536).toNat 64)) p q sp fill false w G ha hb (cut_uR (isW_w (n := 4) (.inr (.inr rfl)))) (rtSar64_asked a b))
  generalize (cut ((16 * 4 : Nat) : Int) (mn true ((16 * 4 : Nat) : Int) a / 2 ^ min (b % 65536).toNat 64)) = WV at *
  have TM : b.tmod 65536 = b % 65536 := Int.tmod_eq_emod_of_nonneg hb.1
  clear hb
  go_enter Tryz.func14, Tryz.ntmps14
  go_wp2_with fail
  try rw [TM]
  clear TM
  refine (uI DO _).mono ?_
  rintro e w1 ⟨rfl, k1⟩
  have K1 := zH k1
  have HG1 := zH ((uI HG).step k1)
  clear k1 DO
  go_wp2_with fail
  refine (uI DS _ (uI HG1)).mono ?_
  rintro e w2 ⟨rfl, k2⟩
  have K2 := zH (btR (uI K1) k2)
  clear k2 K1
  go_wp2_with fail
  go_ret
  exact ⟨rfl, uI K2⟩
end Go.Proofs.YtlkoidkdeopgjaaGreatDoor
