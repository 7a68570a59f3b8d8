/-
  pairlegallaw6.RtMul64, walked.
-/
import Derived.Test.YtllhjafacmkooaaGreatDoorqa
import Derived.Test.YtllhjafacmkooaaGreatDoorbh
namespace Go.Proofs.YtllhjafacmkooaaGreatDoor
open Go.RowKit Go.Maps
set_option linter.unusedSimpArgs false
set_option linter.unusedVariables false

theorem rtMul64_long : wln (hdI ++ mulC 3 4) ≤ 65535 := by decide +kernel
theorem rtMul64_links : lkOk (linkL (unR ⟨#[109, 117, 108, 52]⟩) [109, 97, 105, 110]) ((hdI ++ mulC 3 4).flatMap ws) = true := by kernel_rfl
theorem rtMul64_asked (a b : Int) : Asked ((hdI ++ mulC 3 4).flatMap ws) 4 4 a b (cut ((16 * 4 : Nat) : Int) (mn false ((16 * 4 : Nat) : Int) a * mn false ((16 * 4 : Nat) : Int) b)) false :=
  asked_of rfl rtMul64_long (rout_mul (by omega) (by omega) rtMul64_long) (by omega) (by omega) (fun h => by cases h) (fun _ h => by cases h) (fun _ => by rw [← cut_w (n := 4) (.inr (.inr rfl)), want_mul (.inr (.inr rfl))])
set_option maxRecDepth 100000 in
set_option maxHeartbeats 1000000 in
theorem walk_rtMul64 (a b p q sp fill : Int) (w : World) (G : Ga w) (wa : (Lit.int .u64 a).wf = true) (wb : (Lit.int .u64 b).wf = true) (_ : (Lit.int .i64 p).wf = true) (_ : (Lit.int .i64 q).wf = true) (_ : (Lit.int .i64 sp).wf = true) (_ : (Lit.int .i64 fill).wf = true) :
    Calls Tryz.prog 5 #[.int .u64 a, .int .u64 b, .int .i64 p, .int .i64 q, .int .i64 sp, .int .i64 fill] w fun e w' => e = .returned (.bool true) ∧ Below w.heap.size w w' := by
  have ha : U a := u_of wa
  have hb : U b := u_of wb
  have HG := zH G
  clear G wa wb
  have DO := zH (fun w => do_mul a b ((16 * 4 : Nat) : Int) false w (isW_w (n := 4) (.inr (.inr rfl))) ha hb)
  have DS := zH (fun w G => does_any ⟨#[109, 117, 108, 52]⟩ _ rtMul64_links 4 4 (.inr (.inr rfl)) (.inr (.inr rfl)) a b (cut ((16 * 4 : Nat) : Int) (mn false ((16 * 4 : Nat) : Int) a * mn false ((16 * 4 : Nat) : Int) b)) p q sp fill false w G ha hb (cut_uR (isW_w (n := 4) (.inr (.inr rfl)))) (rtMul64_asked a b))
  generalize (cut ((16 * 4 : Nat) : Int) (mn false ((16 * 4 : Nat) : Int) a * mn false ((16 * 4 : Nat) : Int) b)) = WV at *
  skip
  clear hb
  go_enter Tryz.func5, Tryz.ntmps5
  go_wp2_with fail
  refine (uI DO _).mono ?_
  rintro e w1 ⟨rfl, k1⟩
  have K1 := zH k1
  have HG1 := zH ((uI HG).step k1)
  clear k1 DO
  go_wp2_with fail
  refine (uI DS _ (uI HG1)).mono ?_
  rintro e w2 ⟨rfl, k2⟩
  have K2 := zH (btR (uI K1) k2)
  clear k2 K1
  go_wp2_with fail
  go_ret
  exact ⟨rfl, uI K2⟩
end Go.Proofs.YtllhjafacmkooaaGreatDoor
