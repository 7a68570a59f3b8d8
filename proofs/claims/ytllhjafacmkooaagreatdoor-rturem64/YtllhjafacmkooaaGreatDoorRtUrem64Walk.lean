/-
  pairlegallaw6.RtUrem64, walked.
-/
import Derived.Test.YtllhjafacmkooaaGreatDoorqa
import Derived.Test.YtllhjafacmkooaaGreatDoorbh
namespace Go.Proofs.YtllhjafacmkooaaGreatDoor
open Go.RowKit Go.Maps
set_option linter.unusedSimpArgs false
set_option linter.unusedVariables false

theorem rtUrem64_long : wln (hdI ++ uremC 3 4) ≤ 65535 := by decide +kernel
theorem rtUrem64_links : lkOk (linkL (unR ⟨#[117, 114, 101, 109, 52]⟩) [109, 97, 105, 110]) ((hdI ++ uremC 3 4).flatMap ws) = true := by kernel_rfl
theorem rtUrem64_asked (a b : Int) (hz : b % 65536 ^ 4 ≠ 0) : Asked ((hdI ++ uremC 3 4).flatMap ws) 4 4 a b (cut ((16 * 4 : Nat) : Int) ((mn false ((16 * 4 : Nat) : Int) a).tmod (mn false ((16 * 4 : Nat) : Int) b))) false :=
  asked_of rfl rtUrem64_long (rout_urem (by omega) (by omega) rtUrem64_long) (by omega) (by omega) (fun h => by cases h) (fun _ _ => hz) (fun _ => by rw [← cut_w (n := 4) (.inr (.inr rfl)), want_urem (.inr (.inr rfl)) a b hz])
theorem rtUrem64_asked0 (a b : Int) (hz : b % 65536 ^ 4 = 0) : Asked ((hdI ++ uremC 3 4).flatMap ws) 4 4 a b 0 true :=
  asked_of rfl rtUrem64_long (rout_urem (by omega) (by omega) rtUrem64_long) (by omega) (by omega) (fun _ => ⟨rfl, hz⟩) (fun h => by cases h) (fun h => by cases h)
set_option maxRecDepth 100000 in
set_option maxHeartbeats 1000000 in
theorem walk_rtUrem64 (a b p q sp fill : Int) (w : World) (G : Ga w) (wa : (Lit.int .u64 a).wf = true) (wb : (Lit.int .u64 b).wf = true) (_ : (Lit.int .i64 p).wf = true) (_ : (Lit.int .i64 q).wf = true) (_ : (Lit.int .i64 sp).wf = true) (_ : (Lit.int .i64 fill).wf = true) :
    Calls Tryz.prog 11 #[.int .u64 a, .int .u64 b, .int .i64 p, .int .i64 q, .int .i64 sp, .int .i64 fill] w fun e w' => e = .returned (.bool true) ∧ Below w.heap.size w w' := by
  have ha : U a := u_of wa
  have hb : U b := u_of wb
  have HG := zH G
  clear G wa wb
  by_cases hz : b % 65536 ^ 4 = 0
  · have hm : mn false ((16 * 4 : Nat) : Int) b = 0 := by rw [mn_u (n := 4) (.inr (.inr rfl)) b]; exact hz
    have DO := zH (fun w => do_rem0 a b ((16 * 4 : Nat) : Int) false w (isW_w (n := 4) (.inr (.inr rfl))) ha hb hm)
    have DS := zH (fun w G => does_any ⟨#[117, 114, 101, 109, 52]⟩ _ rtUrem64_links 4 4 (.inr (.inr rfl)) (.inr (.inr rfl)) a b (0) p q sp fill true w G ha hb (by unfold U; omega) (rtUrem64_asked0 a b hz))
    skip
    skip
    clear hb
    go_enter Tryz.func11, Tryz.ntmps11
    go_wp2_with fail
    refine (uI DO _).mono ?_
    rintro e w1 ⟨rfl, k1⟩
    have K1 := zH k1
    have HG1 := zH ((uI HG).step k1)
    clear k1 DO
    go_wp2_with fail
    refine (uI DS _ (uI HG1)).mono ?_
    rintro e w2 ⟨rfl, k2⟩
    have K2 := zH (btR (uI K1) k2)
    clear k2 K1
    go_wp2_with fail
    go_ret
    exact ⟨rfl, uI K2⟩
  · have hm : mn false ((16 * 4 : Nat) : Int) b ≠ 0 := by rw [mn_u (n := 4) (.inr (.inr rfl)) b]; exact hz
    have DO := zH (fun w => do_rem a b ((16 * 4 : Nat) : Int) false w (isW_w (n := 4) (.inr (.inr rfl))) ha hb hm)
    have DS := zH (fun w G => does_any ⟨#[117, 114, 101, 109, 52]⟩ _ rtUrem64_links 4 4 (.inr (.inr rfl)) (.inr (.inr rfl)) a b (cut ((16 * 4 : Nat) : Int) ((mn false ((16 * 4 : Nat) : Int) a).tmod (mn false ((16 * 4 : Nat) : Int) b))) p q sp fill false w G ha hb (cut_uR (isW_w (n := 4) (.inr (.inr rfl)))) (rtUrem64_asked a b hz))
    generalize (cut ((16 * 4 : Nat) : Int) ((mn false ((16 * 4 : Nat) : Int) a).tmod (mn false ((16 * 4 : Nat) : Int) b))) = WV at *
    skip
    clear hb
    go_enter Tryz.func11, Tryz.ntmps11
    go_wp2_with fail
    refine (uI DO _).mono ?_
    rintro e w1 ⟨rfl, k1⟩
    have K1 := zH k1
    have HG1 := zH ((uI HG).step k1)
    clear k1 DO
    go_wp2_with fail
    refine (uI DS _ (uI HG1)).mono ?_
    rintro e w2 ⟨rfl, k2⟩
    have K2 := zH (btR (uI K1) k2)
    clear k2 K1
    go_wp2_with fail
    go_ret
    exact ⟨rfl, uI K2⟩
end Go.Proofs.YtllhjafacmkooaaGreatDoor
