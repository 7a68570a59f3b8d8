/-
  pairlegallaw6.RtSrem64, walked.
-/
import Derived.Test.YtlkoidkdeopgjaaGreatDoorqa
import Derived.Test.YtlkoidkdeopgjaaGreatDoorbh
namespace Go.Proofs.YtlkoidkdeopgjaaGreatDoor
open Go.RowKit Go.Maps
set_option linter.unusedSimpArgs false
set_option linter.unusedVariables false

def rtSrem64_u : Int := 3 + wln (sremC 3 4 0)
theorem rtSrem64_long : wln (hdI ++ (sremC 3 4 rtSrem64_u ++ uremC rtSrem64_u 4)) ≤ 65535 := by decide +kernel
theorem rtSrem64_links : lkOk (linkL (unR ⟨#[115, 114, 101, 109, 52]⟩) [109, 97, 105, 110]) ((hdI ++ (sremC 3 4 rtSrem64_u ++ uremC rtSrem64_u 4)).flatMap ws) = true := by kernel_rfl
theorem rtSrem64_asked (a b : Int) (hz : b % 65536 ^ 4 ≠ 0) : Asked ((hdI ++ (sremC 3 4 rtSrem64_u ++ uremC rtSrem64_u 4)).flatMap ws) 4 4 a b (cut ((16 * 4 : Nat) : Int) ((mn true ((16 * 4 : Nat) : Int) a).tmod (mn true ((16 * 4 : Nat) : Int) b))) false :=
  asked_of rfl rtSrem64_long (rout_srem (by omega) (by omega) (by decide +kernel) rtSrem64_long) (by omega) (by omega) (fun h => by cases h) (fun _ _ => hz) (fun _ => by rw [← cut_w (n := 4) (.inr (.inr rfl)), want_srem (.inr (.inr rfl)) a b])
theorem rtSrem64_asked0 (a b : Int) (hz : b % 65536 ^ 4 = 0) : Asked ((hdI ++ (sremC 3 4 rtSrem64_u ++ uremC rtSrem64_u 4)).flatMap ws) 4 4 a b 0 true :=
  asked_of rfl rtSrem64_long (rout_srem (by omega) (by omega) (by decide +kernel) rtSrem64_long) (by omega) (by omega) (fun _ => ⟨rfl, hz⟩) (fun h => by cases h) (fun h => by cases h)
set_option maxRecDepth 100000 in
set_option maxHeartbeats 1000000 in
theorem walk_rtSrem64 (a b p q sp fill : Int) (w : World) (G : Ga w) (wa : (Lit.int .u64 a).wf = true) (wb : (Lit.int .u64 b).wf = true) (_ : (Lit.int .i64 p).wf = true) (_ : (Lit.int .i64 q).wf = true) (_ : (Lit.int .i64 sp).wf = true) (_ : (Lit.int .i64 fill).wf = true) :
    Calls Tryz.prog 5 #[.int .u64 a, .int .u64 b, .int .i64 p, .int .i64 q, .int .i64 sp, .int .i64 fill] w fun e w' => e = .returned (.bool true) ∧ Below w.heap.size w w' := by
  have ha : U a := u_of wa
  have hb : U b := u_of wb
  have HG := zH G
  clear G wa wb
  by_cases hz : b % 65536 ^ 4 = 0
  · have hm : mn true ((16 * 4 : Nat) : Int) b = 0 := by rw [mn_w (n := 4) (.inr (.inr rfl)) b]; exact (sgv_zero b).2 hz
    have DO := zH (fun w => do_rem0 a b ((16 * 4 : Nat) : Int) true w (isW_w (n := 4) (.inr (.inr rfl))) ha hb hm)
    have DS := zH (fun w G => does_any ⟨#[115, 114, 101, 109, 52]⟩ _ rtSrem64_links 4 4 (.inr (.inr rfl)) (.inr (.inr rfl)) a b (0) p q sp fill true w G ha hb (by unfold U; omega) (rtSrem64_asked0 a b hz))
    skip
    skip
    clear hb
    go_enter Tryz.func5, Tryz.ntmps5
    go_wp2_with fail
    refine (uI DO _).mono ?_
    rintro e w1 ⟨rfl, k1⟩
    have K1 := zH k1
    have HG1 := zH ((uI HG).step k1)
    clear k1 DO
    go_wp2_with fail
    refine (uI DS _ (uI HG1)).mono ?_
    rintro e w2 ⟨rfl, k2⟩
    have K2 := zH (btR (uI K1) k2)
    clear k2 K1
    go_wp2_with fail
    go_ret
    exact ⟨rfl, uI K2⟩
  · have hm : mn true ((16 * 4 : Nat) : Int) b ≠ 0 := by rw [mn_w (n := 4) (.inr (.inr rfl)) b]; exact fun e => hz ((sgv_zero b).1 e)
    have DO := zH (fun w => do_rem a b ((16 * 4 : Nat) : Int) true w (isW_w (n := 4) (.inr (.inr rfl))) ha hb hm)
    have DS := zH (fun w G => does_any ⟨#[115, 114, 101, 109, 52]⟩ _ rtSrem64_links 4 4 (.inr (.inr rfl)) (.inr (.inr rfl)) a b (cut ((16 * 4 : Nat) : Int) ((mn true ((16 * 4 : Nat) : Int) a).tmod (mn true ((16 * 4 : Nat) : Int) b))) p q sp fill false w G ha hb (cut_uR (isW_w (n := 4) (.inr (.inr rfl)))) (rtSrem64_asked a b hz))
    generalize (cut ((16 * 4 : Nat) : Int) ((mn true ((16 * 4 : Nat) : Int) a).tmod (mn true ((16 * 4 : Nat) : Int) b))) = WV at *
    skip
    clear hb
    go_enter Tryz.func5, Tryz.ntmps5
    go_wp2_with fail
    refine (uI DO _).mono ?_
    rintro e w1 ⟨rfl, k1⟩
    have K1 := zH k1
    have HG1 := zH ((uI HG).step k1)
    clear k1 DO
    go_wp2_with fail
    refine (uI DS _ (uI HG1)).mono ?_
    rintro e w2 ⟨rfl, k2⟩
    have K2 := zH (btR (uI K1) k2)
    clear k2 K1
    go_wp2_with fail
    go_ret
    exact ⟨rfl, uI K2⟩
end Go.Proofs.YtlkoidkdeopgjaaGreatDoor
