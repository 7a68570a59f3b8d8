/-
  WordRing answers true: numbers of a width are a ring, and what is taken away comes back.
-/
import Derived.Test.YtljccpgcfkgllaaAlive
import Derived.Test.YtljccpgcfkgllaaShift
import Derived.Test.YtljccpgcfkgllaaPlain2
import Derived.Deep.RegionWith
import Derived.Deep.DeepCutAuto
namespace Go.Proofs.Ytljccpgcfkgllaa
open Go.RowKit

/-- Nothing old has turned, and the boxed width is there. -/
def Inv (w W : World) (p : Nat) (n : Int) : Prop := Below w.heap.size w W ∧ p < W.heap.size ∧ W.cell? ⟨p, 0, none⟩ = some (.int .i64 n)
theorem Inv.step {w W u : World} {p : Nat} {n : Int} (I : Inv w W p n) (k : Below W.heap.size W u) : Inv w u p n :=
  ⟨bt I.1 k, Nat.lt_of_lt_of_le I.2.1 k.size, by rw [k.cell (p := ⟨p, 0, none⟩) I.2.1]; exact I.2.2⟩

theorem Inv.drew {w W : World} {p : Nat} {n : Int} (I : Inv w W p n) : Inv w W.drew p n := ⟨I.1.drew, I.2.1, I.2.2⟩

set_option maxHeartbeats 400000 in
theorem ring_add (x y n r : Int) (w W : World) (p : Nat) (h : IsW n) (hx : U x) (hy : U y) (hr : cut n (x + y) = r) (I : Inv w W p n) :
    Calls Try.prog 42 #[.int .u64 x, .int .u64 y, .pointer (some ⟨p, 0, none⟩)] W fun e w' => e = .returned (.int .u64 r) ∧ Inv w w' p n := by
  have c := I.2.2
  have H := hide hr
  clear hr
  go_enter Try.func42, Try.ntmps42
  go_wp2_with (first | (go_at_call 17; refine (add_any x y n _ h hx hy).mono ?_; rw [unhide H]; rintro e u ⟨rfl, k⟩))
  go_ret
  exact ⟨rfl, I.step k⟩
set_option maxHeartbeats 400000 in
theorem ring_mul (x y n r : Int) (w W : World) (p : Nat) (h : IsW n) (hx : U x) (hy : U y) (hr : cut n (x * y) = r) (I : Inv w W p n) :
    Calls Try.prog 43 #[.int .u64 x, .int .u64 y, .pointer (some ⟨p, 0, none⟩)] W fun e w' => e = .returned (.int .u64 r) ∧ Inv w w' p n := by
  have c := I.2.2
  have H := hide hr
  clear hr
  go_enter Try.func43, Try.ntmps43
  go_wp2_with (first | (go_at_call 20; refine (mul_any x y n _ h hx hy).mono ?_; rw [unhide H]; rintro e u ⟨rfl, k⟩))
  go_ret
  exact ⟨rfl, I.step k⟩

theorem u_one : U 1 := ⟨by decide, by decide⟩
theorem u_zero : U 0 := ⟨by decide, by decide⟩
theorem cut_addl (n x y : Int) : cut n (cut n x + y) = cut n (x + y) := by rw [← cut_add, cut_cut, cut_add]
theorem cut_addr (n x y : Int) : cut n (x + cut n y) = cut n (x + y) := by rw [← cut_add, cut_cut, cut_add]
theorem cut_subl (n x y : Int) : cut n (cut n x - y) = cut n (x - y) := by rw [← cut_sub, cut_cut, cut_sub]
theorem cut_mulr (n x y : Int) : cut n (x * cut n y) = cut n (x * y) := by rw [Int.mul_comm, cut_mul_left, Int.mul_comm]

set_option maxHeartbeats 400000 in
theorem wr_no (a b c n : Int) (w : World) (h : NoW n) :
    Calls Try.prog 7 #[.int .u64 a, .int .u64 b, .int .u64 c, .int .i64 n] w fun e w' => e = .returned (.bool true) ∧ Below w.heap.size w w' := by
  go_enter Try.func7, Try.ntmps7
  go_wp2_with fail
  refine (alive_any _).mono ?_
  rintro e w1 ⟨rfl, k1⟩
  have I : Inv w w1 w.heap.size n := ⟨(((Below.refl _ _).alloc (Nat.le_refl _) _)).trans (k1.mono (by simp)), by have := k1.size; simp at this; omega, by rw [k1.cell (p := ⟨w.heap.size, 0, none⟩) (by simp)]; simp [go_sem]⟩
  have cc := I.2.2
  go_wp2_with fail
  refine (width_no _ _ h).mono ?_
  rintro e w2 ⟨rfl, rfl⟩
  go_wp2_with fail
  refine (add_no _ _ _ _ h).mono ?_
  rintro e w3 ⟨rfl, k3⟩
  go_wp2
  go_ret
  exact ⟨rfl, bt I.1 k3⟩

set_option maxRecDepth 100000 in
set_option maxHeartbeats 4000000 in
theorem wr_yes (a b c n : Int) (w : World) (h : IsW n) (ha : U a) (hb : U b) (hc : U c) :
    Calls Try.prog 7 #[.int .u64 a, .int .u64 b, .int .u64 c, .int .i64 n] w fun e w' => e = .returned (.bool true) ∧ Below w.heap.size w w' := by
  obtain ⟨A, EA⟩ : ∃ A, cut n a = A := ⟨_, rfl⟩
  have UA : U A := EA ▸ u_cut h a
  have E0 : Hid (cut n A = A) := by show cut n A = A; rw [← EA, cut_cut]
  have EB := hide EA
  clear EA
  obtain ⟨r1, er1⟩ : ∃ r, cut n (A + b) = r := ⟨_, rfl⟩
  have ur1 : U r1 := er1 ▸ u_cut h _
  obtain ⟨r2, er2⟩ : ∃ r, cut n (A * b) = r := ⟨_, rfl⟩
  have ur2 : U r2 := er2 ▸ u_cut h _
  obtain ⟨r4, er4⟩ : ∃ r, cut n (b + c) = r := ⟨_, rfl⟩
  have ur4 : U r4 := er4 ▸ u_cut h _
  obtain ⟨r6, er6⟩ : ∃ r, cut n (b * c) = r := ⟨_, rfl⟩
  have ur6 : U r6 := er6 ▸ u_cut h _
  obtain ⟨r8, er8⟩ : ∃ r, cut n (A * c) = r := ⟨_, rfl⟩
  have ur8 : U r8 := er8 ▸ u_cut h _
  obtain ⟨r3, er3⟩ : ∃ r, cut n (r1 + c) = r := ⟨_, rfl⟩
  have ur3 : U r3 := er3 ▸ u_cut h _
  obtain ⟨r5, er5⟩ : ∃ r, cut n (r2 * c) = r := ⟨_, rfl⟩
  have ur5 : U r5 := er5 ▸ u_cut h _
  obtain ⟨r7, er7⟩ : ∃ r, cut n (A * r4) = r := ⟨_, rfl⟩
  have ur7 : U r7 := er7 ▸ u_cut h _
  have f1 : cut n (b + A) = r1 := by rw [Int.add_comm]; exact er1
  have f2 : cut n (b * A) = r2 := by rw [Int.mul_comm]; exact er2
  have f3 : cut n (A + r4) = r3 := by rw [← er3, ← er4, ← er1, cut_addr, cut_addl, Int.add_assoc]
  have f5 : cut n (A * r6) = r5 := by rw [← er5, ← er6, ← er2, cut_mulr, cut_mul_left, Int.mul_assoc]
  have f7 : cut n (r2 + r8) = r7 := by rw [← er7, ← er4, ← er2, ← er8, cut_mulr, cut_add, Int.mul_add]
  have g : cut n (r1 - b) = A := by rw [← er1, cut_subl, Int.add_sub_cancel]; exact unhide E0
  have o1 : cut n (A * 1) = A := by rw [Int.mul_one]; exact unhide E0
  have o0 : cut n (A + 0) = A := by rw [Int.add_zero]; exact unhide E0
  have ER1 := hide er1
  have ER2 := hide er2
  have ER4 := hide er4
  have ER6 := hide er6
  have ER8 := hide er8
  have ER3 := hide er3
  have ER5 := hide er5
  have ER7 := hide er7
  have F1 := hide f1
  have F2 := hide f2
  have F3 := hide f3
  have F5 := hide f5
  have F7 := hide f7
  have G := hide g
  have O1 := hide o1
  have O0 := hide o0
  clear er1 er2 er4 er6 er8 er3 er5 er7 f1 f2 f3 f5 f7 g o1 o0
  go_enter Try.func7, Try.ntmps7
  go_wp2_with fail
  refine (alive_any _).mono ?_
  rintro e w1 ⟨rfl, k1⟩
  have I : Inv w w1 w.heap.size n := ⟨(((Below.refl _ _).alloc (Nat.le_refl _) _)).trans (k1.mono (by simp)), by have := k1.size; simp at this; omega, by rw [k1.cell (p := ⟨w.heap.size, 0, none⟩) (by simp)]; simp [go_sem]⟩
  have cc := I.2.2
  go_wp2_with fail
  refine (width_yes _ h _).mono ?_
  rintro e w2 ⟨rfl, rfl⟩
  go_wp2_with fail
  refine (cut_any _ _ _ h ha).mono ?_
  rw [unhide EB]
  rintro e w3 ⟨rfl, rfl⟩
  go_upto_region 9 with fail
  go_cut [13, 14] (fun d e wx => d = .int .u64 A ∧ e = .int .i64 0 ∧ Inv w wx w.heap.size n)
  case first =>
    go_region_with (first | (go_at_call 42; refine (ring_add A b n r1 w _ _ h UA hb (unhide ER1) ?_).mono ?_; exact I.drew; clear I; rintro e q1 ⟨rfl, I⟩; have c2 := I.2.2) | (go_at_call 19; refine (sub_any r1 b n _ h ur1 hb).mono ?_; rw [unhide G]; rintro e q0 ⟨rfl, k0⟩; replace I := I.step k0; clear k0))
    all_goals
      go_wp2_with fail
      go_meet
      exact ⟨rfl, rfl, I⟩
  case rest =>
    clear I
    obtain ⟨rfl, rfl, I⟩ := hcut
    go_wp2_with fail
    refine (ring_add A b n r1 w _ _ h UA hb (unhide ER1) I).mono ?_
    clear I
    rintro e q2 ⟨rfl, I⟩
    go_wp2_with fail
    refine (ring_add b A n r1 w _ _ h hb UA (unhide F1) I).mono ?_
    clear I
    rintro e q3 ⟨rfl, I⟩
    go_wp2_with fail
    refine (ring_mul A b n r2 w _ _ h UA hb (unhide ER2) I).mono ?_
    clear I
    rintro e q4 ⟨rfl, I⟩
    go_wp2_with fail
    refine (ring_mul b A n r2 w _ _ h hb UA (unhide F2) I).mono ?_
    clear I
    rintro e q5 ⟨rfl, I⟩
    go_wp2_with fail
    refine (ring_add A b n r1 w _ _ h UA hb (unhide ER1) I).mono ?_
    clear I
    rintro e q6 ⟨rfl, I⟩
    go_wp2_with fail
    refine (ring_add r1 c n r3 w _ _ h ur1 hc (unhide ER3) I).mono ?_
    clear I
    rintro e q7 ⟨rfl, I⟩
    go_wp2_with fail
    refine (ring_add b c n r4 w _ _ h hb hc (unhide ER4) I).mono ?_
    clear I
    rintro e q8 ⟨rfl, I⟩
    go_wp2_with fail
    refine (ring_add A r4 n r3 w _ _ h UA ur4 (unhide F3) I).mono ?_
    clear I
    rintro e q9 ⟨rfl, I⟩
    go_wp2_with fail
    refine (ring_mul A b n r2 w _ _ h UA hb (unhide ER2) I).mono ?_
    clear I
    rintro e q10 ⟨rfl, I⟩
    go_wp2_with fail
    refine (ring_mul r2 c n r5 w _ _ h ur2 hc (unhide ER5) I).mono ?_
    clear I
    rintro e q11 ⟨rfl, I⟩
    go_wp2_with fail
    refine (ring_mul b c n r6 w _ _ h hb hc (unhide ER6) I).mono ?_
    clear I
    rintro e q12 ⟨rfl, I⟩
    go_wp2_with fail
    refine (ring_mul A r6 n r5 w _ _ h UA ur6 (unhide F5) I).mono ?_
    clear I
    rintro e q13 ⟨rfl, I⟩
    go_wp2_with fail
    refine (ring_add b c n r4 w _ _ h hb hc (unhide ER4) I).mono ?_
    clear I
    rintro e q14 ⟨rfl, I⟩
    go_wp2_with fail
    refine (ring_mul A r4 n r7 w _ _ h UA ur4 (unhide ER7) I).mono ?_
    clear I
    rintro e q15 ⟨rfl, I⟩
    go_wp2_with fail
    refine (ring_mul A b n r2 w _ _ h UA hb (unhide ER2) I).mono ?_
    clear I
    rintro e q16 ⟨rfl, I⟩
    go_wp2_with fail
    refine (ring_mul A c n r8 w _ _ h UA hc (unhide ER8) I).mono ?_
    clear I
    rintro e q17 ⟨rfl, I⟩
    go_wp2_with fail
    refine (ring_add r2 r8 n r7 w _ _ h ur2 ur8 (unhide F7) I).mono ?_
    clear I
    rintro e q18 ⟨rfl, I⟩
    go_wp2_with fail
    refine (ring_mul A 1 n A w _ _ h UA u_one (unhide O1) I).mono ?_
    clear I
    rintro e q19 ⟨rfl, I⟩
    go_wp2_with fail
    refine (ring_add A 0 n A w _ _ h UA u_zero (unhide O0) I).mono ?_
    clear I
    rintro e q20 ⟨rfl, I⟩
    go_wp2
    go_ret
    exact ⟨rfl, I.1⟩

theorem walk_wordRing (a0 a1 a2 a3 : Int) (w0 : (Lit.int .u64 a0).wf = true) (w1 : (Lit.int .u64 a1).wf = true) (w2 : (Lit.int .u64 a2).wf = true) (_w3 : (Lit.int .i64 a3).wf = true) (w : World) :
    Calls Try.prog 7 #[.int .u64 a0, .int .u64 a1, .int .u64 a2, .int .i64 a3] w fun e w' => e = .returned (.bool true) ∧ Below w.heap.size w w' := by
  rcases isW_or a3 with h | h
  · exact wr_yes a0 a1 a2 a3 w h (bounds_u w0) (bounds_u w1) (bounds_u w2)
  · exact wr_no a0 a1 a2 a3 w h
end Go.Proofs.Ytljccpgcfkgllaa
