/-
  What Split and Join make of words, and what comes of a shift: for each width.
-/
import Derived.Test.YtjlbenbfmookoabEmuU0
namespace Go.Proofs.Ytjlbenbfmookoab
open Go.RowKit
set_option linter.unusedSimpArgs false
set_option linter.unusedVariables false

def Wid (n : Nat) (W : Int) : Prop := (n = 1 ∧ W = 16) ∨ (n = 2 ∧ W = 32) ∨ (n = 4 ∧ W = 64)
theorem Wid.isW {n : Nat} {W : Int} (h : Wid n W) : IsW W := by rcases h with ⟨_, rfl⟩ | ⟨_, rfl⟩ | ⟨_, rfl⟩ <;> simp [IsW]
theorem Wid.md {n : Nat} {W : Int} (h : Wid n W) : md W = 65536 ^ n := by rcases h with ⟨rfl, rfl⟩ | ⟨rfl, rfl⟩ | ⟨rfl, rfl⟩ <;> decide
theorem Wid.le {n : Nat} {W : Int} (h : Wid n W) : 1 ≤ n ∧ n ≤ 4 := by rcases h with ⟨rfl, _⟩ | ⟨rfl, _⟩ | ⟨rfl, _⟩ <;> omega
def wsL (n : Nat) (A : Int) : List Int := (List.range n).map (w16 A)
theorem wsL_len (n : Nat) (A : Int) : (wsL n A).length = n := by simp [wsL]
theorem wsL_at (n : Nat) (A : Int) (i : Nat) (h : i < (wsL n A).length) : (wsL n A)[i] = w16 A i := by simp [wsL]
theorem w16_wd (A : Int) (i : Nat) : wd (w16 A i) := by unfold wd w16; omega
theorem w16_0 (A : Int) : w16 A 0 = A % 65536 := by unfold w16; rw [Int.pow_zero, Int.ediv_one]
theorem w16_1 (A : Int) : w16 A 1 = A / 65536 % 65536 := rfl
theorem w16_2 (A : Int) : w16 A 2 = A / 65536 / 65536 % 65536 := by
  unfold w16
  rw [show (65536 : Int) ^ 2 = 4294967296 from rfl]; omega
theorem w16_3 (A : Int) : w16 A 3 = A / 65536 / 65536 / 65536 % 65536 := by
  unfold w16
  rw [show (65536 : Int) ^ 3 = 281474976710656 from rfl]; omega
theorem ints_new (w : World) (n : Nat) (xs : List Int) (hn : xs.length = n) (h4 : n ≤ 4) : Ints (w.alloc (.cells (xs.map int1).toArray 3)) (.slice (some ⟨w.heap.size, 0, none⟩) n n) xs := by
  subst hn
  refine ⟨by simp, _, _, rfl, Nat.le_refl _, by unfold maxLen; omega, (fun h => by cases h), fun _ => ⟨_, 0, rfl, by simp, fun j hj => ?_⟩⟩
  rw [Nat.zero_add]
  have := (Box.new w (xs.map int1).toArray 3).2.1
  have hj' : j < (xs.map int1).length := by simp; omega
  rw [this j _ (by simpa using List.getElem?_eq_getElem hj')]
  have hj2 : j < xs.length := by simpa using hj'
  simp [hj2]
theorem split_n {n : Nat} {W : Int} (h : Wid n W) (a : Int) (w : World) (ha : U a) : Calls Try.prog 13 #[.int .u64 a, .int .i64 W] w fun e w' => e = .returned (.tuple #[.slice (some ⟨w.heap.size, 0, none⟩) n n, .int .i64 0]) ∧ Ints w' (.slice (some ⟨w.heap.size, 0, none⟩) n n) (wsL n (cut W a)) ∧ Below w.heap.size w w' := by
  rcases h with ⟨rfl, rfl⟩ | ⟨rfl, rfl⟩ | ⟨rfl, rfl⟩
  · refine (split_16 a w ha).mono ?_
    rintro e w' ⟨rfl, rfl⟩
    have h := ints_new w 1 (wsL 1 (cut 16 a)) (wsL_len _ _) (by decide)
    refine ⟨rfl, ?_, below_a _ _⟩
    have e : (wsL 1 (cut 16 a)).map int1 = [.int .i64 (cut 16 a % 65536)] := by simp [wsL, List.range_succ, int1, w16_0]
    rw [e] at h
    exact h
  · refine (split_32 a w ha).mono ?_
    rintro e w' ⟨rfl, rfl⟩
    have h := ints_new w 2 (wsL 2 (cut 32 a)) (wsL_len _ _) (by decide)
    refine ⟨rfl, ?_, below_a _ _⟩
    have e : (wsL 2 (cut 32 a)).map int1 = [.int .i64 (cut 32 a % 65536), .int .i64 (cut 32 a / 65536 % 65536)] := by simp [wsL, List.range_succ, int1, w16_0, w16_1]
    rw [e] at h
    exact h
  · refine (split_64 a w ha).mono ?_
    rintro e w' ⟨rfl, rfl⟩
    have h := ints_new w 4 (wsL 4 (cut 64 a)) (wsL_len _ _) (by decide)
    refine ⟨rfl, ?_, below_a _ _⟩
    have e : (wsL 4 (cut 64 a)).map int1 = [.int .i64 (cut 64 a % 65536), .int .i64 (cut 64 a / 65536 % 65536), .int .i64 (cut 64 a / 65536 / 65536 % 65536), .int .i64 (cut 64 a / 65536 / 65536 / 65536 % 65536)] := by simp [wsL, List.range_succ, int1, w16_0, w16_1, w16_2, w16_3]
    rw [e] at h
    exact h

set_option maxHeartbeats 1000000 in
theorem joinr_1 (b : Nat) (c0 : Int) (w : World) (h0 : 0 ≤ c0 ∧ c0 ≤ 65535) (e0 : w.cell? ⟨b, 5, none⟩ = some (.int .i64 c0)) :
    Calls Try.prog 15 #[.slice (some ⟨b, 5, none⟩) 1 8] w fun e w' => e = .returned (.tuple #[.int .u64 (c0), .int .i64 0]) ∧ w' = w := by
  obtain ⟨h0, h0'⟩ := h0
  have o0 := or_0 c0 h0 (by omega)
  go_enter Try.func15, Try.ntmps15
  go_wp2_with go_in
  refine wp_loop_rounds 2 ?_
  rw [rounds_succ]
  go_wp2
  rw [rounds_succ]
  go_wp2
  go_ret2
  exact ⟨rfl, rfl⟩
set_option maxHeartbeats 1000000 in
theorem joinr_2 (b : Nat) (c0 c1 : Int) (w : World) (h0 : 0 ≤ c0 ∧ c0 ≤ 65535) (h1 : 0 ≤ c1 ∧ c1 ≤ 65535) (e0 : w.cell? ⟨b, 5, none⟩ = some (.int .i64 c0)) (e1 : w.cell? ⟨b, 6, none⟩ = some (.int .i64 c1)) :
    Calls Try.prog 15 #[.slice (some ⟨b, 5, none⟩) 2 8] w fun e w' => e = .returned (.tuple #[.int .u64 (c0 + c1 * 65536), .int .i64 0]) ∧ w' = w := by
  obtain ⟨h0, h0'⟩ := h0
  obtain ⟨h1, h1'⟩ := h1
  have o0 := or_0 c0 h0 (by omega)
  have o1 := or_up 16 (c0) (c1 * 65536) (by omega) (by simp) (by omega) (by omega) (by omega) (by omega)
  go_enter Try.func15, Try.ntmps15
  go_wp2_with go_in
  refine wp_loop_rounds 3 ?_
  rw [rounds_succ]
  go_wp2
  rw [rounds_succ]
  go_wp2
  rw [rounds_succ]
  go_wp2
  go_ret2
  exact ⟨rfl, rfl⟩
set_option maxHeartbeats 1000000 in
theorem joinr_4 (b : Nat) (c0 c1 c2 c3 : Int) (w : World) (h0 : 0 ≤ c0 ∧ c0 ≤ 65535) (h1 : 0 ≤ c1 ∧ c1 ≤ 65535) (h2 : 0 ≤ c2 ∧ c2 ≤ 65535) (h3 : 0 ≤ c3 ∧ c3 ≤ 65535)
    (e0 : w.cell? ⟨b, 5, none⟩ = some (.int .i64 c0)) (e1 : w.cell? ⟨b, 6, none⟩ = some (.int .i64 c1)) (e2 : w.cell? ⟨b, 7, none⟩ = some (.int .i64 c2)) (e3 : w.cell? ⟨b, 8, none⟩ = some (.int .i64 c3)) :
    Calls Try.prog 15 #[.slice (some ⟨b, 5, none⟩) 4 8] w fun e w' => e = .returned (.tuple #[.int .u64 (c0 + c1 * 65536 + c2 * 4294967296 + c3 * 281474976710656), .int .i64 0]) ∧ w' = w := by
  obtain ⟨h0, h0'⟩ := h0
  obtain ⟨h1, h1'⟩ := h1
  obtain ⟨h2, h2'⟩ := h2
  obtain ⟨h3, h3'⟩ := h3
  have o0 := or_0 c0 h0 (by omega)
  have o1 := or_up 16 (c0) (c1 * 65536) (by omega) (by simp) (by omega) (by omega) (by omega) (by omega)
  have o2 := or_up 32 (c0 + c1 * 65536) (c2 * 4294967296) (by omega) (by simp) (by omega) (by omega) (by omega) (by omega)
  have o3 := or_up 48 (c0 + c1 * 65536 + c2 * 4294967296) (c3 * 281474976710656) (by omega) (by simp) (by omega) (by omega) (by omega) (by omega)
  go_enter Try.func15, Try.ntmps15
  go_wp2_with go_in
  refine wp_loop_rounds 5 ?_
  rw [rounds_succ]
  go_wp2
  rw [rounds_succ]
  go_wp2
  rw [rounds_succ]
  go_wp2
  rw [rounds_succ]
  go_wp2
  rw [rounds_succ]
  go_wp2
  go_ret2
  exact ⟨rfl, rfl⟩
theorem join_n {n : Nat} {W : Int} (h : Wid n W) (b : Nat) (r : Nat → Int) (w : World) (hr : ∀ i, i < n → wd (r i)) (hc : ∀ i, i < n → w.cell? ⟨b, 5 + i, none⟩ = some (.int .i64 (r i))) :
    Calls Try.prog 15 #[.slice (some ⟨b, 5, none⟩) n 8] w fun e w' => e = .returned (.tuple #[.int .u64 (num n r), .int .i64 0]) ∧ w' = w := by
  rcases h with ⟨rfl, rfl⟩ | ⟨rfl, rfl⟩ | ⟨rfl, rfl⟩
  · have e : num 1 r = r 0 := by simp [num]
    rw [e]
    exact joinr_1 b (r 0) w (hr 0 (by decide)) (hc 0 (by decide))
  · have e : num 2 r = r 0 + r 1 * 65536 := by simp [num]
    rw [e]
    exact joinr_2 b (r 0) (r 1) w (hr 0 (by decide)) (hr 1 (by decide)) (hc 0 (by decide)) (hc 1 (by decide))
  · have e : num 4 r = r 0 + r 1 * 65536 + r 2 * 4294967296 + r 3 * 281474976710656 := by simp [num]
    rw [e]
    exact joinr_4 b (r 0) (r 1) (r 2) (r 3) w (hr 0 (by decide)) (hr 1 (by decide)) (hr 2 (by decide)) (hr 3 (by decide)) (hc 0 (by decide)) (hc 1 (by decide)) (hc 2 (by decide)) (hc 3 (by decide))

theorem cin_b {x : Nat → Int} {n : Nat} (h : ∀ i, i < n → wd (x i)) : ∀ i, i ≤ n → 0 ≤ cin x i ∧ cin x i ≤ 1
  | 0, _ => by simp [cin]
  | i + 1, hi => by have := h i (by omega); unfold wd at this; show 0 ≤ x i / 32768 ∧ x i / 32768 ≤ 1; omega
theorem upb_wd {x c : Int} (h : wd x) (hc : 0 ≤ c ∧ c ≤ 1) : wd (upb x c) := by unfold wd upb at *; omega
theorem dnb_wd {x c : Int} (h : wd x) (hc : 0 ≤ c ∧ c ≤ 1) : wd (dnb x c) := by unfold wd dnb at *; omega
theorem emod_of {S A c M : Int} (h : S + c * M = A) (h0 : 0 ≤ S) (h1 : S < M) : S = A % M := by
  rw [← h, Int.add_mul_emod_self_right, Int.emod_eq_of_lt h0 h1]
theorem num_cut {n : Nat} {W : Int} (h : Wid n W) (a : Int) : num n (w16 (cut W a)) = cut W a := by
  rw [num_w16 _ (cut_lo h.isW a), ← h.md]
  exact Int.emod_eq_of_lt (cut_lo h.isW a) (cut_lt h.isW a)
theorem up_num {n : Nat} {W : Int} (h : Wid n W) (a : Int) : num n (fun i => upb (w16 (cut W a) i) (cin (w16 (cut W a)) i)) = cut W (a * 2) := by
  have hw : ∀ i, i < n → wd (w16 (cut W a) i) := fun i _ => w16_wd _ i
  have e := num_up (w16 (cut W a)) n hw
  have b := num_bd (n := n) (f := fun i => upb (w16 (cut W a) i) (cin (w16 (cut W a)) i)) fun i hi => upb_wd (hw i hi) (cin_b hw i (by omega))
  rw [num_cut h a] at e
  have g := emod_of e b.1 b.2
  rw [g, ← h.md, Int.mul_comm 2]
  exact cut_mul_left W a 2
theorem topIn_b (o : Int) {x : Int} (h : wd x) : 0 ≤ topIn o x ∧ topIn o x ≤ 1 := by
  unfold wd at h; unfold topIn; split <;> omega
theorem dn_num {n : Nat} {W : Int} (h : Wid n W) (a : Int) (sg : Bool) : num n (fun i => dnb (w16 (cut W a) i) (if i + 1 = n then topIn (if sg then 17 else 16) (w16 (cut W a) i) else w16 (cut W a) (i + 1) % 2)) = if sg then cut W (sgn W a / 2) else cut W a / 2 := by
  have hw : ∀ i, i < n → wd (w16 (cut W a) i) := fun i _ => w16_wd _ i
  have hn := h.le
  have e := num_dn (w16 (cut W a)) (topIn (if sg then 17 else 16) (w16 (cut W a) (n - 1))) n hw
  rw [num_cut h a, if_neg (show ¬ n = 0 by omega)] at e
  have c : num n (fun i => w16 (cut W a) i / 2 + (if i + 1 = n then topIn (if sg then 17 else 16) (w16 (cut W a) (n - 1)) else w16 (cut W a) (i + 1) % 2) * 32768) = num n (fun i => dnb (w16 (cut W a) i) (if i + 1 = n then topIn (if sg then 17 else 16) (w16 (cut W a) i) else w16 (cut W a) (i + 1) % 2)) := by
    refine num_congr fun i _ => ?_
    unfold dnb
    by_cases k : i + 1 = n
    · rw [if_pos k, if_pos k, show n - 1 = i by omega]
    · rw [if_neg k, if_neg k]
  rw [c] at e
  generalize num n (fun i => dnb (w16 (cut W a) i) (if i + 1 = n then topIn (if sg then 17 else 16) (w16 (cut W a) i) else w16 (cut W a) (i + 1) % 2)) = S at *
  have lo := cut_lo h.isW a
  have hi := cut_lt h.isW a
  cases sg with
  | false =>
    simp only [topIn, Bool.false_eq_true, if_false, if_true, Int.zero_mul] at e
    show S = cut W a / 2
    have := w16_wd (cut W a) 0
    omega
  | true =>
    show S = cut W (sgn W a / 2)
    have t : topIn (if true then 17 else 16) (w16 (cut W a) (n - 1)) = w16 (cut W a) (n - 1) / 32768 := by simp [topIn]
    rw [t] at e
    unfold sgn
    rcases h with ⟨rfl, rfl⟩ | ⟨rfl, rfl⟩ | ⟨rfl, rfl⟩
    · rw [md_16] at hi ⊢
      generalize cut 16 a = A at *
      have e0 : w16 A (1 - 1) = A % 65536 := w16_0 A
      rw [e0] at e
      unfold cut
      rw [md_16]
      split <;> omega
    · rw [md_32] at hi ⊢
      generalize cut 32 a = A at *
      have e0 : w16 A (2 - 1) = A / 65536 % 65536 := rfl
      rw [e0, w16_0] at e
      unfold cut
      rw [md_32]
      have : (65536 : Int) ^ 2 = 4294967296 := rfl
      rw [this] at e
      split <;> omega
    · rw [md_64] at hi ⊢
      generalize cut 64 a = A at *
      have e0 : w16 A (4 - 1) = A / 281474976710656 % 65536 := rfl
      rw [e0, w16_0] at e
      unfold cut
      rw [md_64]
      have : (65536 : Int) ^ 4 = 18446744073709551616 := rfl
      rw [this] at e
      split <;> omega
end Go.Proofs.Ytjlbenbfmookoab
