/-
  Words that are shifted by one place, one behind the other: plain numbers; and what Split and Join make of them.
-/
import Derived.Test.YtjlbenbfmookoabEmuStackWalk
import Derived.Test.YtjlbenbfmookoabSplit
import Derived.Test.YtjlbenbfmookoabJoinS
import Derived.Test.YtjlbenbfmookoabShift
namespace Go.Proofs.Ytjlbenbfmookoab
open Go.RowKit
set_option linter.unusedSimpArgs false
set_option linter.unusedVariables false

/-- The number that words make. -/
def num : Nat → (Nat → Int) → Int
  | 0, _ => 0
  | n + 1, r => num n r + r n * 65536 ^ n
def w16 (A : Int) (i : Nat) : Int := A / 65536 ^ i % 65536
theorem mod_mulI (A p K : Int) (hp : 0 < p) : A % (p * K) = A % p + A / p % K * p := by
  have h1 := Int.emod_def A (p * K)
  have h2 := Int.emod_def A p
  have h3 := Int.emod_def (A / p) K
  have h4 : A / p / K = A / (p * K) := by rw [Int.ediv_ediv, if_neg (by omega)]; simp
  rw [h1, h2, h3, h4, Int.sub_mul, Int.mul_comm (A / p) p, Int.mul_comm (K * _) p, ← Int.mul_assoc]
  omega
theorem num_w16 (A : Int) (h : 0 ≤ A) : ∀ n, num n (w16 A) = A % 65536 ^ n
  | 0 => by simp [num, Int.emod_one]
  | n + 1 => by
    have e := mod_mulI A (65536 ^ n) 65536 (Int.pow_pos (by decide))
    rw [num, num_w16 A h n, Int.pow_succ, e]; rfl
theorem num_congr {f g : Nat → Int} : ∀ {n : Nat}, (∀ i, i < n → f i = g i) → num n f = num n g
  | 0, _ => rfl
  | n + 1, h => by rw [num, num, num_congr fun i hi => h i (by omega), h n (by omega)]
theorem num_bd {f : Nat → Int} : ∀ {n : Nat}, (∀ i, i < n → wd (f i)) → 0 ≤ num n f ∧ num n f < 65536 ^ n
  | 0, _ => by simp [num]
  | n + 1, h => by
    obtain ⟨h1, h2⟩ := num_bd (n := n) fun i hi => h i (by omega)
    have h3 := h n (by omega)
    unfold wd at h3
    have hp : (0 : Int) < 65536 ^ n := Int.pow_pos (by decide)
    rw [num, Int.pow_succ]
    have a : 0 ≤ f n * 65536 ^ n := Int.mul_nonneg h3.1 (Int.le_of_lt hp)
    have b : f n * 65536 ^ n ≤ 65535 * 65536 ^ n := Int.mul_le_mul_of_nonneg_right h3.2 (Int.le_of_lt hp)
    generalize f n * 65536 ^ n = y at *
    generalize (65536 : Int) ^ n = p at *
    omega
/-- What comes in from below. -/
def cin (x : Nat → Int) : Nat → Int
  | 0 => 0
  | i + 1 => x i / 32768
theorem num_up (x : Nat → Int) : ∀ n, (∀ i, i < n → wd (x i)) → num n (fun i => upb (x i) (cin x i)) + cin x n * 65536 ^ n = 2 * num n x
  | 0, _ => by simp [num, cin]
  | n + 1, h => by
    have ih := num_up x n fun i hi => h i (by omega)
    have h3 := h n (by omega)
    unfold wd at h3
    rw [num, num]
    show num n (fun i => upb (x i) (cin x i)) + upb (x n) (cin x n) * 65536 ^ n + x n / 32768 * 65536 ^ (n + 1) = _
    have e : upb (x n) (cin x n) = 2 * x n - 65536 * (x n / 32768) + cin x n := by unfold upb; omega
    rw [e, Int.pow_succ]
    have e2 : (2 * x n - 65536 * (x n / 32768) + cin x n) * 65536 ^ n + x n / 32768 * (65536 ^ n * 65536) = 2 * (x n * 65536 ^ n) + cin x n * 65536 ^ n := by
      rw [Int.add_mul, Int.sub_mul, Int.mul_assoc, Int.mul_assoc, ← Int.mul_assoc (x n / 32768) (65536 ^ n) 65536, Int.mul_comm _ (65536 : Int)]
      omega
    omega
theorem num_dn (x : Nat → Int) (t : Int) : ∀ n, (∀ i, i < n → wd (x i)) → 2 * num n (fun i => x i / 2 + (if i + 1 = n then t else x (i + 1) % 2) * 32768) + (if n = 0 then t else x 0 % 2) = num n x + t * 65536 ^ n := by
  intro n
  induction n generalizing t with
  | zero => intro _; simp [num]
  | succ n ih =>
    intro h
    have h3 := h n (by omega)
    unfold wd at h3
    have IH := ih (x n % 2) fun i hi => h i (by omega)
    have c : num n (fun i => x i / 2 + (if i + 1 = n + 1 then t else x (i + 1) % 2) * 32768) = num n (fun i => x i / 2 + (if i + 1 = n then x n % 2 else x (i + 1) % 2) * 32768) := by
      refine num_congr fun i hi => ?_
      have : ¬ i + 1 = n + 1 := by omega
      rw [if_neg this]
      by_cases e : i + 1 = n
      · rw [if_pos e, e]
      · rw [if_neg e]
    rw [num, num, c, if_pos rfl, if_neg (by omega), Int.pow_succ]
    have e1 : x n = 2 * (x n / 2) + x n % 2 := by omega
    have hz : (if n = 0 then x n % 2 else x 0 % 2) = x 0 % 2 := by
      split
      · rename_i e; rw [e]
      · rfl
    rw [hz] at IH
    generalize num n (fun i => x i / 2 + (if i + 1 = n then x n % 2 else x (i + 1) % 2) * 32768) = S at *
    have e2 : x n * 65536 ^ n = 2 * (x n / 2 * 65536 ^ n) + x n % 2 * 65536 ^ n := by
      conv => lhs; rw [e1]
      rw [Int.add_mul, Int.mul_assoc]
    have e3 : (x n / 2 + t * 32768) * 65536 ^ n = x n / 2 * 65536 ^ n + t * 65536 ^ n * 32768 := by
      rw [Int.add_mul, Int.mul_assoc t, Int.mul_comm 32768, ← Int.mul_assoc]
    have e4 : t * (65536 ^ n * 65536) = t * 65536 ^ n * 65536 := by rw [Int.mul_assoc]
    rw [e2, e3, e4]
    omega

/-! ### The machine -/
def upI : Nat → List Ins
  | 0 => []
  | k + 1 => upI k ++ [⟨if k = 0 then 14 else 15, k, 0, 0⟩]
def dnI (o : Int) (n : Nat) : Nat → List Ins
  | 0 => []
  | k + 1 => dnI o n k ++ [⟨if k = 0 then o else 18, ((n - 1 - k : Nat) : Int), 0, 0⟩]
theorem upI_len : ∀ k, (upI k).length = k
  | 0 => rfl
  | k + 1 => by rw [upI, List.length_append, upI_len k]; rfl
theorem dnI_len (o : Int) (n : Nat) : ∀ k, (dnI o n k).length = k
  | 0 => rfl
  | k + 1 => by rw [dnI, List.length_append, dnI_len o n k]; rfl
theorem upI_right : ∀ k, k ≤ 4 → (∀ i ∈ upI k, wrg i = 0) ∧ (∀ i ∈ upI k, calm i.o = true)
  | 0, _ => by simp [upI]
  | k + 1, h => by
    obtain ⟨h1, h2⟩ := upI_right k (by omega)
    refine ⟨fun i hi => ?_, fun i hi => ?_⟩
    · rw [upI] at hi
      rcases List.mem_append.1 hi with hi | hi
      · exact h1 i hi
      · simp only [List.mem_cons, List.not_mem_nil, or_false] at hi
        subst hi
        refine wr_of ?_ ?_ (fun _ => ?_) (fun _ => by simp) (fun h => ?_)
        · show (0 : Int) ≤ if k = 0 then 14 else 15; split <;> decide
        · show (if k = 0 then (14 : Int) else 15) ≤ 32; split <;> decide
        · show (0 : Int) ≤ k ∧ (k : Int) ≤ 7; omega
        · exact ⟨by simp, by simp⟩
    · rw [upI] at hi
      rcases List.mem_append.1 hi with hi | hi
      · exact h2 i hi
      · simp only [List.mem_cons, List.not_mem_nil, or_false] at hi
        subst hi
        show calm (if k = 0 then 14 else 15) = true
        split <;> decide
theorem dnI_right (o : Int) (ho : o = 16 ∨ o = 17) (n : Nat) (hn : n ≤ 4) : ∀ k, k ≤ n → (∀ i ∈ dnI o n k, wrg i = 0) ∧ (∀ i ∈ dnI o n k, calm i.o = true)
  | 0, _ => by simp [dnI]
  | k + 1, h => by
    obtain ⟨h1, h2⟩ := dnI_right o ho n hn k (by omega)
    refine ⟨fun i hi => ?_, fun i hi => ?_⟩
    · rw [dnI] at hi
      rcases List.mem_append.1 hi with hi | hi
      · exact h1 i hi
      · simp only [List.mem_cons, List.not_mem_nil, or_false] at hi
        subst hi
        refine wr_of ?_ ?_ (fun _ => ?_) (fun _ => by simp) (fun h => ?_)
        · show (0 : Int) ≤ if k = 0 then o else 18; split <;> omega
        · show (if k = 0 then o else 18) ≤ 32; split <;> omega
        · show (0 : Int) ≤ ((n - 1 - k : Nat) : Int) ∧ ((n - 1 - k : Nat) : Int) ≤ 7; omega
        · exact ⟨by simp, by simp⟩
    · rw [dnI] at hi
      rcases List.mem_append.1 hi with hi | hi
      · exact h2 i hi
      · simp only [List.mem_cons, List.not_mem_nil, or_false] at hi
        subst hi
        show calm (if k = 0 then o else 18) = true
        rcases ho with rfl | rfl <;> (split <;> decide)
theorem did_14 (m : Ma) (d : Nat) : m.did [] ⟨14, d, 0, 0⟩ = { m with took := m.took + 1, pc := m.pc + 1, r := upd m.r d (upb (m.r d) 0), c := m.r d / 32768 == 1, z := upb (m.r d) 0 == 0, n := upb (m.r d) 0 / 32768 == 1, v := false } := by
  simp [Ma.did, bare, hD, hS, hI, lng, Ma.act, Ma.become, Ma.reg]
theorem did_15 (m : Ma) (d : Nat) : m.did [] ⟨15, d, 0, 0⟩ = { m with took := m.took + 1, pc := m.pc + 1, r := upd m.r d (upb (m.r d) (oi m.c)), c := m.r d / 32768 == 1, z := upb (m.r d) (oi m.c) == 0, n := upb (m.r d) (oi m.c) / 32768 == 1, v := false } := by
  simp [Ma.did, bare, hD, hS, hI, lng, Ma.act, Ma.become, Ma.reg]
theorem did_16 (m : Ma) (d : Nat) : m.did [] ⟨16, d, 0, 0⟩ = { m with took := m.took + 1, pc := m.pc + 1, r := upd m.r d (dnb (m.r d) 0), c := m.r d % 2 == 1, z := dnb (m.r d) 0 == 0, n := dnb (m.r d) 0 / 32768 == 1, v := false } := by
  simp [Ma.did, bare, hD, hS, hI, lng, Ma.act, Ma.become, Ma.reg]
theorem did_17 (m : Ma) (d : Nat) : m.did [] ⟨17, d, 0, 0⟩ = { m with took := m.took + 1, pc := m.pc + 1, r := upd m.r d (dnb (m.r d) (m.r d / 32768)), c := m.r d % 2 == 1, z := dnb (m.r d) (m.r d / 32768) == 0, n := dnb (m.r d) (m.r d / 32768) / 32768 == 1, v := false } := by
  simp [Ma.did, bare, hD, hS, hI, lng, Ma.act, Ma.become, Ma.reg]
theorem did_18 (m : Ma) (d : Nat) : m.did [] ⟨18, d, 0, 0⟩ = { m with took := m.took + 1, pc := m.pc + 1, r := upd m.r d (dnb (m.r d) (oi m.c)), c := m.r d % 2 == 1, z := dnb (m.r d) (oi m.c) == 0, n := dnb (m.r d) (oi m.c) / 32768 == 1, v := false } := by
  simp [Ma.did, bare, hD, hS, hI, lng, Ma.act, Ma.become, Ma.reg]
theorem oi_top {x : Int} (h : wd x) : oi (x / 32768 == 1) = x / 32768 := by
  unfold wd at h
  have : x / 32768 = 0 ∨ x / 32768 = 1 := by omega
  rcases this with e | e <;> simp [oi, e]
theorem oi_low (x : Int) : oi (x % 2 == 1) = x % 2 := by
  have : x % 2 = 0 ∨ x % 2 = 1 := by omega
  rcases this with e | e <;> simp [oi, e]
theorem up_line (m : Ma) (n : Nat) (hw : ∀ i, i < n → wd (m.r i)) : ∀ k, k ≤ n → (∀ i, (m.line [] (upI k)).r i = if i < k then upb (m.r i) (cin m.r i) else m.r i) ∧ (1 ≤ k → (m.line [] (upI k)).c = (m.r (k - 1) / 32768 == 1))
  | 0, _ => ⟨fun i => by simp [upI, line_nil], fun h => by omega⟩
  | k + 1, hk => by
    obtain ⟨h1, h2⟩ := up_line m n hw k (by omega)
    rw [upI, line_append, line_cons, line_nil]
    generalize m.line [] (upI k) = m1 at *
    have hrk : m1.r k = m.r k := by rw [h1, if_neg (by omega)]
    have key : (m1.did [] ⟨if k = 0 then 14 else 15, k, 0, 0⟩).r = upd m1.r k (upb (m.r k) (cin m.r k)) ∧ (m1.did [] ⟨if k = 0 then 14 else 15, k, 0, 0⟩).c = (m.r k / 32768 == 1) := by
      by_cases e : k = 0
      · subst e
        rw [if_pos rfl, did_14, hrk]
        exact ⟨rfl, rfl⟩
      · rw [if_neg e, did_15, hrk, h2 (by omega), oi_top (hw (k - 1) (by omega))]
        obtain ⟨j, rfl⟩ : ∃ j, k = j + 1 := ⟨k - 1, by omega⟩
        exact ⟨rfl, rfl⟩
    refine ⟨fun i => ?_, fun _ => by rw [key.2]; simp⟩
    rw [key.1]
    by_cases e : i = k
    · subst e; rw [upd_same, if_pos (by omega)]
    · rw [upd_other _ _ _ _ e, h1]
      by_cases hi : i < k
      · rw [if_pos hi, if_pos (by omega)]
      · rw [if_neg hi, if_neg (by omega)]
/-- What goes into the highest word. -/
def topIn (o : Int) (x : Int) : Int := if o = 16 then 0 else x / 32768
theorem dn_line (m : Ma) (o : Int) (ho : o = 16 ∨ o = 17) (n : Nat) : ∀ k, k ≤ n → (∀ i, (m.line [] (dnI o n k)).r i = if n - k ≤ i ∧ i < n then dnb (m.r i) (if i + 1 = n then topIn o (m.r i) else m.r (i + 1) % 2) else m.r i) ∧ (1 ≤ k → (m.line [] (dnI o n k)).c = (m.r (n - k) % 2 == 1))
  | 0, _ => ⟨fun i => by rw [if_neg (by omega)]; rfl, fun h => by omega⟩
  | k + 1, hk => by
    obtain ⟨h1, h2⟩ := dn_line m o ho n k (by omega)
    rw [dnI, line_append, line_cons, line_nil]
    generalize m.line [] (dnI o n k) = m1 at *
    have hrk : m1.r (n - 1 - k) = m.r (n - 1 - k) := by rw [h1, if_neg (by omega)]
    have key : (m1.did [] ⟨if k = 0 then o else 18, ((n - 1 - k : Nat) : Int), 0, 0⟩).r = upd m1.r (n - 1 - k) (dnb (m.r (n - 1 - k)) (if n - 1 - k + 1 = n then topIn o (m.r (n - 1 - k)) else m.r (n - 1 - k + 1) % 2)) ∧ (m1.did [] ⟨if k = 0 then o else 18, ((n - 1 - k : Nat) : Int), 0, 0⟩).c = (m.r (n - 1 - k) % 2 == 1) := by
      by_cases e : k = 0
      · subst e
        rw [if_pos rfl, if_pos (by omega)]
        rcases ho with rfl | rfl
        · rw [did_16, hrk]; exact ⟨rfl, rfl⟩
        · rw [did_17, hrk]; exact ⟨rfl, rfl⟩
      · rw [if_neg e, if_neg (by omega), did_18, hrk, h2 (by omega), oi_low, show n - 1 - k + 1 = n - k by omega]
        exact ⟨rfl, rfl⟩
    refine ⟨fun i => ?_, fun _ => by rw [key.2, show n - (k + 1) = n - 1 - k by omega]⟩
    rw [key.1]
    by_cases e : i = n - 1 - k
    · subst e; rw [upd_same, if_pos (show n - (k + 1) ≤ n - 1 - k ∧ n - 1 - k < n by omega)]
    · rw [upd_other _ _ _ _ e, h1]
      by_cases hi : n - k ≤ i ∧ i < n
      · rw [if_pos hi, if_pos (show n - (k + 1) ≤ i ∧ i < n by omega)]
      · rw [if_neg hi, if_neg (show ¬ (n - (k + 1) ≤ i ∧ i < n) by omega)]
end Go.Proofs.Ytjlbenbfmookoab
