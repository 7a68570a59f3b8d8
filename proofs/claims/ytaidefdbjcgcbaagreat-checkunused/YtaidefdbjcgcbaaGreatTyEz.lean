/-
  Types of numbers: what Binary answers.
-/
import Derived.Test.YtaidefdbjcgcbaaGreatTyDz
import Derived.WalkKit
namespace Go.Proofs.YtaidefdbjcgcbaaGreat
open Go.RowKit
set_option linter.unusedSimpArgs false
set_option linter.unusedVariables false

/-- A shift. -/
def shf (k : Int) (s : Bool) (n a m : Int) : Int := if k = 14 then cut n (a * 2 ^ min m.toNat 64) else cut n (mn s n a / 2 ^ min m.toNat 64)
theorem shifted_any (k a m n : Int) (s : Bool) (w : World) (hk : k = 14 ∨ k = 15) (h : IsW n) (ha : U a) (hm : U m) : Calls Tryz.prog 128 #[.int .i64 k, .int .u64 a, .int .u64 m, .agg #[.int .i64 n, .bool s]] w fun e w' => e = .returned (.tuple #[.int .u64 (shf k s n a m), .int .i64 0]) ∧ Below w.heap.size w w' := by
  rcases hk with rfl | rfl
  · have HL := hide (fun w => shl_any a m n w h ha hm)
    have e1 : shf 14 s n a m = cut n (a * 2 ^ min m.toNat 64) := rfl
    rw [e1]
    generalize cut n (a * 2 ^ min m.toNat 64) = R at *
    go_enter Tryz.func128, Tryz.ntmps128
    go_wp2_with (go_at_call 153; refine (unhide HL _).mono ?_; rintro e w1 ⟨rfl, k1⟩)
    go_ret2
    exact ⟨rfl, bT (below_a _ _) k1⟩
  · have HL : Hid (∀ w, Calls Tryz.prog 154 #[.int .u64 a, .int .u64 m, .int .i64 n, .bool s] w fun e w' => e = .returned (.tuple #[.int .u64 (shf 15 s n a m), .int .i64 0]) ∧ Below w.heap.size w w') := by
      intro w
      cases s
      · have e1 : shf 15 false n a m = cut n a / 2 ^ min m.toNat 64 := cut_div h a _
        rw [e1]
        exact shr_u a m n w h ha hm
      · exact shr_s a m n w h ha hm
    generalize shf 15 s n a m = R at *
    go_enter Tryz.func128, Tryz.ntmps128
    go_wp2_with (go_at_call 154; refine (unhide HL _).mono ?_; rintro e w1 ⟨rfl, k1⟩)
    go_ret2
    exact ⟨rfl, bT (below_a _ _) k1⟩

/-- What neither shifts nor compares: the number, and what is told of it. -/
def wrk (k : Int) (s : Bool) (n a b : Int) : Int × Int :=
  if k = 9 then (cut n (a * b), 0) else if k = 10 then (if cut n b = 0 then (0, 10) else (cut n ((mn s n a).tdiv (mn s n b)), 0)) else if k = 11 then (if cut n b = 0 then (0, 10) else (cut n ((mn s n a).tmod (mn s n b)), 0))
  else if k = 12 then (cut n (a + b), 0) else if k = 13 then (cut n (a - b), 0) else if k = 22 then (bits .and .u64 a b, 0) else if k = 23 then (bits .xor .u64 a b, 0) else (bits .or .u64 a b, 0)
def wkB (k : Int) : Prop := k = 9 ∨ k = 10 ∨ k = 11 ∨ k = 12 ∨ k = 13 ∨ k = 22 ∨ k = 23 ∨ k = 24
theorem worked_any (k a b n : Int) (s : Bool) (w : World) (hk : wkB k) (h : IsW n) (ha : U a) (hb : U b) : Calls Tryz.prog 132 #[.int .i64 k, .int .u64 a, .int .u64 b, .agg #[.int .i64 n, .bool s]] w fun e w' => e = .returned (.tuple #[.int .u64 (wrk k s n a b).1, .int .i64 (wrk k s n a b).2]) ∧ Below w.heap.size w w' := by
  rcases hk with rfl | rfl | rfl | rfl | rfl | rfl | rfl | rfl
  · have HL := hide (fun w => mul_any a b n w h ha hb)
    have e1 : wrk 9 s n a b = (cut n (a * b), 0) := rfl
    rw [e1]
    generalize cut n (a * b) = R at *
    go_enter Tryz.func132, Tryz.ntmps132
    go_wp2_with (go_at_call 156; refine (unhide HL _).mono ?_; rintro e w1 ⟨rfl, k1⟩)
    go_ret2
    exact ⟨rfl, bT (below_a _ _) k1⟩
  · have HL : Hid (∀ w, Calls Tryz.prog 157 #[.int .u64 a, .int .u64 b, .int .i64 n, .bool s] w fun e w' => e = .returned (.tuple #[.int .u64 (wrk 10 s n a b).1, .int .i64 (wrk 10 s n a b).2]) ∧ Below w.heap.size w w') := by
      intro w
      by_cases hz : cut n b = 0
      · have e1 : wrk 10 s n a b = (0, 10) := by simp [wrk, hz]
        rw [e1]
        exact div_zero a b n s w h hb hz
      · cases s
        · have e1 : wrk 10 false n a b = (cut n a / cut n b, 0) := by
            have p := cut_lo h b
            have q := cut_lo h a
            simp only [wrk, hz, mn]
            simp
            rw [Int.tdiv_eq_ediv_of_nonneg q]
            exact divu_num h a b (by omega)
          rw [e1]
          exact div_u a b n w h ha hb hz
        · have e1 : wrk 10 true n a b = (cut n ((sgn n a).tdiv (sgn n b)), 0) := by simp [wrk, hz, mn]
          rw [e1]
          exact div_s a b n w h ha hb hz
    generalize (wrk 10 s n a b).1 = R at *
    generalize (wrk 10 s n a b).2 = E at *
    go_enter Tryz.func132, Tryz.ntmps132
    go_wp2_with (go_at_call 157; refine (unhide HL _).mono ?_; rintro e w1 ⟨rfl, k1⟩)
    go_ret2
    exact ⟨rfl, bT (below_a _ _) k1⟩
  · have HL : Hid (∀ w, Calls Tryz.prog 158 #[.int .u64 a, .int .u64 b, .int .i64 n, .bool s] w fun e w' => e = .returned (.tuple #[.int .u64 (wrk 11 s n a b).1, .int .i64 (wrk 11 s n a b).2]) ∧ Below w.heap.size w w') := by
      intro w
      by_cases hz : cut n b = 0
      · have e1 : wrk 11 s n a b = (0, 10) := by simp [wrk, hz]
        rw [e1]
        exact rem_zero a b n s w h hb hz
      · cases s
        · have e1 : wrk 11 false n a b = (cut n a % cut n b, 0) := by
            have p := cut_lo h b
            have q := cut_lo h a
            simp only [wrk, hz, mn]
            simp
            rw [Int.tmod_eq_emod_of_nonneg q]
            exact remu_num h a b (by omega)
          rw [e1]
          exact rem_u a b n w h ha hb hz
        · have e1 : wrk 11 true n a b = (cut n ((sgn n a).tmod (sgn n b)), 0) := by simp [wrk, hz, mn]
          rw [e1]
          exact rem_s a b n w h ha hb hz
    generalize (wrk 11 s n a b).1 = R at *
    generalize (wrk 11 s n a b).2 = E at *
    go_enter Tryz.func132, Tryz.ntmps132
    go_wp2_with (go_at_call 158; refine (unhide HL _).mono ?_; rintro e w1 ⟨rfl, k1⟩)
    go_ret2
    exact ⟨rfl, bT (below_a _ _) k1⟩
  · have HL := hide (fun w => add_any a b n w h ha hb)
    have e1 : wrk 12 s n a b = (cut n (a + b), 0) := rfl
    rw [e1]
    generalize cut n (a + b) = R at *
    go_enter Tryz.func132, Tryz.ntmps132
    go_wp2_with (go_at_call 159; refine (unhide HL _).mono ?_; rintro e w1 ⟨rfl, k1⟩)
    go_ret2
    exact ⟨rfl, bT (below_a _ _) k1⟩
  · have HL := hide (fun w => sub_any a b n w h ha hb)
    have e1 : wrk 13 s n a b = (cut n (a - b), 0) := rfl
    rw [e1]
    generalize cut n (a - b) = R at *
    go_enter Tryz.func132, Tryz.ntmps132
    go_wp2_with (go_at_call 160; refine (unhide HL _).mono ?_; rintro e w1 ⟨rfl, k1⟩)
    go_ret2
    exact ⟨rfl, bT (below_a _ _) k1⟩
  · have e1 : wrk 22 s n a b = (bits .and .u64 a b, 0) := rfl
    rw [e1]
    go_enter Tryz.func132, Tryz.ntmps132
    go_wp2
    go_ret2
    exact ⟨rfl, below_a _ _⟩
  · have e1 : wrk 23 s n a b = (bits .xor .u64 a b, 0) := rfl
    rw [e1]
    go_enter Tryz.func132, Tryz.ntmps132
    go_wp2
    go_ret2
    exact ⟨rfl, below_a _ _⟩
  · have e1 : wrk 24 s n a b = (bits .or .u64 a b, 0) := rfl
    rw [e1]
    go_enter Tryz.func132, Tryz.ntmps132
    go_wp2
    go_ret2
    exact ⟨rfl, below_a _ _⟩
end Go.Proofs.YtaidefdbjcgcbaaGreat

/-
  Types of numbers: what Binary answers.
-/
namespace Go.Proofs.YtaidefdbjcgcbaaGreat
open Go.RowKit
set_option linter.unusedSimpArgs false
set_option linter.unusedVariables false

theorem isW_p {b : Int} (h : IsW b) : IsW (pb b) := by
  unfold pb
  split
  · exact .inr (.inl rfl)
  · exact h
theorem isW_c {a b : Int} (ha : IsW a) (hb : IsW b) : IsW (cb a b) := by
  unfold cb
  split
  · exact isW_p hb
  · exact isW_p ha
theorem u_conv {x a b : Int} {s : Bool} (h : IsW b) : U (conv x a s b) := u_cut h _

set_option maxHeartbeats 1000000 in
theorem binary_no (k a b x y : Int) (s t : Bool) (w : World) (h : NoW x ∨ (IsW x ∧ NoW y) ∨ (IsW x ∧ IsW y ∧ (k < 9 ∨ 24 < k))) : Calls Tryz.prog 88 #[.int .i64 k, .int .u64 a, .int .u64 b, .agg #[.int .i64 x, .bool s], .agg #[.int .i64 y, .bool t]] w fun e w' => e = .returned (.tuple #[.int .u64 0, .int .i64 1]) ∧ Below w.heap.size w w' := by
  rcases h with h | ⟨h1, h2⟩ | ⟨h1, h2, h3⟩
  · go_enter Tryz.func88, Tryz.ntmps88
    go_wp2_with (go_at_call 83; refine (tvalid_no _ _ _ h).mono ?_; rintro e w1 ⟨rfl, k1⟩)
    go_ret2
    exact ⟨rfl, bT (below_a _ _) (bT (below_a _ _) k1)⟩
  · have B1 := hide (fun (w : World) => tvalid_yes x s w h1)
    have B2 := hide (fun (w : World) => tvalid_no y t w h2)
    go_enter Tryz.func88, Tryz.ntmps88
    go_wp2_with (first | (go_at_call 83; have K := k1; refine (unhide B2 _).mono ?_; rintro e w2 ⟨rfl, k2⟩; clear K) | (go_at_call 83; refine (unhide B1 _).mono ?_; rintro e w1 ⟨rfl, k1⟩; have R := hide ((Box.new (w.alloc (.cells #[.int .i64 x, .bool s] 34)) #[.int .i64 y, .bool t] 34).step k1); obtain ⟨c0, c1⟩ := (unhide R).at2; simp only [World.size_alloc] at c0 c1))
    go_ret2
    exact ⟨rfl, bT (below_a _ _) (bT (below_a _ _) (bT k1 k2))⟩
  · have B1 := hide (fun (w : World) => tvalid_yes x s w h1)
    have B2 := hide (fun (w : World) => tvalid_yes y t w h2)
    by_cases h4 : k < 9
    · have d1 : decide (k < 9) = true := by simpa using h4
      go_enter Tryz.func88, Tryz.ntmps88
      go_wp2_with (first | (go_at_call 83; have K := k1; refine (unhide B2 _).mono ?_; rintro e w2 ⟨rfl, k2⟩; clear K) | (go_at_call 83; refine (unhide B1 _).mono ?_; rintro e w1 ⟨rfl, k1⟩; have R := hide ((Box.new (w.alloc (.cells #[.int .i64 x, .bool s] 34)) #[.int .i64 y, .bool t] 34).step k1); obtain ⟨c0, c1⟩ := (unhide R).at2; simp only [World.size_alloc] at c0 c1))
      go_ret2
      exact ⟨rfl, bT (below_a _ _) (bT (below_a _ _) (bT k1 k2))⟩
    · have d1 : decide (k < 9) = false := by simpa using h4
      have d2 : decide (24 < k) = true := by simp; omega
      go_enter Tryz.func88, Tryz.ntmps88
      go_wp2_with (first | (go_at_call 83; have K := k1; refine (unhide B2 _).mono ?_; rintro e w2 ⟨rfl, k2⟩; clear K) | (go_at_call 83; refine (unhide B1 _).mono ?_; rintro e w1 ⟨rfl, k1⟩; have R := hide ((Box.new (w.alloc (.cells #[.int .i64 x, .bool s] 34)) #[.int .i64 y, .bool t] 34).step k1); obtain ⟨c0, c1⟩ := (unhide R).at2; simp only [World.size_alloc] at c0 c1))
      go_ret2
      exact ⟨rfl, bT (below_a _ _) (bT (below_a _ _) (bT k1 k2))⟩

/-- Two small blocks made one behind the other. -/
structure Duo (w wx : World) (a0 a1 b0 b1 : Value) : Prop where
  bel : Below w.heap.size w wx
  A : Box wx w.heap.size [a0, a1]
  B : Box wx (w.heap.size + 1) [b0, b1]
theorem Duo.new {w w1 : World} {T : TypeId} {a0 a1 b0 b1 : Value} (k : Below ((w.alloc (.cells #[a0, a1] T)).alloc (.cells #[b0, b1] T)).heap.size ((w.alloc (.cells #[a0, a1] T)).alloc (.cells #[b0, b1] T)) w1) : Duo w w1 a0 a1 b0 b1 := by
  have h1 := below_a w (.cells #[a0, a1] T)
  have h2 := below_a (w.alloc (.cells #[a0, a1] T)) (.cells #[b0, b1] T)
  have A := Box.new w #[a0, a1] T
  have B := Box.new (w.alloc (.cells #[a0, a1] T)) #[b0, b1] T
  simp only [World.size_alloc] at B
  exact ⟨bT h1 (bT h2 k), (A.step h2).step k, B.step k⟩
theorem Duo.step {w w1 w2 : World} {a0 a1 b0 b1 : Value} (h : Duo w w1 a0 a1 b0 b1) (k : Below w1.heap.size w1 w2) : Duo w w2 a0 a1 b0 b1 := ⟨bT h.bel k, h.A.step k, h.B.step k⟩
end Go.Proofs.YtaidefdbjcgcbaaGreat

/-
  Numbers of any size by words of thirty-two bits: no program in sight.
-/
namespace Go.Proofs.YtaidefdbjcgcbaaGreat
open Go.RowKit
set_option linter.unusedSimpArgs false
set_option linter.unusedVariables false

/-- The number that words make, the least first. -/
def vl : List Int → Int
  | [] => 0
  | x :: r => x + 4294967296 * vl r
def Wds (L : List Int) : Prop := ∀ x ∈ L, 0 ≤ x ∧ x ≤ 4294967295
/-- No nought at the end. -/
def Norm (L : List Int) : Prop := ∀ i, L.length = i + 1 → L.getD i 0 ≠ 0

theorem bp_pos (k : Nat) : (0 : Int) < 4294967296 ^ k := Int.pow_pos (by decide)
theorem vl_app : ∀ (L M : List Int), vl (L ++ M) = vl L + 4294967296 ^ L.length * vl M
  | [], M => by simp [vl]
  | x :: r, M => by
    simp only [List.cons_append, vl, vl_app r M, List.length_cons]
    grind
theorem vl_snoc (L : List Int) (x : Int) : vl (L ++ [x]) = vl L + 4294967296 ^ L.length * x := by
  rw [vl_app]; simp [vl]
theorem vl_lo : ∀ {L : List Int}, Wds L → 0 ≤ vl L
  | [], _ => by simp [vl]
  | x :: r, h => by
    have h1 := h x (by simp)
    have h2 := vl_lo (L := r) (fun y hy => h y (by simp [hy]))
    simp only [vl]; omega
theorem vl_hi : ∀ {L : List Int}, Wds L → vl L < 4294967296 ^ L.length
  | [], _ => by simp [vl]
  | x :: r, h => by
    have h1 := h x (by simp)
    have h2 := vl_hi (L := r) (fun y hy => h y (by simp [hy]))
    simp only [vl, List.length_cons, Int.pow_succ]; omega
theorem vl_take (L : List Int) : ∀ i, vl (L.take (i + 1)) = vl (L.take i) + 4294967296 ^ i * L.getD i 0 := by
  induction L with
  | nil => intro i; simp [vl]
  | cons x r ih =>
    intro i
    cases i with
    | zero => simp [vl]
    | succ i =>
      have := ih i
      simp only [List.take_succ_cons, vl, List.getD_cons_succ, Int.pow_succ, this]
      grind
theorem vl_set : ∀ (L : List Int) (k : Nat) (x : Int), k < L.length → vl (L.set k x) = vl L + 4294967296 ^ k * (x - L.getD k 0)
  | [], k, x, h => by simp at h
  | y :: r, 0, x, _ => by simp [vl]; omega
  | y :: r, k + 1, x, h => by
    have := vl_set r k x (by simpa using h)
    simp only [List.set_cons_succ, vl, List.getD_cons_succ, Int.pow_succ, this]
    grind
theorem vl_zero : ∀ (L : List Int), (∀ j, L.getD j 0 = 0) → vl L = 0
  | [], _ => rfl
  | x :: r, h => by
    have h0 := h 0
    have := vl_zero r (fun j => h (j + 1))
    simp at h0
    simp only [vl, h0, this]; omega
theorem vl_rep (n : Nat) : vl (List.replicate n 0) = 0 := by
  refine vl_zero _ fun j => ?_
  rw [List.getD_eq_getElem?_getD, List.getElem?_replicate]
  split <;> rfl
theorem wds_rep (n : Nat) : Wds (List.replicate n 0) := fun x hx => by
  have := List.eq_of_mem_replicate hx
  omega
theorem Wds.set {L : List Int} (h : Wds L) (k : Nat) {x : Int} (hx : 0 ≤ x ∧ x ≤ 4294967295) : Wds (L.set k x) := fun y hy => by
  rcases List.mem_or_eq_of_mem_set hy with h1 | h1
  · exact h y h1
  · rw [h1]; exact hx
theorem Wds.take {L : List Int} (h : Wds L) (k : Nat) : Wds (L.take k) := fun y hy => h y (List.mem_of_mem_take hy)
theorem Wds.drop {L : List Int} (h : Wds L) (k : Nat) : Wds (L.drop k) := fun y hy => h y (List.mem_of_mem_drop hy)
theorem Wds.app {L M : List Int} (h : Wds L) (k : Wds M) : Wds (L ++ M) := fun y hy => by
  rcases List.mem_append.1 hy with h1 | h1
  · exact h y h1
  · exact k y h1
theorem Wds.get {L : List Int} (h : Wds L) (j : Nat) : 0 ≤ L.getD j 0 ∧ L.getD j 0 ≤ 4294967295 := by
  rw [List.getD_eq_getElem?_getD]
  cases e : L[j]? with
  | none => simp
  | some x => exact h x (List.mem_of_getElem? e)
theorem getD_set_ne {L : List Int} {k j : Nat} {x : Int} (h : k ≠ j) : (L.set k x).getD j 0 = L.getD j 0 := by
  rw [List.getD_eq_getElem?_getD, List.getElem?_set_ne h, ← List.getD_eq_getElem?_getD]
theorem getD_set_self {L : List Int} {k : Nat} {x : Int} (h : k < L.length) : (L.set k x).getD k 0 = x := by
  rw [List.getD_eq_getElem?_getD, List.getElem?_set_self h]; rfl
theorem getD_of_lt {L : List Int} {k : Nat} (h : k < L.length) : L[k]? = some (L.getD k 0) := by
  rw [List.getD_eq_getElem?_getD, List.getElem?_eq_getElem h]; rfl
theorem getD_rep (n j : Nat) : (List.replicate n (0 : Int)).getD j 0 = 0 := by
  rw [List.getD_eq_getElem?_getD, List.getElem?_replicate]
  split <;> rfl
/-- Words that make a number, without a nought at the end. -/
def Is (L : List Int) (n : Int) : Prop := Wds L ∧ Norm L ∧ vl L = n
theorem take_norm {L : List Int} (h : Wds L) (n : Nat) (hn : n ≤ L.length) (hz : ∀ j, n ≤ j → L.getD j 0 = 0) (hl : n = 0 ∨ L.getD (n - 1) 0 ≠ 0) : Is (L.take n) (vl L) := by
  refine ⟨h.take n, fun i hi => ?_, ?_⟩
  · rw [List.length_take, Nat.min_eq_left hn] at hi
    subst hi
    rcases hl with e | e
    · omega
    · rw [List.getD_eq_getElem?_getD, List.getElem?_take, if_pos (by omega), ← List.getD_eq_getElem?_getD]; exact e
  · have e := vl_app (L.take n) (L.drop n)
    rw [List.take_append_drop] at e
    have z : vl (L.drop n) = 0 := vl_zero _ fun j => by
      rw [List.getD_eq_getElem?_getD, List.getElem?_drop, ← List.getD_eq_getElem?_getD]; exact hz _ (by omega)
    rw [e, z]; omega
theorem Is.lo {L : List Int} {n : Int} (h : Is L n) : 0 ≤ n := h.2.2 ▸ vl_lo h.1
theorem Is.hi {L : List Int} {n : Int} (h : Is L n) : n < 4294967296 ^ L.length := h.2.2 ▸ vl_hi h.1
theorem is_top {L : List Int} {n : Int} (h : Is L n) {k : Nat} (hk : L.length = k + 1) : 4294967296 ^ k ≤ n := by
  obtain ⟨h1, h2, h3⟩ := h
  have e := vl_take L k
  rw [List.take_of_length_le (by omega), h3] at e
  have a := vl_lo (h1.take k)
  have b := (h1.get k).1
  have c := h2 k hk
  have d : (4294967296 : Int) ^ k * 1 ≤ 4294967296 ^ k * L.getD k 0 := Int.mul_le_mul_of_nonneg_left (by omega) (Int.le_of_lt (bp_pos k))
  omega
theorem bp_le {a b : Nat} (h : a ≤ b) : (4294967296 : Int) ^ a ≤ 4294967296 ^ b := by
  have e : (4294967296 : Int) ^ b = 4294967296 ^ a * 4294967296 ^ (b - a) := by rw [← Int.pow_add]; congr 1; omega
  have := bp_pos (b - a)
  have g := Int.mul_le_mul_of_nonneg_left (show (1 : Int) ≤ 4294967296 ^ (b - a) by omega) (Int.le_of_lt (bp_pos a))
  omega
/-- A number has as many words as it wants. -/
theorem Is.len {L : List Int} {n : Int} (h : Is L n) (k : Nat) (hn : n < 4294967296 ^ k) : L.length ≤ k := by
  apply Nat.le_of_not_lt
  intro hl
  have a := is_top h (k := L.length - 1) (by omega)
  have b := bp_le (a := k) (b := L.length - 1) (by omega)
  omega
theorem Is.nil {n : Int} (h : Is [] n) : n = 0 := h.2.2.symm
theorem is_nil : Is [] 0 := ⟨fun _ h => by simp at h, fun i hi => by simp at hi, rfl⟩
theorem Is.zero {L : List Int} {n : Int} (h : Is L n) : L.length = 0 ↔ n = 0 := by
  constructor
  · intro e
    have := List.eq_nil_of_length_eq_zero e
    subst this
    exact h.nil
  · intro e
    have := h.len 0 (by rw [e]; decide)
    omega
end Go.Proofs.YtaidefdbjcgcbaaGreat
