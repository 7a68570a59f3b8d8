/-
  The long division by a power of two to the thirty-two: mathematics; length.
-/
import Derived.Test.YtaidefdbjcgcbaaGreatBigGz
import Derived.Test.YtaidefdbjcgcbaaGreatBigDz
import Derived.Test.YtaidefdbjcgcbaaGreatMem2z
import Derived.Laws.CopyOwn
namespace Go.Proofs.YtaidefdbjcgcbaaGreat
open Go.RowKit
set_option linter.unusedSimpArgs false
set_option linter.unusedVariables false

theorem vl_parts2 (L : List Int) (m : Nat) : vl L = vl (L.take m) + 4294967296 ^ m * L.getD m 0 + 4294967296 ^ (m + 1) * vl (L.drop (m + 1)) := by
  have e := vl_app (L.take (m + 1)) (L.drop (m + 1))
  rw [List.take_append_drop, vl_take] at e
  by_cases h : m + 1 ≤ L.length
  · rw [List.length_take, Nat.min_eq_left h] at e; exact e
  · rw [List.drop_eq_nil_of_le (by omega)] at e ⊢
    simpa [vl] using e
theorem vl_inj : ∀ {A B : List Int}, Wds A → Wds B → A.length = B.length → vl A = vl B → A = B
  | [], [], _, _, _, _ => rfl
  | [], _ :: _, _, _, h, _ => by simp at h
  | _ :: _, [], _, _, h, _ => by simp at h
  | x :: r, y :: s, hA, hB, hl, hv => by
    have a := hA x (by simp)
    have b := hB y (by simp)
    simp only [vl] at hv
    have e1 : x = y := by omega
    have e2 : vl r = vl s := by omega
    rw [e1, vl_inj (A := r) (B := s) (fun z hz => hA z (by simp [hz])) (fun z hz => hB z (by simp [hz])) (by simpa using hl) e2]
theorem is_unique {A B : List Int} {n : Int} (hA : Is A n) (hB : Is B n) : A = B := by
  have l1 := hA.len B.length hB.hi
  have l2 := hB.len A.length hA.hi
  exact vl_inj hA.1 hB.1 (by omega) (hA.2.2.trans hB.2.2.symm)
/-- One word, behind m noughts. -/
theorem is_top1 (m : Nat) (t : Int) (h0 : 0 < t) (h1 : t ≤ 4294967295) : Is (List.replicate m 0 ++ [t]) (4294967296 ^ m * t) := by
  refine ⟨(wds_rep m).app (fun x hx => by simp at hx; omega), fun i hi => ?_, ?_⟩
  · simp at hi
    subst hi
    rw [List.getD_eq_getElem?_getD, List.getElem?_append_right (by simp)]
    simp; omega
  · rw [vl_snoc, vl_rep, List.length_replicate, Int.zero_add]
theorem top1_at {m : Nat} {t : Int} {L : List Int} (hL : L = List.replicate m 0 ++ [t]) : L.length = m + 1 ∧ L.getD m 0 = t ∧ ∀ j, j < m → L.getD j 0 = 0 := by
  subst hL
  refine ⟨by simp, ?_, fun j hj => ?_⟩
  · rw [List.getD_eq_getElem?_getD, List.getElem?_append_right (by simp)]; simp
  · rw [List.getD_eq_getElem?_getD, List.getElem?_append_left (by simpa using hj), List.getElem?_replicate, if_pos hj]; rfl
/-- The rounds of the long division: words from k + m + 1 on are nought, the one below is less than half. -/
structure DInv (a : Int) (la m : Nat) (U Q : List Int) (k : Nat) : Prop where
  ul : U.length = la + 2
  uw : Wds U
  ql : Q.length = la - m + 1
  qw : Wds Q
  zer : ∀ j, k + m + 1 ≤ j → U.getD j 0 = 0
  top : U.getD (k + m) 0 < 2147483648
  qz : ∀ j, j < k → Q.getD j 0 = 0
  val : vl U + 2147483648 * 4294967296 ^ m * vl Q = a * 2147483648
theorem h_fit {x y : Int} (hx : 0 ≤ x ∧ x ≤ 4294967295) (hy : 0 ≤ y ∧ y < 2147483648) : 0 ≤ (y * 4294967296 + x) / 2147483648 ∧ (y * 4294967296 + x) / 2147483648 ≤ 4294967295 ∧ 0 ≤ (y * 4294967296 + x) % 2147483648 ∧ (y * 4294967296 + x) % 2147483648 < 2147483648 := by omega
theorem DInv.next {a : Int} {la m : Nat} {U Q : List Int} {j : Nat} (h : DInv a la m U Q (j + 1)) (hj : j + m ≤ la) :
    DInv a la m ((U.set (j + m) ((U.getD (j + m + 1) 0 * 4294967296 + U.getD (j + m) 0) % 2147483648)).set (j + m + 1) 0) (Q.set j ((U.getD (j + m + 1) 0 * 4294967296 + U.getD (j + m) 0) / 2147483648)) j := by
  obtain ⟨h1, h2, h3, h4, h5, h6, h7, h8⟩ := h
  have e1 : j + 1 + m = j + m + 1 := by omega
  rw [e1] at h6
  have x := h2.get (j + m)
  have y := h2.get (j + m + 1)
  obtain ⟨q1, q2, q3, q4⟩ := h_fit x ⟨y.1, h6⟩
  have w1 : Wds (U.set (j + m) ((U.getD (j + m + 1) 0 * 4294967296 + U.getD (j + m) 0) % 2147483648)) := h2.set _ (by omega)
  have s1 := vl_set U (j + m) ((U.getD (j + m + 1) 0 * 4294967296 + U.getD (j + m) 0) % 2147483648) (by omega)
  have s2 := vl_set (U.set (j + m) ((U.getD (j + m + 1) 0 * 4294967296 + U.getD (j + m) 0) % 2147483648)) (j + m + 1) 0 (by rw [List.length_set]; omega)
  rw [getD_set_ne (by omega)] at s2
  have s3 := vl_set Q j ((U.getD (j + m + 1) 0 * 4294967296 + U.getD (j + m) 0) / 2147483648) (by omega)
  rw [h7 j (by omega)] at s3
  refine ⟨by rw [List.length_set, List.length_set]; exact h1, w1.set _ (by omega), by rw [List.length_set]; exact h3, h4.set _ ⟨q1, q2⟩, fun i hi => ?_, ?_, fun i hi => by rw [getD_set_ne (by omega)]; exact h7 i (by omega), ?_⟩
  · by_cases e : i = j + m + 1
    · rw [e, getD_set_self (by rw [List.length_set]; omega)]
    · rw [getD_set_ne (by omega), getD_set_ne (by omega)]; exact h5 i (by omega)
  · rw [getD_set_ne (by omega), getD_set_self (by omega)]; exact q4
  · rw [s2, s1, s3, ← h8]
    have dm : U.getD (j + m + 1) 0 * 4294967296 + U.getD (j + m) 0 = 2147483648 * ((U.getD (j + m + 1) 0 * 4294967296 + U.getD (j + m) 0) / 2147483648) + (U.getD (j + m + 1) 0 * 4294967296 + U.getD (j + m) 0) % 2147483648 := (Int.mul_ediv_add_emod _ _).symm
    have p1 : (4294967296 : Int) ^ (j + m + 1) = 4294967296 ^ j * 4294967296 ^ m * 4294967296 := by rw [Int.pow_succ, Int.pow_add]
    have p2 : (4294967296 : Int) ^ (j + m) = 4294967296 ^ j * 4294967296 ^ m := Int.pow_add ..
    rw [p1, p2]
    generalize (U.getD (j + m + 1) 0 * 4294967296 + U.getD (j + m) 0) / 2147483648 = g at *
    generalize (U.getD (j + m + 1) 0 * 4294967296 + U.getD (j + m) 0) % 2147483648 = r at *
    generalize U.getD (j + m + 1) 0 = y at *
    generalize U.getD (j + m) 0 = x at *
    generalize (4294967296 : Int) ^ j = P at *
    generalize (4294967296 : Int) ^ m = M at *
    clear s1 s2 s3 w1 p1 p2 h1 h2 h3 h4 h5 h6 h7 h8 q1 q2 q3 q4
    grind
theorem DInv.done {a : Int} {la m : Nat} {U Q : List Int} (h : DInv a la m U Q 0) (hm : m ≤ la) : vl Q = a / 4294967296 ^ m ∧ vl U / 2147483648 = a % 4294967296 ^ m := by
  obtain ⟨h1, h2, h3, h4, h5, h6, h7, h8⟩ := h
  rw [Nat.zero_add] at h6
  have p := bp_pos m
  have e := vl_parts2 U m
  have z : vl (U.drop (m + 1)) = 0 := vl_zero _ fun j => by
    rw [List.getD_eq_getElem?_getD, List.getElem?_drop, ← List.getD_eq_getElem?_getD]; exact h5 _ (by omega)
  rw [z, Int.mul_zero, Int.add_zero] at e
  have t1 := vl_hi (h2.take m)
  rw [List.length_take, Nat.min_eq_left (by omega)] at t1
  have t0 := vl_lo h2
  have b : (4294967296 : Int) ^ m * U.getD m 0 ≤ 4294967296 ^ m * 2147483647 := Int.mul_le_mul_of_nonneg_left (by omega) (Int.le_of_lt p)
  have hlt : vl U < 2147483648 * 4294967296 ^ m := by omega
  have hU : vl U = 2147483648 * (a - 4294967296 ^ m * vl Q) := by rw [Int.mul_sub, ← Int.mul_assoc]; omega
  have r0 : 0 ≤ a - 4294967296 ^ m * vl Q := by omega
  have r1 : a - 4294967296 ^ m * vl Q < 4294967296 ^ m := by omega
  have ea : a = (a - 4294967296 ^ m * vl Q) + 4294967296 ^ m * vl Q := by omega
  generalize hr : a - 4294967296 ^ m * vl Q = r at *
  constructor
  · rw [ea, Int.add_mul_ediv_left _ _ (by omega), Int.ediv_eq_zero_of_lt r0 r1]; omega
  · rw [hU, ea, Int.add_mul_emod_self_left, Int.emod_eq_of_lt r0 r1]; omega
/-- The one word that turns within a round: what is taken away, and what is borrowed. -/
theorem borrow {x y g : Int} (hx : 0 ≤ x ∧ x ≤ 4294967295) (hy : 0 ≤ y ∧ y < 2147483648) (hg : g = (y * 4294967296 + x) / 2147483648) :
    (x - g * 2147483648 % 4294967296) % 18446744073709551616 % 4294967296 = (y * 4294967296 + x) % 2147483648 ∧ (y - g * 2147483648 / 4294967296 - (x - g * 2147483648 % 4294967296) % 18446744073709551616 / 9223372036854775808) = 0 := by
  omega
set_option maxHeartbeats 1000000 in
theorem length_any (v : Value) (m : Nat) (w : World) (h : Dg w v (4294967296 ^ m)) (hm : m ≤ 7) :
    Calls Tryz.prog 166 #[v] w fun e w' => w' = w ∧ e = .returned (.int .i64 (32 * m + 1)) := by
  obtain ⟨L, rA, iA⟩ := h
  have eL := is_unique iA (by have := is_top1 m 1 (by decide) (by decide); rw [Int.mul_one] at this; exact this)
  obtain ⟨l1, l2, _⟩ := top1_at eL
  obtain ⟨ao, cap, rfl, _, _, _, h4, h5, h6⟩ := rA.at
  obtain ⟨d, rfl⟩ := h5 (by omega)
  have c0 := h6 d rfl m (by omega)
  rw [l2] at c0
  rw [l1]
  have e1 : (((m + 1 : Nat) : Int) - 1) = (m : Int) := by omega
  have e2 : ((m + 1 : Nat) : Int) = (m : Int) + 1 := by omega
  have hb0 : ((m : Int) + 1 == 0) = false := beq_eq_false_iff_ne.2 (by omega)
  clear h4 h5 h6 rA iA eL l1 l2
  go_enter Tryz.func166, Tryz.ntmps166
  go_wp2_with fail
  go_loopg [3, 4] 1 (fun g n t wr => wr = w ∧ ((g = 1 ∧ n = .int .i64 0 ∧ t = .int .u32 1) ∨ (g = 0 ∧ n = .int .i64 1 ∧ t = .int .u32 0)))
  case atStart => exact ⟨rfl, .inl ⟨rfl, rfl, rfl⟩⟩
  case round =>
    obtain ⟨rfl, ⟨hg, rfl, rfl⟩ | ⟨hg, rfl, rfl⟩⟩ := hrel
    · go_wp2_with fail
      go_roundg 0
      case measure => omega
      case rel => exact ⟨rfl, .inr ⟨rfl, rfl, rfl⟩⟩
    · go_wp2_with fail
      go_ret
      refine ⟨rfl, congrArg (fun z => Ending.returned (Value.int .i64 z)) ?_⟩
      omega
end Go.Proofs.YtaidefdbjcgcbaaGreat

/-
  The long division by a power of two to the thirty-two: what its walk wants.
-/
namespace Go.Proofs.YtaidefdbjcgcbaaGreat
open Go.RowKit
set_option linter.unusedSimpArgs false
set_option linter.unusedVariables false

theorem Tryz.sizeU32 : (Tryz.prog.info? 159).map (·.size) = some 1 := by kernel_rfl
theorem make32t (n : Nat) (hn : n ≤ 900) (w : World) : (Instr.makeSlice 125 (.int .i64 ((n : Int) + 2)) (.int .i64 ((n : Int) + 2))).run Tryz.prog w = .ok (.slice (some ⟨w.heap.size, 0, none⟩) (n + 2) (n + 2)) (w.alloc (.cells (madeCells #[.int .u32 0] (n + 2)) 159)) :=
  make32 (n + 2) (by omega) w
theorem made_rep (n : Nat) : madeCells #[.int .u32 0] n = (List.replicate n (Value.int .u32 0)).toArray := by
  apply Array.ext'
  have : (fun x : Nat => ([Value.int IntKind.u32 0][x % 1]?).getD default) = fun _ => Value.int IntKind.u32 0 := by funext x; simp [Nat.mod_one]
  simp [madeCells, this, List.map_const']
theorem own_splice {w : World} {d n : Nat} {L : List Int} (h : Hid (w.heap[d]? = some (.cells (splice (List.replicate n (Value.int .u32 0)) 0 (L.map u32v)).toArray 159 (0, 0)))) (hl : L.length ≤ n) : Own32 w d (L ++ List.replicate (n - L.length) 0) := by
  have e : splice (List.replicate n (Value.int .u32 0)) 0 (L.map u32v) = (L ++ List.replicate (n - L.length) 0).map u32v := by
    unfold splice
    simp [List.map_append, List.drop_replicate]
    exact .inr rfl
  refine ⟨_, unhide h, by rw [e]; simp, fun j hj => ?_⟩
  rw [e, List.getElem?_toArray, List.getElem?_map, getD_of_lt hj]
  rfl
theorem hpu_of {w : World} {L : List Int} {ao : Option Addr} {dp : Nat} (h5 : L.length ≠ 0 → ∃ d, ao = some ⟨d, 0, none⟩) (h6 : ∀ d, ao = some ⟨d, 0, none⟩ → ∀ j, j < L.length → w.cell? ⟨d, j, none⟩ = some (.int .u32 (L.getD j 0))) :
    0 < (L.map u32v).length → (some (⟨dp, 0, none⟩ : Addr)) = some ⟨dp, 0, none⟩ ∧ ∃ ad, ao = some ad ∧ ∀ j v, (L.map u32v)[j]? = some v → w.cell? (ad.add j) = some v := by
  intro hp
  rw [List.length_map] at hp
  obtain ⟨d, rfl⟩ := h5 (by omega)
  refine ⟨rfl, _, rfl, fun j v hv => ?_⟩
  have hj : j < L.length := by have := (List.getElem?_eq_some_iff.1 hv).1; simpa using this
  rw [List.getElem?_map, getD_of_lt hj] at hv
  have e : (⟨d, 0, none⟩ : Addr).add j = ⟨d, j, none⟩ := by unfold Addr.add; split <;> simp_all
  rw [e, h6 d rfl j hj]
  exact hv
theorem Own32.other {w : World} {d b j : Nat} {R : List Int} {x : Value} (h : Own32 w d R) (hne : d ≠ b) : Own32 (w.setCell ⟨b, j, none⟩ x) d R := by
  obtain ⟨cs, h1, h2⟩ := h
  refine ⟨cs, ?_, h2⟩
  rw [← h1]
  simp [World.setCell, Array.getElem?_modify, Ne.symm hne]
theorem set_same (L : List Int) (k : Nat) (h : k < L.length) : L.set k (L.getD k 0) = L := by
  apply List.ext_getElem?
  intro i
  by_cases e : k = i
  · subst e
    rw [List.getElem?_set_self h, getD_of_lt h]
  · rw [List.getElem?_set_ne e]
theorem DInv.start {a : Int} {la m : Nat} {L : List Int} (hL : Is L (a * 2 ^ 31)) (hl : L.length ≤ la + 1) (hm : m ≤ la) : DInv a la m (L ++ List.replicate (la + 2 - L.length) 0) (List.replicate (la - m + 1) 0) (la - m + 1) := by
  refine ⟨by simp; omega, hL.1.app (wds_rep _), by simp, wds_rep _, fun j hj => ?_, ?_, fun j _ => getD_rep _ _, ?_⟩
  · rw [List.getD_eq_getElem?_getD, List.getElem?_eq_none (by simp; omega)]; rfl
  · rw [List.getD_eq_getElem?_getD, List.getElem?_append_right (by omega), ← List.getD_eq_getElem?_getD, getD_rep]; decide
  · rw [vl_app, vl_rep, vl_rep, hL.2.2]; simp
theorem make32x (n : Nat) (x : Int) (hx : x = (n : Int)) (hn : n ≤ 900) (w : World) : (Instr.makeSlice 125 (.int .i64 x) (.int .i64 x)).run Tryz.prog w = .ok (.slice (some ⟨w.heap.size, 0, none⟩) n n) (w.alloc (.cells (madeCells #[.int .u32 0] n) 159)) := by
  subst hx; exact make32 n (by omega) w
theorem wrap_wrap (e : Int) : IntKind.u64.wrap (IntKind.u64.wrap e) = e % 18446744073709551616 := by
  have h : ∀ x : Int, IntKind.u64.wrap x = x % 18446744073709551616 := fun x => rfl
  rw [h, h]; omega
end Go.Proofs.YtaidefdbjcgcbaaGreat
