/-
  Numbers in wider types: plain facts.
-/
import Derived.Test.YtdmniecdfakbcaaGreatTyEz
import Derived.Laws.Bits64
import Derived.Laws.Bits64b
import Derived.WalkKit
import Derived.Test.YtdmniecdfakbcaaGreatMem
import Derived.Test.YtdmniecdfakbcaaGreatRows
import Derived.Test.YtdmniecdfakbcaaGreatPlainz
import Derived.WalkSpells
import Derived.WalkLawsBesides
import Derived.WalkSmall
import Derived.Deep.LoopGhost
namespace Go.Proofs.YtdmniecdfakbcaaGreat
open Go.RowKit
set_option linter.unusedSimpArgs false
set_option linter.unusedVariables false

theorem md_le_dvd {x W : Int} (hx : IsW x) (hW : IsW W) (h : x ≤ W) : md x ∣ md W := by
  rcases hx with rfl | rfl | rfl | rfl <;> rcases hW with rfl | rfl | rfl | rfl <;> first | (exfalso; omega) | decide
theorem cut_le {x W : Int} (hx : IsW x) (hW : IsW W) (h : x ≤ W) (z : Int) : cut x (cut W z) = cut x z := Int.emod_emod_of_dvd _ (md_le_dvd hx hW h)
theorem cut_mn_le {x W : Int} (hx : IsW x) (hW : IsW W) (h : x ≤ W) (s : Bool) (z : Int) : cut x (mn s W z) = cut x z := by
  rw [← cut_le hx hW h, cut_mn, cut_le hx hW h]
theorem cut_nat (x : Int) (m : Nat) : cut x (m : Int) = ((m % 2 ^ x.toNat : Nat) : Int) := by
  unfold cut md
  rw [Int.natCast_emod, Int.natCast_pow]
  rfl
theorem u_nat {a : Int} (h : U a) : ∃ m : Nat, a = m ∧ m < 18446744073709551616 := ⟨a.toNat, by have := h.1; omega, by have := h.2; omega⟩
theorem mod_lt64 {m k : Nat} (h : m < 18446744073709551616) : m % k < 18446744073709551616 := Nat.lt_of_le_of_lt (Nat.mod_le _ _) h
theorem cut_and (x : Int) {a b : Int} (ha : U a) (hb : U b) : cut x (bits .and .u64 a b) = bits .and .u64 (cut x a) (cut x b) := by
  obtain ⟨m, rfl, h1⟩ := u_nat ha
  obtain ⟨n, rfl, h2⟩ := u_nat hb
  rw [bits_and_u64_nat m n h1 h2, cut_nat, cut_nat, cut_nat, bits_and_u64_nat _ _ (mod_lt64 h1) (mod_lt64 h2), Nat.and_mod_two_pow]
theorem cut_xor (x : Int) {a b : Int} (ha : U a) (hb : U b) : cut x (bits .xor .u64 a b) = bits .xor .u64 (cut x a) (cut x b) := by
  obtain ⟨m, rfl, h1⟩ := u_nat ha
  obtain ⟨n, rfl, h2⟩ := u_nat hb
  rw [bits_xor_u64_nat m n h1 h2, cut_nat, cut_nat, cut_nat, bits_xor_u64_nat _ _ (mod_lt64 h1) (mod_lt64 h2), Nat.xor_mod_two_pow]
theorem cut_or (x : Int) {a b : Int} (ha : U a) (hb : U b) : cut x (bits .or .u64 a b) = bits .or .u64 (cut x a) (cut x b) := by
  obtain ⟨m, rfl, h1⟩ := u_nat ha
  obtain ⟨n, rfl, h2⟩ := u_nat hb
  rw [bits_or_u64_nat m n h1 h2, cut_nat, cut_nat, cut_nat, bits_or_u64_nat _ _ (mod_lt64 h1) (mod_lt64 h2), Nat.or_mod_two_pow]

theorem cb_self {x : Int} (h : 16 ≤ x) : cb x x = x := by
  unfold cb pb
  rw [if_neg (by omega)]
  simp
  omega
theorem cs_self {x : Int} (s : Bool) (h : 16 ≤ x) : cs x s x s = s := by
  unfold cs ps
  rw [if_neg (by omega)]
  simp
  omega
def nwB (k : Int) : Prop := k = 9 ∨ k = 12 ∨ k = 13 ∨ k = 22 ∨ k = 23 ∨ k = 24
theorem nw_wk {k : Int} (h : nwB k) : wkB k := by unfold nwB at h; unfold wkB; omega
theorem nw_ok {k : Int} (h : nwB k) (s : Bool) (n a b : Int) : (wrk k s n a b).2 = 0 := by
  rcases h with rfl | rfl | rfl | rfl | rfl | rfl <;> rfl
theorem narrow {k x W a b : Int} {s t : Bool} (hk : nwB k) (hx : IsW x) (hW : IsW W) (h16 : 16 ≤ x) (h : x ≤ W) :
    conv (wrk k (cs W t W t) (cb W W) (conv (conv a x s W) W t (cb W W)) (conv (conv b x s W) W t (cb W W))).1 W t x = (wrk k (cs x s x s) (cb x x) (conv a x s (cb x x)) (conv b x s (cb x x))).1 := by
  rw [cb_self h16, cs_self s h16, cb_self (show 16 ≤ W by omega), cs_self t (show 16 ≤ W by omega)]
  have e1 : ∀ z, conv z x s x = cut x z := fun z => cut_mn s x z
  have e2 : ∀ z, conv z W t W = cut W z := fun z => cut_mn t W z
  have e3 : ∀ z, conv z W t x = cut x z := fun z => cut_mn_le hx hW h t z
  have e4 : ∀ z, cut W (conv z x s W) = conv z x s W := fun z => cut_cut W _
  have e5 : ∀ z, cut x (conv z x s W) = cut x z := fun z => by unfold conv; rw [cut_le hx hW h, cut_mn]
  rw [e1, e1, e2, e2, e3, e4, e4]
  have u1 : U (conv a x s W) := u_conv hW
  have u2 : U (conv b x s W) := u_conv hW
  rcases hk with rfl | rfl | rfl | rfl | rfl | rfl
  · show cut x (cut W (conv a x s W * conv b x s W)) = cut x (cut x a * cut x b)
    rw [cut_le hx hW h, ← cut_mul x (conv a x s W), e5, e5]
  · show cut x (cut W (conv a x s W + conv b x s W)) = cut x (cut x a + cut x b)
    rw [cut_le hx hW h, ← cut_add x (conv a x s W), e5, e5]
  · show cut x (cut W (conv a x s W - conv b x s W)) = cut x (cut x a - cut x b)
    rw [cut_le hx hW h, ← cut_sub x (conv a x s W), e5, e5]
  · show cut x (bits .and .u64 _ _) = bits .and .u64 _ _
    rw [cut_and x u1 u2, e5, e5]
  · show cut x (bits .xor .u64 _ _) = bits .xor .u64 _ _
    rw [cut_xor x u1 u2, e5, e5]
  · show cut x (bits .or .u64 _ _) = bits .or .u64 _ _
    rw [cut_or x u1 u2, e5, e5]
end Go.Proofs.YtdmniecdfakbcaaGreat

/-
  Numbers of any size by words of thirty-two bits: no program in sight.
-/
namespace Go.Proofs.YtdmniecdfakbcaaGreat
open Go.RowKit
set_option linter.unusedSimpArgs false
set_option linter.unusedVariables false

/-- The number that words make, the least first. -/
def vl : List Int → Int
  | [] => 0
  | x :: r => x + 4294967296 * vl r
def Wds (L : List Int) : Prop := ∀ x ∈ L, 0 ≤ x ∧ x ≤ 4294967295
/-- No nought at the end. -/
def Norm (L : List Int) : Prop := ∀ i, L.length = i + 1 → L.getD i 0 ≠ 0

theorem bp_pos (k : Nat) : (0 : Int) < 4294967296 ^ k := Int.pow_pos (by decide)
theorem vl_app : ∀ (L M : List Int), vl (L ++ M) = vl L + 4294967296 ^ L.length * vl M
  | [], M => by simp [vl]
  | x :: r, M => by
    simp only [List.cons_append, vl, vl_app r M, List.length_cons]
    grind
theorem vl_snoc (L : List Int) (x : Int) : vl (L ++ [x]) = vl L + 4294967296 ^ L.length * x := by
  rw [vl_app]; simp [vl]
theorem vl_lo : ∀ {L : List Int}, Wds L → 0 ≤ vl L
  | [], _ => by simp [vl]
  | x :: r, h => by
    have h1 := h x (by simp)
    have h2 := vl_lo (L := r) (fun y hy => h y (by simp [hy]))
    simp only [vl]; omega
theorem vl_hi : ∀ {L : List Int}, Wds L → vl L < 4294967296 ^ L.length
  | [], _ => by simp [vl]
  | x :: r, h => by
    have h1 := h x (by simp)
    have h2 := vl_hi (L := r) (fun y hy => h y (by simp [hy]))
    simp only [vl, List.length_cons, Int.pow_succ]; omega
theorem vl_take (L : List Int) : ∀ i, vl (L.take (i + 1)) = vl (L.take i) + 4294967296 ^ i * L.getD i 0 := by
  induction L with
  | nil => intro i; simp [vl]
  | cons x r ih =>
    intro i
    cases i with
    | zero => simp [vl]
    | succ i =>
      have := ih i
      simp only [List.take_succ_cons, vl, List.getD_cons_succ, Int.pow_succ, this]
      grind
theorem vl_set : ∀ (L : List Int) (k : Nat) (x : Int), k < L.length → vl (L.set k x) = vl L + 4294967296 ^ k * (x - L.getD k 0)
  | [], k, x, h => by simp at h
  | y :: r, 0, x, _ => by simp [vl]; omega
  | y :: r, k + 1, x, h => by
    have := vl_set r k x (by simpa using h)
    simp only [List.set_cons_succ, vl, List.getD_cons_succ, Int.pow_succ, this]
    grind
theorem vl_zero : ∀ (L : List Int), (∀ j, L.getD j 0 = 0) → vl L = 0
  | [], _ => rfl
  | x :: r, h => by
    have h0 := h 0
    have := vl_zero r (fun j => h (j + 1))
    simp at h0
    simp only [vl, h0, this]; omega
theorem vl_rep (n : Nat) : vl (List.replicate n 0) = 0 := by
  refine vl_zero _ fun j => ?_
  rw [List.getD_eq_getElem?_getD, List.getElem?_replicate]
  split <;> rfl
theorem wds_rep (n : Nat) : Wds (List.replicate n 0) := fun x hx => by
  have := List.eq_of_mem_replicate hx
  omega
theorem Wds.set {L : List Int} (h : Wds L) (k : Nat) {x : Int} (hx : 0 ≤ x ∧ x ≤ 4294967295) : Wds (L.set k x) := fun y hy => by
  rcases List.mem_or_eq_of_mem_set hy with h1 | h1
  · exact h y h1
  · rw [h1]; exact hx
theorem Wds.take {L : List Int} (h : Wds L) (k : Nat) : Wds (L.take k) := fun y hy => h y (List.mem_of_mem_take hy)
theorem Wds.drop {L : List Int} (h : Wds L) (k : Nat) : Wds (L.drop k) := fun y hy => h y (List.mem_of_mem_drop hy)
theorem Wds.app {L M : List Int} (h : Wds L) (k : Wds M) : Wds (L ++ M) := fun y hy => by
  rcases List.mem_append.1 hy with h1 | h1
  · exact h y h1
  · exact k y h1
theorem Wds.get {L : List Int} (h : Wds L) (j : Nat) : 0 ≤ L.getD j 0 ∧ L.getD j 0 ≤ 4294967295 := by
  rw [List.getD_eq_getElem?_getD]
  cases e : L[j]? with
  | none => simp
  | some x => exact h x (List.mem_of_getElem? e)
theorem getD_set_ne {L : List Int} {k j : Nat} {x : Int} (h : k ≠ j) : (L.set k x).getD j 0 = L.getD j 0 := by
  rw [List.getD_eq_getElem?_getD, List.getElem?_set_ne h, ← List.getD_eq_getElem?_getD]
theorem getD_set_self {L : List Int} {k : Nat} {x : Int} (h : k < L.length) : (L.set k x).getD k 0 = x := by
  rw [List.getD_eq_getElem?_getD, List.getElem?_set_self h]; rfl
theorem getD_of_lt {L : List Int} {k : Nat} (h : k < L.length) : L[k]? = some (L.getD k 0) := by
  rw [List.getD_eq_getElem?_getD, List.getElem?_eq_getElem h]; rfl
theorem getD_rep (n j : Nat) : (List.replicate n (0 : Int)).getD j 0 = 0 := by
  rw [List.getD_eq_getElem?_getD, List.getElem?_replicate]
  split <;> rfl
/-- Words that make a number, without a nought at the end. -/
def Is (L : List Int) (n : Int) : Prop := Wds L ∧ Norm L ∧ vl L = n
theorem take_norm {L : List Int} (h : Wds L) (n : Nat) (hn : n ≤ L.length) (hz : ∀ j, n ≤ j → L.getD j 0 = 0) (hl : n = 0 ∨ L.getD (n - 1) 0 ≠ 0) : Is (L.take n) (vl L) := by
  refine ⟨h.take n, fun i hi => ?_, ?_⟩
  · rw [List.length_take, Nat.min_eq_left hn] at hi
    subst hi
    rcases hl with e | e
    · omega
    · rw [List.getD_eq_getElem?_getD, List.getElem?_take, if_pos (by omega), ← List.getD_eq_getElem?_getD]; exact e
  · have e := vl_app (L.take n) (L.drop n)
    rw [List.take_append_drop] at e
    have z : vl (L.drop n) = 0 := vl_zero _ fun j => by
      rw [List.getD_eq_getElem?_getD, List.getElem?_drop, ← List.getD_eq_getElem?_getD]; exact hz _ (by omega)
    rw [e, z]; omega
theorem Is.lo {L : List Int} {n : Int} (h : Is L n) : 0 ≤ n := h.2.2 ▸ vl_lo h.1
theorem Is.hi {L : List Int} {n : Int} (h : Is L n) : n < 4294967296 ^ L.length := h.2.2 ▸ vl_hi h.1
theorem is_top {L : List Int} {n : Int} (h : Is L n) {k : Nat} (hk : L.length = k + 1) : 4294967296 ^ k ≤ n := by
  obtain ⟨h1, h2, h3⟩ := h
  have e := vl_take L k
  rw [List.take_of_length_le (by omega), h3] at e
  have a := vl_lo (h1.take k)
  have b := (h1.get k).1
  have c := h2 k hk
  have d : (4294967296 : Int) ^ k * 1 ≤ 4294967296 ^ k * L.getD k 0 := Int.mul_le_mul_of_nonneg_left (by omega) (Int.le_of_lt (bp_pos k))
  omega
theorem bp_le {a b : Nat} (h : a ≤ b) : (4294967296 : Int) ^ a ≤ 4294967296 ^ b := by
  have e : (4294967296 : Int) ^ b = 4294967296 ^ a * 4294967296 ^ (b - a) := by rw [← Int.pow_add]; congr 1; omega
  have := bp_pos (b - a)
  have g := Int.mul_le_mul_of_nonneg_left (show (1 : Int) ≤ 4294967296 ^ (b - a) by omega) (Int.le_of_lt (bp_pos a))
  omega
/-- A number has as many words as it wants. -/
theorem Is.len {L : List Int} {n : Int} (h : Is L n) (k : Nat) (hn : n < 4294967296 ^ k) : L.length ≤ k := by
  apply Nat.le_of_not_lt
  intro hl
  have a := is_top h (k := L.length - 1) (by omega)
  have b := bp_le (a := k) (b := L.length - 1) (by omega)
  omega
theorem Is.nil {n : Int} (h : Is [] n) : n = 0 := h.2.2.symm
theorem is_nil : Is [] 0 := ⟨fun _ h => by simp at h, fun i hi => by simp at hi, rfl⟩
theorem Is.zero {L : List Int} {n : Int} (h : Is L n) : L.length = 0 ↔ n = 0 := by
  constructor
  · intro e
    have := List.eq_nil_of_length_eq_zero e
    subst this
    exact h.nil
  · intro e
    have := h.len 0 (by rw [e]; decide)
    omega
end Go.Proofs.YtdmniecdfakbcaaGreat

/-
  Numbers of any size in memory: rows of words, and the blocks that hold a sign and a row.
-/
namespace Go.Proofs.YtdmniecdfakbcaaGreat
open Go.RowKit
set_option linter.unusedSimpArgs false
set_option linter.unusedVariables false

/-- A slice of words, at the beginning of a block of words. -/
def Row (w : World) (v : Value) (L : List Int) : Prop :=
  (v = .slice none 0 0 ∧ L = []) ∨ ∃ d cap cs fz, v = .slice (some ⟨d, 0, none⟩) L.length cap ∧ L.length ≤ cap ∧ cap ≤ maxLen ∧ w.heap[d]? = some (.cells cs 96 fz) ∧ ∀ j, j < L.length → cs[j]? = some (.int .u32 (L.getD j 0))
theorem Row.step {w w' : World} {v : Value} {L : List Int} (h : Row w v L) (k : Below w.heap.size w w') : Row w' v L := by
  rcases h with h | ⟨d, cap, cs, fz, h1, h2, h3, h4, h5⟩
  · exact .inl h
  · exact .inr ⟨d, cap, cs, fz, h1, h2, h3, by rw [k.block d (Array.getElem?_eq_some_iff.1 h4).1]; exact h4, h5⟩
theorem Row.nil (w : World) : Row w (.slice none 0 0) [] := .inl ⟨rfl, rfl⟩
theorem Row.at {w : World} {v : Value} {L : List Int} (h : Row w v L) : ∃ ao cap, v = .slice ao L.length cap ∧ L.length ≤ cap ∧ cap ≤ maxLen ∧ (ao = none → cap = 0) ∧ (∀ d o p, ao = some ⟨d, o, p⟩ → o = 0 ∧ p = none ∧ d < w.heap.size) ∧ (L.length ≠ 0 → ∃ d, ao = some ⟨d, 0, none⟩) ∧ (∀ d, ao = some ⟨d, 0, none⟩ → ∀ j, j < L.length → w.cell? ⟨d, j, none⟩ = some (.int .u32 (L.getD j 0))) := by
  rcases h with ⟨rfl, rfl⟩ | ⟨d, cap, cs, fz, rfl, h2, h3, h4, h5⟩
  · exact ⟨none, 0, rfl, Nat.le_refl _, Nat.zero_le _, fun _ => rfl, (fun d o p h => by cases h), fun h => absurd rfl h, fun d h => by cases h⟩
  · refine ⟨_, cap, rfl, h2, h3, (fun h => by cases h), ?_, fun _ => ⟨d, rfl⟩, ?_⟩
    · intro d' o p e
      cases e
      exact ⟨rfl, rfl, (Array.getElem?_eq_some_iff.1 h4).1⟩
    · intro d' e j hj
      cases e
      have := h5 j hj
      simp [World.cell?, h4, this]
theorem Row.take {w : World} {ao : Option Addr} {cap : Nat} {L : List Int} (h : Row w (.slice ao L.length cap) L) (n : Nat) (hn : n ≤ L.length) : Row w (.slice ao n cap) (L.take n) := by
  have hl : (L.take n).length = n := by rw [List.length_take]; omega
  rcases h with ⟨h1, rfl⟩ | ⟨d, cap', cs, fz, h1, h2, h3, h4, h5⟩
  · left
    simp at h1 hn
    obtain ⟨rfl, rfl⟩ := h1
    subst hn
    simp
  · cases h1
    refine .inr ⟨d, cap, cs, fz, by rw [hl], by omega, h3, h4, fun j hj => ?_⟩
    rw [h5 j (by omega), List.getD_eq_getElem?_getD, List.getD_eq_getElem?_getD, List.getElem?_take, if_pos (by omega)]
/-- Words of a block of one's own. -/
theorem Row.box {w : World} {d : Nat} {L : List Int} {cs : Array Value} {fz : Nat × Nat} (h : w.heap[d]? = some (.cells cs 96 fz)) (hs : cs.size = L.length) (hc : ∀ j, j < L.length → cs[j]? = some (.int .u32 (L.getD j 0))) (hm : L.length ≤ maxLen) : Row w (.slice (some ⟨d, 0, none⟩) L.length L.length) L :=
  .inr ⟨d, _, cs, fz, rfl, Nat.le_refl _, hm, h, hc⟩

/-- A number by its words. -/
def Dg (w : World) (v : Value) (n : Int) : Prop := ∃ L, Row w v L ∧ Is L n
theorem Dg.step {w w' : World} {v : Value} {n : Int} (h : Dg w v n) (k : Below w.heap.size w w') : Dg w' v n := by
  obtain ⟨L, h1, h2⟩ := h
  exact ⟨L, h1.step k, h2⟩
theorem Dg.nil (w : World) : Dg w (.slice none 0 0) 0 := ⟨[], Row.nil w, is_nil⟩

/-- A row that is being written: a block of one's own, its words. -/
def Own32 (w : World) (d : Nat) (R : List Int) : Prop := ∃ cs, w.heap[d]? = some (.cells cs 96) ∧ cs.size = R.length ∧ ∀ j, j < R.length → cs[j]? = some (.int .u32 (R.getD j 0))
theorem Own32.lt {w : World} {d : Nat} {R : List Int} (h : Own32 w d R) : d < w.heap.size := by
  obtain ⟨cs, h1, _⟩ := h
  exact (Array.getElem?_eq_some_iff.1 h1).1
theorem Own32.cell {w : World} {d : Nat} {R : List Int} (h : Own32 w d R) (j : Nat) (hj : j < R.length) : w.cell? ⟨d, j, none⟩ = some (.int .u32 (R.getD j 0)) := by
  obtain ⟨cs, h1, _, h3⟩ := h
  simp [World.cell?, h1, h3 j hj]
theorem Own32.frozen {w : World} {d : Nat} {R : List Int} (h : Own32 w d R) (j : Nat) : w.frozen? ⟨d, j, none⟩ = false := by
  obtain ⟨cs, h1, _⟩ := h
  simp [World.frozen?, h1]
theorem Own32.step {w w' : World} {d : Nat} {R : List Int} (h : Own32 w d R) (k : Below w.heap.size w w') : Own32 w' d R := by
  have := h.lt
  obtain ⟨cs, h1, h2⟩ := h
  exact ⟨cs, by rw [k.block d this]; exact h1, h2⟩
theorem Own32.row {w : World} {d : Nat} {R : List Int} (h : Own32 w d R) (hm : R.length ≤ maxLen) : Row w (.slice (some ⟨d, 0, none⟩) R.length R.length) R := by
  obtain ⟨cs, h1, h2, h3⟩ := h
  exact Row.box h1 h2 h3 hm
theorem Own32.set {w : World} {d : Nat} {R : List Int} (h : Own32 w d R) (j : Nat) (x : Int) (hj : j < R.length) : Own32 (w.setCell ⟨d, j, none⟩ (.int .u32 x)) d (R.set j x) := by
  obtain ⟨cs, h1, h2, h3⟩ := h
  refine ⟨cs.setIfInBounds j (.int .u32 x), ?_, by simp [h2], fun i hi => ?_⟩
  · simp [World.setCell, Array.getElem?_modify, h1]
  · rw [List.length_set] at hi
    by_cases e : j = i
    · subst e
      rw [getD_set_self hj, Array.getElem?_setIfInBounds_self_of_lt (by omega)]
    · rw [getD_set_ne e, Array.getElem?_setIfInBounds_ne e]; exact h3 i hi
theorem Own32.new (w : World) (n : Nat) : Own32 (w.alloc (.cells (madeCells #[.int .u32 0] n) 96)) w.heap.size (List.replicate n 0) := by
  have hm : madeCells #[.int .u32 0] n = Array.replicate n (.int .u32 0) := by
    apply Array.ext'
    have : (fun x : Nat => ([Value.int IntKind.u32 0][x % 1]?).getD default) = fun _ => Value.int IntKind.u32 0 := by funext x; simp [Nat.mod_one]
    simp [madeCells, this, List.map_const']
  rw [hm]
  refine ⟨Array.replicate n (.int .u32 0), ?_, by simp, fun j hj => ?_⟩
  · show (w.heap.push _)[w.heap.size]? = _
    simp
  simp at hj
  simp [hj]
end Go.Proofs.YtdmniecdfakbcaaGreat

/-
  trim and words.
-/
namespace Go.Proofs.YtdmniecdfakbcaaGreat
open Go.RowKit
set_option linter.unusedSimpArgs false
set_option linter.unusedVariables false

set_option maxHeartbeats 400000 in
theorem trim_any (w : World) (v : Value) (L : List Int) (hr : Row w v L) (hw : Wds L) (hl : L.length ≤ 1000) :
    Calls Tryz.prog 90 #[v] w fun e w' => w' = w ∧ ∃ v', e = .returned v' ∧ Dg w v' (vl L) := by
  obtain ⟨ao, cap, rfl, hc1, hc2, hc3, hc4, hc5, hc6⟩ := hr.at
  have HR := hide hr
  have HW := hide hw
  have H5 := hide hc5
  have H6 := hide hc6
  clear hr hw hc3 hc4 hc5 hc6
  go_enter Tryz.func90, Tryz.ntmps90
  go_wp2_with fail
  go_loopg [3] L.length (fun g t wr => ∃ n : Nat, n ≤ L.length ∧ g = n ∧ t = .int .i64 n ∧ wr = w ∧ Hid (∀ j, n ≤ j → L.getD j 0 = 0))
  case atStart => exact ⟨L.length, Nat.le_refl _, rfl, rfl, rfl, fun j hj => by rw [List.getD_eq_getElem?_getD, List.getElem?_eq_none hj]; rfl⟩
  case round =>
    obtain ⟨n, hn, hg, rfl, rfl, hz⟩ := hrel
    have IZ := hide (show (n = 0 ∨ L.getD (n - 1) 0 ≠ 0) → Dg wr (.slice ao n cap) (vl L) from fun h => ⟨L.take n, (unhide HR).take n hn, take_norm (unhide HW) n hn (unhide hz) h⟩)
    by_cases h0 : n = 0
    · subst h0
      have b0 : decide ((0 : Int) < ((0 : Nat) : Int)) = false := by simp
      go_wp2_with fail
      go_ret
      exact ⟨rfl, _, rfl, (unhide IZ) (by simp)⟩
    · obtain ⟨d, rfl⟩ := unhide H5 (by omega)
      obtain ⟨m, rfl⟩ : ∃ m, n = m + 1 := ⟨n - 1, by omega⟩
      have b0 : decide ((0 : Int) < ((m + 1 : Nat) : Int)) = true := by simp
      have c0 := unhide H6 d rfl m (by omega)
      have e1 : (((m + 1 : Nat) : Int) - 1) = (m : Int) := by omega
      have hm1 : (m : Int) < (L.length : Int) := by omega
      by_cases hx : L.getD m 0 = 0
      · rw [hx] at c0
        have HX := hide hx
        clear hx
        go_wp2_with fail
        go_roundg m
        case measure => omega
        case rel => exact ⟨m, by omega, rfl, by go_num, rfl, fun j hj => by
          by_cases e : j = m
          · rw [e]; exact unhide HX
          · exact unhide hz j (by omega)⟩
      · have hxb : (L.getD m 0 == 0) = false := by simpa using hx
        have HX := hide hx
        clear hx
        generalize L.getD m 0 = x at c0 hxb
        go_wp2_with fail
        go_ret
        exact ⟨rfl, _, rfl, unhide IZ (.inr (unhide HX))⟩
theorem Row.two (w : World) (x y : Int) : Row (w.alloc (.cells #[.int .u32 x, .int .u32 y] 96)) (.slice (some ⟨w.heap.size, 0, none⟩) 2 2) [x, y] := by
  refine .inr ⟨w.heap.size, 2, #[.int .u32 x, .int .u32 y], (0, 0), rfl, by simp, by decide, ?_, fun j hj => ?_⟩
  · show (w.heap.push _)[w.heap.size]? = _
    simp
  · match j, hj with
    | 0, _ => rfl
    | 1, _ => rfl
theorem words_any (x : Int) (w : World) (hx : U x) :
    Calls Tryz.prog 89 #[.int .u64 x] w fun e w' => Below w.heap.size w w' ∧ ∃ v', e = .returned v' ∧ Dg w' v' x := by
  obtain ⟨h0, h1⟩ := hx
  have T := hide (trim_any _ _ _ (Row.two w (x % 4294967296) (x / 4294967296)) (by intro y hy; simp at hy; omega) (by simp))
  have KB := hide (below_a w (.cells #[.int .u32 (x % 4294967296), .int .u32 (x / 4294967296)] 96))
  have e0 : vl [x % 4294967296, x / 4294967296] = x := by simp [vl]; omega
  rw [e0] at T
  go_enter Tryz.func89, Tryz.ntmps89
  go_wp2_with fail
  refine (unhide T).mono ?_
  rintro e w1 ⟨rfl, v1, rfl, D1⟩
  have HD := hide D1
  clear D1
  go_wp2_with fail
  go_ret
  exact ⟨unhide KB, _, rfl, unhide HD⟩
theorem Dg.at {w : World} {v : Value} {n : Int} (h : Dg w v n) (hn : n < 4294967296 ^ 8) : ∃ ao cap L, v = .slice ao L.length cap ∧ Is L n ∧ L.length ≤ 8 ∧ Row w v L ∧ L.length ≤ cap ∧ (L.length ≠ 0 → ∃ d, ao = some ⟨d, 0, none⟩ ∧ d < w.heap.size) ∧ (∀ d, ao = some ⟨d, 0, none⟩ → ∀ j, j < L.length → w.cell? ⟨d, j, none⟩ = some (.int .u32 (L.getD j 0))) := by
  obtain ⟨L, h1, h2⟩ := h
  obtain ⟨ao, cap, rfl, hc1, hc2, hc3, hc4, hc5, hc6⟩ := h1.at
  refine ⟨ao, cap, L, rfl, h2, h2.len 8 hn, h1, hc1, fun h => ?_, hc6⟩
  obtain ⟨d, hd⟩ := hc5 h
  exact ⟨d, hd, (hc4 _ _ _ hd).2.2⟩
theorem is_two {L : List Int} {n : Int} (h : Is L n) (hn : n < 18446744073709551616) : n = L.getD 0 0 + 4294967296 * L.getD 1 0 ∧ (L.length = 0 → n = 0) ∧ (L.length = 1 → n = L.getD 0 0) ∧ L.length ≤ 2 := by
  have hl := h.len 2 (by simpa using hn)
  have e := h.2.2
  match L, hl with
  | [], _ => simp [vl] at e ⊢; omega
  | [x], _ => simp [vl] at e ⊢; omega
  | [x, y], _ => simp [vl] at e ⊢; omega
theorem or_two (x y : Int) (hx : 0 ≤ x ∧ x ≤ 4294967295) (hy : 0 ≤ y ∧ y ≤ 4294967295) : bits .or .u64 x (y * 4294967296) = x + 4294967296 * y := by
  obtain ⟨hx1, hx2⟩ := hx
  obtain ⟨hy1, hy2⟩ := hy
  go_bits2
theorem plain_any (v : Value) (n : Int) (w : World) (h : Dg w v n) (hn : n < 18446744073709551616) :
    Calls Tryz.prog 106 #[v] w fun e w' => w' = w ∧ e = .returned (.int .u64 n) := by
  obtain ⟨ao, cap, L, rfl, hI, hl8, hr, hc1, hd, hc⟩ := h.at (by omega)
  obtain ⟨q1, q2, q3, q4⟩ := is_two hI hn
  have g0 := hI.1.get 0
  have g1 := hI.1.get 1
  have HC := hide hc
  have HQ := hide q1
  clear hr hI hc q1
  by_cases l0 : L.length = 0
  · have := q2 l0
    subst this
    rw [l0]
    go_enter Tryz.func106, Tryz.ntmps106
    go_wp2_with fail
    go_ret
    exact ⟨rfl, rfl⟩
  · obtain ⟨d, rfl, hdl⟩ := hd l0
    have c0 := unhide HC d rfl 0 (by omega)
    by_cases l1 : L.length = 1
    · have := q3 l1
      rw [l1]
      clear q3 q2 g1 hd h
      generalize L.getD 0 0 = x at *
      subst this
      go_enter Tryz.func106, Tryz.ntmps106
      go_wp2_with fail
      go_ret
      exact ⟨rfl, rfl⟩
    · have l2 : L.length = 2 := by omega
      have c1 := unhide HC d rfl 1 (by omega)
      have ho := or_two _ _ g0 g1
      rw [← unhide HQ] at ho
      rw [l2]
      generalize L.getD 0 0 = x at *
      generalize L.getD 1 0 = y at *
      go_enter Tryz.func106, Tryz.ntmps106
      go_wp2_with fail
      go_ret
      exact ⟨rfl, rfl⟩
end Go.Proofs.YtdmniecdfakbcaaGreat
