/-
  Big0, Big1, Big2, Big3.
-/
import Derived.WalkKit
import Derived.Test.YtlkoidkdeopgjaaGreatDoorka
import Derived.Test.YtlkoidkdeopgjaaGreatDoorRows
import Derived.WalkSpells
import Derived.WalkLawsBesides
import Derived.WalkSmall
import Derived.Deep.LoopGhost
set_option maxHeartbeats 4000000
set_option maxRecDepth 100000
namespace Go.Proofs.YtlkoidkdeopgjaaGreatDoor
open Go.RowKit
set_option linter.unusedSimpArgs false
set_option linter.unusedVariables false
def vl : List Int → Int
 | [] => 0
 | x :: r => x + 4294967296 * vl r
def Wds (L : List Int) : Prop := ∀ x ∈ L, 0 ≤ x ∧ x ≤ 4294967295
def Norm (L : List Int) : Prop := ∀ i, L.length = i + 1 → L.getD i 0 ≠ 0
theorem bp_pos (k : Nat) : (0 : Int) < 4294967296 ^ k := Int.pow_pos (by decide)
theorem vl_app : ∀ (L M : List Int), vl (L ++ M) = vl L + 4294967296 ^ L.length * vl M
 | [], M => by simp [vl]
 | x :: r, M => by
   simp only [List.cons_append, vl, vl_app r M, List.length_cons]
   grind
theorem vl_snoc (L : List Int) (x : Int) : vl (L ++ [x]) = vl L + 4294967296 ^ L.length * x := by
 rw [vl_app]; simp [vl]
theorem vl_lo : ∀ {L : List Int}, Wds L → 0 ≤ vl L
 | [], _ => by simp [vl]
 | x :: r, h => by
   have h1 := h x (by simp)
   have h2 := vl_lo (L := r) (fun y hy => h y (by simp [hy]))
   simp only [vl]; omega
theorem vl_hi : ∀ {L : List Int}, Wds L → vl L < 4294967296 ^ L.length
 | [], _ => by simp [vl]
 | x :: r, h => by
   have h1 := h x (by simp)
   have h2 := vl_hi (L := r) (fun y hy => h y (by simp [hy]))
   simp only [vl, List.length_cons, Int.pow_succ]; omega
theorem vl_take (L : List Int) : ∀ i, vl (L.take (i + 1)) = vl (L.take i) + 4294967296 ^ i * L.getD i 0 := by
 induction L with
 | nil => intro i; simp [vl]
 | cons x r ih =>
   intro i
   cases i with
   | zero => simp [vl]
   | succ i =>
     have := ih i
     simp only [List.take_succ_cons, vl, List.getD_cons_succ, Int.pow_succ, this]
     grind
theorem vl_set : ∀ (L : List Int) (k : Nat) (x : Int), k < L.length → vl (L.set k x) = vl L + 4294967296 ^ k * (x - L.getD k 0)
 | [], k, x, h => by simp at h
 | y :: r, 0, x, _ => by simp [vl]; omega
 | y :: r, k + 1, x, h => by
   have := vl_set r k x (by simpa using h)
   simp only [List.set_cons_succ, vl, List.getD_cons_succ, Int.pow_succ, this]
   grind
theorem vl_zero : ∀ (L : List Int), (∀ j, L.getD j 0 = 0) → vl L = 0
 | [], _ => rfl
 | x :: r, h => by
   have h0 := h 0
   have := vl_zero r (fun j => h (j + 1))
   simp at h0
   simp only [vl, h0, this]; omega
theorem vl_rep (n : Nat) : vl (List.replicate n 0) = 0 := by
 refine vl_zero _ fun j => ?_
 rw [List.getD_eq_getElem?_getD, List.getElem?_replicate]
 split <;> rfl
theorem wds_rep (n : Nat) : Wds (List.replicate n 0) := fun x hx => by
 have := List.eq_of_mem_replicate hx
 omega
theorem Wds.set {L : List Int} (h : Wds L) (k : Nat) {x : Int} (hx : 0 ≤ x ∧ x ≤ 4294967295) : Wds (L.set k x) := fun y hy => by
 rcases List.mem_or_eq_of_mem_set hy with h1 | h1
 · exact h y h1
 · rw [h1]; exact hx
theorem Wds.take {L : List Int} (h : Wds L) (k : Nat) : Wds (L.take k) := fun y hy => h y (List.mem_of_mem_take hy)
theorem Wds.drop {L : List Int} (h : Wds L) (k : Nat) : Wds (L.drop k) := fun y hy => h y (List.mem_of_mem_drop hy)
theorem Wds.app {L M : List Int} (h : Wds L) (k : Wds M) : Wds (L ++ M) := fun y hy => by
 rcases List.mem_append.1 hy with h1 | h1
 · exact h y h1
 · exact k y h1
theorem Wds.get {L : List Int} (h : Wds L) (j : Nat) : 0 ≤ L.getD j 0 ∧ L.getD j 0 ≤ 4294967295 := by
 rw [List.getD_eq_getElem?_getD]
 cases e : L[j]? with
 | none => simp
 | some x => exact h x (List.mem_of_getElem? e)
theorem getD_set_ne {L : List Int} {k j : Nat} {x : Int} (h : k ≠ j) : (L.set k x).getD j 0 = L.getD j 0 := by
 rw [List.getD_eq_getElem?_getD, List.getElem?_set_ne h, ← List.getD_eq_getElem?_getD]
theorem getD_set_self {L : List Int} {k : Nat} {x : Int} (h : k < L.length) : (L.set k x).getD k 0 = x := by
 rw [List.getD_eq_getElem?_getD, List.getElem?_set_self h]; rfl
theorem getD_of_lt {L : List Int} {k : Nat} (h : k < L.length) : L[k]? = some (L.getD k 0) := by
 rw [List.getD_eq_getElem?_getD, List.getElem?_eq_getElem h]; rfl
theorem getD_rep (n j : Nat) : (List.replicate n (0 : Int)).getD j 0 = 0 := by
 rw [List.getD_eq_getElem?_getD, List.getElem?_replicate]
 split <;> rfl
def Is (L : List Int) (n : Int) : Prop := Wds L ∧ Norm L ∧ vl L = n
theorem take_norm {L : List Int} (h : Wds L) (n : Nat) (hn : n ≤ L.length) (hz : ∀ j, n ≤ j → L.getD j 0 = 0) (hl : n = 0 ∨ L.getD (n - 1) 0 ≠ 0) : Is (L.take n) (vl L) := by
 refine ⟨h.take n, fun i hi => ?_, ?_⟩
 · rw [List.length_take, Nat.min_eq_left hn] at hi
   subst hi
   rcases hl with e | e
   · omega
   · rw [List.getD_eq_getElem?_getD, List.getElem?_take, if_pos (by omega), ← List.getD_eq_getElem?_getD]; exact e
 · have e := vl_app (L.take n) (L.drop n)
   rw [List.take_append_drop] at e
   have z : vl (L.drop n) = 0 := vl_zero _ fun j => by
     rw [List.getD_eq_getElem?_getD, List.getElem?_drop, ← List.getD_eq_getElem?_getD]; exact hz _ (by omega)
   rw [e, z]; omega
theorem Is.lo {L : List Int} {n : Int} (h : Is L n) : 0 ≤ n := h.2.2 ▸ vl_lo h.1
theorem Is.hi {L : List Int} {n : Int} (h : Is L n) : n < 4294967296 ^ L.length := h.2.2 ▸ vl_hi h.1
theorem is_top {L : List Int} {n : Int} (h : Is L n) {k : Nat} (hk : L.length = k + 1) : 4294967296 ^ k ≤ n := by
 obtain ⟨h1, h2, h3⟩ := h
 have e := vl_take L k
 rw [List.take_of_length_le (by omega), h3] at e
 have a := vl_lo (h1.take k)
 have b := (h1.get k).1
 have c := h2 k hk
 have d : (4294967296 : Int) ^ k * 1 ≤ 4294967296 ^ k * L.getD k 0 := Int.mul_le_mul_of_nonneg_left (by omega) (Int.le_of_lt (bp_pos k))
 omega
theorem bp_le {a b : Nat} (h : a ≤ b) : (4294967296 : Int) ^ a ≤ 4294967296 ^ b := by
 have e : (4294967296 : Int) ^ b = 4294967296 ^ a * 4294967296 ^ (b - a) := by rw [← Int.pow_add]; congr 1; omega
 have := bp_pos (b - a)
 have g := Int.mul_le_mul_of_nonneg_left (show (1 : Int) ≤ 4294967296 ^ (b - a) by omega) (Int.le_of_lt (bp_pos a))
 omega
theorem Is.len {L : List Int} {n : Int} (h : Is L n) (k : Nat) (hn : n < 4294967296 ^ k) : L.length ≤ k := by
 apply Nat.le_of_not_lt
 intro hl
 have a := is_top h (k := L.length - 1) (by omega)
 have b := bp_le (a := k) (b := L.length - 1) (by omega)
 omega
theorem Is.nil {n : Int} (h : Is [] n) : n = 0 := h.2.2.symm
theorem is_nil : Is [] 0 := ⟨fun _ h => by simp at h, fun i hi => by simp at hi, rfl⟩
theorem Is.zero {L : List Int} {n : Int} (h : Is L n) : L.length = 0 ↔ n = 0 := by
 constructor
 · intro e
   have := List.eq_nil_of_length_eq_zero e
   subst this
   exact h.nil
 · intro e
   have := h.len 0 (by rw [e]; decide)
   omega
end Go.Proofs.YtlkoidkdeopgjaaGreatDoor
namespace Go.Proofs.YtlkoidkdeopgjaaGreatDoor
open Go.RowKit
set_option linter.unusedSimpArgs false
set_option linter.unusedVariables false
def Row (w : World) (v : Value) (L : List Int) : Prop :=
 (v = .slice none 0 0 ∧ L = []) ∨ ∃ d cap cs fz, v = .slice (some ⟨d, 0, none⟩) L.length cap ∧ L.length ≤ cap ∧ cap ≤ maxLen ∧ w.heap[d]? = some (.cells cs 90 fz) ∧ ∀ j, j < L.length → cs[j]? = some (.int .u32 (L.getD j 0))
theorem Row.step {w w' : World} {v : Value} {L : List Int} (h : Row w v L) (k : Below w.heap.size w w') : Row w' v L := by
 rcases h with h | ⟨d, cap, cs, fz, h1, h2, h3, h4, h5⟩
 · exact .inl h
 · exact .inr ⟨d, cap, cs, fz, h1, h2, h3, by rw [k.block d (Array.getElem?_eq_some_iff.1 h4).1]; exact h4, h5⟩
theorem Row.nil (w : World) : Row w (.slice none 0 0) [] := .inl ⟨rfl, rfl⟩
theorem Row.at {w : World} {v : Value} {L : List Int} (h : Row w v L) : ∃ ao cap, v = .slice ao L.length cap ∧ L.length ≤ cap ∧ cap ≤ maxLen ∧ (ao = none → cap = 0) ∧ (∀ d o p, ao = some ⟨d, o, p⟩ → o = 0 ∧ p = none ∧ d < w.heap.size) ∧ (L.length ≠ 0 → ∃ d, ao = some ⟨d, 0, none⟩) ∧ (∀ d, ao = some ⟨d, 0, none⟩ → ∀ j, j < L.length → w.cell? ⟨d, j, none⟩ = some (.int .u32 (L.getD j 0))) := by
 rcases h with ⟨rfl, rfl⟩ | ⟨d, cap, cs, fz, rfl, h2, h3, h4, h5⟩
 · exact ⟨none, 0, rfl, Nat.le_refl _, Nat.zero_le _, fun _ => rfl, (fun d o p h => by cases h), fun h => absurd rfl h, fun d h => by cases h⟩
 · refine ⟨_, cap, rfl, h2, h3, (fun h => by cases h), ?_, fun _ => ⟨d, rfl⟩, ?_⟩
   · intro d' o p e
     cases e
     exact ⟨rfl, rfl, (Array.getElem?_eq_some_iff.1 h4).1⟩
   · intro d' e j hj
     cases e
     have := h5 j hj
     simp [World.cell?, h4, this]
theorem Row.take {w : World} {ao : Option Addr} {cap : Nat} {L : List Int} (h : Row w (.slice ao L.length cap) L) (n : Nat) (hn : n ≤ L.length) : Row w (.slice ao n cap) (L.take n) := by
 have hl : (L.take n).length = n := by rw [List.length_take]; omega
 rcases h with ⟨h1, rfl⟩ | ⟨d, cap', cs, fz, h1, h2, h3, h4, h5⟩
 · left
   simp at h1 hn
   obtain ⟨rfl, rfl⟩ := h1
   subst hn
   simp
 · cases h1
   refine .inr ⟨d, cap, cs, fz, by rw [hl], by omega, h3, h4, fun j hj => ?_⟩
   rw [h5 j (by omega), List.getD_eq_getElem?_getD, List.getD_eq_getElem?_getD, List.getElem?_take, if_pos (by omega)]
theorem Row.box {w : World} {d : Nat} {L : List Int} {cs : Array Value} {fz : Nat × Nat} (h : w.heap[d]? = some (.cells cs 90 fz)) (hs : cs.size = L.length) (hc : ∀ j, j < L.length → cs[j]? = some (.int .u32 (L.getD j 0))) (hm : L.length ≤ maxLen) : Row w (.slice (some ⟨d, 0, none⟩) L.length L.length) L :=
 .inr ⟨d, _, cs, fz, rfl, Nat.le_refl _, hm, h, hc⟩
def Dg (w : World) (v : Value) (n : Int) : Prop := ∃ L, Row w v L ∧ Is L n
theorem Dg.step {w w' : World} {v : Value} {n : Int} (h : Dg w v n) (k : Below w.heap.size w w') : Dg w' v n := by
 obtain ⟨L, h1, h2⟩ := h
 exact ⟨L, h1.step k, h2⟩
theorem Dg.nil (w : World) : Dg w (.slice none 0 0) 0 := ⟨[], Row.nil w, is_nil⟩
def Own32 (w : World) (d : Nat) (R : List Int) : Prop := ∃ cs, w.heap[d]? = some (.cells cs 90) ∧ cs.size = R.length ∧ ∀ j, j < R.length → cs[j]? = some (.int .u32 (R.getD j 0))
theorem Own32.lt {w : World} {d : Nat} {R : List Int} (h : Own32 w d R) : d < w.heap.size := by
 obtain ⟨cs, h1, _⟩ := h
 exact (Array.getElem?_eq_some_iff.1 h1).1
theorem Own32.cell {w : World} {d : Nat} {R : List Int} (h : Own32 w d R) (j : Nat) (hj : j < R.length) : w.cell? ⟨d, j, none⟩ = some (.int .u32 (R.getD j 0)) := by
 obtain ⟨cs, h1, _, h3⟩ := h
 simp [World.cell?, h1, h3 j hj]
theorem Own32.frozen {w : World} {d : Nat} {R : List Int} (h : Own32 w d R) (j : Nat) : w.frozen? ⟨d, j, none⟩ = false := by
 obtain ⟨cs, h1, _⟩ := h
 simp [World.frozen?, h1]
theorem Own32.step {w w' : World} {d : Nat} {R : List Int} (h : Own32 w d R) (k : Below w.heap.size w w') : Own32 w' d R := by
 have := h.lt
 obtain ⟨cs, h1, h2⟩ := h
 exact ⟨cs, by rw [k.block d this]; exact h1, h2⟩
theorem Own32.row {w : World} {d : Nat} {R : List Int} (h : Own32 w d R) (hm : R.length ≤ maxLen) : Row w (.slice (some ⟨d, 0, none⟩) R.length R.length) R := by
 obtain ⟨cs, h1, h2, h3⟩ := h
 exact Row.box h1 h2 h3 hm
theorem Own32.set {w : World} {d : Nat} {R : List Int} (h : Own32 w d R) (j : Nat) (x : Int) (hj : j < R.length) : Own32 (w.setCell ⟨d, j, none⟩ (.int .u32 x)) d (R.set j x) := by
 obtain ⟨cs, h1, h2, h3⟩ := h
 refine ⟨cs.setIfInBounds j (.int .u32 x), ?_, by simp [h2], fun i hi => ?_⟩
 · simp [World.setCell, Array.getElem?_modify, h1]
 · rw [List.length_set] at hi
   by_cases e : j = i
   · subst e
     rw [getD_set_self hj, Array.getElem?_setIfInBounds_self_of_lt (by omega)]
   · rw [getD_set_ne e, Array.getElem?_setIfInBounds_ne e]; exact h3 i hi
theorem Own32.new (w : World) (n : Nat) : Own32 (w.alloc (.cells (madeCells #[.int .u32 0] n) 90)) w.heap.size (List.replicate n 0) := by
 have hm : madeCells #[.int .u32 0] n = Array.replicate n (.int .u32 0) := by
   apply Array.ext'
   have : (fun x : Nat => ([Value.int IntKind.u32 0][x % 1]?).getD default) = fun _ => Value.int IntKind.u32 0 := by funext x; simp [Nat.mod_one]
   simp [madeCells, this, List.map_const']
 rw [hm]
 refine ⟨Array.replicate n (.int .u32 0), ?_, by simp, fun j hj => ?_⟩
 · show (w.heap.push _)[w.heap.size]? = _
   simp
 simp at hj
 simp [hj]
end Go.Proofs.YtlkoidkdeopgjaaGreatDoor
namespace Go.Proofs.YtlkoidkdeopgjaaGreatDoor
open Go.RowKit
set_option linter.unusedSimpArgs false
set_option linter.unusedVariables false
theorem trim_any (w : World) (v : Value) (L : List Int) (hr : Row w v L) (hw : Wds L) (hl : L.length ≤ 1000) :
   Calls Tryz.prog 53 #[v] w fun e w' => w' = w ∧ ∃ v', e = .returned v' ∧ Dg w v' (vl L) := by
 obtain ⟨ao, cap, rfl, hc1, hc2, hc3, hc4, hc5, hc6⟩ := hr.at
 have HR := hide hr
 have HW := hide hw
 have H5 := hide hc5
 have H6 := hide hc6
 clear hr hw hc3 hc4 hc5 hc6
 go_enter Tryz.func53, Tryz.ntmps53
 go_wp2_with fail
 go_loopg [3] L.length (fun g t wr => ∃ n : Nat, n ≤ L.length ∧ g = n ∧ t = .int .i64 n ∧ wr = w ∧ Hid (∀ j, n ≤ j → L.getD j 0 = 0))
 case atStart => exact ⟨L.length, Nat.le_refl _, rfl, rfl, rfl, fun j hj => by rw [List.getD_eq_getElem?_getD, List.getElem?_eq_none hj]; rfl⟩
 case round =>
   obtain ⟨n, hn, hg, rfl, rfl, hz⟩ := hrel
   have IZ := hide (show (n = 0 ∨ L.getD (n - 1) 0 ≠ 0) → Dg wr (.slice ao n cap) (vl L) from fun h => ⟨L.take n, (unhide HR).take n hn, take_norm (unhide HW) n hn (unhide hz) h⟩)
   by_cases h0 : n = 0
   · subst h0
     have b0 : decide ((0 : Int) < ((0 : Nat) : Int)) = false := by simp
     go_wp2_with fail
     go_ret
     exact ⟨rfl, _, rfl, (unhide IZ) (by simp)⟩
   · obtain ⟨d, rfl⟩ := unhide H5 (by omega)
     obtain ⟨m, rfl⟩ : ∃ m, n = m + 1 := ⟨n - 1, by omega⟩
     have b0 : decide ((0 : Int) < ((m + 1 : Nat) : Int)) = true := by simp
     have c0 := unhide H6 d rfl m (by omega)
     have e1 : (((m + 1 : Nat) : Int) - 1) = (m : Int) := by omega
     have hm1 : (m : Int) < (L.length : Int) := by omega
     by_cases hx : L.getD m 0 = 0
     · rw [hx] at c0
       have HX := hide hx
       clear hx
       go_wp2_with fail
       go_roundg m
       case measure => omega
       case rel => exact ⟨m, by omega, rfl, by go_num, rfl, fun j hj => by
         by_cases e : j = m
         · rw [e]; exact unhide HX
         · exact unhide hz j (by omega)⟩
     · have hxb : (L.getD m 0 == 0) = false := by simpa using hx
       have HX := hide hx
       clear hx
       generalize L.getD m 0 = x at c0 hxb
       go_wp2_with fail
       go_ret
       exact ⟨rfl, _, rfl, unhide IZ (.inr (unhide HX))⟩
theorem Row.two (w : World) (x y : Int) : Row (w.alloc (.cells #[.int .u32 x, .int .u32 y] 90)) (.slice (some ⟨w.heap.size, 0, none⟩) 2 2) [x, y] := by
 refine .inr ⟨w.heap.size, 2, #[.int .u32 x, .int .u32 y], (0, 0), rfl, by simp, by decide, ?_, fun j hj => ?_⟩
 · show (w.heap.push _)[w.heap.size]? = _
   simp
 · match j, hj with
   | 0, _ => rfl
   | 1, _ => rfl
theorem words_any (x : Int) (w : World) (hx : U x) :
   Calls Tryz.prog 40 #[.int .u64 x] w fun e w' => Below w.heap.size w w' ∧ ∃ v', e = .returned v' ∧ Dg w' v' x := by
 obtain ⟨h0, h1⟩ := hx
 have T := hide (trim_any _ _ _ (Row.two w (x % 4294967296) (x / 4294967296)) (by intro y hy; simp at hy; omega) (by simp))
 have KB := hide (below_a w (.cells #[.int .u32 (x % 4294967296), .int .u32 (x / 4294967296)] 90))
 have e0 : vl [x % 4294967296, x / 4294967296] = x := by simp [vl]; omega
 rw [e0] at T
 go_enter Tryz.func40, Tryz.ntmps40
 go_wp2_with fail
 refine (unhide T).mono ?_
 rintro e w1 ⟨rfl, v1, rfl, D1⟩
 have HD := hide D1
 clear D1
 go_wp2_with fail
 go_ret
 exact ⟨unhide KB, _, rfl, unhide HD⟩
theorem Dg.at {w : World} {v : Value} {n : Int} (h : Dg w v n) (hn : n < 4294967296 ^ 8) : ∃ ao cap L, v = .slice ao L.length cap ∧ Is L n ∧ L.length ≤ 8 ∧ Row w v L ∧ L.length ≤ cap ∧ (L.length ≠ 0 → ∃ d, ao = some ⟨d, 0, none⟩ ∧ d < w.heap.size) ∧ (∀ d, ao = some ⟨d, 0, none⟩ → ∀ j, j < L.length → w.cell? ⟨d, j, none⟩ = some (.int .u32 (L.getD j 0))) := by
 obtain ⟨L, h1, h2⟩ := h
 obtain ⟨ao, cap, rfl, hc1, hc2, hc3, hc4, hc5, hc6⟩ := h1.at
 refine ⟨ao, cap, L, rfl, h2, h2.len 8 hn, h1, hc1, fun h => ?_, hc6⟩
 obtain ⟨d, hd⟩ := hc5 h
 exact ⟨d, hd, (hc4 _ _ _ hd).2.2⟩
theorem is_two {L : List Int} {n : Int} (h : Is L n) (hn : n < 18446744073709551616) : n = L.getD 0 0 + 4294967296 * L.getD 1 0 ∧ (L.length = 0 → n = 0) ∧ (L.length = 1 → n = L.getD 0 0) ∧ L.length ≤ 2 := by
 have hl := h.len 2 (by simpa using hn)
 have e := h.2.2
 match L, hl with
 | [], _ => simp [vl] at e ⊢; omega
 | [x], _ => simp [vl] at e ⊢; omega
 | [x, y], _ => simp [vl] at e ⊢; omega
theorem or_two (x y : Int) (hx : 0 ≤ x ∧ x ≤ 4294967295) (hy : 0 ≤ y ∧ y ≤ 4294967295) : bits .or .u64 x (y * 4294967296) = x + 4294967296 * y := by
 obtain ⟨hx1, hx2⟩ := hx
 obtain ⟨hy1, hy2⟩ := hy
 go_bits2
theorem plain_any (v : Value) (n : Int) (w : World) (h : Dg w v n) (hn : n < 18446744073709551616) :
   Calls Tryz.prog 55 #[v] w fun e w' => w' = w ∧ e = .returned (.int .u64 n) := by
 obtain ⟨ao, cap, L, rfl, hI, hl8, hr, hc1, hd, hc⟩ := h.at (by omega)
 obtain ⟨q1, q2, q3, q4⟩ := is_two hI hn
 have g0 := hI.1.get 0
 have g1 := hI.1.get 1
 have HC := hide hc
 have HQ := hide q1
 clear hr hI hc q1
 by_cases l0 : L.length = 0
 · have := q2 l0
   subst this
   rw [l0]
   go_enter Tryz.func55, Tryz.ntmps55
   go_wp2_with fail
   go_ret
   exact ⟨rfl, rfl⟩
 · obtain ⟨d, rfl, hdl⟩ := hd l0
   have c0 := unhide HC d rfl 0 (by omega)
   by_cases l1 : L.length = 1
   · have := q3 l1
     rw [l1]
     clear q3 q2 g1 hd h
     generalize L.getD 0 0 = x at *
     subst this
     go_enter Tryz.func55, Tryz.ntmps55
     go_wp2_with fail
     go_ret
     exact ⟨rfl, rfl⟩
   · have l2 : L.length = 2 := by omega
     have c1 := unhide HC d rfl 1 (by omega)
     have ho := or_two _ _ g0 g1
     rw [← unhide HQ] at ho
     rw [l2]
     generalize L.getD 0 0 = x at *
     generalize L.getD 1 0 = y at *
     go_enter Tryz.func55, Tryz.ntmps55
     go_wp2_with fail
     go_ret
     exact ⟨rfl, rfl⟩
end Go.Proofs.YtlkoidkdeopgjaaGreatDoor
namespace Go.Proofs.YtlkoidkdeopgjaaGreatDoor
open Go.RowKit
set_option linter.unusedSimpArgs false
set_option linter.unusedVariables false
structure Tn (p : Nat) (w w' : World) : Prop where
 os : w'.os = w.os
 tape : w'.tape = w.tape
 output : w'.output = w.output
 size : w.heap.size ≤ w'.heap.size
 block : ∀ k, k < w.heap.size → k ≠ p → w'.heap[k]? = w.heap[k]?
theorem Tn.refl (p : Nat) (w : World) : Tn p w w := ⟨rfl, rfl, rfl, Nat.le_refl _, fun _ _ _ => rfl⟩
theorem Tn.trans {p : Nat} {a b c : World} (h : Tn p a b) (k : Tn p b c) : Tn p a c :=
 ⟨k.os.trans h.os, k.tape.trans h.tape, k.output.trans h.output, Nat.le_trans h.size k.size, fun i hi hn => (k.block i (Nat.lt_of_lt_of_le hi h.size) hn).trans (h.block i hi hn)⟩
theorem Tn.of {p : Nat} {w w' : World} (h : Below w.heap.size w w') : Tn p w w' := ⟨h.os, h.tape, h.output, h.size, fun k hk _ => h.block k hk⟩
theorem Tn.below {p B : Nat} {w w' : World} (h : Tn p w w') (hp : B ≤ p) (hB : B ≤ w.heap.size) : Below B w w' := ⟨h.os, h.tape, h.output, h.size, fun k hk => h.block k (by omega) (by omega)⟩
def IntAt (w : World) (p : Nat) : Prop := ∃ s v, w.heap[p]? = some (.cells #[.bool s, v] 34)
def Big (w : World) (p : Nat) (z : Int) : Prop := ∃ v, w.heap[p]? = some (.cells #[.bool (decide (z < 0)), v] 34) ∧ Dg w v z.natAbs
theorem Big.int {w : World} {p : Nat} {z : Int} (h : Big w p z) : IntAt w p := by
 obtain ⟨v, h1, _⟩ := h
 exact ⟨_, v, h1⟩
theorem IntAt.lt {w : World} {p : Nat} (h : IntAt w p) : p < w.heap.size := by
 obtain ⟨s, v, h1⟩ := h
 exact (Array.getElem?_eq_some_iff.1 h1).1
theorem Big.lt {w : World} {p : Nat} {z : Int} (h : Big w p z) : p < w.heap.size := h.int.lt
theorem Big.step {w w' : World} {p : Nat} {z : Int} (h : Big w p z) (k : Below w.heap.size w w') : Big w' p z := by
 have := h.lt
 obtain ⟨v, h1, h2⟩ := h
 exact ⟨v, by rw [k.block p this]; exact h1, h2.step k⟩
theorem IntAt.step {w w' : World} {p : Nat} (h : IntAt w p) (k : Below w.heap.size w w') : IntAt w' p := by
 have := h.lt
 obtain ⟨s, v, h1⟩ := h
 exact ⟨s, v, by rw [k.block p this]; exact h1⟩
theorem Row.tn {w w' : World} {p : Nat} {v : Value} {L : List Int} (h : Row w v L) (k : Tn p w w') (hp : IntAt w p) : Row w' v L := by
 rcases h with h | ⟨d, cap, cs, fz, h1, h2, h3, h4, h5⟩
 · exact .inl h
 · refine .inr ⟨d, cap, cs, fz, h1, h2, h3, ?_, h5⟩
   rw [k.block d (Array.getElem?_eq_some_iff.1 h4).1 ?_]; exact h4
   rintro rfl
   obtain ⟨s, u, e⟩ := hp
   rw [h4] at e
   simp at e
theorem Dg.tn {w w' : World} {p : Nat} {v : Value} {n : Int} (h : Dg w v n) (k : Tn p w w') (hp : IntAt w p) : Dg w' v n := by
 obtain ⟨L, h1, h2⟩ := h
 exact ⟨L, h1.tn k hp, h2⟩
theorem Big.tn {w w' : World} {p q : Nat} {z : Int} (h : Big w q z) (k : Tn p w w') (hp : IntAt w p) (hq : q ≠ p) : Big w' q z := by
 have := h.lt
 obtain ⟨v, h1, h2⟩ := h
 exact ⟨v, by rw [k.block q this hq]; exact h1, h2.tn k hp⟩
theorem IntAt.tn {w w' : World} {p q : Nat} (h : IntAt w q) (k : Tn p w w') (hq : q ≠ p) : IntAt w' q := by
 have := h.lt
 obtain ⟨s, v, h1⟩ := h
 exact ⟨s, v, by rw [k.block q this hq]; exact h1⟩
theorem Big.new (w : World) : Big (w.alloc (.cells #[.bool false, .slice none 0 0] 34)) w.heap.size 0 := by
 refine ⟨.slice none 0 0, ?_, Dg.nil _⟩
 show (w.heap.push _)[w.heap.size]? = _
 simp
theorem Big.cells {w : World} {p : Nat} {z : Int} (h : Big w p z) : ∃ v, w.cell? ⟨p, 0, none⟩ = some (.bool (decide (z < 0))) ∧ w.cell? ⟨p, 1, none⟩ = some v ∧ Dg w v z.natAbs ∧ p < w.heap.size := by
 have hl := h.lt
 obtain ⟨v, h1, h2⟩ := h
 exact ⟨v, by simp [World.cell?, h1], by simp [World.cell?, h1], h2, hl⟩
theorem IntAt.cells {w : World} {p : Nat} (h : IntAt w p) : ∃ s v, w.cell? ⟨p, 0, none⟩ = some (.bool s) ∧ w.cell? ⟨p, 1, none⟩ = some v ∧ w.frozen? ⟨p, 0, none⟩ = false ∧ w.frozen? ⟨p, 1, none⟩ = false := by
 obtain ⟨s, v, h1⟩ := h
 exact ⟨s, v, by simp [World.cell?, h1], by simp [World.cell?, h1], by simp [World.frozen?, h1], by simp [World.frozen?, h1]⟩
theorem given {w : World} {p : Nat} {v : Value} {n z : Int} {s : Bool} (hp : IntAt w p) (hd : Dg w v n) (hs : s = decide (z < 0)) (hn : n = z.natAbs) : Tn p w ((w.setCell ⟨p, 1, none⟩ v).setCell ⟨p, 0, none⟩ (.bool s)) ∧ Big ((w.setCell ⟨p, 1, none⟩ v).setCell ⟨p, 0, none⟩ (.bool s)) p z := by
 have k : Tn p w ((w.setCell ⟨p, 1, none⟩ v).setCell ⟨p, 0, none⟩ (.bool s)) :=
   ⟨rfl, rfl, rfl, by simp [World.setCell], fun k hk hn => by rw [Below.heap_setCell _ _ _ _ hn, Below.heap_setCell _ _ _ _ hn]⟩
 refine ⟨k, v, ?_, hn ▸ hd.tn k hp⟩
 obtain ⟨s0, v0, h1⟩ := hp
 subst hs
 simp [World.setCell, Array.getElem?_modify, h1]
theorem ret_eq3 {a b : Value} (h : a = b) : Ending.returned a = .returned b := by rw [h]
def sg (b : Bool) (n : Int) : Int := if b then -n else n
theorem give_any (p : Nat) (b : Bool) (v : Value) (n : Int) (w : World) (hp : IntAt w p) (hd : Dg w v n) (hn : n < 4294967296 ^ 8) :
   Calls Tryz.prog 35 #[.pointer (some ⟨p, 0, none⟩), .bool b, v] w fun e w' => e = .returned (.pointer (some ⟨p, 0, none⟩)) ∧ Tn p w w' ∧ Big w' p (sg b n) := by
 obtain ⟨ao, cap, L, rfl, hI, hl8, hr, hc1, _, _⟩ := hd.at hn
 obtain ⟨s0, v0, c0, c1, f0, f1⟩ := hp.cells
 have n0 := hI.lo
 have nz := hI.zero
 cases b
 · have GV := hide (given (s := false) (z := n) hp hd (by simp; omega) (by omega))
   have hlt := hp.lt
   clear hr hI nz hp hd
   go_enter Tryz.func35, Tryz.ntmps35
   go_wp2_with fail
   go_ret
   exact ⟨rfl, (unhide GV).1, (unhide GV).2⟩
 · have hb : decide (0 < L.length) = decide (-n < 0) := by
     by_cases h : L.length = 0
     · have := nz.1 h; simp [h]; omega
     · have : n ≠ 0 := fun e => h (nz.2 e)
       have a1 : decide (0 < L.length) = true := by simp; omega
       have a2 : decide (-n < 0) = true := by simp; omega
       rw [a1, a2]
   have GV := hide (given (s := decide (0 < L.length)) (z := -n) hp hd hb (by omega))
   have hlt := hp.lt
   clear hr hI nz hp hd hb
   go_enter Tryz.func35, Tryz.ntmps35
   go_wp2_with fail
   go_ret
   exact ⟨rfl, (unhide GV).1, (unhide GV).2⟩
theorem setU_any (p : Nat) (x : Int) (w : World) (hp : IntAt w p) (hx : U x) :
   Calls Tryz.prog 50 #[.pointer (some ⟨p, 0, none⟩), .int .u64 x] w fun e w' => e = .returned (.pointer (some ⟨p, 0, none⟩)) ∧ Tn p w w' ∧ Big w' p x := by
 have HP := hide hp
 clear hp
 go_enter Tryz.func50, Tryz.ntmps50
 go_wp2_with fail
 refine (words_any x _ hx).mono ?_
 rintro e w1 ⟨k1, v1, rfl, D1⟩
 have K1 := hide k1
 have HD := hide D1
 clear k1 D1
 go_wp2_with fail
 refine (give_any p false v1 x _ ((unhide HP).step (unhide K1)) (unhide HD) (by unfold U at hx; omega)).mono ?_
 rintro e w2 ⟨rfl, k2, b2⟩
 have K2 := hide k2
 have B2 := hide b2
 clear k2 b2
 go_wp2_with fail
 go_ret
 exact ⟨rfl, (Tn.of (unhide K1)).trans (unhide K2), unhide B2⟩
theorem whole_any (x : Int) (w : World) (hx : U x) :
   Calls Tryz.prog 34 #[.int .u64 x] w fun e w' => e = .returned (.pointer (some ⟨w.heap.size, 0, none⟩)) ∧ Below w.heap.size w w' ∧ Big w' w.heap.size x := by
 have HB := hide (Big.new w)
 have KA := hide (below_a w (.cells #[.bool false, .slice none 0 0] 34))
 go_enter Tryz.func34, Tryz.ntmps34
 go_wp2_with fail
 refine (setU_any w.heap.size x _ (unhide HB).int hx).mono ?_
 rintro e w1 ⟨rfl, k1, b1⟩
 have K1 := hide k1
 have B1 := hide b1
 clear k1 b1
 go_wp2_with fail
 go_ret
 exact ⟨rfl, (unhide KA).trans ((unhide K1).below (Nat.le_refl _) (by simp)), unhide B1⟩
def I64 (x : Int) : Prop := -9223372036854775808 ≤ x ∧ x ≤ 9223372036854775807
theorem setI_any (p : Nat) (x : Int) (w : World) (hp : IntAt w p) (hx : I64 x) :
   Calls Tryz.prog 26 #[.pointer (some ⟨p, 0, none⟩), .int .i64 x] w fun e w' => e = .returned (.pointer (some ⟨p, 0, none⟩)) ∧ Tn p w w' ∧ Big w' p x := by
 have HP := hide hp
 obtain ⟨h0, h1⟩ := hx
 clear hp
 by_cases hneg : x < 0
 · have e1 : IntKind.u64.wrap (-IntKind.u64.wrap x) = -x := by rw [u64_wrap, u64_wrap]; omega
   have e2 : (-(x + 18446744073709551616)) % 18446744073709551616 = -x := by omega
   have hb : decide (x < 0) = true := by simp [hneg]
   go_enter Tryz.func26, Tryz.ntmps26
   go_wp2_with fail
   refine (words_any (-x) _ ⟨by omega, by omega⟩).mono ?_
   rintro e w1 ⟨k1, v1, rfl, D1⟩
   have K1 := hide k1
   have HD := hide D1
   clear k1 D1
   go_wp2_with fail
   refine (give_any p true v1 (-x) _ ((unhide HP).step (unhide K1)) (unhide HD) (by omega)).mono ?_
   rintro e w2 ⟨rfl, k2, b2⟩
   have hs : sg true (-x) = x := by simp [sg]
   rw [hs] at b2
   have K2 := hide k2
   have B2 := hide b2
   clear k2 b2
   go_wp2_with fail
   go_ret
   exact ⟨rfl, (Tn.of (unhide K1)).trans (unhide K2), unhide B2⟩
 · have e1 : IntKind.u64.wrap x = x := by rw [u64_wrap]; omega
   have hb : decide (x < 0) = false := by simp; omega
   go_enter Tryz.func26, Tryz.ntmps26
   go_wp2_with fail
   refine (words_any x _ ⟨by omega, by omega⟩).mono ?_
   rintro e w1 ⟨k1, v1, rfl, D1⟩
   have K1 := hide k1
   have HD := hide D1
   clear k1 D1
   go_wp2_with fail
   refine (give_any p false v1 x _ ((unhide HP).step (unhide K1)) (unhide HD) (by omega)).mono ?_
   rintro e w2 ⟨rfl, k2, b2⟩
   have K2 := hide k2
   have B2 := hide b2
   clear k2 b2
   go_wp2_with fail
   go_ret
   exact ⟨rfl, (Tn.of (unhide K1)).trans (unhide K2), unhide B2⟩
theorem newI_any (x : Int) (w : World) (hx : I64 x) :
   Calls Tryz.prog 49 #[.int .i64 x] w fun e w' => e = .returned (.pointer (some ⟨w.heap.size, 0, none⟩)) ∧ Below w.heap.size w w' ∧ Big w' w.heap.size x := by
 have HB := hide (Big.new w)
 have KA := hide (below_a w (.cells #[.bool false, .slice none 0 0] 34))
 go_enter Tryz.func49, Tryz.ntmps49
 go_wp2_with fail
 refine (setI_any w.heap.size x _ (unhide HB).int hx).mono ?_
 rintro e w1 ⟨rfl, k1, b1⟩
 have K1 := hide k1
 have B1 := hide b1
 clear k1 b1
 go_wp2_with fail
 go_ret
 exact ⟨rfl, (unhide KA).trans ((unhide K1).below (Nat.le_refl _) (by simp)), unhide B1⟩
theorem uint_any (p : Nat) (z : Int) (w : World) (h : Big w p z) (hz : z.natAbs < 18446744073709551616) :
   Calls Tryz.prog 42 #[.pointer (some ⟨p, 0, none⟩)] w fun e w' => w' = w ∧ e = .returned (.int .u64 z.natAbs) := by
 obtain ⟨v, cs, c1, hD, hlt⟩ := h.cells
 have hn : ((z.natAbs : Nat) : Int) < 18446744073709551616 := by omega
 generalize ((z.natAbs : Nat) : Int) = n at *
 obtain ⟨ao, cap, L, rfl, hI, hl8, hr, hc1, hd, hc⟩ := hD.at (by omega)
 obtain ⟨q1, q2, q3, q4⟩ := is_two hI hn
 have g0 := hI.1.get 0
 have g1 := hI.1.get 1
 have HC := hide hc
 have HQ := hide q1
 clear hr hI hc q1 h hD hz cs
 by_cases l0 : L.length = 0
 · have := q2 l0
   subst this
   rw [l0] at c1
   go_enter Tryz.func42, Tryz.ntmps42
   go_wp2_with fail
   go_ret
   exact ⟨rfl, rfl⟩
 · obtain ⟨d, rfl, hdl⟩ := hd l0
   have k0 := unhide HC d rfl 0 (by omega)
   by_cases l1 : L.length = 1
   · have := q3 l1
     rw [l1] at c1
     clear q3 q2 g1 hd
     generalize L.getD 0 0 = x at *
     subst this
     go_enter Tryz.func42, Tryz.ntmps42
     go_wp2_with fail
     go_ret
     exact ⟨rfl, rfl⟩
   · have l2 : L.length = 2 := by omega
     have k1 := unhide HC d rfl 1 (by omega)
     have ho := or_two _ _ g0 g1
     rw [← unhide HQ] at ho
     rw [l2] at c1
     generalize L.getD 0 0 = x at *
     generalize L.getD 1 0 = y at *
     go_enter Tryz.func42, Tryz.ntmps42
     go_wp2_with fail
     go_ret
     exact ⟨rfl, rfl⟩
theorem int_any (p : Nat) (z : Int) (w : World) (h : Big w p z) (hz : I64 z) :
   Calls Tryz.prog 43 #[.pointer (some ⟨p, 0, none⟩)] w fun e w' => w' = w ∧ e = .returned (.int .i64 z) := by
 obtain ⟨h0, h1⟩ := hz
 obtain ⟨v, cs, c1, hD, hlt⟩ := h.cells
 have UA := hide (uint_any p z w h (by omega))
 have hn : ((z.natAbs : Nat) : Int) = if z < 0 then -z else z := by split <;> omega
 rw [hn] at UA
 clear hn h hD
 by_cases hneg : z < 0
 · rw [if_pos hneg] at UA
   have hb : decide (z < 0) = true := by simp [hneg]
   rw [hb] at cs
   have e1 : IntKind.i64.wrap (-IntKind.i64.wrap (-z)) = z := by rw [IntKind.wrap_i64, IntKind.wrap_i64]; omega
   have e2 : wrap64 (-wrap64 (-z)) = z := by unfold wrap64; omega
   go_enter Tryz.func43, Tryz.ntmps43
   go_wp2_with fail
   refine (unhide UA).mono ?_
   rintro e w1 ⟨rfl, rfl⟩
   go_wp2_with fail
   go_ret
   first | exact ⟨rfl, rfl⟩ | exact ⟨rfl, ret_eq3 (congrArg _ e1)⟩ | exact ⟨rfl, ret_eq3 (congrArg _ e2)⟩
 · rw [if_neg hneg] at UA
   have hb : decide (z < 0) = false := by simp; omega
   rw [hb] at cs
   have e1 : IntKind.i64.wrap z = z := by rw [IntKind.wrap_i64]; omega
   go_enter Tryz.func43, Tryz.ntmps43
   go_wp2_with fail
   refine (unhide UA).mono ?_
   rintro e w1 ⟨rfl, rfl⟩
   go_wp2_with fail
   go_ret
   exact ⟨rfl, rfl⟩
theorem sign_any (p : Nat) (z : Int) (w : World) (h : Big w p z) (hz : z.natAbs < 4294967296 ^ 8) :
   Calls Tryz.prog 23 #[.pointer (some ⟨p, 0, none⟩)] w fun e w' => w' = w ∧ e = .returned (.int .i64 z.sign) := by
 obtain ⟨v, cs, c1, hD, hlt⟩ := h.cells
 obtain ⟨ao, cap, L, rfl, hI, hl8, hr, hc1, hd, hc⟩ := hD.at (by omega)
 have nz := hI.zero
 clear hd hc
 by_cases z0 : z = 0
 · subst z0
   have hl0 : L.length = 0 := nz.2 (by simp)
   rw [hl0] at c1
   clear hr hI h hD nz hz
   go_enter Tryz.func23, Tryz.ntmps23
   go_wp2_with fail
   go_ret
   exact ⟨rfl, rfl⟩
 · have hl0 : L.length ≠ 0 := fun e => z0 (by have := nz.1 e; omega)
   have hlb : ((L.length : Int) == 0) = false := by rw [beq_eq_false_iff_ne]; omega
   have hlc : (L.length == 0) = false := by rw [beq_eq_false_iff_ne]; exact hl0
   by_cases hneg : z < 0
   · have hb : decide (z < 0) = true := by simp [hneg]
     rw [hb] at cs
     have e1 : z.sign = -1 := Int.sign_eq_neg_one_of_neg hneg
     rw [e1]
     clear hr hI h hD nz hz z0 hneg hb
     go_enter Tryz.func23, Tryz.ntmps23
     go_wp2_with fail
     go_ret
     exact ⟨rfl, rfl⟩
   · have hb : decide (z < 0) = false := by simp; omega
     rw [hb] at cs
     have e1 : z.sign = 1 := Int.sign_eq_one_of_pos (by omega)
     rw [e1]
     clear hr hI h hD nz hz z0 hneg hb
     go_enter Tryz.func23, Tryz.ntmps23
     go_wp2_with fail
     go_ret
     exact ⟨rfl, rfl⟩
end Go.Proofs.YtlkoidkdeopgjaaGreatDoor
