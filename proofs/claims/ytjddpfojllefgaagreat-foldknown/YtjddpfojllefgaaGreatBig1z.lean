/-
  Numbers of any size in memory: rows of words, and the blocks that hold a sign and a row.
-/
import Derived.Test.YtjddpfojllefgaaGreatBig0
import Derived.Test.YtjddpfojllefgaaGreatMem
import Derived.Test.YtjddpfojllefgaaGreatRows
import Derived.Test.YtjddpfojllefgaaGreatPlainz
import Derived.WalkSpells
import Derived.WalkLawsBesides
import Derived.WalkSmall
import Derived.Deep.LoopGhost
namespace Go.Proofs.YtjddpfojllefgaaGreat
open Go.RowKit
set_option linter.unusedSimpArgs false
set_option linter.unusedVariables false

/-- A slice of words, at the beginning of a block of words. -/
def Row (w : World) (v : Value) (L : List Int) : Prop :=
  (v = .slice none 0 0 ∧ L = []) ∨ ∃ d cap cs fz, v = .slice (some ⟨d, 0, none⟩) L.length cap ∧ L.length ≤ cap ∧ cap ≤ maxLen ∧ w.heap[d]? = some (.cells cs 91 fz) ∧ ∀ j, j < L.length → cs[j]? = some (.int .u32 (L.getD j 0))
theorem Row.step {w w' : World} {v : Value} {L : List Int} (h : Row w v L) (k : Below w.heap.size w w') : Row w' v L := by
  rcases h with h | ⟨d, cap, cs, fz, h1, h2, h3, h4, h5⟩
  · exact .inl h
  · exact .inr ⟨d, cap, cs, fz, h1, h2, h3, by rw [k.block d (Array.getElem?_eq_some_iff.1 h4).1]; exact h4, h5⟩
theorem Row.nil (w : World) : Row w (.slice none 0 0) [] := .inl ⟨rfl, rfl⟩
theorem Row.at {w : World} {v : Value} {L : List Int} (h : Row w v L) : ∃ ao cap, v = .slice ao L.length cap ∧ L.length ≤ cap ∧ cap ≤ maxLen ∧ (ao = none → cap = 0) ∧ (∀ d o p, ao = some ⟨d, o, p⟩ → o = 0 ∧ p = none ∧ d < w.heap.size) ∧ (L.length ≠ 0 → ∃ d, ao = some ⟨d, 0, none⟩) ∧ (∀ d, ao = some ⟨d, 0, none⟩ → ∀ j, j < L.length → w.cell? ⟨d, j, none⟩ = some (.int .u32 (L.getD j 0))) := by
  rcases h with ⟨rfl, rfl⟩ | ⟨d, cap, cs, fz, rfl, h2, h3, h4, h5⟩
  · exact ⟨none, 0, rfl, Nat.le_refl _, Nat.zero_le _, fun _ => rfl, (fun d o p h => by cases h), fun h => absurd rfl h, fun d h => by cases h⟩
  · refine ⟨_, cap, rfl, h2, h3, (fun h => by cases h), ?_, fun _ => ⟨d, rfl⟩, ?_⟩
    · intro d' o p e
      cases e
      exact ⟨rfl, rfl, (Array.getElem?_eq_some_iff.1 h4).1⟩
    · intro d' e j hj
      cases e
      have := h5 j hj
      simp [World.cell?, h4, this]
theorem Row.take {w : World} {ao : Option Addr} {cap : Nat} {L : List Int} (h : Row w (.slice ao L.length cap) L) (n : Nat) (hn : n ≤ L.length) : Row w (.slice ao n cap) (L.take n) := by
  have hl : (L.take n).length = n := by rw [List.length_take]; omega
  rcases h with ⟨h1, rfl⟩ | ⟨d, cap', cs, fz, h1, h2, h3, h4, h5⟩
  · left
    simp at h1 hn
    obtain ⟨rfl, rfl⟩ := h1
    subst hn
    simp
  · cases h1
    refine .inr ⟨d, cap, cs, fz, by rw [hl], by omega, h3, h4, fun j hj => ?_⟩
    rw [h5 j (by omega), List.getD_eq_getElem?_getD, List.getD_eq_getElem?_getD, List.getElem?_take, if_pos (by omega)]
/-- Words of a block of one's own. -/
theorem Row.box {w : World} {d : Nat} {L : List Int} {cs : Array Value} {fz : Nat × Nat} (h : w.heap[d]? = some (.cells cs 91 fz)) (hs : cs.size = L.length) (hc : ∀ j, j < L.length → cs[j]? = some (.int .u32 (L.getD j 0))) (hm : L.length ≤ maxLen) : Row w (.slice (some ⟨d, 0, none⟩) L.length L.length) L :=
  .inr ⟨d, _, cs, fz, rfl, Nat.le_refl _, hm, h, hc⟩

/-- A number by its words. -/
def Dg (w : World) (v : Value) (n : Int) : Prop := ∃ L, Row w v L ∧ Is L n
theorem Dg.step {w w' : World} {v : Value} {n : Int} (h : Dg w v n) (k : Below w.heap.size w w') : Dg w' v n := by
  obtain ⟨L, h1, h2⟩ := h
  exact ⟨L, h1.step k, h2⟩
theorem Dg.nil (w : World) : Dg w (.slice none 0 0) 0 := ⟨[], Row.nil w, is_nil⟩

/-- A row that is being written: a block of one's own, its words. -/
def Own32 (w : World) (d : Nat) (R : List Int) : Prop := ∃ cs, w.heap[d]? = some (.cells cs 91) ∧ cs.size = R.length ∧ ∀ j, j < R.length → cs[j]? = some (.int .u32 (R.getD j 0))
theorem Own32.lt {w : World} {d : Nat} {R : List Int} (h : Own32 w d R) : d < w.heap.size := by
  obtain ⟨cs, h1, _⟩ := h
  exact (Array.getElem?_eq_some_iff.1 h1).1
theorem Own32.cell {w : World} {d : Nat} {R : List Int} (h : Own32 w d R) (j : Nat) (hj : j < R.length) : w.cell? ⟨d, j, none⟩ = some (.int .u32 (R.getD j 0)) := by
  obtain ⟨cs, h1, _, h3⟩ := h
  simp [World.cell?, h1, h3 j hj]
theorem Own32.frozen {w : World} {d : Nat} {R : List Int} (h : Own32 w d R) (j : Nat) : w.frozen? ⟨d, j, none⟩ = false := by
  obtain ⟨cs, h1, _⟩ := h
  simp [World.frozen?, h1]
theorem Own32.step {w w' : World} {d : Nat} {R : List Int} (h : Own32 w d R) (k : Below w.heap.size w w') : Own32 w' d R := by
  have := h.lt
  obtain ⟨cs, h1, h2⟩ := h
  exact ⟨cs, by rw [k.block d this]; exact h1, h2⟩
theorem Own32.row {w : World} {d : Nat} {R : List Int} (h : Own32 w d R) (hm : R.length ≤ maxLen) : Row w (.slice (some ⟨d, 0, none⟩) R.length R.length) R := by
  obtain ⟨cs, h1, h2, h3⟩ := h
  exact Row.box h1 h2 h3 hm
theorem Own32.set {w : World} {d : Nat} {R : List Int} (h : Own32 w d R) (j : Nat) (x : Int) (hj : j < R.length) : Own32 (w.setCell ⟨d, j, none⟩ (.int .u32 x)) d (R.set j x) := by
  obtain ⟨cs, h1, h2, h3⟩ := h
  refine ⟨cs.setIfInBounds j (.int .u32 x), ?_, by simp [h2], fun i hi => ?_⟩
  · simp [World.setCell, Array.getElem?_modify, h1]
  · rw [List.length_set] at hi
    by_cases e : j = i
    · subst e
      rw [getD_set_self hj, Array.getElem?_setIfInBounds_self_of_lt (by omega)]
    · rw [getD_set_ne e, Array.getElem?_setIfInBounds_ne e]; exact h3 i hi
theorem Own32.new (w : World) (n : Nat) : Own32 (w.alloc (.cells (madeCells #[.int .u32 0] n) 91)) w.heap.size (List.replicate n 0) := by
  have hm : madeCells #[.int .u32 0] n = Array.replicate n (.int .u32 0) := by
    apply Array.ext'
    have : (fun x : Nat => ([Value.int IntKind.u32 0][x % 1]?).getD default) = fun _ => Value.int IntKind.u32 0 := by funext x; simp [Nat.mod_one]
    simp [madeCells, this, List.map_const']
  rw [hm]
  refine ⟨Array.replicate n (.int .u32 0), ?_, by simp, fun j hj => ?_⟩
  · show (w.heap.push _)[w.heap.size]? = _
    simp
  simp at hj
  simp [hj]
end Go.Proofs.YtjddpfojllefgaaGreat

/-
  trim and words.
-/
namespace Go.Proofs.YtjddpfojllefgaaGreat
open Go.RowKit
set_option linter.unusedSimpArgs false
set_option linter.unusedVariables false

set_option maxHeartbeats 400000 in
theorem trim_any (w : World) (v : Value) (L : List Int) (hr : Row w v L) (hw : Wds L) (hl : L.length ≤ 1000) :
    Calls Tryz.prog 87 #[v] w fun e w' => w' = w ∧ ∃ v', e = .returned v' ∧ Dg w v' (vl L) := by
  obtain ⟨ao, cap, rfl, hc1, hc2, hc3, hc4, hc5, hc6⟩ := hr.at
  have HR := hide hr
  have HW := hide hw
  have H5 := hide hc5
  have H6 := hide hc6
  clear hr hw hc3 hc4 hc5 hc6
  go_enter Tryz.func87, Tryz.ntmps87
  go_wp2_with fail
  go_loopg [3] L.length (fun g t wr => ∃ n : Nat, n ≤ L.length ∧ g = n ∧ t = .int .i64 n ∧ wr = w ∧ Hid (∀ j, n ≤ j → L.getD j 0 = 0))
  case atStart => exact ⟨L.length, Nat.le_refl _, rfl, rfl, rfl, fun j hj => by rw [List.getD_eq_getElem?_getD, List.getElem?_eq_none hj]; rfl⟩
  case round =>
    obtain ⟨n, hn, hg, rfl, rfl, hz⟩ := hrel
    have IZ := hide (show (n = 0 ∨ L.getD (n - 1) 0 ≠ 0) → Dg wr (.slice ao n cap) (vl L) from fun h => ⟨L.take n, (unhide HR).take n hn, take_norm (unhide HW) n hn (unhide hz) h⟩)
    by_cases h0 : n = 0
    · subst h0
      have b0 : decide ((0 : Int) < ((0 : Nat) : Int)) = false := by simp
      go_wp2_with fail
      go_ret
      exact ⟨rfl, _, rfl, (unhide IZ) (by simp)⟩
    · obtain ⟨d, rfl⟩ := unhide H5 (by omega)
      obtain ⟨m, rfl⟩ : ∃ m, n = m + 1 := ⟨n - 1, by omega⟩
      have b0 : decide ((0 : Int) < ((m + 1 : Nat) : Int)) = true := by simp
      have c0 := unhide H6 d rfl m (by omega)
      have e1 : (((m + 1 : Nat) : Int) - 1) = (m : Int) := by omega
      have hm1 : (m : Int) < (L.length : Int) := by omega
      by_cases hx : L.getD m 0 = 0
      · rw [hx] at c0
        have HX := hide hx
        clear hx
        go_wp2_with fail
        go_roundg m
        case measure => omega
        case rel => exact ⟨m, by omega, rfl, by go_num, rfl, fun j hj => by
          by_cases e : j = m
          · rw [e]; exact unhide HX
          · exact unhide hz j (by omega)⟩
      · have hxb : (L.getD m 0 == 0) = false := by simpa using hx
        have HX := hide hx
        clear hx
        generalize L.getD m 0 = x at c0 hxb
        go_wp2_with fail
        go_ret
        exact ⟨rfl, _, rfl, unhide IZ (.inr (unhide HX))⟩
theorem Row.two (w : World) (x y : Int) : Row (w.alloc (.cells #[.int .u32 x, .int .u32 y] 91)) (.slice (some ⟨w.heap.size, 0, none⟩) 2 2) [x, y] := by
  refine .inr ⟨w.heap.size, 2, #[.int .u32 x, .int .u32 y], (0, 0), rfl, by simp, by decide, ?_, fun j hj => ?_⟩
  · show (w.heap.push _)[w.heap.size]? = _
    simp
  · match j, hj with
    | 0, _ => rfl
    | 1, _ => rfl
theorem words_any (x : Int) (w : World) (hx : U x) :
    Calls Tryz.prog 69 #[.int .u64 x] w fun e w' => Below w.heap.size w w' ∧ ∃ v', e = .returned v' ∧ Dg w' v' x := by
  obtain ⟨h0, h1⟩ := hx
  have T := hide (trim_any _ _ _ (Row.two w (x % 4294967296) (x / 4294967296)) (by intro y hy; simp at hy; omega) (by simp))
  have KB := hide (below_a w (.cells #[.int .u32 (x % 4294967296), .int .u32 (x / 4294967296)] 91))
  have e0 : vl [x % 4294967296, x / 4294967296] = x := by simp [vl]; omega
  rw [e0] at T
  go_enter Tryz.func69, Tryz.ntmps69
  go_wp2_with fail
  refine (unhide T).mono ?_
  rintro e w1 ⟨rfl, v1, rfl, D1⟩
  have HD := hide D1
  clear D1
  go_wp2_with fail
  go_ret
  exact ⟨unhide KB, _, rfl, unhide HD⟩
theorem Dg.at {w : World} {v : Value} {n : Int} (h : Dg w v n) (hn : n < 4294967296 ^ 8) : ∃ ao cap L, v = .slice ao L.length cap ∧ Is L n ∧ L.length ≤ 8 ∧ Row w v L ∧ L.length ≤ cap ∧ (L.length ≠ 0 → ∃ d, ao = some ⟨d, 0, none⟩ ∧ d < w.heap.size) ∧ (∀ d, ao = some ⟨d, 0, none⟩ → ∀ j, j < L.length → w.cell? ⟨d, j, none⟩ = some (.int .u32 (L.getD j 0))) := by
  obtain ⟨L, h1, h2⟩ := h
  obtain ⟨ao, cap, rfl, hc1, hc2, hc3, hc4, hc5, hc6⟩ := h1.at
  refine ⟨ao, cap, L, rfl, h2, h2.len 8 hn, h1, hc1, fun h => ?_, hc6⟩
  obtain ⟨d, hd⟩ := hc5 h
  exact ⟨d, hd, (hc4 _ _ _ hd).2.2⟩
theorem is_two {L : List Int} {n : Int} (h : Is L n) (hn : n < 18446744073709551616) : n = L.getD 0 0 + 4294967296 * L.getD 1 0 ∧ (L.length = 0 → n = 0) ∧ (L.length = 1 → n = L.getD 0 0) ∧ L.length ≤ 2 := by
  have hl := h.len 2 (by simpa using hn)
  have e := h.2.2
  match L, hl with
  | [], _ => simp [vl] at e ⊢; omega
  | [x], _ => simp [vl] at e ⊢; omega
  | [x, y], _ => simp [vl] at e ⊢; omega
theorem or_two (x y : Int) (hx : 0 ≤ x ∧ x ≤ 4294967295) (hy : 0 ≤ y ∧ y ≤ 4294967295) : bits .or .u64 x (y * 4294967296) = x + 4294967296 * y := by
  obtain ⟨hx1, hx2⟩ := hx
  obtain ⟨hy1, hy2⟩ := hy
  go_bits2
theorem plain_any (v : Value) (n : Int) (w : World) (h : Dg w v n) (hn : n < 18446744073709551616) :
    Calls Tryz.prog 112 #[v] w fun e w' => w' = w ∧ e = .returned (.int .u64 n) := by
  obtain ⟨ao, cap, L, rfl, hI, hl8, hr, hc1, hd, hc⟩ := h.at (by omega)
  obtain ⟨q1, q2, q3, q4⟩ := is_two hI hn
  have g0 := hI.1.get 0
  have g1 := hI.1.get 1
  have HC := hide hc
  have HQ := hide q1
  clear hr hI hc q1
  by_cases l0 : L.length = 0
  · have := q2 l0
    subst this
    rw [l0]
    go_enter Tryz.func112, Tryz.ntmps112
    go_wp2_with fail
    go_ret
    exact ⟨rfl, rfl⟩
  · obtain ⟨d, rfl, hdl⟩ := hd l0
    have c0 := unhide HC d rfl 0 (by omega)
    by_cases l1 : L.length = 1
    · have := q3 l1
      rw [l1]
      clear q3 q2 g1 hd h
      generalize L.getD 0 0 = x at *
      subst this
      go_enter Tryz.func112, Tryz.ntmps112
      go_wp2_with fail
      go_ret
      exact ⟨rfl, rfl⟩
    · have l2 : L.length = 2 := by omega
      have c1 := unhide HC d rfl 1 (by omega)
      have ho := or_two _ _ g0 g1
      rw [← unhide HQ] at ho
      rw [l2]
      generalize L.getD 0 0 = x at *
      generalize L.getD 1 0 = y at *
      go_enter Tryz.func112, Tryz.ntmps112
      go_wp2_with fail
      go_ret
      exact ⟨rfl, rfl⟩
end Go.Proofs.YtjddpfojllefgaaGreat
