/-
  trim and words.
-/
import Derived.Test.YtonekpoblgigpaaDoorRows
import Derived.Test.YtonekpoblgigpaaDoorBig1
import Derived.Test.YtonekpoblgigpaaDoorPlain
import Derived.WalkSpells
import Derived.WalkLawsBesides
import Derived.WalkSmall
import Derived.Deep.LoopGhost
namespace Go.Proofs.YtonekpoblgigpaaDoor
open Go.RowKit
set_option linter.unusedSimpArgs false
set_option linter.unusedVariables false

set_option maxHeartbeats 400000 in
theorem trim_any (w : World) (v : Value) (L : List Int) (hr : Row w v L) (hw : Wds L) (hl : L.length ≤ 1000) :
    Calls Tryd.prog 69 #[v] w fun e w' => w' = w ∧ ∃ v', e = .returned v' ∧ Dg w v' (vl L) := by
  obtain ⟨ao, cap, rfl, hc1, hc2, hc3, hc4, hc5, hc6⟩ := hr.at
  have HR := hide hr
  have HW := hide hw
  have H5 := hide hc5
  have H6 := hide hc6
  clear hr hw hc3 hc4 hc5 hc6
  go_enter Tryd.func69, Tryd.ntmps69
  go_wp2_with fail
  go_loopg [3] L.length (fun g t wr => ∃ n : Nat, n ≤ L.length ∧ g = n ∧ t = .int .i64 n ∧ wr = w ∧ Hid (∀ j, n ≤ j → L.getD j 0 = 0))
  case atStart => exact ⟨L.length, Nat.le_refl _, rfl, rfl, rfl, fun j hj => by rw [List.getD_eq_getElem?_getD, List.getElem?_eq_none hj]; rfl⟩
  case round =>
    obtain ⟨n, hn, hg, rfl, rfl, hz⟩ := hrel
    have IZ := hide (show (n = 0 ∨ L.getD (n - 1) 0 ≠ 0) → Dg wr (.slice ao n cap) (vl L) from fun h => ⟨L.take n, (unhide HR).take n hn, take_norm (unhide HW) n hn (unhide hz) h⟩)
    by_cases h0 : n = 0
    · subst h0
      have b0 : decide ((0 : Int) < ((0 : Nat) : Int)) = false := by simp
      go_wp2_with fail
      go_ret
      exact ⟨rfl, _, rfl, (unhide IZ) (by simp)⟩
    · obtain ⟨d, rfl⟩ := unhide H5 (by omega)
      obtain ⟨m, rfl⟩ : ∃ m, n = m + 1 := ⟨n - 1, by omega⟩
      have b0 : decide ((0 : Int) < ((m + 1 : Nat) : Int)) = true := by simp
      have c0 := unhide H6 d rfl m (by omega)
      have e1 : (((m + 1 : Nat) : Int) - 1) = (m : Int) := by omega
      have hm1 : (m : Int) < (L.length : Int) := by omega
      by_cases hx : L.getD m 0 = 0
      · rw [hx] at c0
        have HX := hide hx
        clear hx
        go_wp2_with fail
        go_roundg m
        case measure => omega
        case rel => exact ⟨m, by omega, rfl, by go_num, rfl, fun j hj => by
          by_cases e : j = m
          · rw [e]; exact unhide HX
          · exact unhide hz j (by omega)⟩
      · have hxb : (L.getD m 0 == 0) = false := by simpa using hx
        have HX := hide hx
        clear hx
        generalize L.getD m 0 = x at c0 hxb
        go_wp2_with fail
        go_ret
        exact ⟨rfl, _, rfl, unhide IZ (.inr (unhide HX))⟩
theorem Row.two (w : World) (x y : Int) : Row (w.alloc (.cells #[.int .u32 x, .int .u32 y] 83)) (.slice (some ⟨w.heap.size, 0, none⟩) 2 2) [x, y] := by
  refine .inr ⟨w.heap.size, 2, #[.int .u32 x, .int .u32 y], (0, 0), rfl, by simp, by decide, ?_, fun j hj => ?_⟩
  · show (w.heap.push _)[w.heap.size]? = _
    simp
  · match j, hj with
    | 0, _ => rfl
    | 1, _ => rfl
theorem words_any (x : Int) (w : World) (hx : U x) :
    Calls Tryd.prog 61 #[.int .u64 x] w fun e w' => Below w.heap.size w w' ∧ ∃ v', e = .returned v' ∧ Dg w' v' x := by
  obtain ⟨h0, h1⟩ := hx
  have T := hide (trim_any _ _ _ (Row.two w (x % 4294967296) (x / 4294967296)) (by intro y hy; simp at hy; omega) (by simp))
  have KB := hide (below_a w (.cells #[.int .u32 (x % 4294967296), .int .u32 (x / 4294967296)] 83))
  have e0 : vl [x % 4294967296, x / 4294967296] = x := by simp [vl]; omega
  rw [e0] at T
  go_enter Tryd.func61, Tryd.ntmps61
  go_wp2_with fail
  refine (unhide T).mono ?_
  rintro e w1 ⟨rfl, v1, rfl, D1⟩
  have HD := hide D1
  clear D1
  go_wp2_with fail
  go_ret
  exact ⟨unhide KB, _, rfl, unhide HD⟩
theorem Dg.at {w : World} {v : Value} {n : Int} (h : Dg w v n) (hn : n < 4294967296 ^ 8) : ∃ ao cap L, v = .slice ao L.length cap ∧ Is L n ∧ L.length ≤ 8 ∧ Row w v L ∧ L.length ≤ cap ∧ (L.length ≠ 0 → ∃ d, ao = some ⟨d, 0, none⟩ ∧ d < w.heap.size) ∧ (∀ d, ao = some ⟨d, 0, none⟩ → ∀ j, j < L.length → w.cell? ⟨d, j, none⟩ = some (.int .u32 (L.getD j 0))) := by
  obtain ⟨L, h1, h2⟩ := h
  obtain ⟨ao, cap, rfl, hc1, hc2, hc3, hc4, hc5, hc6⟩ := h1.at
  refine ⟨ao, cap, L, rfl, h2, h2.len 8 hn, h1, hc1, fun h => ?_, hc6⟩
  obtain ⟨d, hd⟩ := hc5 h
  exact ⟨d, hd, (hc4 _ _ _ hd).2.2⟩
theorem is_two {L : List Int} {n : Int} (h : Is L n) (hn : n < 18446744073709551616) : n = L.getD 0 0 + 4294967296 * L.getD 1 0 ∧ (L.length = 0 → n = 0) ∧ (L.length = 1 → n = L.getD 0 0) ∧ L.length ≤ 2 := by
  have hl := h.len 2 (by simpa using hn)
  have e := h.2.2
  match L, hl with
  | [], _ => simp [vl] at e ⊢; omega
  | [x], _ => simp [vl] at e ⊢; omega
  | [x, y], _ => simp [vl] at e ⊢; omega
theorem or_two (x y : Int) (hx : 0 ≤ x ∧ x ≤ 4294967295) (hy : 0 ≤ y ∧ y ≤ 4294967295) : bits .or .u64 x (y * 4294967296) = x + 4294967296 * y := by
  obtain ⟨hx1, hx2⟩ := hx
  obtain ⟨hy1, hy2⟩ := hy
  go_bits2
theorem plain_any (v : Value) (n : Int) (w : World) (h : Dg w v n) (hn : n < 18446744073709551616) :
    Calls Tryd.prog 77 #[v] w fun e w' => w' = w ∧ e = .returned (.int .u64 n) := by
  obtain ⟨ao, cap, L, rfl, hI, hl8, hr, hc1, hd, hc⟩ := h.at (by omega)
  obtain ⟨q1, q2, q3, q4⟩ := is_two hI hn
  have g0 := hI.1.get 0
  have g1 := hI.1.get 1
  have HC := hide hc
  have HQ := hide q1
  clear hr hI hc q1
  by_cases l0 : L.length = 0
  · have := q2 l0
    subst this
    rw [l0]
    go_enter Tryd.func77, Tryd.ntmps77
    go_wp2_with fail
    go_ret
    exact ⟨rfl, rfl⟩
  · obtain ⟨d, rfl, hdl⟩ := hd l0
    have c0 := unhide HC d rfl 0 (by omega)
    by_cases l1 : L.length = 1
    · have := q3 l1
      rw [l1]
      clear q3 q2 g1 hd h
      generalize L.getD 0 0 = x at *
      subst this
      go_enter Tryd.func77, Tryd.ntmps77
      go_wp2_with fail
      go_ret
      exact ⟨rfl, rfl⟩
    · have l2 : L.length = 2 := by omega
      have c1 := unhide HC d rfl 1 (by omega)
      have ho := or_two _ _ g0 g1
      rw [← unhide HQ] at ho
      rw [l2]
      generalize L.getD 0 0 = x at *
      generalize L.getD 1 0 = y at *
      go_enter Tryd.func77, Tryd.ntmps77
      go_wp2_with fail
      go_ret
      exact ⟨rfl, rfl⟩
end Go.Proofs.YtonekpoblgigpaaDoor
