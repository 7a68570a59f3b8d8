/-
  Texts: words that are the language's own, and names: the program's and the document's.
-/
import Derived.Test.YtjddpfojllefgaaGreatTyAz
import Derived.Test.YtjddpfojllefgaaGreatTyNz
import Derived.Test.YtjddpfojllefgaaGreatR7E
import Derived.Lib.SlBytesConst
namespace Go.Proofs.YtjddpfojllefgaaGreat
open Go.RowKit
set_option linter.unusedSimpArgs false
set_option linter.unusedVariables false

def kwR : List (List UInt8) := [[118, 111, 105, 100], [105, 102], [101, 108, 115, 101], [119, 104, 105, 108, 101], [102, 111, 114], [114, 101, 116, 117, 114, 110], [98, 114, 101, 97, 107], [99, 111, 110, 116, 105, 110, 117, 101]]
/-- A word of the language. -/
def rsvd (s : ByteArray) : Bool := kwR.any (fun k => s.toList == k) || nk s
theorem rsvd_0 {s : ByteArray} (h0 : (s.toList == [118, 111, 105, 100]) = true) : rsvd s = true := by unfold rsvd kwR; simp only [List.any_cons, h0, Bool.true_or, Bool.or_true]
theorem rsvd_1 {s : ByteArray} (h0 : (s.toList == [118, 111, 105, 100]) = false) (h1 : (s.toList == [105, 102]) = true) : rsvd s = true := by unfold rsvd kwR; simp only [List.any_cons, h0, h1, Bool.true_or, Bool.or_true]
theorem rsvd_2 {s : ByteArray} (h0 : (s.toList == [118, 111, 105, 100]) = false) (h1 : (s.toList == [105, 102]) = false) (h2 : (s.toList == [101, 108, 115, 101]) = true) : rsvd s = true := by unfold rsvd kwR; simp only [List.any_cons, h0, h1, h2, Bool.true_or, Bool.or_true]
theorem rsvd_3 {s : ByteArray} (h0 : (s.toList == [118, 111, 105, 100]) = false) (h1 : (s.toList == [105, 102]) = false) (h2 : (s.toList == [101, 108, 115, 101]) = false) (h3 : (s.toList == [119, 104, 105, 108, 101]) = true) : rsvd s = true := by unfold rsvd kwR; simp only [List.any_cons, h0, h1, h2, h3, Bool.true_or, Bool.or_true]
theorem rsvd_4 {s : ByteArray} (h0 : (s.toList == [118, 111, 105, 100]) = false) (h1 : (s.toList == [105, 102]) = false) (h2 : (s.toList == [101, 108, 115, 101]) = false) (h3 : (s.toList == [119, 104, 105, 108, 101]) = false) (h4 : (s.toList == [102, 111, 114]) = true) : rsvd s = true := by unfold rsvd kwR; simp only [List.any_cons, h0, h1, h2, h3, h4, Bool.true_or, Bool.or_true]
theorem rsvd_5 {s : ByteArray} (h0 : (s.toList == [118, 111, 105, 100]) = false) (h1 : (s.toList == [105, 102]) = false) (h2 : (s.toList == [101, 108, 115, 101]) = false) (h3 : (s.toList == [119, 104, 105, 108, 101]) = false) (h4 : (s.toList == [102, 111, 114]) = false) (h5 : (s.toList == [114, 101, 116, 117, 114, 110]) = true) : rsvd s = true := by unfold rsvd kwR; simp only [List.any_cons, h0, h1, h2, h3, h4, h5, Bool.true_or, Bool.or_true]
theorem rsvd_6 {s : ByteArray} (h0 : (s.toList == [118, 111, 105, 100]) = false) (h1 : (s.toList == [105, 102]) = false) (h2 : (s.toList == [101, 108, 115, 101]) = false) (h3 : (s.toList == [119, 104, 105, 108, 101]) = false) (h4 : (s.toList == [102, 111, 114]) = false) (h5 : (s.toList == [114, 101, 116, 117, 114, 110]) = false) (h6 : (s.toList == [98, 114, 101, 97, 107]) = true) : rsvd s = true := by unfold rsvd kwR; simp only [List.any_cons, h0, h1, h2, h3, h4, h5, h6, Bool.true_or, Bool.or_true]
theorem rsvd_7 {s : ByteArray} (h0 : (s.toList == [118, 111, 105, 100]) = false) (h1 : (s.toList == [105, 102]) = false) (h2 : (s.toList == [101, 108, 115, 101]) = false) (h3 : (s.toList == [119, 104, 105, 108, 101]) = false) (h4 : (s.toList == [102, 111, 114]) = false) (h5 : (s.toList == [114, 101, 116, 117, 114, 110]) = false) (h6 : (s.toList == [98, 114, 101, 97, 107]) = false) (h7 : (s.toList == [99, 111, 110, 116, 105, 110, 117, 101]) = true) : rsvd s = true := by unfold rsvd kwR; simp only [List.any_cons, h0, h1, h2, h3, h4, h5, h6, h7, Bool.true_or, Bool.or_true]
theorem rsvd_no {s : ByteArray} (h0 : (s.toList == [118, 111, 105, 100]) = false) (h1 : (s.toList == [105, 102]) = false) (h2 : (s.toList == [101, 108, 115, 101]) = false) (h3 : (s.toList == [119, 104, 105, 108, 101]) = false) (h4 : (s.toList == [102, 111, 114]) = false) (h5 : (s.toList == [114, 101, 116, 117, 114, 110]) = false) (h6 : (s.toList == [98, 114, 101, 97, 107]) = false) (h7 : (s.toList == [99, 111, 110, 116, 105, 110, 117, 101]) = false) : rsvd s = nk s := by unfold rsvd kwR; simp only [List.any_cons, List.any_nil, h0, h1, h2, h3, h4, h5, h6, h7, Bool.false_or]
set_option maxRecDepth 100000 in
set_option maxHeartbeats 4000000 in
theorem reserved_any (s : ByteArray) (w : World) : Calls Tryz.prog 93 #[.string s] w fun e w' => e = .returned (.bool (rsvd s)) ∧ Below w.heap.size w w' := by
  have NA := hideI (fun W => named_any s W)
  by_cases h0 : (s.toList == [118, 111, 105, 100]) = true
  · rw [rsvd_0 h0]
    go_enter Tryz.func93, Tryz.ntmps93
    go_wp2_with fail
    go_ret
    exact ⟨rfl, Below.refl _ _⟩
  · replace h0 : (s.toList == [118, 111, 105, 100]) = false := by simpa using h0
    by_cases h1 : (s.toList == [105, 102]) = true
    · rw [rsvd_1 h0 h1]
      go_enter Tryz.func93, Tryz.ntmps93
      go_wp2_with fail
      go_ret
      exact ⟨rfl, Below.refl _ _⟩
    · replace h1 : (s.toList == [105, 102]) = false := by simpa using h1
      by_cases h2 : (s.toList == [101, 108, 115, 101]) = true
      · rw [rsvd_2 h0 h1 h2]
        go_enter Tryz.func93, Tryz.ntmps93
        go_wp2_with fail
        go_ret
        exact ⟨rfl, Below.refl _ _⟩
      · replace h2 : (s.toList == [101, 108, 115, 101]) = false := by simpa using h2
        by_cases h3 : (s.toList == [119, 104, 105, 108, 101]) = true
        · rw [rsvd_3 h0 h1 h2 h3]
          go_enter Tryz.func93, Tryz.ntmps93
          go_wp2_with fail
          go_ret
          exact ⟨rfl, Below.refl _ _⟩
        · replace h3 : (s.toList == [119, 104, 105, 108, 101]) = false := by simpa using h3
          by_cases h4 : (s.toList == [102, 111, 114]) = true
          · rw [rsvd_4 h0 h1 h2 h3 h4]
            go_enter Tryz.func93, Tryz.ntmps93
            go_wp2_with fail
            go_ret
            exact ⟨rfl, Below.refl _ _⟩
          · replace h4 : (s.toList == [102, 111, 114]) = false := by simpa using h4
            by_cases h5 : (s.toList == [114, 101, 116, 117, 114, 110]) = true
            · rw [rsvd_5 h0 h1 h2 h3 h4 h5]
              go_enter Tryz.func93, Tryz.ntmps93
              go_wp2_with fail
              go_ret
              exact ⟨rfl, Below.refl _ _⟩
            · replace h5 : (s.toList == [114, 101, 116, 117, 114, 110]) = false := by simpa using h5
              by_cases h6 : (s.toList == [98, 114, 101, 97, 107]) = true
              · rw [rsvd_6 h0 h1 h2 h3 h4 h5 h6]
                go_enter Tryz.func93, Tryz.ntmps93
                go_wp2_with fail
                go_ret
                exact ⟨rfl, Below.refl _ _⟩
              · replace h6 : (s.toList == [98, 114, 101, 97, 107]) = false := by simpa using h6
                by_cases h7 : (s.toList == [99, 111, 110, 116, 105, 110, 117, 101]) = true
                · rw [rsvd_7 h0 h1 h2 h3 h4 h5 h6 h7]
                  go_enter Tryz.func93, Tryz.ntmps93
                  go_wp2_with fail
                  go_ret
                  exact ⟨rfl, Below.refl _ _⟩
                · replace h7 : (s.toList == [99, 111, 110, 116, 105, 110, 117, 101]) = false := by simpa using h7
                  rw [rsvd_no h0 h1 h2 h3 h4 h5 h6 h7]
                  go_enter Tryz.func93, Tryz.ntmps93
                  go_wp2_with fail
                  refine (unhideI NA _).mono ?_
                  rintro e w1 ⟨rfl, k1⟩
                  go_wp2_with fail
                  go_ret
                  exact ⟨rfl, bt k1 (below_a _ _)⟩
set_option maxRecDepth 100000 in
set_option maxHeartbeats 4000000 in
theorem reserved8_any (s : ByteArray) (w : World) : Calls Tryz.prog 21 #[.string s] w fun e w' => e = .returned (.bool (rsvd s)) ∧ Below w.heap.size w w' := by
  have NA := hideI (fun W => rnamed_any s W)
  generalize hR : rsvd s = R
  have HR := hideI hR
  clear hR
  have BX := hideI (Box.new w #[.string ⟨#[118, 111, 105, 100]⟩, .string ⟨#[105, 102]⟩, .string ⟨#[101, 108, 115, 101]⟩, .string ⟨#[119, 104, 105, 108, 101]⟩, .string ⟨#[102, 111, 114]⟩, .string ⟨#[114, 101, 116, 117, 114, 110]⟩, .string ⟨#[98, 114, 101, 97, 107]⟩, .string ⟨#[99, 111, 110, 116, 105, 110, 117, 101]⟩] 9)
  have K1 := hideI (below_a w (.cells #[.string ⟨#[118, 111, 105, 100]⟩, .string ⟨#[105, 102]⟩, .string ⟨#[101, 108, 115, 101]⟩, .string ⟨#[119, 104, 105, 108, 101]⟩, .string ⟨#[102, 111, 114]⟩, .string ⟨#[114, 101, 116, 117, 114, 110]⟩, .string ⟨#[98, 114, 101, 97, 107]⟩, .string ⟨#[99, 111, 110, 116, 105, 110, 117, 101]⟩] 9))
  go_enter Tryz.func21, Tryz.ntmps21
  go_wp2_with fail
  generalize w.alloc (.cells #[.string ⟨#[118, 111, 105, 100]⟩, .string ⟨#[105, 102]⟩, .string ⟨#[101, 108, 115, 101]⟩, .string ⟨#[119, 104, 105, 108, 101]⟩, .string ⟨#[102, 111, 114]⟩, .string ⟨#[114, 101, 116, 117, 114, 110]⟩, .string ⟨#[98, 114, 101, 97, 107]⟩, .string ⟨#[99, 111, 110, 116, 105, 110, 117, 101]⟩] 9) = w1 at *
  go_loopg [9] 8 (fun g t wr => ∃ k : Nat, k ≤ 8 ∧ g = 8 - k ∧ t = .int .i64 (k : Int) ∧ wr = w1 ∧ (0 < k → (s.toList == [118, 111, 105, 100]) = false) ∧ (1 < k → (s.toList == [105, 102]) = false) ∧ (2 < k → (s.toList == [101, 108, 115, 101]) = false) ∧ (3 < k → (s.toList == [119, 104, 105, 108, 101]) = false) ∧ (4 < k → (s.toList == [102, 111, 114]) = false) ∧ (5 < k → (s.toList == [114, 101, 116, 117, 114, 110]) = false) ∧ (6 < k → (s.toList == [98, 114, 101, 97, 107]) = false) ∧ (7 < k → (s.toList == [99, 111, 110, 116, 105, 110, 117, 101]) = false))
  case atStart => exact ⟨0, by omega, rfl, rfl, rfl, fun h => by omega, fun h => by omega, fun h => by omega, fun h => by omega, fun h => by omega, fun h => by omega, fun h => by omega, fun h => by omega⟩
  case round =>
    obtain ⟨k, hk, hg, rfl, rfl, H0, H1, H2, H3, H4, H5, H6, H7⟩ := hrel
    have hbl := (unhideI BX).1
    have hkk : k = 0 ∨ k = 1 ∨ k = 2 ∨ k = 3 ∨ k = 4 ∨ k = 5 ∨ k = 6 ∨ k = 7 ∨ k = 8 := by omega
    rcases hkk with rfl | rfl | rfl | rfl | rfl | rfl | rfl | rfl | rfl
    · have cx := (unhideI BX).2.1 0 _ rfl
      clear H0 H1 H2 H3 H4 H5 H6 H7
      by_cases h0 : (s.toList == [118, 111, 105, 100]) = true
      · have hR := (unhideI HR).symm.trans (rsvd_0 h0)
        subst hR
        go_wp2_with fail
        go_ret
        exact ⟨rfl, unhideI K1⟩
      · replace h0 : (s.toList == [118, 111, 105, 100]) = false := by simpa using h0
        go_wp2_with fail
        go_roundg (8 - 1)
        case measure => omega
        case rel => exact ⟨1, by omega, rfl, by go_num, rfl, fun _ => h0, fun h => by omega, fun h => by omega, fun h => by omega, fun h => by omega, fun h => by omega, fun h => by omega, fun h => by omega⟩
    · have cx := (unhideI BX).2.1 1 _ rfl
      have h0 := H0 (by omega)
      clear H0 H1 H2 H3 H4 H5 H6 H7
      by_cases h1 : (s.toList == [105, 102]) = true
      · have hR := (unhideI HR).symm.trans (rsvd_1 h0 h1)
        subst hR
        go_wp2_with fail
        go_ret
        exact ⟨rfl, unhideI K1⟩
      · replace h1 : (s.toList == [105, 102]) = false := by simpa using h1
        go_wp2_with fail
        go_roundg (8 - 2)
        case measure => omega
        case rel => exact ⟨2, by omega, rfl, by go_num, rfl, fun _ => h0, fun _ => h1, fun h => by omega, fun h => by omega, fun h => by omega, fun h => by omega, fun h => by omega, fun h => by omega⟩
    · have cx := (unhideI BX).2.1 2 _ rfl
      have h0 := H0 (by omega)
      have h1 := H1 (by omega)
      clear H0 H1 H2 H3 H4 H5 H6 H7
      by_cases h2 : (s.toList == [101, 108, 115, 101]) = true
      · have hR := (unhideI HR).symm.trans (rsvd_2 h0 h1 h2)
        subst hR
        go_wp2_with fail
        go_ret
        exact ⟨rfl, unhideI K1⟩
      · replace h2 : (s.toList == [101, 108, 115, 101]) = false := by simpa using h2
        go_wp2_with fail
        go_roundg (8 - 3)
        case measure => omega
        case rel => exact ⟨3, by omega, rfl, by go_num, rfl, fun _ => h0, fun _ => h1, fun _ => h2, fun h => by omega, fun h => by omega, fun h => by omega, fun h => by omega, fun h => by omega⟩
    · have cx := (unhideI BX).2.1 3 _ rfl
      have h0 := H0 (by omega)
      have h1 := H1 (by omega)
      have h2 := H2 (by omega)
      clear H0 H1 H2 H3 H4 H5 H6 H7
      by_cases h3 : (s.toList == [119, 104, 105, 108, 101]) = true
      · have hR := (unhideI HR).symm.trans (rsvd_3 h0 h1 h2 h3)
        subst hR
        go_wp2_with fail
        go_ret
        exact ⟨rfl, unhideI K1⟩
      · replace h3 : (s.toList == [119, 104, 105, 108, 101]) = false := by simpa using h3
        go_wp2_with fail
        go_roundg (8 - 4)
        case measure => omega
        case rel => exact ⟨4, by omega, rfl, by go_num, rfl, fun _ => h0, fun _ => h1, fun _ => h2, fun _ => h3, fun h => by omega, fun h => by omega, fun h => by omega, fun h => by omega⟩
    · have cx := (unhideI BX).2.1 4 _ rfl
      have h0 := H0 (by omega)
      have h1 := H1 (by omega)
      have h2 := H2 (by omega)
      have h3 := H3 (by omega)
      clear H0 H1 H2 H3 H4 H5 H6 H7
      by_cases h4 : (s.toList == [102, 111, 114]) = true
      · have hR := (unhideI HR).symm.trans (rsvd_4 h0 h1 h2 h3 h4)
        subst hR
        go_wp2_with fail
        go_ret
        exact ⟨rfl, unhideI K1⟩
      · replace h4 : (s.toList == [102, 111, 114]) = false := by simpa using h4
        go_wp2_with fail
        go_roundg (8 - 5)
        case measure => omega
        case rel => exact ⟨5, by omega, rfl, by go_num, rfl, fun _ => h0, fun _ => h1, fun _ => h2, fun _ => h3, fun _ => h4, fun h => by omega, fun h => by omega, fun h => by omega⟩
    · have cx := (unhideI BX).2.1 5 _ rfl
      have h0 := H0 (by omega)
      have h1 := H1 (by omega)
      have h2 := H2 (by omega)
      have h3 := H3 (by omega)
      have h4 := H4 (by omega)
      clear H0 H1 H2 H3 H4 H5 H6 H7
      by_cases h5 : (s.toList == [114, 101, 116, 117, 114, 110]) = true
      · have hR := (unhideI HR).symm.trans (rsvd_5 h0 h1 h2 h3 h4 h5)
        subst hR
        go_wp2_with fail
        go_ret
        exact ⟨rfl, unhideI K1⟩
      · replace h5 : (s.toList == [114, 101, 116, 117, 114, 110]) = false := by simpa using h5
        go_wp2_with fail
        go_roundg (8 - 6)
        case measure => omega
        case rel => exact ⟨6, by omega, rfl, by go_num, rfl, fun _ => h0, fun _ => h1, fun _ => h2, fun _ => h3, fun _ => h4, fun _ => h5, fun h => by omega, fun h => by omega⟩
    · have cx := (unhideI BX).2.1 6 _ rfl
      have h0 := H0 (by omega)
      have h1 := H1 (by omega)
      have h2 := H2 (by omega)
      have h3 := H3 (by omega)
      have h4 := H4 (by omega)
      have h5 := H5 (by omega)
      clear H0 H1 H2 H3 H4 H5 H6 H7
      by_cases h6 : (s.toList == [98, 114, 101, 97, 107]) = true
      · have hR := (unhideI HR).symm.trans (rsvd_6 h0 h1 h2 h3 h4 h5 h6)
        subst hR
        go_wp2_with fail
        go_ret
        exact ⟨rfl, unhideI K1⟩
      · replace h6 : (s.toList == [98, 114, 101, 97, 107]) = false := by simpa using h6
        go_wp2_with fail
        go_roundg (8 - 7)
        case measure => omega
        case rel => exact ⟨7, by omega, rfl, by go_num, rfl, fun _ => h0, fun _ => h1, fun _ => h2, fun _ => h3, fun _ => h4, fun _ => h5, fun _ => h6, fun h => by omega⟩
    · have cx := (unhideI BX).2.1 7 _ rfl
      have h0 := H0 (by omega)
      have h1 := H1 (by omega)
      have h2 := H2 (by omega)
      have h3 := H3 (by omega)
      have h4 := H4 (by omega)
      have h5 := H5 (by omega)
      have h6 := H6 (by omega)
      clear H0 H1 H2 H3 H4 H5 H6 H7
      by_cases h7 : (s.toList == [99, 111, 110, 116, 105, 110, 117, 101]) = true
      · have hR := (unhideI HR).symm.trans (rsvd_7 h0 h1 h2 h3 h4 h5 h6 h7)
        subst hR
        go_wp2_with fail
        go_ret
        exact ⟨rfl, unhideI K1⟩
      · replace h7 : (s.toList == [99, 111, 110, 116, 105, 110, 117, 101]) = false := by simpa using h7
        go_wp2_with fail
        go_roundg (8 - 8)
        case measure => omega
        case rel => exact ⟨8, by omega, rfl, by go_num, rfl, fun _ => h0, fun _ => h1, fun _ => h2, fun _ => h3, fun _ => h4, fun _ => h5, fun _ => h6, fun _ => h7⟩
    · have hR := (unhideI HR).symm.trans (rsvd_no (H0 (by omega)) (H1 (by omega)) (H2 (by omega)) (H3 (by omega)) (H4 (by omega)) (H5 (by omega)) (H6 (by omega)) (H7 (by omega)))
      subst hR
      clear H0 H1 H2 H3 H4 H5 H6 H7
      go_wp2_with fail
      refine (unhideI NA _).mono ?_
      rintro e w2 ⟨rfl, k2⟩
      go_wp2_with fail
      go_ret
      exact ⟨rfl, bt (bt (unhideI K1) k2) (below_a _ _)⟩
end Go.Proofs.YtjddpfojllefgaaGreat
