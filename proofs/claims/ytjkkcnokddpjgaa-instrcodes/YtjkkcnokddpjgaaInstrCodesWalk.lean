/-
  InstrCodes, walked.
-/
import Derived.Test.YtjkkcnokddpjgaaRefD
import Derived.Test.YtjkkcnokddpjgaaRefS
import Derived.Test.YtjkkcnokddpjgaaRefS2
import Derived.Test.YtjkkcnokddpjgaaOpen
namespace Go.Proofs.Ytjkkcnokddpjgaa
open Go.RowKit
set_option linter.unusedSimpArgs false
set_option linter.unusedVariables false

set_option maxHeartbeats 4000000 in
theorem walk_instrCodes (l : List Ins) (xs : List Int) (vl vx : Value) (w : World) (hl : Inss w vl l) (_ : ∀ i ∈ l, I64 i.o ∧ I64 i.d ∧ I64 i.s ∧ I64 i.m) (hx : Ints w vx xs) (_ : ∀ x ∈ xs, I64 x) :
    Calls Try.prog 4 #[vl, vx] w fun e w' => e = .returned (.bool true) ∧ Below w.heap.size w w' := by
  obtain ⟨lo, lc, rfl, ml, hlat⟩ := hl.at
  obtain ⟨xo, xc, rfl, mx, hxat⟩ := hx.at
  have HL := hideI hl
  have HX := hideI hx
  clear hl hx hlat hxat
  unfold maxLen at ml mx
  have E := fun v w h => encode_any l v w h
  have RE := fun v w h => rencode_any l v w h
  have D := fun v w h => decode_any xs v w h
  have RD := fun v w h => rdecode_any xs v w h
  generalize encA l = R at *
  generalize decA xs = S at *
  obtain ⟨ws1, e1, n1⟩ := R
  obtain ⟨is2, e2, n2⟩ := S
  dsimp only at E D RE RD
  go_enter Try.func4, Try.ntmps4
  go_wp2_with fail
  refine (E _ _ (unhideI HL)).mono ?_
  rintro e w1 ⟨v1, rfl, i1, _, k1⟩
  have A1 := hideI i1
  obtain ⟨o1, c1, rfl, m1, _⟩ := i1.at
  clear i1
  have F1 := hideI (Box.new w1 #[.int .i64 e1, .int .i64 n1] 38)
  have k0 := k1.size
  have K1 := hideI (bt k1 (below_a _ (.cells #[.int .i64 e1, .int .i64 n1] 38)))
  clear k1
  go_wp2_with fail
  refine (RE _ _ ((unhideI HL).step (unhideI K1))).mono ?_
  rintro e w2 ⟨v2, rfl, i2, _, k2⟩
  have A2 := hideI (i2.step (below_a _ (.cells #[.int .i64 e1, .int .i64 n1] 38)))
  obtain ⟨o2, c2, rfl, _, _⟩ := i2.at
  clear i2
  have A1 := hideI ((((unhideI A1).step (below_a _ (.cells #[.int .i64 e1, .int .i64 n1] 38))).step k2).step (below_a _ (.cells #[.int .i64 e1, .int .i64 n1] 38)))
  have F1 := hideI (((unhideI F1).step k2).step (below_a _ (.cells #[.int .i64 e1, .int .i64 n1] 38)))
  have F2 := hideI (Box.new w2 #[.int .i64 e1, .int .i64 n1] 38)
  have K2 := hideI (bt (bt (unhideI K1) k2) (below_a _ (.cells #[.int .i64 e1, .int .i64 n1] 38)))
  have l2 : w1.heap.size < w2.heap.size := lt1 k2
  clear k2
  obtain ⟨p0, p1⟩ := (unhideI F1).at2
  obtain ⟨q0, q1⟩ := (unhideI F2).at2
  go_wp2_with fail
  refine (same1_yes ws1 _ _ _ (unhideI A1) (unhideI A2)).mono ?_
  rintro e w3 ⟨rfl, k3⟩
  have F1 := hideI ((unhideI F1).step k3)
  have F2 := hideI ((unhideI F2).step k3)
  have K3 := hideI (bt (unhideI K2) k3)
  have l3 : w2.heap.size < w3.heap.size := lt1 k3
  clear k3 p0 p1 q0 q1 A1 A2
  go_wp2_with fail
  refine (D _ _ ((unhideI HX).step (unhideI K3))).mono ?_
  rintro e w4 ⟨v4, rfl, i4, b4, k4⟩
  have A4 := hideI i4
  obtain ⟨o4, c4, rfl, _, _⟩ := i4.at
  clear i4
  have F1 := hideI ((unhideI F1).step k4)
  have F2 := hideI ((unhideI F2).step k4)
  have K4 := hideI (bt (unhideI K3) k4)
  have hl4 := hideI k4.size
  clear k4
  obtain ⟨p0, p1⟩ := (unhideI F1).at2
  have p2 := (unhideI F1).2.2
  go_wp2_with fail
  have l1 : w.heap.size ≤ w1.heap.size := k0
  have K5 := hideI (((unhideI K4).setCell (p := ⟨w1.heap.size, 0, none⟩) (by exact l1) (.int .i64 e2)).setCell (p := ⟨w1.heap.size, 1, none⟩) (by exact l1) (.int .i64 n2))
  have A5 : Hid (Inss _ _ is2) := hideI (((unhideI A4).other (b := w1.heap.size) (j := 0) (u := .int .i64 e2) (fun k hk => by have := b4 k hk; omega)).other (b := w1.heap.size) (j := 1) (u := .int .i64 n2) (fun k hk => by have := b4 k hk; omega))
  have F1 := hideI (((unhideI F1).set (j := 0) (u := .int .i64 e2) (by simp)).set (j := 1) (u := .int .i64 n2) (by simp))
  have F2 := hideI (((unhideI F2).other (b' := w1.heap.size) (j := 0) (u := .int .i64 e2) (by omega)).other (b' := w1.heap.size) (j := 1) (u := .int .i64 n2) (by omega))
  clear p0 p1 p2 A4
  generalize (w4.setCell ⟨w1.heap.size, 0, none⟩ (.int .i64 e2)).setCell ⟨w1.heap.size, 1, none⟩ (.int .i64 n2) = w5 at *
  have l5 : w2.heap.size < w5.heap.size := (unhideI F2).1
  refine (RD _ _ ((unhideI HX).step (unhideI K5))).mono ?_
  rintro e w6 ⟨v6, rfl, i6, b6, k6⟩
  have A6 := hideI i6
  obtain ⟨o6, c6, rfl, _, _⟩ := i6.at
  clear i6
  have F1 := hideI ((unhideI F1).step k6)
  have F2 := hideI ((unhideI F2).step k6)
  have A5 := hideI (Inss.step (unhideI A5) k6)
  have K6 := hideI (bt (unhideI K5) k6)
  have l6 := k6.size
  clear k6
  obtain ⟨p0, p1⟩ := (unhideI F2).at2
  have p2 := (unhideI F2).2.2
  have G1 := hideI (((unhideI F1).other (b' := w2.heap.size) (j := 0) (u := .int .i64 e2) (by omega)).other (b' := w2.heap.size) (j := 1) (u := .int .i64 n2) (by omega))
  have G2 := hideI (((unhideI F2).set (j := 0) (u := .int .i64 e2) (by simp)).set (j := 1) (u := .int .i64 n2) (by simp))
  obtain ⟨q0, q1⟩ := (unhideI G1).at2
  obtain ⟨r0, r1⟩ := (unhideI G2).at2
  have l7 : w.heap.size ≤ w2.heap.size := by omega
  have K7 := hideI (((unhideI K6).setCell (p := ⟨w2.heap.size, 0, none⟩) (by exact l7) (.int .i64 e2)).setCell (p := ⟨w2.heap.size, 1, none⟩) (by exact l7) (.int .i64 n2))
  have A7 : Hid (Inss _ _ is2) := hideI (((unhideI A6).other (b := w2.heap.size) (j := 0) (u := .int .i64 e2) (fun k hk => by have := b6 k hk; omega)).other (b := w2.heap.size) (j := 1) (u := .int .i64 n2) (fun k hk => by have := b6 k hk; omega))
  have A8 : Hid (Inss _ _ is2) := hideI (((unhideI A5).other (b := w2.heap.size) (j := 0) (u := .int .i64 e2) (fun k hk => by have := b4 k hk; omega)).other (b := w2.heap.size) (j := 1) (u := .int .i64 n2) (fun k hk => by have := b4 k hk; omega))
  go_wp2_with fail
  refine (same2_yes is2 _ _ _ (unhideI A8) (unhideI A7)).mono ?_
  rintro e w8 ⟨rfl, k8⟩
  go_wp2_with fail
  go_ret
  exact ⟨rfl, bt (unhideI K7) k8⟩
end Go.Proofs.Ytjkkcnokddpjgaa
