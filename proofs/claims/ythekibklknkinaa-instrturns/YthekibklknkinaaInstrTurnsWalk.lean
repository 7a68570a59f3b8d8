/-
  InstrTurns, walked.
-/
import Derived.Test.YthekibklknkinaaInsD
import Derived.Test.YthekibklknkinaaRefB
import Derived.Test.YthekibklknkinaaRefS
import Derived.Test.YthekibklknkinaaAlive2
import Derived.Test.YthekibklknkinaaOpen
namespace Go.Proofs.Ythekibklknkinaa
open Go.RowKit
set_option linter.unusedSimpArgs false
set_option linter.unusedVariables false

set_option maxHeartbeats 4000000 in
theorem walk_instrTurns (l : List Ins) (xs : List Int) (vl vx : Value) (w : World) (hl : Inss w vl l) (_ : ∀ i ∈ l, I64 i.o ∧ I64 i.d ∧ I64 i.s ∧ I64 i.m) (hx : Ints w vx xs) (_ : ∀ x ∈ xs, I64 x) :
    Calls Try.prog 5 #[vl, vx] w fun e w' => e = .returned (.bool true) ∧ Below w.heap.size w w' := by
  obtain ⟨lo, lc, rfl, ml, hlat⟩ := hl.at
  obtain ⟨xo, xc, rfl, mx, hxat⟩ := hx.at
  have HL := hideI hl
  have HX := hideI hx
  have HLA := hideI hlat
  clear hl hx hlat hxat
  unfold maxLen at ml mx
  have T1 := hideI (turns1 l)
  have T2 := hideI (turns2 xs)
  have E := fun v w h => encode_any l v w h
  have D := fun v w h => decode_any xs v w h
  generalize encA l = R at *
  generalize decA xs = S at *
  obtain ⟨ws1, e1, n1⟩ := R
  obtain ⟨is2, e2, n2⟩ := S
  dsimp only at E D
  by_cases h1 : e1 = 0
  · subst h1
    have t1 : decA ws1 = (l.map bare, 0, 0) := (unhideI T1) rfl
    have D1 := fun v w h => decode_any ws1 v w h
    rw [t1] at D1
    dsimp only at D1
    clear t1 T1
    go_enter Try.func5, Try.ntmps5
    go_wp2_with fail
    refine (alive2 _).mono ?_
    rintro e w1 ⟨rfl, k1⟩
    go_wp2_with fail
    refine (E _ _ ((unhideI HL).step k1)).mono ?_
    rintro e w2 ⟨v2, rfl, i2, _, k2⟩
    have HI2 := hideI i2
    obtain ⟨o2, c2, rfl, _, _⟩ := i2.at
    clear i2
    go_wp2_with fail
    refine (D1 _ _ ((unhideI HI2).step (below_a _ _))).mono ?_
    rintro e w3 ⟨v3, rfl, i3, _, k3⟩
    obtain ⟨o3, c3, rfl, m3, b3⟩ := i3.at
    have H3 := hideI b3
    clear i3 b3
    rw [List.length_map] at *
    have kk := hideI (bt (bt k1 (bt k2 (below_a _ _))) k3)
    have hne : ((l.length : Int) != (l.length : Int)) = false := by simp
    go_wp2_with fail
    have kk4 := hideI (bt (unhideI kk) (below_a w3 (.cells #[.int .i64 0, .int .i64 0] 38)))
    go_loopg [40] l.length (fun g t wr => ∃ k : Nat, k ≤ l.length ∧ g = l.length - k ∧ t = .int .i64 k ∧ Below (w3.alloc (.cells #[.int .i64 0, .int .i64 0] 38)).heap.size (w3.alloc (.cells #[.int .i64 0, .int .i64 0] 38)) wr)
    case atStart => exact ⟨0, Nat.zero_le _, rfl, rfl, Below.refl _ _⟩
    case round =>
      obtain ⟨k, hk, rfl, rfl, hb⟩ := hrel
      have HB := hideI hb
      clear hb
      by_cases hlt : k < l.length
      · have hn : l ≠ [] := by intro h; rw [h] at hlt; simp at hlt
        obtain ⟨b1, f1, rfl, lt1', q1⟩ := (unhideI HLA) hn
        obtain ⟨b2, f2, rfl, lt2', q2⟩ := (unhideI H3) (by simpa using hn)
        have ba : Below w.heap.size w wr := bt (unhideI kk4) (unhideI HB)
        have bb : Below w3.heap.size w3 wr := bt (below_a _ _) (unhideI HB)
        obtain ⟨c0, c1, c2', c3'⟩ := q1 k hlt
        replace c0 := cell_keep ba lt1' c0
        replace c1 := cell_keep ba lt1' c1
        replace c2' := cell_keep ba lt1' c2'
        replace c3' := cell_keep ba lt1' c3'
        obtain ⟨d0, d1, d2, d3⟩ := q2 k (by simpa using hlt)
        replace d0 := cell_keep bb lt2' d0
        replace d1 := cell_keep bb lt2' d1
        replace d2 := cell_keep bb lt2' d2
        replace d3 := cell_keep bb lt2' d3
        rw [List.getElem_map] at d0 d1 d2 d3
        have sa : b1 < wr.heap.size := Nat.lt_of_lt_of_le lt1' ba.size
        have sb : b2 < wr.heap.size := Nat.lt_of_lt_of_le lt2' bb.size
        have BA := fun w => bare_any (l[k]) w
        clear q1 q2 ba bb hn
        generalize l[k] = i at *
        unfold agg at BA
        generalize bare i = j at *
        go_wp2_with fail
        refine wp_region_later (by kernel_rfl) (by kernel_rfl) ?_
        intro L hne lt hlc hlf hlm
        repeat (go_big_quiet_step ((go_at_call 22; exact later_call hlm (BA _))))
        refine wpQuiet_nil ?_
        intro wq kq
        clear hlm hlf hlc lt hne L
        obtain ⟨hqc, hqf⟩ := below_cells kq
        go_wp2_with fail
        go_roundg (l.length - (k + 1))
        case measure => omega
        case rel => exact ⟨k + 1, by omega, rfl, by go_num, bt (unhideI HB) kq⟩
      · have KX := hideI (bt (unhideI kk4) (unhideI HB))
        go_wp2_with fail
        refine (D _ _ ((unhideI HX).step (unhideI KX))).mono ?_
        rintro e w5 ⟨v5, rfl, i5, _, k5⟩
        have HI5 := hideI i5
        obtain ⟨o5, c5, rfl, _, _⟩ := i5.at
        clear i5
        have k55 := hideI (bt (unhideI KX) k5)
        have s5 := (unhideI k55).size
        by_cases h2 : e2 = 0
        · subst h2
          have E2 := fun v w h => encode_any is2 v w h
          have t2 : encA is2 = (xs, 0, 0) := (unhideI T2) rfl
          rw [t2] at E2
          dsimp only at E2
          clear t2
          go_wp2_with fail
          refine (E2 _ _ ((unhideI HI5).step (below_a _ _))).mono ?_
          rintro e w6 ⟨v6, rfl, i6, f6, k6⟩
          have HI6 := hideI i6
          obtain ⟨o6, c6, rfl, _, _⟩ := i6.at
          clear i6
          have bx := (Box.new w5 #[.int .i64 0, .int .i64 n2] 38).step k6
          obtain ⟨y0, y1⟩ := bx.at2
          have y2 := bx.2.2
          have s6 := lt1 k6
          have F6 := hideI (fun k h => show k ≠ w5.heap.size from by have := f6 k h; simp at this; omega)
          clear f6 bx
          have k66 := hideI (bt (bt (unhideI k55) (below_a _ _)) k6)
          go_wp2_with fail
          have kf := hideI (show Below w.heap.size w ((w6.setCell ⟨w5.heap.size, 0, none⟩ (.int .i64 0)).setCell ⟨w5.heap.size, 1, none⟩ (.int .i64 0)) from below_2 (unhideI k66) s5 _ _)
          refine (same1_yes xs _ _ _ (Lies.other (Lies.other (unhideI HI6) (unhideI F6)) (unhideI F6)) ((unhideI HX).step (unhideI kf))).mono ?_
          rintro e w7 ⟨rfl, k7⟩
          go_wp2
          go_ret
          exact ⟨rfl, bt (unhideI kf) k7⟩
        · have he2 : (e2 != 0) = true := by simp [h2]
          go_wp2
          go_ret
          exact ⟨rfl, (by repeat (first | exact unhideI k55 | refine Below.setCell ?_ (by first | exact Nat.le_refl _ | (simp; done) | omega | (simp; omega)) _ | refine Below.alloc ?_ (by first | (simp; done) | omega | (simp; omega)) _))⟩
  · have he1 : (e1 == 0) = false := by simp [h1]
    go_enter Try.func5, Try.ntmps5
    go_wp2_with fail
    refine (alive2 _).mono ?_
    rintro e w1 ⟨rfl, k1⟩
    go_wp2_with fail
    refine (E _ _ ((unhideI HL).step k1)).mono ?_
    rintro e w2 ⟨v2, rfl, i2, _, k2⟩
    have HI2 := hideI i2
    obtain ⟨o2, c2, rfl, _, _⟩ := i2.at
    clear i2
    have KX := hideI (bt k1 (bt k2 (below_a w2 (.cells #[.int .i64 e1, .int .i64 n1] 38))))
    go_wp2_with fail
    refine (D _ _ ((unhideI HX).step (unhideI KX))).mono ?_
    rintro e w5 ⟨v5, rfl, i5, _, k5⟩
    have HI5 := hideI i5
    obtain ⟨o5, c5, rfl, _, _⟩ := i5.at
    clear i5
    have k55 := hideI (bt (unhideI KX) k5)
    have s5 := (unhideI k55).size
    by_cases h2 : e2 = 0
    · subst h2
      have E2 := fun v w h => encode_any is2 v w h
      have t2 : encA is2 = (xs, 0, 0) := (unhideI T2) rfl
      rw [t2] at E2
      dsimp only at E2
      clear t2
      go_wp2_with fail
      refine (E2 _ _ ((unhideI HI5).step (below_a _ _))).mono ?_
      rintro e w6 ⟨v6, rfl, i6, f6, k6⟩
      have HI6 := hideI i6
      obtain ⟨o6, c6, rfl, _, _⟩ := i6.at
      clear i6
      have bx := (Box.new w5 #[.int .i64 0, .int .i64 n2] 38).step k6
      obtain ⟨y0, y1⟩ := bx.at2
      have y2 := bx.2.2
      have s6 := lt1 k6
      have F6 := hideI (fun k h => show k ≠ w5.heap.size from by have := f6 k h; simp at this; omega)
      clear f6 bx
      have k66 := hideI (bt (bt (unhideI k55) (below_a _ _)) k6)
      go_wp2_with fail
      have kf := hideI (show Below w.heap.size w ((w6.setCell ⟨w5.heap.size, 0, none⟩ (.int .i64 0)).setCell ⟨w5.heap.size, 1, none⟩ (.int .i64 0)) from below_2 (unhideI k66) s5 _ _)
      refine (same1_yes xs _ _ _ (Lies.other (Lies.other (unhideI HI6) (unhideI F6)) (unhideI F6)) ((unhideI HX).step (unhideI kf))).mono ?_
      rintro e w7 ⟨rfl, k7⟩
      go_wp2
      go_ret
      exact ⟨rfl, bt (unhideI kf) k7⟩
    · have he2 : (e2 != 0) = true := by simp [h2]
      go_wp2
      go_ret
      exact ⟨rfl, (by repeat (first | exact unhideI k55 | refine Below.setCell ?_ (by first | exact Nat.le_refl _ | (simp; done) | omega | (simp; omega)) _ | refine Below.alloc ?_ (by first | (simp; done) | omega | (simp; omega)) _))⟩
end Go.Proofs.Ythekibklknkinaa
