/-
  pairlegallaw8.SourceCuts, walked.
-/
import Derived.Test.YtonekpoblgigpaaDoorSoJ
import Derived.Test.YtonekpoblgigpaaDoorSoC
import Derived.BigQuiet
namespace Go.Proofs.YtonekpoblgigpaaDoor
open Go.RowKit
set_option linter.unusedSimpArgs false
set_option linter.unusedVariables false

theorem flatT : ∀ (l : List Tk) (i : Nat) (hi : i < l.length) (j : Nat), j < 6 → (l.flatMap cT)[i * 6 + j]? = (cT (l[i]'hi))[j]?
  | [], i, hi, _, _ => by simp at hi
  | x :: l, 0, _, j, hj => by
    rw [List.flatMap_cons, List.getElem?_append_left (by simp [cT]; omega)]; simp
  | x :: l, i + 1, hi, j, hj => by
    have ih := flatT l i (by simpa using hi) j hj
    rw [List.flatMap_cons, List.getElem?_append_right (by simp [cT]; omega)]
    rw [show (i + 1) * 6 + j - (cT x).length = i * 6 + j by simp [cT]; omega, ih]
    simp
theorem Tks.at {w : World} {v : Value} {l : List Tk} (h : Tks w v l) : ∃ ao cap, v = .slice ao l.length cap ∧ l.length ≤ maxLen ∧ (l ≠ [] → ∃ b off, ao = some ⟨b, off, none⟩ ∧ b < w.heap.size ∧ ∀ j (hj : j < l.length), w.cell? ⟨b, off + j * 6, none⟩ = some (.int .i64 (l[j]'hj).kind) ∧ w.cell? ⟨b, off + j * 6 + 1, none⟩ = some (.string (ba (l[j]'hj).text)) ∧ w.cell? ⟨b, off + j * 6 + 2, none⟩ = some (.int .u64 (l[j]'hj).n) ∧ w.cell? ⟨b, off + j * 6 + 3, none⟩ = some (.int .i64 (l[j]'hj).b) ∧ w.cell? ⟨b, off + j * 6 + 4, none⟩ = some (.bool (l[j]'hj).g) ∧ w.cell? ⟨b, off + j * 6 + 5, none⟩ = some (.int .i64 (l[j]'hj).at_)) := by
  obtain ⟨_, ao, cap, rfl, h3, h4, _, h5⟩ := h
  refine ⟨ao, cap, rfl, Nat.le_trans h3 h4, fun hn => ?_⟩
  obtain ⟨b, off, rfl, hb, hc⟩ := h5 (by intro h; exact hn (List.eq_nil_of_length_eq_zero h))
  refine ⟨b, off, rfl, hb, fun j hj => ?_⟩
  have f := flatT l j hj
  refine ⟨?_, ?_, ?_, ?_, ?_, ?_⟩
  · rw [hc (j * 6) (by omega)]; exact f 0 (by omega)
  · rw [Nat.add_assoc, hc (j * 6 + 1) (by omega)]; exact f 1 (by omega)
  · rw [Nat.add_assoc, hc (j * 6 + 2) (by omega)]; exact f 2 (by omega)
  · rw [Nat.add_assoc, hc (j * 6 + 3) (by omega)]; exact f 3 (by omega)
  · rw [Nat.add_assoc, hc (j * 6 + 4) (by omega)]; exact f 4 (by omega)
  · rw [Nat.add_assoc, hc (j * 6 + 5) (by omega)]; exact f 5 (by omega)
theorem bdr8 {B : Nat} {u v : World} (h : Below B u v) (q : Nat) : Below B u (v.drewN q) := ⟨h.os, h.tape, h.output, h.size, h.block⟩
set_option maxRecDepth 100000 in
set_option maxHeartbeats 4000000 in
theorem sourceCuts_any (s : ByteArray) (w : World) (hG : Gs w) (hs : s.size ≤ maxLen) :
    Calls Tryd.prog 3 #[.string s] w fun e w' => e = .returned (.bool true) ∧ Below w.heap.size w w' := by
  obtain ⟨l, rfl⟩ : ∃ l, s = ba l := ⟨s.data.toList, (ba_of s).symm⟩
  have hl : l.length ≤ maxLen := hs
  have HG := hideI hG
  have RA := hideI (fun W => reserved_any (ba l) W)
  have RB := hideI (fun W => reserved8_any (ba l) W)
  have NA := hideI (fun W => snamed_any (ba l) W)
  have NB := hideI (fun W => named8_any l W hl)
  have TA := hideI (fun W h => tokens_any l W h hl)
  have TB := hideI (fun W => tokens8_any l W hl)
  unfold TokRet at TA TB
  generalize rsvd (ba l) = rs at *
  generalize namN (ba l) = nn at *
  generalize tksA l = R at *
  obtain ⟨ts, er, ef⟩ := R
  dsimp only at TA TB
  clear hG hs hl
  go_enter Tryd.func3, Tryd.ntmps3
  go_wp2_with fail
  refine (unhideI RA _).mono ?_
  rintro e w1 ⟨rfl, k1⟩
  go_wp2_with fail
  refine (unhideI RB _).mono ?_
  rintro e w2 ⟨rfl, k2⟩
  have K2 := hideI (bt k1 k2)
  clear k1 k2 RA RB
  have hrs : (rs != rs) = false := by simp
  go_wp2_with fail
  refine (unhideI NA _).mono ?_
  rintro e w3 ⟨rfl, k3⟩
  go_wp2_with fail
  refine (unhideI NB _).mono ?_
  rintro e w4 ⟨rfl, k4⟩
  have K4 := hideI (bt (unhideI K2) (bt k3 k4))
  clear k3 k4 NA NB K2 hrs
  have hnn : (nn != nn) = false := by simp
  go_wp2_with fail
  refine (unhideI TA _ ((unhideI HG).step (unhideI K4))).mono ?_
  rintro e w5 ⟨va, rfl, la, k5⟩
  have kf5 := below_a w5 (.cells #[.int .i64 er, .int .i64 ef] 26)
  have BF5 := hideI (Box.new w5 #[.int .i64 er, .int .i64 ef] 26)
  have K5 := hideI (bt (bt (unhideI K4) k5) kf5)
  have LA := hideI (Lies.step la kf5)
  obtain ⟨-, ao, ca, rfl, -⟩ := la
  clear k5 kf5 K4 TA
  go_wp2_with fail
  generalize w5.alloc (.cells #[.int .i64 er, .int .i64 ef] 26) = w6 at *
  refine (unhideI TB _).mono ?_
  rintro e w7 ⟨vb, rfl, lb, k7⟩
  have kf7 := below_a w7 (.cells #[.int .i64 er, .int .i64 ef] 26)
  have BF7 := hideI (Box.new w7 #[.int .i64 er, .int .i64 ef] 26)
  have K7 := hideI (bt (unhideI K5) (bt k7 kf7))
  have LB := hideI (Lies.step lb kf7)
  have LA2 := hideI (Lies.step (unhideI LA) (bt k7 kf7))
  have BF6 := hideI ((unhideI BF5).step (bt k7 kf7))
  obtain ⟨-, bo, cb, rfl, -⟩ := lb
  obtain ⟨f0, f1⟩ := (unhideI BF6).at2
  obtain ⟨g0, g1⟩ := (unhideI BF7).at2
  clear k7 kf7 K5 TB LA BF5
  have hne : ((ts.length : Int) != (ts.length : Int)) = false := by simp
  go_wp2_with fail
  generalize w7.alloc (.cells #[.int .i64 er, .int .i64 ef] 26) = w8 at *
  obtain ⟨ao', ca', e1, hmax, hat⟩ := Tks.at (unhideI LA2)
  obtain ⟨bo', cb', e2, _, hbt⟩ := Tks.at (unhideI LB)
  injection e1 with e1a e1b e1c
  injection e2 with e2a e2b e2c
  subst e1a e1c e2a e2c
  have HA := hideI hat
  have HB := hideI hbt
  clear hat hbt e1b e2b f0 f1 g0 g1 BF6 BF7
  unfold maxLen at hmax
  go_loopg [42] ts.length (fun g t wr => ∃ (i q : Nat), i ≤ ts.length ∧ g = ts.length - i ∧ t = .int .i64 i ∧ wr = w8.drewN q)
  case atStart => exact ⟨0, 0, Nat.zero_le _, rfl, rfl, rfl⟩
  case round =>
    obtain ⟨i, q, hi, rfl, rfl, rfl⟩ := hrel
    by_cases hlt : i < ts.length
    · have hn : ts ≠ [] := by intro h; rw [h] at hlt; simp at hlt
      obtain ⟨b1, o1, rfl, h1, c1⟩ := (unhideI HA) hn
      obtain ⟨b2, o2, rfl, h2, c2⟩ := (unhideI HB) hn
      obtain ⟨x0, x1, x2, x3, x4, x5⟩ := c1 i hlt
      obtain ⟨y0, y1, y2, y3, y4, y5⟩ := c2 i hlt
      clear c1 c2
      generalize ts[i] = y at *
      obtain ⟨e0, e1, e2, e3, e4, e5⟩ := y
      dsimp only at *
      go_wp2_with fail
      go_quiet (fail)
      go_wp2_with fail
      go_roundg (ts.length - (i + 1))
      case measure => omega
      case rel => exact ⟨i + 1, _, by omega, rfl, by go_num, rfl⟩
    · go_wp2_with fail
      go_ret
      exact ⟨rfl, bdr8 (unhideI K7) _⟩
end Go.Proofs.YtonekpoblgigpaaDoor
