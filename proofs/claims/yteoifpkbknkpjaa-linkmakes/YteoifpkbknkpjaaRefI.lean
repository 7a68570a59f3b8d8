/-
  pairlegalref5.Same: an image is the same as itself.
-/
import Derived.Test.YteoifpkbknkpjaaLkT
import Derived.Test.YteoifpkbknkpjaaRefS
namespace Go.Proofs.Yteoifpkbknkpjaa
open Go.RowKit Go.Maps
set_option linter.unusedSimpArgs false
set_option linter.unusedVariables false

theorem eqSpot (s : ByteArray) (n : Int) (w : World) : (Op.equalIn 10000 59 (.agg #[.string s, .int .i64 n]) (.agg #[.string s, .int .i64 n])).run Try.prog w = .ok true w := by
  have hS : Try.prog.underlying 59 = some (.struct (Try.prog.fieldsOf 59)) := by kernel_rfl
  rw [show (10000 : Nat) = 9999 + 1 from rfl, run_equalIn_agg w 9999 59 _ _ hS (by kernel_rfl)]
  simp only [Program.fieldsOf, Try.underlying59]
  go_simp
theorem flat2 : ∀ (l : List (ByteArray × Int)) (i : Nat) (h : i < l.length), (l.flatMap cellsS)[i * 2]? = some (.string (l[i]'h).1) ∧ (l.flatMap cellsS)[i * 2 + 1]? = some (.int .i64 (l[i]'h).2)
  | [], i, h => by simp at h
  | x :: l, 0, h => by simp [cellsS]
  | x :: l, i + 1, h => by
    have ih := flat2 l i (by simpa using h)
    rw [List.flatMap_cons, List.getElem?_append_right (by simp [cellsS]; omega), List.getElem?_append_right (by simp [cellsS]; omega)]
    rw [show (i + 1) * 2 - (cellsS x).length = i * 2 by simp [cellsS]; omega, show (i + 1) * 2 + 1 - (cellsS x).length = i * 2 + 1 by simp [cellsS]; omega]
    simpa using ih
theorem Spts.at {w : World} {v : Value} {l : List (ByteArray × Int)} (h : Spts w v l) : ∃ ao cap, v = .slice ao l.length cap ∧ l.length ≤ maxLen ∧ (l ≠ [] → ∃ b off, ao = some ⟨b, off, none⟩ ∧ b < w.heap.size ∧ ∀ j (hj : j < l.length), w.cell? ⟨b, off + j * 2, none⟩ = some (.string (l[j]'hj).1) ∧ w.cell? ⟨b, off + j * 2 + 1, none⟩ = some (.int .i64 (l[j]'hj).2)) := by
  obtain ⟨_, ao, cap, rfl, h3, h4, _, h5⟩ := h
  refine ⟨ao, cap, rfl, Nat.le_trans h3 h4, fun hn => ?_⟩
  obtain ⟨b, off, rfl, hb, hc⟩ := h5 (by intro h; exact hn (List.eq_nil_of_length_eq_zero h))
  refine ⟨b, off, rfl, hb, fun j hj => ?_⟩
  have f := flat2 l j hj
  refine ⟨?_, ?_⟩
  · rw [hc (j * 2) (by omega)]; exact f.1
  · rw [Nat.add_assoc, hc (j * 2 + 1) (by omega)]; exact f.2
set_option maxRecDepth 100000 in
set_option maxHeartbeats 2000000 in
theorem same5_yes (R : Im) (a1 a2 a3 b1 b2 b3 : Value) (w : World) (h1 : Ints w a1 R.words) (g1 : Ints w b1 R.words) (h2 : Ints w a2 R.units) (g2 : Ints w b2 R.units) (h3 : Lies w 2 a3 R.spots.length (R.spots.flatMap cellsS)) (g3 : Lies w 2 b3 R.spots.length (R.spots.flatMap cellsS)) :
    Calls Try.prog 6 #[.agg #[a1, a2, a3], .agg #[b1, b2, b3]] w fun e w' => e = .returned (.bool true) ∧ Below w.heap.size w w' := by
  have KA := bt (below_a w (.cells #[a1, a2, a3] 26)) (below_a _ (.cells #[b1, b2, b3] 26))
  have BA := hideI ((Box.new w #[a1, a2, a3] 26).step (below_a _ (.cells #[b1, b2, b3] 26)))
  have BB := hideI (Box.new (w.alloc (.cells #[a1, a2, a3] 26)) #[b1, b2, b3] 26)
  simp only [World.size_alloc] at BB
  have S1 := same1_yes R.words a1 b1 _ (Lies.step h1 KA) (Lies.step g1 KA)
  have S2 := fun u h => same1_yes R.units a2 b2 u (Lies.step (Lies.step h2 KA) h) (Lies.step (Lies.step g2 KA) h)
  have H3 := hideI (Lies.step h3 KA)
  have G3 := hideI (Lies.step g3 KA)
  obtain ⟨z1, y1, rfl, -, -⟩ := h1.at
  obtain ⟨z2, y2, rfl, -, -⟩ := h2.at
  obtain ⟨x1, v1, rfl, -, -⟩ := g1.at
  obtain ⟨x2, v2, rfl, -, -⟩ := g2.at
  obtain ⟨z3, y3, rfl, hmax, -⟩ := Spts.at h3
  obtain ⟨x3, v3, rfl, -, -⟩ := Spts.at g3
  obtain ⟨words, units, spots⟩ := R
  dsimp only at *
  have K0 := hideI KA
  have ES := eqSpot
  unfold maxLen at hmax
  clear KA h1 h2 h3 g1 g2 g3
  have hne : ((spots.length : Int) != (spots.length : Int)) = false := by simp
  obtain ⟨c0, c1, c2⟩ := (unhideI BA).at3
  obtain ⟨d0, d1, d2⟩ := (unhideI BB).at3
  go_enter Try.func6, Try.ntmps6
  go_wp2_with fail
  refine S1.mono ?_
  rintro e w1 ⟨rfl, k1⟩
  have S3 := S2 _ k1
  have BA1 := hideI ((unhideI BA).step k1)
  have BB1 := hideI ((unhideI BB).step k1)
  clear c0 c1 c2 d0 d1 d2 S1 S2
  obtain ⟨c0, c1, c2⟩ := (unhideI BA1).at3
  obtain ⟨d0, d1, d2⟩ := (unhideI BB1).at3
  go_wp2_with fail
  refine S3.mono ?_
  rintro e w2 ⟨rfl, k2⟩
  have BA2 := hideI ((unhideI BA1).step k2)
  have BB2 := hideI ((unhideI BB1).step k2)
  have K2 := hideI (bt (bt (unhideI K0) k1) k2)
  have A3 := hideI (Lies.step (unhideI H3) (bt k1 k2))
  have B3 := hideI (Lies.step (unhideI G3) (bt k1 k2))
  clear c0 c1 c2 d0 d1 d2 S3 k1 k2
  obtain ⟨c0, c1, c2⟩ := (unhideI BA2).at3
  obtain ⟨d0, d1, d2⟩ := (unhideI BB2).at3
  go_wp2_with fail
  go_loopg [32] spots.length (fun g t wr => ∃ (i q : Nat), i ≤ spots.length ∧ g = spots.length - i ∧ t = .int .i64 i ∧ wr = w2.drewN q)
  case atStart => exact ⟨0, 0, Nat.zero_le _, rfl, rfl, rfl⟩
  case round =>
    obtain ⟨i, q, hi, hg, rfl, rfl⟩ := hrel
    by_cases hlt : i < spots.length
    · have hn : spots ≠ [] := by intro h; rw [h] at hlt; simp at hlt
      obtain ⟨a, b, e, -, h1⟩ := Spts.at (unhideI A3)
      injection e with e1 e2 e3
      subst e1
      obtain ⟨p1, o1, rfl, l1, h2⟩ := h1 hn
      obtain ⟨a', b', e', -, g1⟩ := Spts.at (unhideI B3)
      injection e' with e1' e2' e3'
      subst e1'
      obtain ⟨p2, o2, rfl, l2, g2⟩ := g1 hn
      obtain ⟨m1, m2⟩ := h2 i hlt
      obtain ⟨n1, n2⟩ := g2 i hlt
      have ES2 := fun w => ES (spots[i]'hlt).1 (spots[i]'hlt).2 w
      generalize (spots[i]'hlt) = y at *
      obtain ⟨ys, yn⟩ := y
      dsimp only at *
      clear h1 h2 g1 g2 e2 e3 e2' e3'
      go_wp2_with fail
      go_quiet (fail)
      go_wp2_with fail
      go_roundg (spots.length - (i + 1))
      case measure => omega
      case rel => exact ⟨i + 1, _, by omega, rfl, by go_num, rfl⟩
    · go_wp2_with fail
      go_ret
      exact ⟨rfl, bdr (unhideI K2) _⟩
end Go.Proofs.Yteoifpkbknkpjaa
