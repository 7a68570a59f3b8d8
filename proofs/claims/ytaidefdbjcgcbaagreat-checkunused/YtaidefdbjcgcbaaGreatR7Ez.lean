/-
  The document's answer on types of numbers: which type a name is. (Written by mkR7E.py.)
-/
import Derived.Test.YtaidefdbjcgcbaaGreatBigNz
namespace Go.Proofs.YtaidefdbjcgcbaaGreat
open Go.RowKit
set_option linter.unusedSimpArgs false
set_option linter.unusedVariables false

def wid (k : Nat) : Int := [8, 16, 32, 64].getD k 0
theorem wid_step {i : Nat} {z : ByteArray} (h : ∀ k, k < i → ∀ g, nmT (wid k) g ≠ z) (h1 : nmT (wid i) true ≠ z) (h2 : nmT (wid i) false ≠ z) : ∀ k, k < i + 1 → ∀ g, nmT (wid k) g ≠ z := by
  intro k hk g
  by_cases e : k = i
  · subst e
    cases g
    · exact h2
    · exact h1
  · exact h k (by omega) g
theorem wid_all {z : ByteArray} (h : ∀ k, k < 4 → ∀ g, nmT (wid k) g ≠ z) : ∀ b s, IsW b → nmT b s ≠ z := by
  intro b s hb
  rcases hb with rfl | rfl | rfl | rfl
  · exact h 0 (by decide) s
  · exact h 1 (by decide) s
  · exact h 2 (by decide) s
  · exact h 3 (by decide) s
set_option maxRecDepth 100000 in
set_option maxHeartbeats 4000000 in
theorem rnamed_any (z : ByteArray) (w : World) : Calls Tryz.prog 99 #[.string z] w fun e w' => e = .returned (.tuple #[.agg #[.int .i64 (nb z), .bool (ng z)], .bool (nk z)]) ∧ Below w.heap.size w w' := by
  have HX0 := hide (named_none (z := z))
  obtain ⟨B, HX1⟩ : ∃ B, Hid (nb z = B) := ⟨_, rfl⟩
  obtain ⟨G, HX2⟩ : ∃ G, Hid (ng z = G) := ⟨_, rfl⟩
  obtain ⟨K, HX3⟩ : ∃ K, Hid (nk z = K) := ⟨_, rfl⟩
  rw [unhide HX1, unhide HX2, unhide HX3]
  rw [unhide HX1, unhide HX2, unhide HX3] at HX0
  go_enter Tryz.func99, Tryz.ntmps99
  go_wp2_with fail
  have I0 : Hid (Below w.heap.size w ((w.alloc (.cells #[.int .i64 0, .bool false] 34)).alloc (.cells #[.int .i64 8, .int .i64 16, .int .i64 32, .int .i64 64] 3)) ∧ Box ((w.alloc (.cells #[.int .i64 0, .bool false] 34)).alloc (.cells #[.int .i64 8, .int .i64 16, .int .i64 32, .int .i64 64] 3)) w.heap.size [.int .i64 0, .bool false] ∧ Box ((w.alloc (.cells #[.int .i64 0, .bool false] 34)).alloc (.cells #[.int .i64 8, .int .i64 16, .int .i64 32, .int .i64 64] 3)) (w.heap.size + 1) [.int .i64 8, .int .i64 16, .int .i64 32, .int .i64 64]) := by
    have B2 := Box.new (w.alloc (.cells #[.int .i64 0, .bool false] 34)) #[.int .i64 8, .int .i64 16, .int .i64 32, .int .i64 64] 3
    rw [World.size_alloc] at B2
    exact ⟨bT (below_a _ _) (below_a _ _), (Box.new w #[.int .i64 0, .bool false] 34).step (below_a _ _), B2⟩
  generalize (w.alloc (.cells #[.int .i64 0, .bool false] 34)).alloc (.cells #[.int .i64 8, .int .i64 16, .int .i64 32, .int .i64 64] 3) = wa at *
  go_loopg [11] 4 (fun g t wr => ∃ i : Nat, i ≤ 4 ∧ g = 4 - i ∧ t = .int .i64 i ∧ Hid (Below w.heap.size w wr ∧ Box wr w.heap.size [.int .i64 0, .bool false] ∧ Box wr (w.heap.size + 1) [.int .i64 8, .int .i64 16, .int .i64 32, .int .i64 64]) ∧ Hid (∀ k, k < i → ∀ g, nmT (wid k) g ≠ z))
  case atStart => exact ⟨0, by decide, rfl, rfl, I0, (fun k hk => by omega)⟩
  case round =>
    obtain ⟨i, hi, hg, rfl, I, N⟩ := hrel
    clear I0
    have hi5 : i = 0 ∨ i = 1 ∨ i = 2 ∨ i = 3 ∨ i = 4 := by omega
    obtain ⟨x0, x1, x2, x3⟩ := (unhide I).2.2.at4
    have li := (unhide I).2.2.1
    rcases hi5 with rfl | rfl | rfl | rfl | rfl
    · go_wp2_with fail
      have I0 := hide (And.intro (bT (unhide I).1 (below_a wr (.cells #[.bool true, .bool false] 4))) (And.intro ((unhide I).2.1.step (below_a wr (.cells #[.bool true, .bool false] 4))) (And.intro ((unhide I).2.2.step (below_a wr (.cells #[.bool true, .bool false] 4))) (Box.new wr #[.bool true, .bool false] 4))))
      generalize wr.alloc (.cells #[.bool true, .bool false] 4) = wi at *
      generalize wr.heap.size = pi at *
      go_loopg [17] 2 (fun g t ws => ∃ j : Nat, j ≤ 2 ∧ g = 2 - j ∧ t = .int .i64 j ∧ Hid (Below w.heap.size w ws ∧ Box ws w.heap.size [.int .i64 0, .bool false] ∧ Box ws (w.heap.size + 1) [.int .i64 8, .int .i64 16, .int .i64 32, .int .i64 64] ∧ Box ws pi [.bool true, .bool false]) ∧ Hid (1 ≤ j → nmT 8 true ≠ z) ∧ Hid (2 ≤ j → nmT 8 false ≠ z))
      case atStart => exact ⟨0, by decide, rfl, rfl, I0, (fun h => by omega), (fun h => by omega)⟩
      case round =>
        obtain ⟨j, hj, hgj, rfl, J, n1, n2⟩ := hrel
        clear I0 I
        have hj3 : j = 0 ∨ j = 1 ∨ j = 2 := by omega
        obtain ⟨y0, y1⟩ := (unhide J).2.2.2.at2
        have lr := (unhide J).2.1.1
        rcases hj3 with rfl | rfl | rfl
        · have HN := hide (fun (u : World) => rname_yes 8 true u (by first | exact .inl rfl | exact .inr (.inl rfl) | exact .inr (.inr (.inl rfl)) | exact .inr (.inr (.inr rfl))))
          have nn := named_name (b := 8) (by first | exact .inl rfl | exact .inr (.inl rfl) | exact .inr (.inr (.inl rfl)) | exact .inr (.inr (.inr rfl))) true
          go_wp2_with fail
          refine (unhide HN _).mono ?_
          rintro e wt ⟨rfl, kt⟩
          have kt' := bT (below_a wr (.cells #[.int .i64 8, .bool true] 34)) kt
          have L := hide (And.intro (bT (unhide J).1 kt') (And.intro ((unhide J).2.1.step kt') (And.intro ((unhide J).2.2.1.step kt') ((unhide J).2.2.2.step kt'))))
          have T := hide ((Box.new wr #[.int .i64 8, .bool true] 34).step kt)
          clear kt kt' J y0 y1
          generalize wr.heap.size = pt at *
          obtain ⟨t0, t1⟩ := (unhide T).at2
          obtain ⟨r0, r1⟩ := (unhide L).2.1.at2
          have rf := (unhide L).2.1.2.2
          by_cases hz : nmT 8 true = z
          · rw [hz] at nn
            have bz : ((nmT 8 true).toList == z.toList) = true := by rw [hz]; simp
            generalize nmT 8 true = nm at *
            obtain ⟨q1, q2, q3⟩ := nn
            rw [q1] at HX1
            rw [q2] at HX2
            rw [q3] at HX3
            unfold Hid at HX1 HX2 HX3
            subst HX1 HX2 HX3
            have p0 := (unhide L).2.1.put0
            have p1 := (unhide L).2.1.put1
            go_wp2_with fail
            exact bodyPost_ret (v := .tuple #[.agg #[.int .i64 8, .bool true], .bool true]) (by simp [results, Tryz.results99, go_sem, p0, p1]) rfl ⟨rfl, below_2 (unhide L).1 (Nat.le_refl _) _ _⟩
          · have bz : ((nmT 8 true).toList == z.toList) = false := bl_ne hz
            clear nn
            have hz' := hide hz
            clear hz
            go_wp2_with fail
            go_roundg 1
            case measure => omega
            case rel => exact ⟨1, by decide, rfl, rfl, L, (fun _ => unhide hz'), (fun h => by omega)⟩
        · have HN := hide (fun (u : World) => rname_yes 8 false u (by first | exact .inl rfl | exact .inr (.inl rfl) | exact .inr (.inr (.inl rfl)) | exact .inr (.inr (.inr rfl))))
          have nn := named_name (b := 8) (by first | exact .inl rfl | exact .inr (.inl rfl) | exact .inr (.inr (.inl rfl)) | exact .inr (.inr (.inr rfl))) false
          go_wp2_with fail
          refine (unhide HN _).mono ?_
          rintro e wt ⟨rfl, kt⟩
          have kt' := bT (below_a wr (.cells #[.int .i64 8, .bool false] 34)) kt
          have L := hide (And.intro (bT (unhide J).1 kt') (And.intro ((unhide J).2.1.step kt') (And.intro ((unhide J).2.2.1.step kt') ((unhide J).2.2.2.step kt'))))
          have T := hide ((Box.new wr #[.int .i64 8, .bool false] 34).step kt)
          clear kt kt' J y0 y1
          generalize wr.heap.size = pt at *
          obtain ⟨t0, t1⟩ := (unhide T).at2
          obtain ⟨r0, r1⟩ := (unhide L).2.1.at2
          have rf := (unhide L).2.1.2.2
          by_cases hz : nmT 8 false = z
          · rw [hz] at nn
            have bz : ((nmT 8 false).toList == z.toList) = true := by rw [hz]; simp
            generalize nmT 8 false = nm at *
            obtain ⟨q1, q2, q3⟩ := nn
            rw [q1] at HX1
            rw [q2] at HX2
            rw [q3] at HX3
            unfold Hid at HX1 HX2 HX3
            subst HX1 HX2 HX3
            have p0 := (unhide L).2.1.put0
            have p1 := (unhide L).2.1.put1
            go_wp2_with fail
            exact bodyPost_ret (v := .tuple #[.agg #[.int .i64 8, .bool false], .bool true]) (by simp [results, Tryz.results99, go_sem, p0, p1]) rfl ⟨rfl, below_2 (unhide L).1 (Nat.le_refl _) _ _⟩
          · have bz : ((nmT 8 false).toList == z.toList) = false := bl_ne hz
            clear nn
            have hz' := hide hz
            clear hz
            go_wp2_with fail
            go_roundg 0
            case measure => omega
            case rel => exact ⟨2, by decide, rfl, rfl, L, (fun _ => (unhide n1) (by decide)), (fun _ => unhide hz')⟩
        · go_wp2_with fail
          go_roundg 3
          case measure => omega
          case rel => exact ⟨1, by decide, rfl, rfl, hide (And.intro (unhide J).1 (And.intro (unhide J).2.1 (unhide J).2.2.1)), wid_step (unhide N) ((unhide n1) (by decide)) ((unhide n2) (by decide))⟩
    · go_wp2_with fail
      have I0 := hide (And.intro (bT (unhide I).1 (below_a wr (.cells #[.bool true, .bool false] 4))) (And.intro ((unhide I).2.1.step (below_a wr (.cells #[.bool true, .bool false] 4))) (And.intro ((unhide I).2.2.step (below_a wr (.cells #[.bool true, .bool false] 4))) (Box.new wr #[.bool true, .bool false] 4))))
      generalize wr.alloc (.cells #[.bool true, .bool false] 4) = wi at *
      generalize wr.heap.size = pi at *
      go_loopg [17] 2 (fun g t ws => ∃ j : Nat, j ≤ 2 ∧ g = 2 - j ∧ t = .int .i64 j ∧ Hid (Below w.heap.size w ws ∧ Box ws w.heap.size [.int .i64 0, .bool false] ∧ Box ws (w.heap.size + 1) [.int .i64 8, .int .i64 16, .int .i64 32, .int .i64 64] ∧ Box ws pi [.bool true, .bool false]) ∧ Hid (1 ≤ j → nmT 16 true ≠ z) ∧ Hid (2 ≤ j → nmT 16 false ≠ z))
      case atStart => exact ⟨0, by decide, rfl, rfl, I0, (fun h => by omega), (fun h => by omega)⟩
      case round =>
        obtain ⟨j, hj, hgj, rfl, J, n1, n2⟩ := hrel
        clear I0 I
        have hj3 : j = 0 ∨ j = 1 ∨ j = 2 := by omega
        obtain ⟨y0, y1⟩ := (unhide J).2.2.2.at2
        have lr := (unhide J).2.1.1
        rcases hj3 with rfl | rfl | rfl
        · have HN := hide (fun (u : World) => rname_yes 16 true u (by first | exact .inl rfl | exact .inr (.inl rfl) | exact .inr (.inr (.inl rfl)) | exact .inr (.inr (.inr rfl))))
          have nn := named_name (b := 16) (by first | exact .inl rfl | exact .inr (.inl rfl) | exact .inr (.inr (.inl rfl)) | exact .inr (.inr (.inr rfl))) true
          go_wp2_with fail
          refine (unhide HN _).mono ?_
          rintro e wt ⟨rfl, kt⟩
          have kt' := bT (below_a wr (.cells #[.int .i64 16, .bool true] 34)) kt
          have L := hide (And.intro (bT (unhide J).1 kt') (And.intro ((unhide J).2.1.step kt') (And.intro ((unhide J).2.2.1.step kt') ((unhide J).2.2.2.step kt'))))
          have T := hide ((Box.new wr #[.int .i64 16, .bool true] 34).step kt)
          clear kt kt' J y0 y1
          generalize wr.heap.size = pt at *
          obtain ⟨t0, t1⟩ := (unhide T).at2
          obtain ⟨r0, r1⟩ := (unhide L).2.1.at2
          have rf := (unhide L).2.1.2.2
          by_cases hz : nmT 16 true = z
          · rw [hz] at nn
            have bz : ((nmT 16 true).toList == z.toList) = true := by rw [hz]; simp
            generalize nmT 16 true = nm at *
            obtain ⟨q1, q2, q3⟩ := nn
            rw [q1] at HX1
            rw [q2] at HX2
            rw [q3] at HX3
            unfold Hid at HX1 HX2 HX3
            subst HX1 HX2 HX3
            have p0 := (unhide L).2.1.put0
            have p1 := (unhide L).2.1.put1
            go_wp2_with fail
            exact bodyPost_ret (v := .tuple #[.agg #[.int .i64 16, .bool true], .bool true]) (by simp [results, Tryz.results99, go_sem, p0, p1]) rfl ⟨rfl, below_2 (unhide L).1 (Nat.le_refl _) _ _⟩
          · have bz : ((nmT 16 true).toList == z.toList) = false := bl_ne hz
            clear nn
            have hz' := hide hz
            clear hz
            go_wp2_with fail
            go_roundg 1
            case measure => omega
            case rel => exact ⟨1, by decide, rfl, rfl, L, (fun _ => unhide hz'), (fun h => by omega)⟩
        · have HN := hide (fun (u : World) => rname_yes 16 false u (by first | exact .inl rfl | exact .inr (.inl rfl) | exact .inr (.inr (.inl rfl)) | exact .inr (.inr (.inr rfl))))
          have nn := named_name (b := 16) (by first | exact .inl rfl | exact .inr (.inl rfl) | exact .inr (.inr (.inl rfl)) | exact .inr (.inr (.inr rfl))) false
          go_wp2_with fail
          refine (unhide HN _).mono ?_
          rintro e wt ⟨rfl, kt⟩
          have kt' := bT (below_a wr (.cells #[.int .i64 16, .bool false] 34)) kt
          have L := hide (And.intro (bT (unhide J).1 kt') (And.intro ((unhide J).2.1.step kt') (And.intro ((unhide J).2.2.1.step kt') ((unhide J).2.2.2.step kt'))))
          have T := hide ((Box.new wr #[.int .i64 16, .bool false] 34).step kt)
          clear kt kt' J y0 y1
          generalize wr.heap.size = pt at *
          obtain ⟨t0, t1⟩ := (unhide T).at2
          obtain ⟨r0, r1⟩ := (unhide L).2.1.at2
          have rf := (unhide L).2.1.2.2
          by_cases hz : nmT 16 false = z
          · rw [hz] at nn
            have bz : ((nmT 16 false).toList == z.toList) = true := by rw [hz]; simp
            generalize nmT 16 false = nm at *
            obtain ⟨q1, q2, q3⟩ := nn
            rw [q1] at HX1
            rw [q2] at HX2
            rw [q3] at HX3
            unfold Hid at HX1 HX2 HX3
            subst HX1 HX2 HX3
            have p0 := (unhide L).2.1.put0
            have p1 := (unhide L).2.1.put1
            go_wp2_with fail
            exact bodyPost_ret (v := .tuple #[.agg #[.int .i64 16, .bool false], .bool true]) (by simp [results, Tryz.results99, go_sem, p0, p1]) rfl ⟨rfl, below_2 (unhide L).1 (Nat.le_refl _) _ _⟩
          · have bz : ((nmT 16 false).toList == z.toList) = false := bl_ne hz
            clear nn
            have hz' := hide hz
            clear hz
            go_wp2_with fail
            go_roundg 0
            case measure => omega
            case rel => exact ⟨2, by decide, rfl, rfl, L, (fun _ => (unhide n1) (by decide)), (fun _ => unhide hz')⟩
        · go_wp2_with fail
          go_roundg 2
          case measure => omega
          case rel => exact ⟨2, by decide, rfl, rfl, hide (And.intro (unhide J).1 (And.intro (unhide J).2.1 (unhide J).2.2.1)), wid_step (unhide N) ((unhide n1) (by decide)) ((unhide n2) (by decide))⟩
    · go_wp2_with fail
      have I0 := hide (And.intro (bT (unhide I).1 (below_a wr (.cells #[.bool true, .bool false] 4))) (And.intro ((unhide I).2.1.step (below_a wr (.cells #[.bool true, .bool false] 4))) (And.intro ((unhide I).2.2.step (below_a wr (.cells #[.bool true, .bool false] 4))) (Box.new wr #[.bool true, .bool false] 4))))
      generalize wr.alloc (.cells #[.bool true, .bool false] 4) = wi at *
      generalize wr.heap.size = pi at *
      go_loopg [17] 2 (fun g t ws => ∃ j : Nat, j ≤ 2 ∧ g = 2 - j ∧ t = .int .i64 j ∧ Hid (Below w.heap.size w ws ∧ Box ws w.heap.size [.int .i64 0, .bool false] ∧ Box ws (w.heap.size + 1) [.int .i64 8, .int .i64 16, .int .i64 32, .int .i64 64] ∧ Box ws pi [.bool true, .bool false]) ∧ Hid (1 ≤ j → nmT 32 true ≠ z) ∧ Hid (2 ≤ j → nmT 32 false ≠ z))
      case atStart => exact ⟨0, by decide, rfl, rfl, I0, (fun h => by omega), (fun h => by omega)⟩
      case round =>
        obtain ⟨j, hj, hgj, rfl, J, n1, n2⟩ := hrel
        clear I0 I
        have hj3 : j = 0 ∨ j = 1 ∨ j = 2 := by omega
        obtain ⟨y0, y1⟩ := (unhide J).2.2.2.at2
        have lr := (unhide J).2.1.1
        rcases hj3 with rfl | rfl | rfl
        · have HN := hide (fun (u : World) => rname_yes 32 true u (by first | exact .inl rfl | exact .inr (.inl rfl) | exact .inr (.inr (.inl rfl)) | exact .inr (.inr (.inr rfl))))
          have nn := named_name (b := 32) (by first | exact .inl rfl | exact .inr (.inl rfl) | exact .inr (.inr (.inl rfl)) | exact .inr (.inr (.inr rfl))) true
          go_wp2_with fail
          refine (unhide HN _).mono ?_
          rintro e wt ⟨rfl, kt⟩
          have kt' := bT (below_a wr (.cells #[.int .i64 32, .bool true] 34)) kt
          have L := hide (And.intro (bT (unhide J).1 kt') (And.intro ((unhide J).2.1.step kt') (And.intro ((unhide J).2.2.1.step kt') ((unhide J).2.2.2.step kt'))))
          have T := hide ((Box.new wr #[.int .i64 32, .bool true] 34).step kt)
          clear kt kt' J y0 y1
          generalize wr.heap.size = pt at *
          obtain ⟨t0, t1⟩ := (unhide T).at2
          obtain ⟨r0, r1⟩ := (unhide L).2.1.at2
          have rf := (unhide L).2.1.2.2
          by_cases hz : nmT 32 true = z
          · rw [hz] at nn
            have bz : ((nmT 32 true).toList == z.toList) = true := by rw [hz]; simp
            generalize nmT 32 true = nm at *
            obtain ⟨q1, q2, q3⟩ := nn
            rw [q1] at HX1
            rw [q2] at HX2
            rw [q3] at HX3
            unfold Hid at HX1 HX2 HX3
            subst HX1 HX2 HX3
            have p0 := (unhide L).2.1.put0
            have p1 := (unhide L).2.1.put1
            go_wp2_with fail
            exact bodyPost_ret (v := .tuple #[.agg #[.int .i64 32, .bool true], .bool true]) (by simp [results, Tryz.results99, go_sem, p0, p1]) rfl ⟨rfl, below_2 (unhide L).1 (Nat.le_refl _) _ _⟩
          · have bz : ((nmT 32 true).toList == z.toList) = false := bl_ne hz
            clear nn
            have hz' := hide hz
            clear hz
            go_wp2_with fail
            go_roundg 1
            case measure => omega
            case rel => exact ⟨1, by decide, rfl, rfl, L, (fun _ => unhide hz'), (fun h => by omega)⟩
        · have HN := hide (fun (u : World) => rname_yes 32 false u (by first | exact .inl rfl | exact .inr (.inl rfl) | exact .inr (.inr (.inl rfl)) | exact .inr (.inr (.inr rfl))))
          have nn := named_name (b := 32) (by first | exact .inl rfl | exact .inr (.inl rfl) | exact .inr (.inr (.inl rfl)) | exact .inr (.inr (.inr rfl))) false
          go_wp2_with fail
          refine (unhide HN _).mono ?_
          rintro e wt ⟨rfl, kt⟩
          have kt' := bT (below_a wr (.cells #[.int .i64 32, .bool false] 34)) kt
          have L := hide (And.intro (bT (unhide J).1 kt') (And.intro ((unhide J).2.1.step kt') (And.intro ((unhide J).2.2.1.step kt') ((unhide J).2.2.2.step kt'))))
          have T := hide ((Box.new wr #[.int .i64 32, .bool false] 34).step kt)
          clear kt kt' J y0 y1
          generalize wr.heap.size = pt at *
          obtain ⟨t0, t1⟩ := (unhide T).at2
          obtain ⟨r0, r1⟩ := (unhide L).2.1.at2
          have rf := (unhide L).2.1.2.2
          by_cases hz : nmT 32 false = z
          · rw [hz] at nn
            have bz : ((nmT 32 false).toList == z.toList) = true := by rw [hz]; simp
            generalize nmT 32 false = nm at *
            obtain ⟨q1, q2, q3⟩ := nn
            rw [q1] at HX1
            rw [q2] at HX2
            rw [q3] at HX3
            unfold Hid at HX1 HX2 HX3
            subst HX1 HX2 HX3
            have p0 := (unhide L).2.1.put0
            have p1 := (unhide L).2.1.put1
            go_wp2_with fail
            exact bodyPost_ret (v := .tuple #[.agg #[.int .i64 32, .bool false], .bool true]) (by simp [results, Tryz.results99, go_sem, p0, p1]) rfl ⟨rfl, below_2 (unhide L).1 (Nat.le_refl _) _ _⟩
          · have bz : ((nmT 32 false).toList == z.toList) = false := bl_ne hz
            clear nn
            have hz' := hide hz
            clear hz
            go_wp2_with fail
            go_roundg 0
            case measure => omega
            case rel => exact ⟨2, by decide, rfl, rfl, L, (fun _ => (unhide n1) (by decide)), (fun _ => unhide hz')⟩
        · go_wp2_with fail
          go_roundg 1
          case measure => omega
          case rel => exact ⟨3, by decide, rfl, rfl, hide (And.intro (unhide J).1 (And.intro (unhide J).2.1 (unhide J).2.2.1)), wid_step (unhide N) ((unhide n1) (by decide)) ((unhide n2) (by decide))⟩
    · go_wp2_with fail
      have I0 := hide (And.intro (bT (unhide I).1 (below_a wr (.cells #[.bool true, .bool false] 4))) (And.intro ((unhide I).2.1.step (below_a wr (.cells #[.bool true, .bool false] 4))) (And.intro ((unhide I).2.2.step (below_a wr (.cells #[.bool true, .bool false] 4))) (Box.new wr #[.bool true, .bool false] 4))))
      generalize wr.alloc (.cells #[.bool true, .bool false] 4) = wi at *
      generalize wr.heap.size = pi at *
      go_loopg [17] 2 (fun g t ws => ∃ j : Nat, j ≤ 2 ∧ g = 2 - j ∧ t = .int .i64 j ∧ Hid (Below w.heap.size w ws ∧ Box ws w.heap.size [.int .i64 0, .bool false] ∧ Box ws (w.heap.size + 1) [.int .i64 8, .int .i64 16, .int .i64 32, .int .i64 64] ∧ Box ws pi [.bool true, .bool false]) ∧ Hid (1 ≤ j → nmT 64 true ≠ z) ∧ Hid (2 ≤ j → nmT 64 false ≠ z))
      case atStart => exact ⟨0, by decide, rfl, rfl, I0, (fun h => by omega), (fun h => by omega)⟩
      case round =>
        obtain ⟨j, hj, hgj, rfl, J, n1, n2⟩ := hrel
        clear I0 I
        have hj3 : j = 0 ∨ j = 1 ∨ j = 2 := by omega
        obtain ⟨y0, y1⟩ := (unhide J).2.2.2.at2
        have lr := (unhide J).2.1.1
        rcases hj3 with rfl | rfl | rfl
        · have HN := hide (fun (u : World) => rname_yes 64 true u (by first | exact .inl rfl | exact .inr (.inl rfl) | exact .inr (.inr (.inl rfl)) | exact .inr (.inr (.inr rfl))))
          have nn := named_name (b := 64) (by first | exact .inl rfl | exact .inr (.inl rfl) | exact .inr (.inr (.inl rfl)) | exact .inr (.inr (.inr rfl))) true
          go_wp2_with fail
          refine (unhide HN _).mono ?_
          rintro e wt ⟨rfl, kt⟩
          have kt' := bT (below_a wr (.cells #[.int .i64 64, .bool true] 34)) kt
          have L := hide (And.intro (bT (unhide J).1 kt') (And.intro ((unhide J).2.1.step kt') (And.intro ((unhide J).2.2.1.step kt') ((unhide J).2.2.2.step kt'))))
          have T := hide ((Box.new wr #[.int .i64 64, .bool true] 34).step kt)
          clear kt kt' J y0 y1
          generalize wr.heap.size = pt at *
          obtain ⟨t0, t1⟩ := (unhide T).at2
          obtain ⟨r0, r1⟩ := (unhide L).2.1.at2
          have rf := (unhide L).2.1.2.2
          by_cases hz : nmT 64 true = z
          · rw [hz] at nn
            have bz : ((nmT 64 true).toList == z.toList) = true := by rw [hz]; simp
            generalize nmT 64 true = nm at *
            obtain ⟨q1, q2, q3⟩ := nn
            rw [q1] at HX1
            rw [q2] at HX2
            rw [q3] at HX3
            unfold Hid at HX1 HX2 HX3
            subst HX1 HX2 HX3
            have p0 := (unhide L).2.1.put0
            have p1 := (unhide L).2.1.put1
            go_wp2_with fail
            exact bodyPost_ret (v := .tuple #[.agg #[.int .i64 64, .bool true], .bool true]) (by simp [results, Tryz.results99, go_sem, p0, p1]) rfl ⟨rfl, below_2 (unhide L).1 (Nat.le_refl _) _ _⟩
          · have bz : ((nmT 64 true).toList == z.toList) = false := bl_ne hz
            clear nn
            have hz' := hide hz
            clear hz
            go_wp2_with fail
            go_roundg 1
            case measure => omega
            case rel => exact ⟨1, by decide, rfl, rfl, L, (fun _ => unhide hz'), (fun h => by omega)⟩
        · have HN := hide (fun (u : World) => rname_yes 64 false u (by first | exact .inl rfl | exact .inr (.inl rfl) | exact .inr (.inr (.inl rfl)) | exact .inr (.inr (.inr rfl))))
          have nn := named_name (b := 64) (by first | exact .inl rfl | exact .inr (.inl rfl) | exact .inr (.inr (.inl rfl)) | exact .inr (.inr (.inr rfl))) false
          go_wp2_with fail
          refine (unhide HN _).mono ?_
          rintro e wt ⟨rfl, kt⟩
          have kt' := bT (below_a wr (.cells #[.int .i64 64, .bool false] 34)) kt
          have L := hide (And.intro (bT (unhide J).1 kt') (And.intro ((unhide J).2.1.step kt') (And.intro ((unhide J).2.2.1.step kt') ((unhide J).2.2.2.step kt'))))
          have T := hide ((Box.new wr #[.int .i64 64, .bool false] 34).step kt)
          clear kt kt' J y0 y1
          generalize wr.heap.size = pt at *
          obtain ⟨t0, t1⟩ := (unhide T).at2
          obtain ⟨r0, r1⟩ := (unhide L).2.1.at2
          have rf := (unhide L).2.1.2.2
          by_cases hz : nmT 64 false = z
          · rw [hz] at nn
            have bz : ((nmT 64 false).toList == z.toList) = true := by rw [hz]; simp
            generalize nmT 64 false = nm at *
            obtain ⟨q1, q2, q3⟩ := nn
            rw [q1] at HX1
            rw [q2] at HX2
            rw [q3] at HX3
            unfold Hid at HX1 HX2 HX3
            subst HX1 HX2 HX3
            have p0 := (unhide L).2.1.put0
            have p1 := (unhide L).2.1.put1
            go_wp2_with fail
            exact bodyPost_ret (v := .tuple #[.agg #[.int .i64 64, .bool false], .bool true]) (by simp [results, Tryz.results99, go_sem, p0, p1]) rfl ⟨rfl, below_2 (unhide L).1 (Nat.le_refl _) _ _⟩
          · have bz : ((nmT 64 false).toList == z.toList) = false := bl_ne hz
            clear nn
            have hz' := hide hz
            clear hz
            go_wp2_with fail
            go_roundg 0
            case measure => omega
            case rel => exact ⟨2, by decide, rfl, rfl, L, (fun _ => (unhide n1) (by decide)), (fun _ => unhide hz')⟩
        · go_wp2_with fail
          go_roundg 0
          case measure => omega
          case rel => exact ⟨4, by decide, rfl, rfl, hide (And.intro (unhide J).1 (And.intro (unhide J).2.1 (unhide J).2.2.1)), wid_step (unhide N) ((unhide n1) (by decide)) ((unhide n2) (by decide))⟩
    · have hn := unhide HX0 (wid_all (unhide N))
      obtain ⟨rfl, rfl, rfl⟩ := hn
      obtain ⟨r0, r1⟩ := (unhide I).2.1.at2
      have rf := (unhide I).2.1.2.2
      have p0 := (unhide I).2.1.put0
      have p1 := (unhide I).2.1.put1
      go_wp2_with fail
      exact bodyPost_ret (v := .tuple #[.agg #[.int .i64 0, .bool false], .bool false]) (by simp [results, Tryz.results99, go_sem, p0, p1]) rfl ⟨rfl, below_2 (unhide I).1 (Nat.le_refl _) _ _⟩
end Go.Proofs.YtaidefdbjcgcbaaGreat
