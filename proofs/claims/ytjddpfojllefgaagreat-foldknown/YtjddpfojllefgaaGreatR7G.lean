/-
  The document's answer on types of numbers: the type of a number that is written in a text. (Written by mkR7G.py.)
-/
import Derived.Test.YtjddpfojllefgaaGreatR7Fz
namespace Go.Proofs.YtjddpfojllefgaaGreat
open Go.RowKit
set_option linter.unusedSimpArgs false
set_option linter.unusedVariables false

theorem cm_zero {a b : Int} : cm a b = 0 ↔ a = b := by
  unfold cm
  split
  · constructor <;> intro h <;> omega
  · split
    · simp [*]
    · constructor <;> intro h <;> omega
theorem lit_cmp {n b : Int} {s : Bool} (hb : b = 16 ∨ b = 32 ∨ b = 64) (hn : U n) : n = mn s b n ↔ n ≤ gr b s := by
  have e1 : gr 16 true = 32767 := by decide
  have e2 : gr 32 true = 2147483647 := by decide
  have e3 : gr 64 true = 9223372036854775807 := by decide
  have e4 : gr 16 false = 65535 := by decide
  have e5 : gr 32 false = 4294967295 := by decide
  have e6 : gr 64 false = 18446744073709551615 := by decide
  obtain ⟨h0, h1⟩ := hn
  rcases hb with rfl | rfl | rfl <;> cases s
  · rw [e4]; unfold mn cut; rw [md_16]; simp; omega
  · rw [e1]; unfold mn sgn cut; rw [md_16]; simp; split <;> omega
  · rw [e5]; unfold mn cut; rw [md_32]; simp; omega
  · rw [e2]; unfold mn sgn cut; rw [md_32]; simp; split <;> omega
  · rw [e6]; unfold mn cut; rw [md_64]; simp; omega
  · rw [e3]; unfold mn sgn cut; rw [md_64]; simp; split <;> omega
theorem meant64 {n : Int} (hn : U n) : mn false 64 n = n := by
  obtain ⟨h0, h1⟩ := hn
  unfold mn cut
  rw [md_64]
  simp
  omega
set_option maxRecDepth 100000 in
set_option maxHeartbeats 4000000 in
theorem rliteral_any (n : Int) (u : Bool) (w : World) (hn : U n) : Calls Tryz.prog 10 #[.int .u64 n, .bool u] w fun e w' => e = .returned (.tuple #[.agg #[.int .i64 (lit n u).1, .bool (lit n u).2.1], .int .i64 (lit n u).2.2]) ∧ Below w.heap.size w w' := by
  have MA := hide (fun (v : World) => meant_any n 64 false v (.inr (.inr (.inr rfl))) hn)
  rw [meant64 hn] at MA
  have HL : Hid (lit n u = if n ≤ gr 16 (!u) then (16, !u, 0) else if n ≤ gr 32 (!u) then (32, !u, 0) else if n ≤ gr 64 (!u) then (64, !u, 0) else (0, false, 3)) := rfl
  have b8 : (18446744073709551616 : Nat) < 4294967296 ^ 8 := by decide
  obtain ⟨hn0, hn1⟩ := hn
  have hn : U n := ⟨hn0, hn1⟩
  generalize lit n u = LI at *
  obtain ⟨LB, LS, LE⟩ := LI
  simp only
  go_enter Tryz.func10, Tryz.ntmps10
  go_wp2_with fail
  have I0 : Hid (Below w.heap.size w ((w.alloc (.cells #[.int .i64 0, .bool false] 24)).alloc (.cells #[.int .i64 16, .int .i64 32, .int .i64 64] 3)) ∧ Box ((w.alloc (.cells #[.int .i64 0, .bool false] 24)).alloc (.cells #[.int .i64 16, .int .i64 32, .int .i64 64] 3)) w.heap.size [.int .i64 0, .bool false] ∧ Box ((w.alloc (.cells #[.int .i64 0, .bool false] 24)).alloc (.cells #[.int .i64 16, .int .i64 32, .int .i64 64] 3)) (w.heap.size + 1) [.int .i64 16, .int .i64 32, .int .i64 64]) := by
    have B2 := Box.new (w.alloc (.cells #[.int .i64 0, .bool false] 24)) #[.int .i64 16, .int .i64 32, .int .i64 64] 3
    rw [World.size_alloc] at B2
    exact ⟨bT (below_a _ _) (below_a _ _), (Box.new w #[.int .i64 0, .bool false] 24).step (below_a _ _), B2⟩
  generalize (w.alloc (.cells #[.int .i64 0, .bool false] 24)).alloc (.cells #[.int .i64 16, .int .i64 32, .int .i64 64] 3) = wa at *
  go_loopg [11] 3 (fun g t wr => ∃ i : Nat, i ≤ 3 ∧ g = 3 - i ∧ t = .int .i64 i ∧ Hid (Below w.heap.size w wr ∧ Box wr w.heap.size [.int .i64 0, .bool false] ∧ Box wr (w.heap.size + 1) [.int .i64 16, .int .i64 32, .int .i64 64]) ∧ Hid ((1 ≤ i → ¬ n ≤ gr 16 (!u)) ∧ (2 ≤ i → ¬ n ≤ gr 32 (!u)) ∧ (3 ≤ i → ¬ n ≤ gr 64 (!u))))
  case atStart => exact ⟨0, by decide, rfl, rfl, I0, ⟨(fun h => by omega), (fun h => by omega), (fun h => by omega)⟩⟩
  case round =>
    obtain ⟨i, hi, hg, rfl, I, N⟩ := hrel
    clear I0
    have hi5 : i = 0 ∨ i = 1 ∨ i = 2 ∨ i = 3 := by omega
    have lr := (unhide I).2.1.1
    have li := (unhide I).2.2.1
    obtain ⟨x0, x1, x2⟩ := (unhide I).2.2.at3
    rcases hi5 with rfl | rfl | rfl | rfl
    · have MB := hide (fun (v : World) => rmeant_any n 16 (!u) v (.inr (.inl rfl)) hn)
      have yb := mn_abs (n := 16) (.inr (.inl rfl)) (!u) n
      have hl := lit_cmp (b := 16) (s := !u) (.inl rfl) hn
      generalize mn (!u) 16 n = M at *
      go_wp2_with fail
      have R := hide (And.intro (bT (unhide I).1 (below_a wr (.cells #[.int .i64 16, .bool (!u)] 24))) (And.intro ((unhide I).2.1.step (below_a wr (.cells #[.int .i64 16, .bool (!u)] 24))) (And.intro ((unhide I).2.2.step (below_a wr (.cells #[.int .i64 16, .bool (!u)] 24))) (Box.new wr #[.int .i64 16, .bool (!u)] 24))))
      generalize wr.alloc (.cells #[.int .i64 16, .bool (!u)] 24) = wi at *
      generalize wr.heap.size = pt at *
      obtain ⟨t0, t1⟩ := (unhide R).2.2.2.at2
      refine reg_start (fun W => W.cell? ⟨pt, 0, none⟩ = some (.int .i64 16) ∧ W.cell? ⟨pt, 1, none⟩ = some (.bool (!u))) (by kernel_rfl) ?_
      refine reg_seg 0 1 6 (by kernel_rfl) (by decide) (by kernel_rfl) (by kernel_rfl) (fun _ _ _ _ _ h => h) ?_
      simp only [List.take_succ_cons, List.take_zero, List.drop_succ_cons, List.drop_zero]
      repeat (refine wpSteady_step (fun K hK => ?_); go_simp; first | (refine steady_of ?_ (fun W hW => ?_) (hK _ ?_); rotate_left; (obtain ⟨c1, c2⟩ := hW; go_simp; first | done | rfl); clear hK K) | (refine hK _ ?_; clear hK K))
      refine wpSteady_nil ?_
      refine reg_seg 2 2 4 (by kernel_rfl) (by decide) (by kernel_rfl) (by kernel_rfl) (fun _ _ _ _ _ h => h) ?_
      simp only [List.take_succ_cons, List.take_zero, List.drop_succ_cons, List.drop_zero]
      repeat (refine wpSteady_step (fun K hK => ?_); go_simp; first | (refine steady_of ?_ (fun W hW => ?_) (hK _ ?_); rotate_left; (obtain ⟨c1, c2⟩ := hW; go_simp; first | done | rfl); clear hK K) | (refine hK _ ?_; clear hK K))
      refine wpSteady_nil ?_
      refine reg_one 1 3 (by kernel_rfl) (by kernel_rfl) ⟨t0, t1⟩ ?_
      simp only [List.take_succ_cons, List.take_zero, List.drop_succ_cons, List.drop_zero]
      go_wp2_with fail
      refine (unhide MA _).mono ?_
      rintro e w2 ⟨p, rfl, hp, k2, G2⟩
      have k2' := of_drew k2
      have R2 := hide (And.intro (bT (unhide R).1 k2') (And.intro ((unhide R).2.1.step k2') (And.intro ((unhide R).2.2.1.step k2') ((unhide R).2.2.2.step k2'))))
      have HB2 := hide G2
      clear t0 t1 R k2 k2' G2
      obtain ⟨t0, t1⟩ := (unhide R2).2.2.2.at2
      go_wp2_with fail
      first | refine next_nil ?_ | refine next_go ?_
      refine reg_one 4 2 (by kernel_rfl) (by kernel_rfl) ⟨t0, t1⟩ ?_
      simp only [List.take_succ_cons, List.take_zero, List.drop_succ_cons, List.drop_zero]
      go_wp2_with fail
      refine (unhide MB _).mono ?_
      rintro e w3 ⟨q, rfl, hq, k3, G3⟩
      have R := hide (And.intro (bT (unhide R2).1 k3) (And.intro ((unhide R2).2.1.step k3) (And.intro ((unhide R2).2.2.1.step k3) ((unhide R2).2.2.2.step k3))))
      have HB3 := hide ((unhide HB2).step k3)
      have HC3 := hide G3
      clear t0 t1 R2 k3 G3
      obtain ⟨t0, t1⟩ := (unhide R).2.2.2.at2
      go_wp2_with fail
      first | refine next_nil ?_ | refine next_go ?_
      refine reg_one 5 1 (by kernel_rfl) (by kernel_rfl) ⟨t0, t1⟩ ?_
      simp only [List.take_succ_cons, List.take_zero, List.drop_succ_cons, List.drop_zero]
      go_wp2_with fail
      refine (cmp_big p q n M w3 (unhide HB3) (unhide HC3) (by omega) (by omega)).mono ?_
      rintro e w4 ⟨⟨jj, rfl⟩, rfl⟩
      have kd : Below w3.heap.size w3 (w3.drewN jj) := below_drewN (Below.refl _ _) jj
      have R' := hide (And.intro (bT (unhide R).1 kd) (And.intro ((unhide R).2.1.step kd) (And.intro ((unhide R).2.2.1.step kd) ((unhide R).2.2.2.step kd))))
      clear t0 t1 R HB3 HC3 kd
      have R := R'
      clear R'
      generalize w3.drewN jj = w4 at *
      obtain ⟨t0, t1⟩ := (unhide R).2.2.2.at2
      go_wp2_with fail
      first | refine next_nil ?_ | refine next_go ?_
      refine reg_one 6 0 (by kernel_rfl) (by kernel_rfl) ⟨t0, t1⟩ ?_
      simp only [List.take_succ_cons, List.take_zero, List.drop_succ_cons, List.drop_zero]
      go_wp2_with fail
      first | refine next_nil ?_ | refine next_go ?_
      refine reg_end (by kernel_rfl) ⟨t0, t1⟩ ?_
      have ll := (unhide R).2.1.1
      obtain ⟨r0, r1⟩ := (unhide R).2.1.at2
      have rf := (unhide R).2.1.2.2
      by_cases hz : n ≤ gr 16 (!u)
      · have dz : (cm n M == 0) = true := by rw [beq_iff_eq]; exact cm_zero.2 (hl.2 hz)
        unfold Hid at HL
        rw [if_pos hz] at HL
        simp only [Prod.mk.injEq] at HL
        obtain ⟨rfl, rfl, rfl⟩ := HL
        have p0 := (unhide R).2.1.put0
        have p1 := (unhide R).2.1.put1
        go_wp2_with fail
        exact bodyPost_ret (v := .tuple #[.agg #[.int .i64 16, .bool (!u)], .int .i64 0]) (by simp [results, Tryz.results10, go_sem, p0, p1]) rfl ⟨rfl, below_2 (unhide R).1 (Nat.le_refl _) _ _⟩
      · have dz : (cm n M == 0) = false := by rw [beq_eq_false_iff_ne]; exact fun h => hz (hl.1 (cm_zero.1 h))
        have hz' := hide hz
        clear hz hl
        go_wp2_with fail
        go_roundg 2
        case measure => omega
        case rel => exact ⟨1, by decide, rfl, rfl, hide (And.intro (unhide R).1 (And.intro (unhide R).2.1 (unhide R).2.2.1)), ⟨(fun _ => unhide hz'), (fun h => by omega), (fun h => by omega)⟩⟩
    · have MB := hide (fun (v : World) => rmeant_any n 32 (!u) v (.inr (.inr (.inl rfl))) hn)
      have yb := mn_abs (n := 32) (.inr (.inr (.inl rfl))) (!u) n
      have hl := lit_cmp (b := 32) (s := !u) (.inr (.inl rfl)) hn
      generalize mn (!u) 32 n = M at *
      go_wp2_with fail
      have R := hide (And.intro (bT (unhide I).1 (below_a wr (.cells #[.int .i64 32, .bool (!u)] 24))) (And.intro ((unhide I).2.1.step (below_a wr (.cells #[.int .i64 32, .bool (!u)] 24))) (And.intro ((unhide I).2.2.step (below_a wr (.cells #[.int .i64 32, .bool (!u)] 24))) (Box.new wr #[.int .i64 32, .bool (!u)] 24))))
      generalize wr.alloc (.cells #[.int .i64 32, .bool (!u)] 24) = wi at *
      generalize wr.heap.size = pt at *
      obtain ⟨t0, t1⟩ := (unhide R).2.2.2.at2
      refine reg_start (fun W => W.cell? ⟨pt, 0, none⟩ = some (.int .i64 32) ∧ W.cell? ⟨pt, 1, none⟩ = some (.bool (!u))) (by kernel_rfl) ?_
      refine reg_seg 0 1 6 (by kernel_rfl) (by decide) (by kernel_rfl) (by kernel_rfl) (fun _ _ _ _ _ h => h) ?_
      simp only [List.take_succ_cons, List.take_zero, List.drop_succ_cons, List.drop_zero]
      repeat (refine wpSteady_step (fun K hK => ?_); go_simp; first | (refine steady_of ?_ (fun W hW => ?_) (hK _ ?_); rotate_left; (obtain ⟨c1, c2⟩ := hW; go_simp; first | done | rfl); clear hK K) | (refine hK _ ?_; clear hK K))
      refine wpSteady_nil ?_
      refine reg_seg 2 2 4 (by kernel_rfl) (by decide) (by kernel_rfl) (by kernel_rfl) (fun _ _ _ _ _ h => h) ?_
      simp only [List.take_succ_cons, List.take_zero, List.drop_succ_cons, List.drop_zero]
      repeat (refine wpSteady_step (fun K hK => ?_); go_simp; first | (refine steady_of ?_ (fun W hW => ?_) (hK _ ?_); rotate_left; (obtain ⟨c1, c2⟩ := hW; go_simp; first | done | rfl); clear hK K) | (refine hK _ ?_; clear hK K))
      refine wpSteady_nil ?_
      refine reg_one 1 3 (by kernel_rfl) (by kernel_rfl) ⟨t0, t1⟩ ?_
      simp only [List.take_succ_cons, List.take_zero, List.drop_succ_cons, List.drop_zero]
      go_wp2_with fail
      refine (unhide MA _).mono ?_
      rintro e w2 ⟨p, rfl, hp, k2, G2⟩
      have k2' := of_drew k2
      have R2 := hide (And.intro (bT (unhide R).1 k2') (And.intro ((unhide R).2.1.step k2') (And.intro ((unhide R).2.2.1.step k2') ((unhide R).2.2.2.step k2'))))
      have HB2 := hide G2
      clear t0 t1 R k2 k2' G2
      obtain ⟨t0, t1⟩ := (unhide R2).2.2.2.at2
      go_wp2_with fail
      first | refine next_nil ?_ | refine next_go ?_
      refine reg_one 4 2 (by kernel_rfl) (by kernel_rfl) ⟨t0, t1⟩ ?_
      simp only [List.take_succ_cons, List.take_zero, List.drop_succ_cons, List.drop_zero]
      go_wp2_with fail
      refine (unhide MB _).mono ?_
      rintro e w3 ⟨q, rfl, hq, k3, G3⟩
      have R := hide (And.intro (bT (unhide R2).1 k3) (And.intro ((unhide R2).2.1.step k3) (And.intro ((unhide R2).2.2.1.step k3) ((unhide R2).2.2.2.step k3))))
      have HB3 := hide ((unhide HB2).step k3)
      have HC3 := hide G3
      clear t0 t1 R2 k3 G3
      obtain ⟨t0, t1⟩ := (unhide R).2.2.2.at2
      go_wp2_with fail
      first | refine next_nil ?_ | refine next_go ?_
      refine reg_one 5 1 (by kernel_rfl) (by kernel_rfl) ⟨t0, t1⟩ ?_
      simp only [List.take_succ_cons, List.take_zero, List.drop_succ_cons, List.drop_zero]
      go_wp2_with fail
      refine (cmp_big p q n M w3 (unhide HB3) (unhide HC3) (by omega) (by omega)).mono ?_
      rintro e w4 ⟨⟨jj, rfl⟩, rfl⟩
      have kd : Below w3.heap.size w3 (w3.drewN jj) := below_drewN (Below.refl _ _) jj
      have R' := hide (And.intro (bT (unhide R).1 kd) (And.intro ((unhide R).2.1.step kd) (And.intro ((unhide R).2.2.1.step kd) ((unhide R).2.2.2.step kd))))
      clear t0 t1 R HB3 HC3 kd
      have R := R'
      clear R'
      generalize w3.drewN jj = w4 at *
      obtain ⟨t0, t1⟩ := (unhide R).2.2.2.at2
      go_wp2_with fail
      first | refine next_nil ?_ | refine next_go ?_
      refine reg_one 6 0 (by kernel_rfl) (by kernel_rfl) ⟨t0, t1⟩ ?_
      simp only [List.take_succ_cons, List.take_zero, List.drop_succ_cons, List.drop_zero]
      go_wp2_with fail
      first | refine next_nil ?_ | refine next_go ?_
      refine reg_end (by kernel_rfl) ⟨t0, t1⟩ ?_
      have ll := (unhide R).2.1.1
      obtain ⟨r0, r1⟩ := (unhide R).2.1.at2
      have rf := (unhide R).2.1.2.2
      by_cases hz : n ≤ gr 32 (!u)
      · have dz : (cm n M == 0) = true := by rw [beq_iff_eq]; exact cm_zero.2 (hl.2 hz)
        unfold Hid at HL
        rw [if_neg (by have := (unhide N).1 (by decide); omega)] at HL
        rw [if_pos hz] at HL
        simp only [Prod.mk.injEq] at HL
        obtain ⟨rfl, rfl, rfl⟩ := HL
        have p0 := (unhide R).2.1.put0
        have p1 := (unhide R).2.1.put1
        go_wp2_with fail
        exact bodyPost_ret (v := .tuple #[.agg #[.int .i64 32, .bool (!u)], .int .i64 0]) (by simp [results, Tryz.results10, go_sem, p0, p1]) rfl ⟨rfl, below_2 (unhide R).1 (Nat.le_refl _) _ _⟩
      · have dz : (cm n M == 0) = false := by rw [beq_eq_false_iff_ne]; exact fun h => hz (hl.1 (cm_zero.1 h))
        have hz' := hide hz
        clear hz hl
        go_wp2_with fail
        go_roundg 1
        case measure => omega
        case rel => exact ⟨2, by decide, rfl, rfl, hide (And.intro (unhide R).1 (And.intro (unhide R).2.1 (unhide R).2.2.1)), ⟨(fun _ => by have := (unhide N).1 (by decide); omega), (fun _ => unhide hz'), (fun h => by omega)⟩⟩
    · have MB := hide (fun (v : World) => rmeant_any n 64 (!u) v (.inr (.inr (.inr rfl))) hn)
      have yb := mn_abs (n := 64) (.inr (.inr (.inr rfl))) (!u) n
      have hl := lit_cmp (b := 64) (s := !u) (.inr (.inr rfl)) hn
      generalize mn (!u) 64 n = M at *
      go_wp2_with fail
      have R := hide (And.intro (bT (unhide I).1 (below_a wr (.cells #[.int .i64 64, .bool (!u)] 24))) (And.intro ((unhide I).2.1.step (below_a wr (.cells #[.int .i64 64, .bool (!u)] 24))) (And.intro ((unhide I).2.2.step (below_a wr (.cells #[.int .i64 64, .bool (!u)] 24))) (Box.new wr #[.int .i64 64, .bool (!u)] 24))))
      generalize wr.alloc (.cells #[.int .i64 64, .bool (!u)] 24) = wi at *
      generalize wr.heap.size = pt at *
      obtain ⟨t0, t1⟩ := (unhide R).2.2.2.at2
      refine reg_start (fun W => W.cell? ⟨pt, 0, none⟩ = some (.int .i64 64) ∧ W.cell? ⟨pt, 1, none⟩ = some (.bool (!u))) (by kernel_rfl) ?_
      refine reg_seg 0 1 6 (by kernel_rfl) (by decide) (by kernel_rfl) (by kernel_rfl) (fun _ _ _ _ _ h => h) ?_
      simp only [List.take_succ_cons, List.take_zero, List.drop_succ_cons, List.drop_zero]
      repeat (refine wpSteady_step (fun K hK => ?_); go_simp; first | (refine steady_of ?_ (fun W hW => ?_) (hK _ ?_); rotate_left; (obtain ⟨c1, c2⟩ := hW; go_simp; first | done | rfl); clear hK K) | (refine hK _ ?_; clear hK K))
      refine wpSteady_nil ?_
      refine reg_seg 2 2 4 (by kernel_rfl) (by decide) (by kernel_rfl) (by kernel_rfl) (fun _ _ _ _ _ h => h) ?_
      simp only [List.take_succ_cons, List.take_zero, List.drop_succ_cons, List.drop_zero]
      repeat (refine wpSteady_step (fun K hK => ?_); go_simp; first | (refine steady_of ?_ (fun W hW => ?_) (hK _ ?_); rotate_left; (obtain ⟨c1, c2⟩ := hW; go_simp; first | done | rfl); clear hK K) | (refine hK _ ?_; clear hK K))
      refine wpSteady_nil ?_
      refine reg_one 1 3 (by kernel_rfl) (by kernel_rfl) ⟨t0, t1⟩ ?_
      simp only [List.take_succ_cons, List.take_zero, List.drop_succ_cons, List.drop_zero]
      go_wp2_with fail
      refine (unhide MA _).mono ?_
      rintro e w2 ⟨p, rfl, hp, k2, G2⟩
      have k2' := of_drew k2
      have R2 := hide (And.intro (bT (unhide R).1 k2') (And.intro ((unhide R).2.1.step k2') (And.intro ((unhide R).2.2.1.step k2') ((unhide R).2.2.2.step k2'))))
      have HB2 := hide G2
      clear t0 t1 R k2 k2' G2
      obtain ⟨t0, t1⟩ := (unhide R2).2.2.2.at2
      go_wp2_with fail
      first | refine next_nil ?_ | refine next_go ?_
      refine reg_one 4 2 (by kernel_rfl) (by kernel_rfl) ⟨t0, t1⟩ ?_
      simp only [List.take_succ_cons, List.take_zero, List.drop_succ_cons, List.drop_zero]
      go_wp2_with fail
      refine (unhide MB _).mono ?_
      rintro e w3 ⟨q, rfl, hq, k3, G3⟩
      have R := hide (And.intro (bT (unhide R2).1 k3) (And.intro ((unhide R2).2.1.step k3) (And.intro ((unhide R2).2.2.1.step k3) ((unhide R2).2.2.2.step k3))))
      have HB3 := hide ((unhide HB2).step k3)
      have HC3 := hide G3
      clear t0 t1 R2 k3 G3
      obtain ⟨t0, t1⟩ := (unhide R).2.2.2.at2
      go_wp2_with fail
      first | refine next_nil ?_ | refine next_go ?_
      refine reg_one 5 1 (by kernel_rfl) (by kernel_rfl) ⟨t0, t1⟩ ?_
      simp only [List.take_succ_cons, List.take_zero, List.drop_succ_cons, List.drop_zero]
      go_wp2_with fail
      refine (cmp_big p q n M w3 (unhide HB3) (unhide HC3) (by omega) (by omega)).mono ?_
      rintro e w4 ⟨⟨jj, rfl⟩, rfl⟩
      have kd : Below w3.heap.size w3 (w3.drewN jj) := below_drewN (Below.refl _ _) jj
      have R' := hide (And.intro (bT (unhide R).1 kd) (And.intro ((unhide R).2.1.step kd) (And.intro ((unhide R).2.2.1.step kd) ((unhide R).2.2.2.step kd))))
      clear t0 t1 R HB3 HC3 kd
      have R := R'
      clear R'
      generalize w3.drewN jj = w4 at *
      obtain ⟨t0, t1⟩ := (unhide R).2.2.2.at2
      go_wp2_with fail
      first | refine next_nil ?_ | refine next_go ?_
      refine reg_one 6 0 (by kernel_rfl) (by kernel_rfl) ⟨t0, t1⟩ ?_
      simp only [List.take_succ_cons, List.take_zero, List.drop_succ_cons, List.drop_zero]
      go_wp2_with fail
      first | refine next_nil ?_ | refine next_go ?_
      refine reg_end (by kernel_rfl) ⟨t0, t1⟩ ?_
      have ll := (unhide R).2.1.1
      obtain ⟨r0, r1⟩ := (unhide R).2.1.at2
      have rf := (unhide R).2.1.2.2
      by_cases hz : n ≤ gr 64 (!u)
      · have dz : (cm n M == 0) = true := by rw [beq_iff_eq]; exact cm_zero.2 (hl.2 hz)
        unfold Hid at HL
        rw [if_neg (by have := (unhide N).1 (by decide); omega)] at HL
        rw [if_neg (by have := (unhide N).2.1 (by decide); omega)] at HL
        rw [if_pos hz] at HL
        simp only [Prod.mk.injEq] at HL
        obtain ⟨rfl, rfl, rfl⟩ := HL
        have p0 := (unhide R).2.1.put0
        have p1 := (unhide R).2.1.put1
        go_wp2_with fail
        exact bodyPost_ret (v := .tuple #[.agg #[.int .i64 64, .bool (!u)], .int .i64 0]) (by simp [results, Tryz.results10, go_sem, p0, p1]) rfl ⟨rfl, below_2 (unhide R).1 (Nat.le_refl _) _ _⟩
      · have dz : (cm n M == 0) = false := by rw [beq_eq_false_iff_ne]; exact fun h => hz (hl.1 (cm_zero.1 h))
        have hz' := hide hz
        clear hz hl
        go_wp2_with fail
        go_roundg 0
        case measure => omega
        case rel => exact ⟨3, by decide, rfl, rfl, hide (And.intro (unhide R).1 (And.intro (unhide R).2.1 (unhide R).2.2.1)), ⟨(fun _ => by have := (unhide N).1 (by decide); omega), (fun _ => by have := (unhide N).2.1 (by decide); omega), (fun _ => unhide hz')⟩⟩
    · unfold Hid at HL
      rw [if_neg (by have := (unhide N).1 (by decide); omega), if_neg (by have := (unhide N).2.1 (by decide); omega), if_neg (by have := (unhide N).2.2 (by decide); omega)] at HL
      simp only [Prod.mk.injEq] at HL
      obtain ⟨rfl, rfl, rfl⟩ := HL
      obtain ⟨r0, r1⟩ := (unhide I).2.1.at2
      have rf := (unhide I).2.1.2.2
      have p0 := (unhide I).2.1.put0
      have p1 := (unhide I).2.1.put1
      go_wp2_with fail
      exact bodyPost_ret (v := .tuple #[.agg #[.int .i64 0, .bool false], .int .i64 3]) (by simp [results, Tryz.results10, go_sem, p0, p1]) rfl ⟨rfl, below_2 (unhide I).1 (Nat.le_refl _) _ _⟩
end Go.Proofs.YtjddpfojllefgaaGreat
