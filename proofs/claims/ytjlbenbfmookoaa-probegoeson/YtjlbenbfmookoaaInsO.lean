/-
  instr.One: the instruction whose words begin at a place.
-/
import Derived.Test.YtjlbenbfmookoaaInsE2
import Derived.Deep.RegionWith
import Derived.BigRegion
namespace Go.Proofs.Ytjlbenbfmookoaa
open Go.RowKit
set_option linter.unusedSimpArgs false
set_option linter.unusedVariables false

theorem oneA_neg {xs : List Int} {p : Int} (h : p < 0) : oneA xs p = (zeroI, 0) := by unfold oneA; rw [if_neg (by omega)]
theorem oneA_end {xs : List Int} {p : Int} (h : (xs.length : Int) ≤ p) : oneA xs p = (zeroI, 0) := by
  unfold oneA; rw [if_pos (by omega), List.drop_eq_nil_of_le (by omega)]; rfl
theorem oneA_at {xs : List Int} (k : Nat) (h : k < xs.length) : oneA xs k = one (xs[k] :: xs.drop (k + 1)) := by
  unfold oneA; rw [if_pos (by omega), ← drop_at xs k h]; rfl
theorem one_kind {x : Int} {r : List Int} (h : kn (x / 1024) = false) : one (x :: r) = (zeroI, 0) := by
  rw [one_one (by rw [(kn_no h).2.2]; decide)]
  have : fit (with2 x 0) x = false := by
    unfold fit
    rw [wr_no (i := with2 x 0) h]; simp
  rw [this]; rfl

set_option maxHeartbeats 2000000 in
theorem iOne_any (xs : List Int) (v : Value) (p : Int) (w : World) (hv : Ints w v xs) :
    Calls Try.prog 19 #[v, .int .i64 p] w fun e w' => e = .returned (.tuple #[agg (oneA xs p).1, .int .i64 (oneA xs p).2]) ∧ Below w.heap.size w w' := by
  obtain ⟨ao, cap, rfl, hmax, hat⟩ := hv.at
  clear hv
  unfold maxLen at hmax
  by_cases hneg : p < 0
  · rw [oneA_neg hneg]
    clear hat
    go_enter Try.func19, Try.ntmps19
    go_wp2
    exact bodyPost_ret (v := .tuple #[.agg #[.int .i64 0, .int .i64 0, .int .i64 0, .int .i64 0], .int .i64 0]) (by simp [results, Try.results19, go_sem]) rfl ⟨rfl, (Below.refl _ _).alloc (Nat.le_refl _) _⟩
  by_cases hend : (xs.length : Int) ≤ p
  · rw [oneA_end hend]
    clear hat
    go_enter Try.func19, Try.ntmps19
    go_wp2
    exact bodyPost_ret (v := .tuple #[.agg #[.int .i64 0, .int .i64 0, .int .i64 0, .int .i64 0], .int .i64 0]) (by simp [results, Try.results19, go_sem]) rfl ⟨rfl, (Below.refl _ _).alloc (Nat.le_refl _) _⟩
  obtain ⟨k, rfl⟩ : ∃ k : Nat, p = k := ⟨p.toNat, by omega⟩
  have hk : k < xs.length := by omega
  have hne : xs ≠ [] := by intro h; rw [h] at hk; simp at hk
  obtain ⟨b, off, rfl, hb, hc⟩ := hat hne
  clear hat hne
  have ck := hc k hk
  rw [oneA_at k hk]
  by_cases hkn : kn (xs[k] / 1024) = false
  · rw [one_kind hkn]
    have h0 := ke_no hkn
    clear hc hkn
    generalize xs[k] = x at *
    go_enter Try.func19, Try.ntmps19
    go_wp2_with (first | (go_at_call 35; refine (fromFirst_any _ _).mono ?_; rintro e w1 ⟨rfl, k1⟩; obtain ⟨hcl, hf⟩ := bcell k1; have hlt := lt1 k1) | (go_at_call 36; refine (fo_any _ _).mono ?_; rintro e w2 ⟨rfl, k2⟩; unfold fo; obtain ⟨hcl2, hf2⟩ := bcell k2; have hlt2 := lt1 k2; have hlt3 : w.heap.size < w2.heap.size := (by omega)))
    have B2 := hideI (((Box.new w #[.int .i64 0, .int .i64 0, .int .i64 0, .int .i64 0] 49).step (bt k1 (bt (below_a _ _) k2))))
    have z := (unhideI B2).at4
    have zf := (unhideI B2).2.2
    exact bodyPost_ret (v := .tuple #[.agg #[.int .i64 0, .int .i64 0, .int .i64 0, .int .i64 0], .int .i64 0]) (by simp [results, Try.results19, go_sem, z, zf, hlt3]) rfl ⟨rfl, (by repeat (first | exact bt (below_a _ _) (bt k1 (bt (below_a _ _) k2)) | refine Below.setCell ?_ (by first | exact Nat.le_refl _ | (simp; done) | omega | (simp; omega)) _ | refine Below.alloc ?_ (by first | (simp; done) | omega | (simp; omega)) _))⟩
  have hkn' : kn (xs[k] / 1024) = true := by simpa using hkn
  have h0 := ke_yes hkn'
  clear hkn hkn'
  by_cases hi : hI (xs[k] / 1024) = true
  · by_cases hk1 : k + 1 < xs.length
    · have ck1 := hc (k + 1) hk1
      rw [drop_at xs (k + 1) hk1, one_two hi]
      clear hc
      generalize xs[k] = x at *
      generalize xs[k + 1] = y at *
      by_cases hw : wrg (with2 x y) = 0
      · by_cases hx : fst (with2 x y) = x
        · rw [if_pos (show fit (with2 x y) x = true by unfold fit; simp [hw, hx])]
          have WA := fun w => wrong_any (with2 x y) w
          have FA := fun w => first_ok (with2 x y) w hw
          rw [hw] at WA
          rw [hx] at FA
          clear hw hx
          unfold agg with2 at WA
          unfold agg fag with2 at FA
          dsimp only at WA FA
          rw [hi] at FA
          go_enter Try.func19, Try.ntmps19
          go_wp2_with (first | (go_at_call 35; refine (fromFirst_any _ _).mono ?_; rintro e w1 ⟨rfl, k1⟩; obtain ⟨hcl, hf⟩ := bcell k1; have hlt := lt1 k1) | (go_at_call 36; refine (fo_any _ _).mono ?_; rintro e w2 ⟨rfl, k2⟩; unfold fo; obtain ⟨hcl2, hf2⟩ := bcell k2; have hlt2 := lt1 k2; have hlt3 : w.heap.size < w2.heap.size := (by omega)) | (go_at_call 37; refine (long_any _ _ _ _).mono ?_; rintro e w3 ⟨rfl, k3⟩; have hlt4 := lt1 k3; have l1 : w1.heap.size < w3.heap.size := (by omega); have l2 : w.heap.size < w3.heap.size := (by omega); have l3 : b < w3.heap.size := (by omega); have bi := hideI ((Box.new w1 #[.int .i64 (x / 1024), .int .i64 (x / 128 % 8), .int .i64 (x / 16 % 8), .int .i64 0] 49).step (bt k2 (bt (below_a _ _) k3))); have bh := hideI ((Box.new w2 #[.bool (hD (x / 1024)), .bool (hS (x / 1024)), .bool (hI (x / 1024))] 80).step (by rw [hi]; exact k3)); have bz := hideI ((Box.new w #[.int .i64 0, .int .i64 0, .int .i64 0, .int .i64 0] 49).step (bt k1 (bt (below_a _ _) (bt k2 (bt (below_a _ _) k3))))); clear hcl hf hcl2 hf2; obtain ⟨i0, i1, i2, i3⟩ := (unhideI bi).at4; have i4 := (unhideI bi).2.2; obtain ⟨g0, g1, g2⟩ := (unhideI bh).at3; obtain ⟨z0, z1, z2, z3⟩ := (unhideI bz).at4; have z4 := (unhideI bz).2.2; have kk := hideI (bt (bt (below_a _ _) (bt k1 (bt (below_a _ _) k2))) (bt (below_a _ _) k3)); have ck3 := (cell_keep (unhideI kk) hb ck); have ck4 := (cell_keep (unhideI kk) hb ck1)))
          refine wp_region_later (by kernel_rfl) (by kernel_rfl) ?_
          intro L hne lt hlc hlf hlm
          repeat (go_big_quiet_step (first | (go_at_call 38; exact later_call hlm (WA _)) | (go_at_call 39; exact later_call hlm (FA _))))
          refine wpQuiet_nil ?_
          intro wq kq
          clear hlm hlf hlc lt hne L
          obtain ⟨hqc, hqf⟩ := below_cells kq
          have qi := hideI (((unhideI bi).set (j := 3) (u := .int .i64 y) (by simp)).step kq)
          have qh := hideI (((unhideI bh).other (b' := w1.heap.size) (j := 3) (u := .int .i64 y) (by omega)).step kq)
          have qz := hideI (((unhideI bz).other (b' := w1.heap.size) (j := 3) (u := .int .i64 y) (by omega)).step kq)
          have kw := hideI (((unhideI kk).setCell (p := ⟨w1.heap.size, 3, none⟩) (by show w.heap.size ≤ w1.heap.size; omega) (.int .i64 y)).trans (kq.mono (by simp; omega)))
          have lq : w3.heap.size ≤ wq.heap.size := by have := kq.size; simpa using this
          clear hqc hqf i0 i1 i2 i3 i4 g0 g1 g2 z0 z1 z2 z3 z4 ck3 ck4
          obtain ⟨i0, i1, i2, i3⟩ := (unhideI qi).at4
          have i4 := (unhideI qi).2.2
          obtain ⟨g0, g1, g2⟩ := (unhideI qh).at3
          obtain ⟨z0, z1, z2, z3⟩ := (unhideI qz).at4
          have z4 := (unhideI qz).2.2
          have l4 : w.heap.size < wq.heap.size := by omega
          have l5 : w1.heap.size < wq.heap.size := by omega
          have l6 : w2.heap.size < wq.heap.size := by omega
          go_wp2_with fail
          go_region_with ((go_at_call 37; refine (long_any _ _ _ _).mono ?_; rintro e w4 ⟨rfl, k4⟩; have k5 : Below wq.heap.size wq w4 := ⟨k4.os, k4.tape, k4.output, k4.size, k4.block⟩; have l7 : w.heap.size < w4.heap.size := (Nat.lt_of_lt_of_le l4 k5.size); obtain ⟨j0, j1, j2, j3⟩ := ((unhideI qi).step k5).at4; obtain ⟨y0, y1, y2, y3⟩ := ((unhideI qz).step k5).at4; have y4 := ((unhideI qz).step k5).2.2; have kx := hideI (bt (unhideI kw) k5)))
          all_goals
            go_wp2_with fail
            exact bodyPost_ret (v := .tuple #[.agg #[.int .i64 (x / 1024), .int .i64 (x / 128 % 8), .int .i64 (x / 16 % 8), .int .i64 y], .int .i64 2]) (by simp [results, Try.results19, go_sem, y0, y1, y2, y3, y4]) rfl ⟨rfl, (by repeat (first | exact unhideI kx | refine Below.setCell ?_ (by first | exact Nat.le_refl _ | (simp; done) | omega | (simp; omega)) _ | refine Below.alloc ?_ (by first | (simp; done) | omega | (simp; omega)) _))⟩
        · rw [if_neg (show ¬ fit (with2 x y) x = true by unfold fit; simp [hx])]
          have WA := fun w => wrong_any (with2 x y) w
          have FA := fun w => first_ok (with2 x y) w hw
          rw [hw] at WA
          clear hw
          unfold agg with2 at WA
          unfold agg fag at FA
          dsimp only at WA
          generalize fst (with2 x y) = q at *
          unfold with2 at FA
          dsimp only at FA
          rw [hi] at FA
          have hx1 : (q != x) = true := by simp [hx]
          go_enter Try.func19, Try.ntmps19
          go_wp2_with (first | (go_at_call 35; refine (fromFirst_any _ _).mono ?_; rintro e w1 ⟨rfl, k1⟩; obtain ⟨hcl, hf⟩ := bcell k1; have hlt := lt1 k1) | (go_at_call 36; refine (fo_any _ _).mono ?_; rintro e w2 ⟨rfl, k2⟩; unfold fo; obtain ⟨hcl2, hf2⟩ := bcell k2; have hlt2 := lt1 k2; have hlt3 : w.heap.size < w2.heap.size := (by omega)) | (go_at_call 37; refine (long_any _ _ _ _).mono ?_; rintro e w3 ⟨rfl, k3⟩; have hlt4 := lt1 k3; have l1 : w1.heap.size < w3.heap.size := (by omega); have l2 : w.heap.size < w3.heap.size := (by omega); have l3 : b < w3.heap.size := (by omega); have bi := hideI ((Box.new w1 #[.int .i64 (x / 1024), .int .i64 (x / 128 % 8), .int .i64 (x / 16 % 8), .int .i64 0] 49).step (bt k2 (bt (below_a _ _) k3))); have bh := hideI ((Box.new w2 #[.bool (hD (x / 1024)), .bool (hS (x / 1024)), .bool (hI (x / 1024))] 80).step (by rw [hi]; exact k3)); have bz := hideI ((Box.new w #[.int .i64 0, .int .i64 0, .int .i64 0, .int .i64 0] 49).step (bt k1 (bt (below_a _ _) (bt k2 (bt (below_a _ _) k3))))); clear hcl hf hcl2 hf2; obtain ⟨i0, i1, i2, i3⟩ := (unhideI bi).at4; have i4 := (unhideI bi).2.2; obtain ⟨g0, g1, g2⟩ := (unhideI bh).at3; obtain ⟨z0, z1, z2, z3⟩ := (unhideI bz).at4; have z4 := (unhideI bz).2.2; have kk := hideI (bt (bt (below_a _ _) (bt k1 (bt (below_a _ _) k2))) (bt (below_a _ _) k3)); have ck3 := (cell_keep (unhideI kk) hb ck); have ck4 := (cell_keep (unhideI kk) hb ck1)))
          refine wp_region_later (by kernel_rfl) (by kernel_rfl) ?_
          intro L hne lt hlc hlf hlm
          repeat (go_big_quiet_step (first | (go_at_call 38; exact later_call hlm (WA _)) | (go_at_call 39; exact later_call hlm (FA _))))
          refine wpQuiet_nil ?_
          intro wq kq
          clear hlm hlf hlc lt hne L
          obtain ⟨hqc, hqf⟩ := below_cells kq
          have qi := hideI (((unhideI bi).set (j := 3) (u := .int .i64 y) (by simp)).step kq)
          have qh := hideI (((unhideI bh).other (b' := w1.heap.size) (j := 3) (u := .int .i64 y) (by omega)).step kq)
          have qz := hideI (((unhideI bz).other (b' := w1.heap.size) (j := 3) (u := .int .i64 y) (by omega)).step kq)
          have kw := hideI (((unhideI kk).setCell (p := ⟨w1.heap.size, 3, none⟩) (by show w.heap.size ≤ w1.heap.size; omega) (.int .i64 y)).trans (kq.mono (by simp; omega)))
          have lq : w3.heap.size ≤ wq.heap.size := by have := kq.size; simpa using this
          clear hqc hqf i0 i1 i2 i3 i4 g0 g1 g2 z0 z1 z2 z3 z4 ck3 ck4
          obtain ⟨i0, i1, i2, i3⟩ := (unhideI qi).at4
          have i4 := (unhideI qi).2.2
          obtain ⟨g0, g1, g2⟩ := (unhideI qh).at3
          obtain ⟨z0, z1, z2, z3⟩ := (unhideI qz).at4
          have z4 := (unhideI qz).2.2
          have l4 : w.heap.size < wq.heap.size := by omega
          have l5 : w1.heap.size < wq.heap.size := by omega
          have l6 : w2.heap.size < wq.heap.size := by omega
          go_wp2_with fail
          exact bodyPost_ret (v := .tuple #[.agg #[.int .i64 0, .int .i64 0, .int .i64 0, .int .i64 0], .int .i64 0]) (by simp [results, Try.results19, go_sem, z0, z1, z2, z3, z4]) rfl ⟨rfl, (by repeat (first | exact unhideI kw | refine Below.setCell ?_ (by first | exact Nat.le_refl _ | (simp; done) | omega | (simp; omega)) _ | refine Below.alloc ?_ (by first | (simp; done) | omega | (simp; omega)) _))⟩
      · rw [if_neg (show ¬ fit (with2 x y) x = true by unfold fit; simp [hw])]
        have WA := fun w => wrong_any (with2 x y) w
        have hw1 : (wrg (with2 x y) != 0) = true := by simp [hw]
        clear hw
        generalize wrg (with2 x y) = q at *
        unfold agg with2 at WA
        dsimp only at WA
        go_enter Try.func19, Try.ntmps19
        go_wp2_with (first | (go_at_call 35; refine (fromFirst_any _ _).mono ?_; rintro e w1 ⟨rfl, k1⟩; obtain ⟨hcl, hf⟩ := bcell k1; have hlt := lt1 k1) | (go_at_call 36; refine (fo_any _ _).mono ?_; rintro e w2 ⟨rfl, k2⟩; unfold fo; obtain ⟨hcl2, hf2⟩ := bcell k2; have hlt2 := lt1 k2; have hlt3 : w.heap.size < w2.heap.size := (by omega)) | (go_at_call 37; refine (long_any _ _ _ _).mono ?_; rintro e w3 ⟨rfl, k3⟩; have hlt4 := lt1 k3; have l1 : w1.heap.size < w3.heap.size := (by omega); have l2 : w.heap.size < w3.heap.size := (by omega); have l3 : b < w3.heap.size := (by omega); have bi := hideI ((Box.new w1 #[.int .i64 (x / 1024), .int .i64 (x / 128 % 8), .int .i64 (x / 16 % 8), .int .i64 0] 49).step (bt k2 (bt (below_a _ _) k3))); have bh := hideI ((Box.new w2 #[.bool (hD (x / 1024)), .bool (hS (x / 1024)), .bool (hI (x / 1024))] 80).step (by rw [hi]; exact k3)); have bz := hideI ((Box.new w #[.int .i64 0, .int .i64 0, .int .i64 0, .int .i64 0] 49).step (bt k1 (bt (below_a _ _) (bt k2 (bt (below_a _ _) k3))))); clear hcl hf hcl2 hf2; obtain ⟨i0, i1, i2, i3⟩ := (unhideI bi).at4; have i4 := (unhideI bi).2.2; obtain ⟨g0, g1, g2⟩ := (unhideI bh).at3; obtain ⟨z0, z1, z2, z3⟩ := (unhideI bz).at4; have z4 := (unhideI bz).2.2; have kk := hideI (bt (bt (below_a _ _) (bt k1 (bt (below_a _ _) k2))) (bt (below_a _ _) k3)); have ck3 := (cell_keep (unhideI kk) hb ck); have ck4 := (cell_keep (unhideI kk) hb ck1)))
        refine wp_region_later (by kernel_rfl) (by kernel_rfl) ?_
        intro L hne lt hlc hlf hlm
        repeat (go_big_quiet_step ((go_at_call 38; exact later_call hlm (WA _))))
        refine wpQuiet_nil ?_
        intro wq kq
        clear hlm hlf hlc lt hne L
        obtain ⟨hqc, hqf⟩ := below_cells kq
        have qi := hideI (((unhideI bi).set (j := 3) (u := .int .i64 y) (by simp)).step kq)
        have qh := hideI (((unhideI bh).other (b' := w1.heap.size) (j := 3) (u := .int .i64 y) (by omega)).step kq)
        have qz := hideI (((unhideI bz).other (b' := w1.heap.size) (j := 3) (u := .int .i64 y) (by omega)).step kq)
        have kw := hideI (((unhideI kk).setCell (p := ⟨w1.heap.size, 3, none⟩) (by show w.heap.size ≤ w1.heap.size; omega) (.int .i64 y)).trans (kq.mono (by simp; omega)))
        have lq : w3.heap.size ≤ wq.heap.size := by have := kq.size; simpa using this
        clear hqc hqf i0 i1 i2 i3 i4 g0 g1 g2 z0 z1 z2 z3 z4 ck3 ck4
        obtain ⟨i0, i1, i2, i3⟩ := (unhideI qi).at4
        have i4 := (unhideI qi).2.2
        obtain ⟨g0, g1, g2⟩ := (unhideI qh).at3
        obtain ⟨z0, z1, z2, z3⟩ := (unhideI qz).at4
        have z4 := (unhideI qz).2.2
        have l4 : w.heap.size < wq.heap.size := by omega
        have l5 : w1.heap.size < wq.heap.size := by omega
        have l6 : w2.heap.size < wq.heap.size := by omega
        go_wp2_with fail
        exact bodyPost_ret (v := .tuple #[.agg #[.int .i64 0, .int .i64 0, .int .i64 0, .int .i64 0], .int .i64 0]) (by simp [results, Try.results19, go_sem, z0, z1, z2, z3, z4]) rfl ⟨rfl, (by repeat (first | exact unhideI kw | refine Below.setCell ?_ (by first | exact Nat.le_refl _ | (simp; done) | omega | (simp; omega)) _ | refine Below.alloc ?_ (by first | (simp; done) | omega | (simp; omega)) _))⟩
    · rw [List.drop_eq_nil_of_le (by omega), one_end hi]
      clear hc
      generalize xs[k] = x at *
      go_enter Try.func19, Try.ntmps19
      go_wp2_with (first | (go_at_call 35; refine (fromFirst_any _ _).mono ?_; rintro e w1 ⟨rfl, k1⟩; obtain ⟨hcl, hf⟩ := bcell k1; have hlt := lt1 k1) | (go_at_call 36; refine (fo_any _ _).mono ?_; rintro e w2 ⟨rfl, k2⟩; unfold fo; obtain ⟨hcl2, hf2⟩ := bcell k2; have hlt2 := lt1 k2; have hlt3 : w.heap.size < w2.heap.size := (by omega)) | (go_at_call 37; refine (long_any _ _ _ _).mono ?_; rintro e w3 ⟨rfl, k3⟩; have hlt4 := lt1 k3; have l1 : w1.heap.size < w3.heap.size := (by omega); have l2 : w.heap.size < w3.heap.size := (by omega); have l3 : b < w3.heap.size := (by omega); have bi := hideI ((Box.new w1 #[.int .i64 (x / 1024), .int .i64 (x / 128 % 8), .int .i64 (x / 16 % 8), .int .i64 0] 49).step (bt k2 (bt (below_a _ _) k3))); have bh := hideI ((Box.new w2 #[.bool (hD (x / 1024)), .bool (hS (x / 1024)), .bool (hI (x / 1024))] 80).step (by rw [hi]; exact k3)); have bz := hideI ((Box.new w #[.int .i64 0, .int .i64 0, .int .i64 0, .int .i64 0] 49).step (bt k1 (bt (below_a _ _) (bt k2 (bt (below_a _ _) k3))))); clear hcl hf hcl2 hf2; obtain ⟨i0, i1, i2, i3⟩ := (unhideI bi).at4; have i4 := (unhideI bi).2.2; obtain ⟨g0, g1, g2⟩ := (unhideI bh).at3; obtain ⟨z0, z1, z2, z3⟩ := (unhideI bz).at4; have z4 := (unhideI bz).2.2; have kk := hideI (bt (bt (below_a _ _) (bt k1 (bt (below_a _ _) k2))) (bt (below_a _ _) k3)); have ck3 := (cell_keep (unhideI kk) hb ck)))
      exact bodyPost_ret (v := .tuple #[.agg #[.int .i64 0, .int .i64 0, .int .i64 0, .int .i64 0], .int .i64 0]) (by simp [results, Try.results19, go_sem, z0, z1, z2, z3, z4]) rfl ⟨rfl, (by repeat (first | exact unhideI kk | refine Below.setCell ?_ (by first | exact Nat.le_refl _ | (simp; done) | omega | (simp; omega)) _ | refine Below.alloc ?_ (by first | (simp; done) | omega | (simp; omega)) _))⟩
  · rw [one_one hi]
    replace hi : hI (xs[k] / 1024) = false := by simpa using hi
    clear hc
    generalize xs[k] = x at *
    by_cases hw : wrg (with2 x 0) = 0
    · by_cases hx : fst (with2 x 0) = x
      · rw [if_pos (show fit (with2 x 0) x = true by unfold fit; simp [hw, hx])]
        have WA := fun w => wrong_any (with2 x 0) w
        have FA := fun w => first_ok (with2 x 0) w hw
        rw [hw] at WA
        rw [hx] at FA
        clear hw hx
        unfold agg with2 at WA
        unfold agg fag with2 at FA
        dsimp only at WA FA
        rw [hi] at FA
        go_enter Try.func19, Try.ntmps19
        go_wp2_with (first | (go_at_call 35; refine (fromFirst_any _ _).mono ?_; rintro e w1 ⟨rfl, k1⟩; obtain ⟨hcl, hf⟩ := bcell k1; have hlt := lt1 k1) | (go_at_call 36; refine (fo_any _ _).mono ?_; rintro e w2 ⟨rfl, k2⟩; unfold fo; obtain ⟨hcl2, hf2⟩ := bcell k2; have hlt2 := lt1 k2; have hlt3 : w.heap.size < w2.heap.size := (by omega)) | (go_at_call 37; refine (long_any _ _ _ _).mono ?_; rintro e w3 ⟨rfl, k3⟩; have hlt4 := lt1 k3; have l1 : w1.heap.size < w3.heap.size := (by omega); have l2 : w.heap.size < w3.heap.size := (by omega); have l3 : b < w3.heap.size := (by omega); have bi := hideI ((Box.new w1 #[.int .i64 (x / 1024), .int .i64 (x / 128 % 8), .int .i64 (x / 16 % 8), .int .i64 0] 49).step (bt k2 (bt (below_a _ _) k3))); have bh := hideI ((Box.new w2 #[.bool (hD (x / 1024)), .bool (hS (x / 1024)), .bool (hI (x / 1024))] 80).step (by rw [hi]; exact k3)); have bz := hideI ((Box.new w #[.int .i64 0, .int .i64 0, .int .i64 0, .int .i64 0] 49).step (bt k1 (bt (below_a _ _) (bt k2 (bt (below_a _ _) k3))))); clear hcl hf hcl2 hf2; obtain ⟨i0, i1, i2, i3⟩ := (unhideI bi).at4; have i4 := (unhideI bi).2.2; obtain ⟨g0, g1, g2⟩ := (unhideI bh).at3; obtain ⟨z0, z1, z2, z3⟩ := (unhideI bz).at4; have z4 := (unhideI bz).2.2; have kk := hideI (bt (bt (below_a _ _) (bt k1 (bt (below_a _ _) k2))) (bt (below_a _ _) k3)); have ck3 := (cell_keep (unhideI kk) hb ck)))
        refine wp_region_later (by kernel_rfl) (by kernel_rfl) ?_
        intro L hne lt hlc hlf hlm
        repeat (go_big_quiet_step (first | (go_at_call 38; exact later_call hlm (WA _)) | (go_at_call 39; exact later_call hlm (FA _))))
        refine wpQuiet_nil ?_
        intro wq kq
        clear hlm hlf hlc lt hne L
        obtain ⟨hqc, hqf⟩ := below_cells kq
        have qi := hideI ((unhideI bi).step kq)
        have qh := hideI ((unhideI bh).step kq)
        have qz := hideI ((unhideI bz).step kq)
        have kw := hideI (bt (unhideI kk) kq)
        have lq : w3.heap.size ≤ wq.heap.size := kq.size
        clear hqc hqf i0 i1 i2 i3 i4 g0 g1 g2 z0 z1 z2 z3 z4 ck3
        obtain ⟨i0, i1, i2, i3⟩ := (unhideI qi).at4
        have i4 := (unhideI qi).2.2
        obtain ⟨g0, g1, g2⟩ := (unhideI qh).at3
        obtain ⟨z0, z1, z2, z3⟩ := (unhideI qz).at4
        have z4 := (unhideI qz).2.2
        have l4 : w.heap.size < wq.heap.size := by omega
        have l5 : w1.heap.size < wq.heap.size := by omega
        have l6 : w2.heap.size < wq.heap.size := by omega
        go_wp2_with fail
        go_region_with ((go_at_call 37; refine (long_any _ _ _ _).mono ?_; rintro e w4 ⟨rfl, k4⟩; have k5 : Below wq.heap.size wq w4 := ⟨k4.os, k4.tape, k4.output, k4.size, k4.block⟩; have l7 : w.heap.size < w4.heap.size := (Nat.lt_of_lt_of_le l4 k5.size); obtain ⟨j0, j1, j2, j3⟩ := ((unhideI qi).step k5).at4; obtain ⟨y0, y1, y2, y3⟩ := ((unhideI qz).step k5).at4; have y4 := ((unhideI qz).step k5).2.2; have kx := hideI (bt (unhideI kw) k5)))
        all_goals
          go_wp2_with fail
          exact bodyPost_ret (v := .tuple #[.agg #[.int .i64 (x / 1024), .int .i64 (x / 128 % 8), .int .i64 (x / 16 % 8), .int .i64 0], .int .i64 1]) (by simp [results, Try.results19, go_sem, y0, y1, y2, y3, y4]) rfl ⟨rfl, (by repeat (first | exact unhideI kx | refine Below.setCell ?_ (by first | exact Nat.le_refl _ | (simp; done) | omega | (simp; omega)) _ | refine Below.alloc ?_ (by first | (simp; done) | omega | (simp; omega)) _))⟩
      · rw [if_neg (show ¬ fit (with2 x 0) x = true by unfold fit; simp [hx])]
        have WA := fun w => wrong_any (with2 x 0) w
        have FA := fun w => first_ok (with2 x 0) w hw
        rw [hw] at WA
        clear hw
        unfold agg with2 at WA
        unfold agg fag at FA
        dsimp only at WA
        generalize fst (with2 x 0) = q at *
        unfold with2 at FA
        dsimp only at FA
        rw [hi] at FA
        have hx1 : (q != x) = true := by simp [hx]
        go_enter Try.func19, Try.ntmps19
        go_wp2_with (first | (go_at_call 35; refine (fromFirst_any _ _).mono ?_; rintro e w1 ⟨rfl, k1⟩; obtain ⟨hcl, hf⟩ := bcell k1; have hlt := lt1 k1) | (go_at_call 36; refine (fo_any _ _).mono ?_; rintro e w2 ⟨rfl, k2⟩; unfold fo; obtain ⟨hcl2, hf2⟩ := bcell k2; have hlt2 := lt1 k2; have hlt3 : w.heap.size < w2.heap.size := (by omega)) | (go_at_call 37; refine (long_any _ _ _ _).mono ?_; rintro e w3 ⟨rfl, k3⟩; have hlt4 := lt1 k3; have l1 : w1.heap.size < w3.heap.size := (by omega); have l2 : w.heap.size < w3.heap.size := (by omega); have l3 : b < w3.heap.size := (by omega); have bi := hideI ((Box.new w1 #[.int .i64 (x / 1024), .int .i64 (x / 128 % 8), .int .i64 (x / 16 % 8), .int .i64 0] 49).step (bt k2 (bt (below_a _ _) k3))); have bh := hideI ((Box.new w2 #[.bool (hD (x / 1024)), .bool (hS (x / 1024)), .bool (hI (x / 1024))] 80).step (by rw [hi]; exact k3)); have bz := hideI ((Box.new w #[.int .i64 0, .int .i64 0, .int .i64 0, .int .i64 0] 49).step (bt k1 (bt (below_a _ _) (bt k2 (bt (below_a _ _) k3))))); clear hcl hf hcl2 hf2; obtain ⟨i0, i1, i2, i3⟩ := (unhideI bi).at4; have i4 := (unhideI bi).2.2; obtain ⟨g0, g1, g2⟩ := (unhideI bh).at3; obtain ⟨z0, z1, z2, z3⟩ := (unhideI bz).at4; have z4 := (unhideI bz).2.2; have kk := hideI (bt (bt (below_a _ _) (bt k1 (bt (below_a _ _) k2))) (bt (below_a _ _) k3)); have ck3 := (cell_keep (unhideI kk) hb ck)))
        refine wp_region_later (by kernel_rfl) (by kernel_rfl) ?_
        intro L hne lt hlc hlf hlm
        repeat (go_big_quiet_step (first | (go_at_call 38; exact later_call hlm (WA _)) | (go_at_call 39; exact later_call hlm (FA _))))
        refine wpQuiet_nil ?_
        intro wq kq
        clear hlm hlf hlc lt hne L
        obtain ⟨hqc, hqf⟩ := below_cells kq
        have qi := hideI ((unhideI bi).step kq)
        have qh := hideI ((unhideI bh).step kq)
        have qz := hideI ((unhideI bz).step kq)
        have kw := hideI (bt (unhideI kk) kq)
        have lq : w3.heap.size ≤ wq.heap.size := kq.size
        clear hqc hqf i0 i1 i2 i3 i4 g0 g1 g2 z0 z1 z2 z3 z4 ck3
        obtain ⟨i0, i1, i2, i3⟩ := (unhideI qi).at4
        have i4 := (unhideI qi).2.2
        obtain ⟨g0, g1, g2⟩ := (unhideI qh).at3
        obtain ⟨z0, z1, z2, z3⟩ := (unhideI qz).at4
        have z4 := (unhideI qz).2.2
        have l4 : w.heap.size < wq.heap.size := by omega
        have l5 : w1.heap.size < wq.heap.size := by omega
        have l6 : w2.heap.size < wq.heap.size := by omega
        go_wp2_with fail
        exact bodyPost_ret (v := .tuple #[.agg #[.int .i64 0, .int .i64 0, .int .i64 0, .int .i64 0], .int .i64 0]) (by simp [results, Try.results19, go_sem, z0, z1, z2, z3, z4]) rfl ⟨rfl, (by repeat (first | exact unhideI kw | refine Below.setCell ?_ (by first | exact Nat.le_refl _ | (simp; done) | omega | (simp; omega)) _ | refine Below.alloc ?_ (by first | (simp; done) | omega | (simp; omega)) _))⟩
    · rw [if_neg (show ¬ fit (with2 x 0) x = true by unfold fit; simp [hw])]
      have WA := fun w => wrong_any (with2 x 0) w
      have hw1 : (wrg (with2 x 0) != 0) = true := by simp [hw]
      clear hw
      generalize wrg (with2 x 0) = q at *
      unfold agg with2 at WA
      dsimp only at WA
      go_enter Try.func19, Try.ntmps19
      go_wp2_with (first | (go_at_call 35; refine (fromFirst_any _ _).mono ?_; rintro e w1 ⟨rfl, k1⟩; obtain ⟨hcl, hf⟩ := bcell k1; have hlt := lt1 k1) | (go_at_call 36; refine (fo_any _ _).mono ?_; rintro e w2 ⟨rfl, k2⟩; unfold fo; obtain ⟨hcl2, hf2⟩ := bcell k2; have hlt2 := lt1 k2; have hlt3 : w.heap.size < w2.heap.size := (by omega)) | (go_at_call 37; refine (long_any _ _ _ _).mono ?_; rintro e w3 ⟨rfl, k3⟩; have hlt4 := lt1 k3; have l1 : w1.heap.size < w3.heap.size := (by omega); have l2 : w.heap.size < w3.heap.size := (by omega); have l3 : b < w3.heap.size := (by omega); have bi := hideI ((Box.new w1 #[.int .i64 (x / 1024), .int .i64 (x / 128 % 8), .int .i64 (x / 16 % 8), .int .i64 0] 49).step (bt k2 (bt (below_a _ _) k3))); have bh := hideI ((Box.new w2 #[.bool (hD (x / 1024)), .bool (hS (x / 1024)), .bool (hI (x / 1024))] 80).step (by rw [hi]; exact k3)); have bz := hideI ((Box.new w #[.int .i64 0, .int .i64 0, .int .i64 0, .int .i64 0] 49).step (bt k1 (bt (below_a _ _) (bt k2 (bt (below_a _ _) k3))))); clear hcl hf hcl2 hf2; obtain ⟨i0, i1, i2, i3⟩ := (unhideI bi).at4; have i4 := (unhideI bi).2.2; obtain ⟨g0, g1, g2⟩ := (unhideI bh).at3; obtain ⟨z0, z1, z2, z3⟩ := (unhideI bz).at4; have z4 := (unhideI bz).2.2; have kk := hideI (bt (bt (below_a _ _) (bt k1 (bt (below_a _ _) k2))) (bt (below_a _ _) k3)); have ck3 := (cell_keep (unhideI kk) hb ck)))
      refine wp_region_later (by kernel_rfl) (by kernel_rfl) ?_
      intro L hne lt hlc hlf hlm
      repeat (go_big_quiet_step ((go_at_call 38; exact later_call hlm (WA _))))
      refine wpQuiet_nil ?_
      intro wq kq
      clear hlm hlf hlc lt hne L
      obtain ⟨hqc, hqf⟩ := below_cells kq
      have qi := hideI ((unhideI bi).step kq)
      have qh := hideI ((unhideI bh).step kq)
      have qz := hideI ((unhideI bz).step kq)
      have kw := hideI (bt (unhideI kk) kq)
      have lq : w3.heap.size ≤ wq.heap.size := kq.size
      clear hqc hqf i0 i1 i2 i3 i4 g0 g1 g2 z0 z1 z2 z3 z4 ck3
      obtain ⟨i0, i1, i2, i3⟩ := (unhideI qi).at4
      have i4 := (unhideI qi).2.2
      obtain ⟨g0, g1, g2⟩ := (unhideI qh).at3
      obtain ⟨z0, z1, z2, z3⟩ := (unhideI qz).at4
      have z4 := (unhideI qz).2.2
      have l4 : w.heap.size < wq.heap.size := by omega
      have l5 : w1.heap.size < wq.heap.size := by omega
      have l6 : w2.heap.size < wq.heap.size := by omega
      go_wp2_with fail
      exact bodyPost_ret (v := .tuple #[.agg #[.int .i64 0, .int .i64 0, .int .i64 0, .int .i64 0], .int .i64 0]) (by simp [results, Try.results19, go_sem, z0, z1, z2, z3, z4]) rfl ⟨rfl, (by repeat (first | exact unhideI kw | refine Below.setCell ?_ (by first | exact Nat.le_refl _ | (simp; done) | omega | (simp; omega)) _ | refine Below.alloc ?_ (by first | (simp; done) | omega | (simp; omega)) _))⟩
end Go.Proofs.Ytjlbenbfmookoaa
