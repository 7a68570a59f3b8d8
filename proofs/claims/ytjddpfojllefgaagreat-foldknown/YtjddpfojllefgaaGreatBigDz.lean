/-
  Cmp.
-/
import Derived.Test.YtjddpfojllefgaaGreatBigC
import Derived.Test.YtjddpfojllefgaaGreatBig4
namespace Go.Proofs.YtjddpfojllefgaaGreat
open Go.RowKit
set_option linter.unusedSimpArgs false
set_option linter.unusedVariables false

theorem cm_neg (a b : Int) : -cm a b = cm b a := by
  unfold cm
  by_cases h1 : a < b
  · rw [if_pos h1, if_neg (by omega), if_neg (by omega)]; rfl
  · by_cases h2 : a = b
    · rw [if_neg h1, if_pos h2, if_neg (by omega), if_pos h2.symm]; rfl
    · rw [if_neg h1, if_neg h2, if_pos (by omega)]
theorem cm_congr {a b c d : Int} (h1 : a < b ↔ c < d) (h2 : a = b ↔ c = d) : cm a b = cm c d := by
  unfold cm
  by_cases h : a < b
  · rw [if_pos h, if_pos (h1.1 h)]
  · rw [if_neg h, if_neg (fun k => h (h1.2 k))]
    by_cases g : a = b
    · rw [if_pos g, if_pos (h2.1 g)]
    · rw [if_neg g, if_neg (fun k => g (h2.2 k))]
set_option maxRecDepth 100000 in
set_option maxHeartbeats 1000000 in
theorem cmp_big (p q : Nat) (x y : Int) (w : World) (hp : Big w p x) (hq : Big w q y) (hx : x.natAbs < 4294967296 ^ 8) (hy : y.natAbs < 4294967296 ^ 8) :
    Calls Tryz.prog 17 #[.pointer (some ⟨p, 0, none⟩), .pointer (some ⟨q, 0, none⟩)] w fun e w' => (∃ k, w' = w.drewN k) ∧ e = .returned (.int .i64 (cm x y)) := by
  obtain ⟨v, c0, c1, hD, hlt⟩ := hp.cells
  obtain ⟨u, d0, d1, hE, hlr⟩ := hq.cells
  have CM := hide (fun k => cmp_any v u x.natAbs y.natAbs (w.drewN k) hD hE (by omega) (by omega))
  have hr : -1 ≤ cm (x.natAbs : Int) (y.natAbs : Int) ∧ cm (x.natAbs : Int) (y.natAbs : Int) ≤ 1 := by unfold cm; split; omega; split <;> omega
  clear hp hq hD hE
  by_cases hxn : x < 0
  · have bx : decide (x < 0) = true := decide_eq_true hxn
    rw [bx] at c0
    by_cases hyn : y < 0
    · have bx : decide (y < 0) = true := decide_eq_true hyn
      rw [bx] at d0
      have hv : wrap64 (-cm (x.natAbs : Int) (y.natAbs : Int)) = cm x y := by
        rw [show wrap64 (-cm (x.natAbs : Int) (y.natAbs : Int)) = -cm (x.natAbs : Int) (y.natAbs : Int) by unfold wrap64; omega, cm_neg]
        exact cm_congr (by omega) (by omega)
      have HV := hide hv
      have HV2 := hide (show -cm (x.natAbs : Int) (y.natAbs : Int) = cm x y by rw [cm_neg]; exact cm_congr (by omega) (by omega))
      have hbb : (true != true) = false := rfl
      clear hxn hyn hv bx
      generalize cm (x.natAbs : Int) (y.natAbs : Int) = g at *
      go_enter Tryz.func17, Tryz.ntmps17
      go_wp2_with fail
      go_quiet (fail)
      go_wp2_with fail
      refine reg_start (fun W => W.cell? ⟨p, 1, none⟩ = some v ∧ W.cell? ⟨q, 1, none⟩ = some u) (by kernel_rfl) ?_
      refine reg_seg 0 8 2 (by kernel_rfl) (by decide) (by kernel_rfl) (by kernel_rfl) (fun _ _ _ _ _ h => h) ?_
      simp only [List.take_succ_cons, List.take_zero, List.drop_succ_cons, List.drop_zero]
      repeat (refine wpSteady_step (fun K hK => ?_); go_simp; first | (refine steady_of ?_ (fun W hW => ?_) (hK _ ?_); rotate_left; (obtain ⟨h1, h2⟩ := hW; go_simp; first | done | rfl); clear hK K) | (refine hK _ ?_; clear hK K))
      refine wpSteady_nil ?_
      refine reg_one 8 1 (by kernel_rfl) (by kernel_rfl) ⟨c1, d1⟩ ?_
      simp only [List.take_succ_cons, List.take_zero, List.drop_succ_cons, List.drop_zero]
      go_wp2_with fail
      refine (unhide CM _).mono ?_
      rintro e w1 ⟨⟨k, rfl⟩, rfl⟩
      go_wp2_with fail
      first | refine next_nil ?_ | refine next_go ?_
      refine reg_one 9 0 (by kernel_rfl) (by kernel_rfl) ⟨c1, d1⟩ ?_
      simp only [List.take_succ_cons, List.take_zero, List.drop_succ_cons, List.drop_zero]
      go_wp2_with fail
      first | refine next_nil ?_ | refine next_go ?_
      refine reg_end (by kernel_rfl) ⟨c1, d1⟩ ?_
      go_wp2_with fail
      go_ret
      refine ⟨?_, ?_⟩
      rotate_left
      first | exact congrArg (fun z => Ending.returned (Value.int .i64 z)) (unhide HV) | exact congrArg (fun z => Ending.returned (Value.int .i64 z)) (unhide HV2)
      first | exact drew_e1 _ _ | exact drew_e2 _ _ _ | exact drew_e3 _ _ _ _ | exact ⟨_, rfl⟩ | exact ⟨_, (World.drewN_drewN ..)⟩
    · have bx : decide (y < 0) = false := decide_eq_false hyn
      rw [bx] at d0
      have hv : cm x y = -1 := by unfold cm; rw [if_pos (by omega)]
      rw [hv]
      clear CM hr
      go_enter Tryz.func17, Tryz.ntmps17
      go_wp2_with fail
      go_quiet (fail)
      go_wp2_with fail
      go_ret
      exact ⟨⟨_, rfl⟩, rfl⟩
  · have bx : decide (x < 0) = false := decide_eq_false hxn
    rw [bx] at c0
    by_cases hyn : y < 0
    · have bx : decide (y < 0) = true := decide_eq_true hyn
      rw [bx] at d0
      have hv : cm x y = 1 := by unfold cm; rw [if_neg (by omega), if_neg (by omega)]
      rw [hv]
      clear CM hr
      go_enter Tryz.func17, Tryz.ntmps17
      go_wp2_with fail
      go_quiet (fail)
      go_wp2_with fail
      go_ret
      exact ⟨⟨_, rfl⟩, rfl⟩
    · have bx : decide (y < 0) = false := decide_eq_false hyn
      rw [bx] at d0
      have hv : cm (x.natAbs : Int) (y.natAbs : Int) = cm x y := cm_congr (by omega) (by omega)
      have HV := hide hv
      clear hxn hyn hv bx
      generalize cm (x.natAbs : Int) (y.natAbs : Int) = g at *
      go_enter Tryz.func17, Tryz.ntmps17
      go_wp2_with fail
      go_quiet (fail)
      go_wp2_with fail
      refine reg_start (fun W => W.cell? ⟨p, 1, none⟩ = some v ∧ W.cell? ⟨q, 1, none⟩ = some u) (by kernel_rfl) ?_
      refine reg_seg 0 8 2 (by kernel_rfl) (by decide) (by kernel_rfl) (by kernel_rfl) (fun _ _ _ _ _ h => h) ?_
      simp only [List.take_succ_cons, List.take_zero, List.drop_succ_cons, List.drop_zero]
      repeat (refine wpSteady_step (fun K hK => ?_); go_simp; first | (refine steady_of ?_ (fun W hW => ?_) (hK _ ?_); rotate_left; (obtain ⟨h1, h2⟩ := hW; go_simp; first | done | rfl); clear hK K) | (refine hK _ ?_; clear hK K))
      refine wpSteady_nil ?_
      refine reg_one 8 1 (by kernel_rfl) (by kernel_rfl) ⟨c1, d1⟩ ?_
      simp only [List.take_succ_cons, List.take_zero, List.drop_succ_cons, List.drop_zero]
      go_wp2_with fail
      refine (unhide CM _).mono ?_
      rintro e w1 ⟨⟨k, rfl⟩, rfl⟩
      go_wp2_with fail
      first | refine next_nil ?_ | refine next_go ?_
      refine reg_one 9 0 (by kernel_rfl) (by kernel_rfl) ⟨c1, d1⟩ ?_
      simp only [List.take_succ_cons, List.take_zero, List.drop_succ_cons, List.drop_zero]
      go_wp2_with fail
      first | refine next_nil ?_ | refine next_go ?_
      refine reg_end (by kernel_rfl) ⟨c1, d1⟩ ?_
      go_wp2_with fail
      go_ret
      refine ⟨?_, ?_⟩
      rotate_left
      first | exact congrArg (fun z => Ending.returned (Value.int .i64 z)) (unhide HV) | exact congrArg (fun z => Ending.returned (Value.int .i64 z)) (unhide HV2)
      first | exact drew_e1 _ _ | exact drew_e2 _ _ _ | exact drew_e3 _ _ _ _ | exact ⟨_, rfl⟩ | exact ⟨_, (World.drewN_drewN ..)⟩
end Go.Proofs.YtjddpfojllefgaaGreat

/-
  small: a number divided by one word.
-/
namespace Go.Proofs.YtjddpfojllefgaaGreat
open Go.RowKit
set_option linter.unusedSimpArgs false
set_option linter.unusedVariables false

structure SmInv (A Q : List Int) (k : Nat) (r d : Int) : Prop where
  len : Q.length = A.length
  wds : Wds Q
  zer : ∀ j, j < k → Q.getD j 0 = 0
  r0 : 0 ≤ r
  r1 : r < d
  val : vl A = vl (A.take k) + d * vl Q + 4294967296 ^ k * r
theorem SmInv.start (A : List Int) {d : Int} (hd : 0 < d) : SmInv A (List.replicate A.length 0) A.length 0 d :=
  ⟨by simp, wds_rep _, fun j _ => getD_rep _ j, by decide, hd, by rw [vl_rep, List.take_of_length_le (Nat.le_refl _)]; simp⟩
theorem quo_fit {r x d : Int} (r0 : 0 ≤ r) (r1 : r < d) (hx : 0 ≤ x ∧ x ≤ 4294967295) : 0 ≤ (r * 4294967296 + x) / d ∧ (r * 4294967296 + x) / d ≤ 4294967295 ∧ 0 ≤ (r * 4294967296 + x) % d ∧ (r * 4294967296 + x) % d < d ∧ r * 4294967296 + x = d * ((r * 4294967296 + x) / d) + (r * 4294967296 + x) % d := by
  have hd : 0 < d := by omega
  refine ⟨Int.ediv_nonneg (by omega) (by omega), ?_, Int.emod_nonneg _ (by omega), Int.emod_lt_of_pos _ hd, (Int.mul_ediv_add_emod _ _).symm⟩
  have : (r * 4294967296 + x) / d < 4294967296 := by
    apply Int.ediv_lt_of_lt_mul hd
    have h1 : (r + 1) * 4294967296 ≤ d * 4294967296 := Int.mul_le_mul_of_nonneg_right (by omega) (by decide)
    omega
  omega
theorem SmInv.next {A Q : List Int} {m : Nat} {r d : Int} (h : SmInv A Q (m + 1) r d) (hm : m < A.length) (hA : Wds A) :
    SmInv A (Q.set m ((r * 4294967296 + A.getD m 0) / d)) m ((r * 4294967296 + A.getD m 0) % d) d := by
  obtain ⟨h1, h2, h3, h4, h5, h6⟩ := h
  have a := hA.get m
  obtain ⟨q1, q2, q3, q4, q5⟩ := quo_fit h4 h5 a
  have t := vl_take A m
  have s := vl_set Q m ((r * 4294967296 + A.getD m 0) / d) (by omega)
  rw [h3 m (by omega)] at s
  refine ⟨by rw [List.length_set]; exact h1, h2.set _ ⟨q1, q2⟩, fun j hj => by rw [getD_set_ne (by omega)]; exact h3 j (by omega), q3, q4, ?_⟩
  rw [t] at h6
  rw [s, h6, Int.pow_succ]
  generalize (r * 4294967296 + A.getD m 0) / d = q at *
  generalize (r * 4294967296 + A.getD m 0) % d = r' at *
  generalize A.getD m 0 = x at *
  generalize (4294967296 : Int) ^ m = P at *
  clear s t h1 h2 h3 h4 h5 h6 q1 q2 q3 q4
  grind
theorem SmInv.done {A Q : List Int} {r d : Int} (h : SmInv A Q 0 r d) : vl Q = vl A / d ∧ r = vl A % d := by
  obtain ⟨h1, h2, h3, h4, h5, h6⟩ := h
  have e : vl A = r + d * vl Q := by simp [vl] at h6; omega
  rw [e]
  constructor
  · rw [Int.add_mul_ediv_left _ _ (by omega), Int.ediv_eq_zero_of_lt h4 h5]; omega
  · rw [Int.add_mul_emod_self_left, Int.emod_eq_of_lt h4 h5]
theorem or_two' (y x : Int) (hy : 0 ≤ y ∧ y ≤ 4294967295) (hx : 0 ≤ x ∧ x ≤ 4294967295) : bits .or .u64 (y * 4294967296) x = y * 4294967296 + x := by
  obtain ⟨hx1, hx2⟩ := hx
  obtain ⟨hy1, hy2⟩ := hy
  go_bits2
set_option maxHeartbeats 1000000 in
theorem small_any (v : Value) (n d : Int) (w : World) (h : Dg w v n) (hn : n < 4294967296 ^ 8) (hd : 0 < d) (hd1 : d ≤ 4294967295) :
    Calls Tryz.prog 113 #[v, .int .u32 d] w fun e w' => Below w.heap.size w w' ∧ ∃ v', e = .returned (.tuple #[v', .int .u32 (n % d)]) ∧ Dg w' v' (n / d) := by
  obtain ⟨LA, rA, iA⟩ := h
  have lA := iA.len 8 hn
  obtain ⟨aoA, capA, rfl, _, _, _, hA4, hA5, hA6⟩ := rA.at
  have HRA := hide (fun d (he : aoA = some ⟨d, 0, none⟩) => And.intro (hA4 d 0 none he).2.2 (hA6 d he))
  have HA5 := hide hA5
  have IA := hide iA
  clear hA4 hA5 hA6 rA iA
  have O0 := hide (Own32.new w LA.length)
  have K0 := hide (below_a w (.cells (madeCells #[.int .u32 0] LA.length) 91))
  have hmk := make32 LA.length (by omega)
  have hd0 : (d == 0) = false := beq_eq_false_iff_ne.2 (by omega)
  go_enter Tryz.func113, Tryz.ntmps113
  go_wp2_with fail
  clear hmk
  go_loopg [7, 8] LA.length (fun g c t wr => ∃ (k : Nat) (r : Int) (Q : List Int), k ≤ LA.length ∧ g = k ∧ c = .int .u64 r ∧ t = .int .i64 ((k : Int) - 1) ∧ Hid (Own32 wr w.heap.size Q) ∧ Hid (Below w.heap.size w wr) ∧ Hid (SmInv LA Q k r d))
  case atStart => exact ⟨LA.length, 0, _, Nat.le_refl _, rfl, rfl, by go_num, O0, K0, SmInv.start LA hd⟩
  case round =>
    obtain ⟨k, r, Q, hk, hg, rfl, rfl, hO, hK, hI⟩ := hrel
    clear O0 K0
    have hz := (unhide hK).size
    have hlt := (unhide hO).lt
    have r0 := (unhide hI).r0
    have r1 := (unhide hI).r1
    have hQl := hide (unhide hI).len
    by_cases k0 : k = 0
    · subst k0
      have RW := (unhide hO).row (by rw [unhide hQl]; unfold maxLen; omega)
      have TR := trim_any _ _ _ RW (unhide hI).wds (by rw [unhide hQl]; omega)
      obtain ⟨e1, e2⟩ := (unhide hI).done
      rw [unhide hQl, e1, (unhide IA).2.2] at TR
      rw [(unhide IA).2.2] at e2
      have HT := hide TR
      have HE := hide e2
      clear TR RW e1 e2
      go_wp2_with fail
      refine (unhide HT).mono ?_
      rintro e w1 ⟨rfl, v1, rfl, D1⟩
      have HD := hide D1
      clear D1
      go_wp2_with fail
      go_ret2
      exact ⟨unhide hK, _, congrArg (fun z => Ending.returned (.tuple #[_, .int .u32 z])) (unhide HE), unhide HD⟩
    · obtain ⟨m, rfl⟩ : ∃ m, k = m + 1 := ⟨k - 1, by omega⟩
      obtain ⟨dA, rfl⟩ := unhide HA5 (by omega)
      obtain ⟨hdA, hcA⟩ := unhide HRA dA rfl
      have cA := cell_keep (unhide hK) hdA (hcA m (by omega))
      have gA := (unhide IA).1.get m
      have hf := (unhide hO).frozen m
      have cQ := (unhide hO).cell m (by have := unhide hQl; omega)
      have e1 : (((m + 1 : Nat) : Int) - 1) = (m : Int) := by omega
      have hm0 : (0 : Int) ≤ (m : Int) := by omega
      have hmA : (m : Int) < (LA.length : Int) := by omega
      have hne : dA ≠ w.heap.size := by omega
      have NX := hide ((unhide hI).next (by omega) (unhide IA).1)
      have OX := hide ((unhide hO).set m ((r * 4294967296 + LA.getD m 0) / d) (by have := unhide hQl; omega))
      have KX := hide ((unhide hK).setCell (p := ⟨w.heap.size, m, none⟩) (Nat.le_refl _) (.int .u32 ((r * 4294967296 + LA.getD m 0) / d)))
      obtain ⟨q1, q2, q3, q4, q5⟩ := quo_fit r0 r1 gA
      have ho := or_two' r (LA.getD m 0) ⟨r0, by omega⟩ gA
      clear hcA q5
      generalize LA.getD m 0 = x at *
      generalize Q.getD m 0 = z at *
      obtain ⟨T, hT⟩ : ∃ T, T = r * 4294967296 + x := ⟨_, rfl⟩
      rw [← hT] at q1 q2 q3 q4 ho NX OX KX
      have T0 : 0 ≤ T ∧ T ≤ 18446744073709551615 := by omega
      clear hT
      go_wp2_with fail
      go_roundg m
      case measure => omega
      case rel => exact ⟨m, _, _, by omega, rfl, rfl, by go_num, OX, KX, NX⟩
end Go.Proofs.YtjddpfojllefgaaGreat
