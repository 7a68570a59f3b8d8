/-
  Cmp.
-/
import Derived.Test.YtaidefdbjcgcbaaGreatBigCz
import Derived.Test.YtaidefdbjcgcbaaGreatBig4z
namespace Go.Proofs.YtaidefdbjcgcbaaGreat
open Go.RowKit
set_option linter.unusedSimpArgs false
set_option linter.unusedVariables false

theorem cm_neg (a b : Int) : -cm a b = cm b a := by
  unfold cm
  by_cases h1 : a < b
  · rw [if_pos h1, if_neg (by omega), if_neg (by omega)]; rfl
  · by_cases h2 : a = b
    · rw [if_neg h1, if_pos h2, if_neg (by omega), if_pos h2.symm]; rfl
    · rw [if_neg h1, if_neg h2, if_pos (by omega)]
theorem cm_congr {a b c d : Int} (h1 : a < b ↔ c < d) (h2 : a = b ↔ c = d) : cm a b = cm c d := by
  unfold cm
  by_cases h : a < b
  · rw [if_pos h, if_pos (h1.1 h)]
  · rw [if_neg h, if_neg (fun k => h (h1.2 k))]
    by_cases g : a = b
    · rw [if_pos g, if_pos (h2.1 g)]
    · rw [if_neg g, if_neg (fun k => g (h2.2 k))]
set_option maxRecDepth 100000 in
set_option maxHeartbeats 1000000 in
theorem cmp_big (p q : Nat) (x y : Int) (w : World) (hp : Big w p x) (hq : Big w q y) (hx : x.natAbs < 4294967296 ^ 8) (hy : y.natAbs < 4294967296 ^ 8) :
    Calls Tryz.prog 68 #[.pointer (some ⟨p, 0, none⟩), .pointer (some ⟨q, 0, none⟩)] w fun e w' => (∃ k, w' = w.drewN k) ∧ e = .returned (.int .i64 (cm x y)) := by
  obtain ⟨v, c0, c1, hD, hlt⟩ := hp.cells
  obtain ⟨u, d0, d1, hE, hlr⟩ := hq.cells
  have CM := hide (fun k => cmp_any v u x.natAbs y.natAbs (w.drewN k) hD hE (by omega) (by omega))
  have hr : -1 ≤ cm (x.natAbs : Int) (y.natAbs : Int) ∧ cm (x.natAbs : Int) (y.natAbs : Int) ≤ 1 := by unfold cm; split; omega; split <;> omega
  clear hp hq hD hE
  by_cases hxn : x < 0
  · have bx : decide (x < 0) = true := decide_eq_true hxn
    rw [bx] at c0
    by_cases hyn : y < 0
    · have bx : decide (y < 0) = true := decide_eq_true hyn
      rw [bx] at d0
      have hv : wrap64 (-cm (x.natAbs : Int) (y.natAbs : Int)) = cm x y := by
        rw [show wrap64 (-cm (x.natAbs : Int) (y.natAbs : Int)) = -cm (x.natAbs : Int) (y.natAbs : Int) by unfold wrap64; omega, cm_neg]
        exact cm_congr (by omega) (by omega)
      have HV := hide hv
      have HV2 := hide (show -cm (x.natAbs : Int) (y.natAbs : Int) = cm x y by rw [cm_neg]; exact cm_congr (by omega) (by omega))
      have hbb : (true != true) = false := rfl
      clear hxn hyn hv bx
      generalize cm (x.natAbs : Int) (y.natAbs : Int) = g at *
      go_enter Tryz.func68, Tryz.ntmps68
      go_wp2_with fail
      go_quiet (fail)
      go_wp2_with fail
      refine reg_start (fun W => W.cell? ⟨p, 1, none⟩ = some v ∧ W.cell? ⟨q, 1, none⟩ = some u) (by kernel_rfl) ?_
      refine reg_seg 0 8 2 (by kernel_rfl) (by decide) (by kernel_rfl) (by kernel_rfl) (fun _ _ _ _ _ h => h) ?_
      simp only [List.take_succ_cons, List.take_zero, List.drop_succ_cons, List.drop_zero]
      repeat (refine wpSteady_step (fun K hK => ?_); go_simp; first | (refine steady_of ?_ (fun W hW => ?_) (hK _ ?_); rotate_left; (obtain ⟨h1, h2⟩ := hW; go_simp; first | done | rfl); clear hK K) | (refine hK _ ?_; clear hK K))
      refine wpSteady_nil ?_
      refine reg_one 8 1 (by kernel_rfl) (by kernel_rfl) ⟨c1, d1⟩ ?_
      simp only [List.take_succ_cons, List.take_zero, List.drop_succ_cons, List.drop_zero]
      go_wp2_with fail
      refine (unhide CM _).mono ?_
      rintro e w1 ⟨⟨k, rfl⟩, rfl⟩
      go_wp2_with fail
      first | refine next_nil ?_ | refine next_go ?_
      refine reg_one 9 0 (by kernel_rfl) (by kernel_rfl) ⟨c1, d1⟩ ?_
      simp only [List.take_succ_cons, List.take_zero, List.drop_succ_cons, List.drop_zero]
      go_wp2_with fail
      first | refine next_nil ?_ | refine next_go ?_
      refine reg_end (by kernel_rfl) ⟨c1, d1⟩ ?_
      go_wp2_with fail
      go_ret
      refine ⟨?_, ?_⟩
      rotate_left
      first | exact congrArg (fun z => Ending.returned (Value.int .i64 z)) (unhide HV) | exact congrArg (fun z => Ending.returned (Value.int .i64 z)) (unhide HV2)
      first | exact drew_e1 _ _ | exact drew_e2 _ _ _ | exact drew_e3 _ _ _ _ | exact ⟨_, rfl⟩ | exact ⟨_, (World.drewN_drewN ..)⟩
    · have bx : decide (y < 0) = false := decide_eq_false hyn
      rw [bx] at d0
      have hv : cm x y = -1 := by unfold cm; rw [if_pos (by omega)]
      rw [hv]
      clear CM hr
      go_enter Tryz.func68, Tryz.ntmps68
      go_wp2_with fail
      go_quiet (fail)
      go_wp2_with fail
      go_ret
      exact ⟨⟨_, rfl⟩, rfl⟩
  · have bx : decide (x < 0) = false := decide_eq_false hxn
    rw [bx] at c0
    by_cases hyn : y < 0
    · have bx : decide (y < 0) = true := decide_eq_true hyn
      rw [bx] at d0
      have hv : cm x y = 1 := by unfold cm; rw [if_neg (by omega), if_neg (by omega)]
      rw [hv]
      clear CM hr
      go_enter Tryz.func68, Tryz.ntmps68
      go_wp2_with fail
      go_quiet (fail)
      go_wp2_with fail
      go_ret
      exact ⟨⟨_, rfl⟩, rfl⟩
    · have bx : decide (y < 0) = false := decide_eq_false hyn
      rw [bx] at d0
      have hv : cm (x.natAbs : Int) (y.natAbs : Int) = cm x y := cm_congr (by omega) (by omega)
      have HV := hide hv
      clear hxn hyn hv bx
      generalize cm (x.natAbs : Int) (y.natAbs : Int) = g at *
      go_enter Tryz.func68, Tryz.ntmps68
      go_wp2_with fail
      go_quiet (fail)
      go_wp2_with fail
      refine reg_start (fun W => W.cell? ⟨p, 1, none⟩ = some v ∧ W.cell? ⟨q, 1, none⟩ = some u) (by kernel_rfl) ?_
      refine reg_seg 0 8 2 (by kernel_rfl) (by decide) (by kernel_rfl) (by kernel_rfl) (fun _ _ _ _ _ h => h) ?_
      simp only [List.take_succ_cons, List.take_zero, List.drop_succ_cons, List.drop_zero]
      repeat (refine wpSteady_step (fun K hK => ?_); go_simp; first | (refine steady_of ?_ (fun W hW => ?_) (hK _ ?_); rotate_left; (obtain ⟨h1, h2⟩ := hW; go_simp; first | done | rfl); clear hK K) | (refine hK _ ?_; clear hK K))
      refine wpSteady_nil ?_
      refine reg_one 8 1 (by kernel_rfl) (by kernel_rfl) ⟨c1, d1⟩ ?_
      simp only [List.take_succ_cons, List.take_zero, List.drop_succ_cons, List.drop_zero]
      go_wp2_with fail
      refine (unhide CM _).mono ?_
      rintro e w1 ⟨⟨k, rfl⟩, rfl⟩
      go_wp2_with fail
      first | refine next_nil ?_ | refine next_go ?_
      refine reg_one 9 0 (by kernel_rfl) (by kernel_rfl) ⟨c1, d1⟩ ?_
      simp only [List.take_succ_cons, List.take_zero, List.drop_succ_cons, List.drop_zero]
      go_wp2_with fail
      first | refine next_nil ?_ | refine next_go ?_
      refine reg_end (by kernel_rfl) ⟨c1, d1⟩ ?_
      go_wp2_with fail
      go_ret
      refine ⟨?_, ?_⟩
      rotate_left
      first | exact congrArg (fun z => Ending.returned (Value.int .i64 z)) (unhide HV) | exact congrArg (fun z => Ending.returned (Value.int .i64 z)) (unhide HV2)
      first | exact drew_e1 _ _ | exact drew_e2 _ _ _ | exact drew_e3 _ _ _ _ | exact ⟨_, rfl⟩ | exact ⟨_, (World.drewN_drewN ..)⟩
end Go.Proofs.YtaidefdbjcgcbaaGreat

/-
  small: a number divided by one word.
-/
namespace Go.Proofs.YtaidefdbjcgcbaaGreat
open Go.RowKit
set_option linter.unusedSimpArgs false
set_option linter.unusedVariables false

structure SmInv (A Q : List Int) (k : Nat) (r d : Int) : Prop where
  len : Q.length = A.length
  wds : Wds Q
  zer : ∀ j, j < k → Q.getD j 0 = 0
  r0 : 0 ≤ r
  r1 : r < d
  val : vl A = vl (A.take k) + d * vl Q + 4294967296 ^ k * r
theorem SmInv.start (A : List Int) {d : Int} (hd : 0 < d) : SmInv A (List.replicate A.length 0) A.length 0 d :=
  ⟨by simp, wds_rep _, fun j _ => getD_rep _ j, by decide, hd, by rw [vl_rep, List.take_of_length_le (Nat.le_refl _)]; simp⟩
theorem quo_fit {r x d : Int} (r0 : 0 ≤ r) (r1 : r < d) (hx : 0 ≤ x ∧ x ≤ 4294967295) : 0 ≤ (r * 4294967296 + x) / d ∧ (r * 4294967296 + x) / d ≤ 4294967295 ∧ 0 ≤ (r * 4294967296 + x) % d ∧ (r * 4294967296 + x) % d < d ∧ r * 4294967296 + x = d * ((r * 4294967296 + x) / d) + (r * 4294967296 + x) % d := by
  have hd : 0 < d := by omega
  refine ⟨Int.ediv_nonneg (by omega) (by omega), ?_, Int.emod_nonneg _ (by omega), Int.emod_lt_of_pos _ hd, (Int.mul_ediv_add_emod _ _).symm⟩
  have : (r * 4294967296 + x) / d < 4294967296 := by
    apply Int.ediv_lt_of_lt_mul hd
    have h1 : (r + 1) * 4294967296 ≤ d * 4294967296 := Int.mul_le_mul_of_nonneg_right (by omega) (by decide)
    omega
  omega
theorem SmInv.next {A Q : List Int} {m : Nat} {r d : Int} (h : SmInv A Q (m + 1) r d) (hm : m < A.length) (hA : Wds A) :
    SmInv A (Q.set m ((r * 4294967296 + A.getD m 0) / d)) m ((r * 4294967296 + A.getD m 0) % d) d := by
  obtain ⟨h1, h2, h3, h4, h5, h6⟩ := h
  have a := hA.get m
  obtain ⟨q1, q2, q3, q4, q5⟩ := quo_fit h4 h5 a
  have t := vl_take A m
  have s := vl_set Q m ((r * 4294967296 + A.getD m 0) / d) (by omega)
  rw [h3 m (by omega)] at s
  refine ⟨by rw [List.length_set]; exact h1, h2.set _ ⟨q1, q2⟩, fun j hj => by rw [getD_set_ne (by omega)]; exact h3 j (by omega), q3, q4, ?_⟩
  rw [t] at h6
  rw [s, h6, Int.pow_succ]
  generalize (r * 4294967296 + A.getD m 0) / d = q at *
  generalize (r * 4294967296 + A.getD m 0) % d = r' at *
  generalize A.getD m 0 = x at *
  generalize (4294967296 : Int) ^ m = P at *
  clear s t h1 h2 h3 h4 h5 h6 q1 q2 q3 q4
  grind
theorem SmInv.done {A Q : List Int} {r d : Int} (h : SmInv A Q 0 r d) : vl Q = vl A / d ∧ r = vl A % d := by
  obtain ⟨h1, h2, h3, h4, h5, h6⟩ := h
  have e : vl A = r + d * vl Q := by simp [vl] at h6; omega
  rw [e]
  constructor
  · rw [Int.add_mul_ediv_left _ _ (by omega), Int.ediv_eq_zero_of_lt h4 h5]; omega
  · rw [Int.add_mul_emod_self_left, Int.emod_eq_of_lt h4 h5]
theorem or_two' (y x : Int) (hy : 0 ≤ y ∧ y ≤ 4294967295) (hx : 0 ≤ x ∧ x ≤ 4294967295) : bits .or .u64 (y * 4294967296) x = y * 4294967296 + x := by
  obtain ⟨hx1, hx2⟩ := hx
  obtain ⟨hy1, hy2⟩ := hy
  go_bits2
set_option maxHeartbeats 1000000 in
theorem small_any (v : Value) (n d : Int) (w : World) (h : Dg w v n) (hn : n < 4294967296 ^ 8) (hd : 0 < d) (hd1 : d ≤ 4294967295) :
    Calls Tryz.prog 165 #[v, .int .u32 d] w fun e w' => Below w.heap.size w w' ∧ ∃ v', e = .returned (.tuple #[v', .int .u32 (n % d)]) ∧ Dg w' v' (n / d) := by
  obtain ⟨LA, rA, iA⟩ := h
  have lA := iA.len 8 hn
  obtain ⟨aoA, capA, rfl, _, _, _, hA4, hA5, hA6⟩ := rA.at
  have HRA := hide (fun d (he : aoA = some ⟨d, 0, none⟩) => And.intro (hA4 d 0 none he).2.2 (hA6 d he))
  have HA5 := hide hA5
  have IA := hide iA
  clear hA4 hA5 hA6 rA iA
  have O0 := hide (Own32.new w LA.length)
  have K0 := hide (below_a w (.cells (madeCells #[.int .u32 0] LA.length) 159))
  have hmk := make32 LA.length (by omega)
  have hd0 : (d == 0) = false := beq_eq_false_iff_ne.2 (by omega)
  go_enter Tryz.func165, Tryz.ntmps165
  go_wp2_with fail
  clear hmk
  go_loopg [7, 8] LA.length (fun g c t wr => ∃ (k : Nat) (r : Int) (Q : List Int), k ≤ LA.length ∧ g = k ∧ c = .int .u64 r ∧ t = .int .i64 ((k : Int) - 1) ∧ Hid (Own32 wr w.heap.size Q) ∧ Hid (Below w.heap.size w wr) ∧ Hid (SmInv LA Q k r d))
  case atStart => exact ⟨LA.length, 0, _, Nat.le_refl _, rfl, rfl, by go_num, O0, K0, SmInv.start LA hd⟩
  case round =>
    obtain ⟨k, r, Q, hk, hg, rfl, rfl, hO, hK, hI⟩ := hrel
    clear O0 K0
    have hz := (unhide hK).size
    have hlt := (unhide hO).lt
    have r0 := (unhide hI).r0
    have r1 := (unhide hI).r1
    have hQl := hide (unhide hI).len
    by_cases k0 : k = 0
    · subst k0
      have RW := (unhide hO).row (by rw [unhide hQl]; unfold maxLen; omega)
      have TR := trim_any _ _ _ RW (unhide hI).wds (by rw [unhide hQl]; omega)
      obtain ⟨e1, e2⟩ := (unhide hI).done
      rw [unhide hQl, e1, (unhide IA).2.2] at TR
      rw [(unhide IA).2.2] at e2
      have HT := hide TR
      have HE := hide e2
      clear TR RW e1 e2
      go_wp2_with fail
      refine (unhide HT).mono ?_
      rintro e w1 ⟨rfl, v1, rfl, D1⟩
      have HD := hide D1
      clear D1
      go_wp2_with fail
      go_ret2
      exact ⟨unhide hK, _, congrArg (fun z => Ending.returned (.tuple #[_, .int .u32 z])) (unhide HE), unhide HD⟩
    · obtain ⟨m, rfl⟩ : ∃ m, k = m + 1 := ⟨k - 1, by omega⟩
      obtain ⟨dA, rfl⟩ := unhide HA5 (by omega)
      obtain ⟨hdA, hcA⟩ := unhide HRA dA rfl
      have cA := cell_keep (unhide hK) hdA (hcA m (by omega))
      have gA := (unhide IA).1.get m
      have hf := (unhide hO).frozen m
      have cQ := (unhide hO).cell m (by have := unhide hQl; omega)
      have e1 : (((m + 1 : Nat) : Int) - 1) = (m : Int) := by omega
      have hm0 : (0 : Int) ≤ (m : Int) := by omega
      have hmA : (m : Int) < (LA.length : Int) := by omega
      have hne : dA ≠ w.heap.size := by omega
      have NX := hide ((unhide hI).next (by omega) (unhide IA).1)
      have OX := hide ((unhide hO).set m ((r * 4294967296 + LA.getD m 0) / d) (by have := unhide hQl; omega))
      have KX := hide ((unhide hK).setCell (p := ⟨w.heap.size, m, none⟩) (Nat.le_refl _) (.int .u32 ((r * 4294967296 + LA.getD m 0) / d)))
      obtain ⟨q1, q2, q3, q4, q5⟩ := quo_fit r0 r1 gA
      have ho := or_two' r (LA.getD m 0) ⟨r0, by omega⟩ gA
      clear hcA q5
      generalize LA.getD m 0 = x at *
      generalize Q.getD m 0 = z at *
      obtain ⟨T, hT⟩ : ∃ T, T = r * 4294967296 + x := ⟨_, rfl⟩
      rw [← hT] at q1 q2 q3 q4 ho NX OX KX
      have T0 : 0 ≤ T ∧ T ≤ 18446744073709551615 := by omega
      clear hT
      go_wp2_with fail
      go_roundg m
      case measure => omega
      case rel => exact ⟨m, _, _, by omega, rfl, rfl, by go_num, OX, KX, NX⟩
end Go.Proofs.YtaidefdbjcgcbaaGreat

/-
  div, but for its long way.
-/
namespace Go.Proofs.YtaidefdbjcgcbaaGreat
open Go.RowKit
set_option linter.unusedSimpArgs false
set_option linter.unusedVariables false

theorem Row.one (w : World) (x : Int) : Row (w.alloc (.cells #[.int .u32 x] 159)) (.slice (some ⟨w.heap.size, 0, none⟩) 1 1) [x] := by
  refine .inr ⟨w.heap.size, 1, #[.int .u32 x], (0, 0), rfl, by simp, by decide, ?_, fun j hj => ?_⟩
  · show (w.heap.push _)[w.heap.size]? = _
    simp
  · match j, hj with
    | 0, _ => rfl
theorem divOf {n1 n2 : Int} (h1 : 0 ≤ n1) (h2 : 0 < n2) : 0 ≤ n1 / n2 ∧ n1 / n2 ≤ n1 ∧ 0 ≤ n1 % n2 ∧ n1 % n2 < n2 ∧ n1 % n2 ≤ n1 := by
  refine ⟨Int.ediv_nonneg h1 (by omega), Int.ediv_le_self _ h1, Int.emod_nonneg _ (by omega), Int.emod_lt_of_pos _ h2, ?_⟩
  have h3 := Int.mul_ediv_add_emod n1 n2
  have h4 : 0 ≤ n2 * (n1 / n2) := Int.mul_nonneg (by omega) (Int.ediv_nonneg h1 (by omega))
  omega
set_option maxRecDepth 100000 in
set_option maxHeartbeats 2000000 in
/-- The short ways of a division. -/
theorem div_short (v1 v2 : Value) (n1 n2 : Int) (w : World) (h1 : Dg w v1 n1) (h2 : Dg w v2 n2) (hn1 : n1 < 4294967296 ^ 8) (hn2 : n2 < 4294967296 ^ 8) (hp : 0 < n2) (hs : n1 < n2 ∨ n1 < 18446744073709551616 ∨ n2 < 4294967296) :
    Calls Tryz.prog 144 #[v1, v2] w fun e w' => Below w.heap.size w w' ∧ ∃ q r, e = .returned (.tuple #[q, r]) ∧ Dg w' q (n1 / n2) ∧ Dg w' r (n1 % n2) := by
  have H1 := hide h1
  have H2 := hide h2
  have CM := hide (cmp_any v1 v2 n1 n2 w h1 h2 hn1 hn2)
  obtain ⟨LA, rA, iA⟩ := h1
  obtain ⟨LB, rB, iB⟩ := h2
  have lA := iA.len 8 hn1
  have lB := iB.len 8 hn2
  have lo1 := iA.lo
  obtain ⟨q1, q2, q3, q4, q5⟩ := divOf lo1 hp
  obtain ⟨aoA, capA, rfl, _, _, _, hA4, hA5, hA6⟩ := rA.at
  obtain ⟨aoB, capB, rfl, _, _, _, hB4, hB5, hB6⟩ := rB.at
  have HRB := hide (fun d (he : aoB = some ⟨d, 0, none⟩) => And.intro (hB4 d 0 none he).2.2 (hB6 d he))
  have HB5 := hide hB5
  have IA := hide iA
  have IB := hide iB
  have l0 : LB.length ≠ 0 := fun e => by have := iB.zero.1 e; omega
  have hb0 : ((LB.length : Int) == 0) = false := beq_eq_false_iff_ne.2 (by omega)
  clear hA4 hA5 hA6 hB4 hB5 hB6 rA rB iA iB
  by_cases hlt : n1 < n2
  · have hcm : decide (cm n1 n2 < 0) = true := by unfold cm; rw [if_pos hlt]; decide
    have e1 : n1 / n2 = 0 := Int.ediv_eq_zero_of_lt lo1 hlt
    have e2 : n1 % n2 = n1 := Int.emod_eq_of_lt lo1 hlt
    rw [e1, e2]
    clear hs q1 q2 q3 q4 q5 e1 e2
    go_enter Tryz.func144, Tryz.ntmps144
    go_wp2_with fail
    refine (unhide CM).mono ?_
    rintro e w1 ⟨⟨k, rfl⟩, rfl⟩
    go_wp2_with fail
    refine (twin_any _ n1 (w.drewN k) (unhide H1) hn1).mono ?_
    rintro e w2 ⟨k1, v, rfl, D1⟩
    have K1 := hide (of_drewN k1)
    have HD := hide D1
    clear k1 D1
    go_wp2_with fail
    go_ret2
    exact ⟨unhide K1, _, _, rfl, Dg.nil _, unhide HD⟩
  · have hcm : decide (cm n1 n2 < 0) = false := by unfold cm; rw [if_neg hlt]; split <;> decide
    by_cases hl2 : LA.length ≤ 2
    · have hn64 : n1 < 18446744073709551616 := by
        have := (unhide IA).hi
        have := bp_le hl2
        omega
      have hb2 : decide ((LA.length : Int) ≤ 2) = true := decide_eq_true (by omega)
      have hnz : (n2 == 0) = false := beq_eq_false_iff_ne.2 (by omega)
      have P1 := hide (fun k => plain_any _ n1 (w.drewN k) (unhide H1) (by omega))
      have P2 := hide (fun k => plain_any _ n2 (w.drewN k) (unhide H2) (by omega))
      have WQ := hide (fun W => words_any (n1 / n2) W ⟨by omega, by omega⟩)
      have WR := hide (fun W => words_any (n1 % n2) W ⟨by omega, by omega⟩)
      have hr1 : 0 ≤ n1 ∧ n1 ≤ 18446744073709551615 := by omega
      have hr2 : 0 ≤ n2 ∧ n2 ≤ 18446744073709551615 := by omega
      have hnz' : ¬ (n2 = 0) := by omega
      have htd : n1.tdiv n2 = n1 / n2 := Int.tdiv_eq_ediv_of_nonneg lo1
      have htm : n1.tmod n2 = n1 % n2 := Int.tmod_eq_emod_of_nonneg lo1
      generalize hQ : n1 / n2 = Q at *
      generalize hR : n1 % n2 = R at *
      clear hs
      go_enter Tryz.func144, Tryz.ntmps144
      go_wp2_with fail
      refine (unhide CM).mono ?_
      rintro e w1 ⟨⟨k, rfl⟩, rfl⟩
      go_wp2_with fail
      refine (unhide P1 k).mono ?_
      rintro e w1 ⟨rfl, rfl⟩
      go_wp2_with fail
      refine (unhide P2 k).mono ?_
      rintro e w1 ⟨rfl, rfl⟩
      go_wp2_with fail
      refine reg_start (fun W => True) (by kernel_rfl) ?_
      refine reg_seg 0 3 7 (by kernel_rfl) (by decide) (by kernel_rfl) (by kernel_rfl) (fun _ _ _ _ _ h => h) ?_
      simp only [List.take_succ_cons, List.take_zero, List.drop_succ_cons, List.drop_zero]
      repeat (refine wpSteady_step (fun K hK => ?_); go_simp; first | (refine steady_of ?_ (fun W hW => ?_) (hK _ ?_); rotate_left; (obtain h1 := hW; go_simp; first | done | rfl); clear hK K) | (refine hK _ ?_; clear hK K))
      refine wpSteady_nil ?_
      refine reg_seg 4 3 4 (by kernel_rfl) (by decide) (by kernel_rfl) (by kernel_rfl) (fun _ _ _ _ _ h => h) ?_
      simp only [List.take_succ_cons, List.take_zero, List.drop_succ_cons, List.drop_zero]
      repeat (refine wpSteady_step (fun K hK => ?_); go_simp; first | (refine steady_of ?_ (fun W hW => ?_) (hK _ ?_); rotate_left; (obtain h1 := hW; go_simp; first | done | rfl); clear hK K) | (refine hK _ ?_; clear hK K))
      refine wpSteady_nil ?_
      refine reg_one 3 3 (by kernel_rfl) (by kernel_rfl) trivial ?_
      simp only [List.take_succ_cons, List.take_zero, List.drop_succ_cons, List.drop_zero]
      go_wp2_with fail
      refine (unhide WQ _).mono ?_
      rintro e w1 ⟨k1, v1, rfl, D1⟩
      have K1 := hide (of_drewN (of_drew k1))
      have HD1 := hide D1
      clear k1 D1
      go_wp2_with fail
      first | refine next_nil ?_ | refine next_go ?_
      refine reg_one 7 2 (by kernel_rfl) (by kernel_rfl) trivial ?_
      simp only [List.take_succ_cons, List.take_zero, List.drop_succ_cons, List.drop_zero]
      go_wp2_with fail
      refine (unhide WR _).mono ?_
      rintro e w2 ⟨k2, v2, rfl, D2⟩
      have K2 := hide k2
      have HD2 := hide D2
      clear k2 D2
      go_wp2_with fail
      first | refine next_nil ?_ | refine next_go ?_
      refine reg_seg 8 2 0 (by kernel_rfl) (by decide) (by kernel_rfl) (by kernel_rfl) (fun _ _ _ _ _ h => h) ?_
      simp only [List.take_succ_cons, List.take_zero, List.drop_succ_cons, List.drop_zero]
      repeat (refine wpSteady_step (fun K hK => ?_); go_simp; first | (refine steady_of ?_ (fun W hW => ?_) (hK _ ?_); rotate_left; (obtain h1 := hW; go_simp; first | done | rfl); clear hK K) | (refine hK _ ?_; clear hK K))
      refine wpSteady_nil ?_
      refine reg_end (by kernel_rfl) trivial ?_
      go_wp2_with fail
      go_ret2
      exact ⟨(unhide K1).trans ((unhide K2).mono (unhide K1).size), _, _, rfl, (unhide HD1).step (unhide K2), unhide HD2⟩
    · have hn64 : 18446744073709551616 ≤ n1 := by
        have := is_top (unhide IA) (k := LA.length - 1) (by omega)
        have := bp_le (a := 2) (b := LA.length - 1) (by omega)
        omega
      have hn32 : n2 < 4294967296 := by omega
      have hb2 : decide ((LA.length : Int) ≤ 2) = false := decide_eq_false (by omega)
      have l1 : LB.length = 1 := by have := (unhide IB).len 1 (by omega); omega
      have hb1 : ((LB.length : Int) == 1) = true := by rw [l1]; rfl
      obtain ⟨d, rfl⟩ := unhide HB5 l0
      obtain ⟨hd, hc⟩ := unhide HRB d rfl
      have c0 := hc 0 (by omega)
      have hv : LB.getD 0 0 = n2 := ((is_two (unhide IB) (by omega)).2.2.1 l1).symm
      rw [hv] at c0
      have SM := hide (fun k => small_any _ n1 n2 (w.drewN k) (unhide H1) hn1 hp (by omega))
      clear hc hs hv
      rw [l1] at CM ⊢
      go_enter Tryz.func144, Tryz.ntmps144
      go_wp2_with fail
      refine (unhide CM).mono ?_
      rintro e w1 ⟨⟨k, rfl⟩, rfl⟩
      go_wp2_with fail
      refine (unhide SM k).mono ?_
      rintro e w1 ⟨k1, v1, rfl, D1⟩
      have K1 := hide (of_drewN k1)
      have HD1 := hide D1
      clear k1 D1
      go_wp2_with fail
      refine (trim_any _ _ _ (Row.one w1 (n1 % n2)) (by intro y hy; simp at hy; omega) (by simp)).mono ?_
      rintro e w2 ⟨rfl, v2, rfl, D2⟩
      have K2 := hide (below_a w1 (.cells #[.int .u32 (n1 % n2)] 159))
      have e0 : vl [n1 % n2] = n1 % n2 := by simp [vl]
      rw [e0] at D2
      have HD2 := hide D2
      clear D2 e0
      go_wp2_with fail
      go_ret2
      exact ⟨(unhide K1).trans ((unhide K2).mono (unhide K1).size), _, _, rfl, (unhide HD1).step (unhide K2), unhide HD2⟩
end Go.Proofs.YtaidefdbjcgcbaaGreat
