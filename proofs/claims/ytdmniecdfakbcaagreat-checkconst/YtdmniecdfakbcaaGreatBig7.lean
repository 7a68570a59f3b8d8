/-
  mul.
-/
import Derived.Test.YtdmniecdfakbcaaGreatBig4
namespace Go.Proofs.YtdmniecdfakbcaaGreat
open Go.RowKit
set_option linter.unusedSimpArgs false
set_option linter.unusedVariables false

/-- The rounds of a product: the first i words of A have been taken. -/
structure MulInv (A B R : List Int) (i : Nat) : Prop where
  len : R.length = A.length + B.length
  wds : Wds R
  zer : ∀ j, i + B.length ≤ j → R.getD j 0 = 0
  val : vl R = vl (A.take i) * vl B
/-- Within a round: j words of B have been taken; S is what was there when it began. -/
structure MulIn (S B R : List Int) (x : Int) (i j : Nat) (c : Int) : Prop where
  len : R.length = S.length
  wds : Wds R
  rest : ∀ k, i + j ≤ k → R.getD k 0 = S.getD k 0
  c0 : 0 ≤ c
  c1 : c ≤ 4294967295
  val : vl R + 4294967296 ^ (i + j) * c = vl S + 4294967296 ^ i * x * vl (B.take j)
theorem MulInv.start (A B : List Int) : MulInv A B (List.replicate (A.length + B.length) 0) 0 :=
  ⟨by simp, wds_rep _, fun j _ => getD_rep _ j, by rw [vl_rep]; simp [vl]⟩
theorem MulIn.start (S B : List Int) (x : Int) (i : Nat) (h : Wds S) : MulIn S B S x i 0 0 :=
  ⟨rfl, h, fun _ _ => rfl, by decide, by decide, by simp [vl]⟩
theorem mul_lt {x y : Int} (hx : 0 ≤ x ∧ x ≤ 4294967295) (hy : 0 ≤ y ∧ y ≤ 4294967295) : 0 ≤ x * y ∧ x * y ≤ 18446744065119617025 := by
  refine ⟨Int.mul_nonneg hx.1 hy.1, ?_⟩
  have h1 : x * y ≤ x * 4294967295 := Int.mul_le_mul_of_nonneg_left hy.2 hx.1
  omega
theorem MulIn.next {S B R : List Int} {x : Int} {i j : Nat} {c : Int} (h : MulIn S B R x i j c) (hi : i + j < R.length) (hB : Wds B) (hx : 0 ≤ x ∧ x ≤ 4294967295) :
    MulIn S B (R.set (i + j) ((c + (x * B.getD j 0 + R.getD (i + j) 0)) % 4294967296)) x i (j + 1) ((c + (x * B.getD j 0 + R.getD (i + j) 0)) / 4294967296) := by
  obtain ⟨h1, h2, h3, h4, h5, h6⟩ := h
  have b := hB.get j
  have r := h2.get (i + j)
  have m := mul_lt hx b
  have t := vl_take B j
  have s := vl_set R (i + j) ((c + (x * B.getD j 0 + R.getD (i + j) 0)) % 4294967296) hi
  have dm : c + (x * B.getD j 0 + R.getD (i + j) 0) = (c + (x * B.getD j 0 + R.getD (i + j) 0)) % 4294967296 + 4294967296 * ((c + (x * B.getD j 0 + R.getD (i + j) 0)) / 4294967296) := by omega
  refine ⟨by rw [List.length_set]; exact h1, h2.set _ (by omega), fun k hk => by rw [getD_set_ne (by omega)]; exact h3 k (by omega), by omega, by omega, ?_⟩
  rw [t, s, show i + (j + 1) = (i + j) + 1 by omega, Int.pow_succ]
  have pe : (4294967296 : Int) ^ (i + j) = 4294967296 ^ i * 4294967296 ^ j := Int.pow_add ..
  rw [pe] at h6 ⊢
  generalize (c + (x * B.getD j 0 + R.getD (i + j) 0)) % 4294967296 = q at *
  generalize (c + (x * B.getD j 0 + R.getD (i + j) 0)) / 4294967296 = p at *
  generalize B.getD j 0 = y at *
  generalize R.getD (i + j) 0 = z at *
  generalize (4294967296 : Int) ^ i = P at *
  generalize (4294967296 : Int) ^ j = Q at *
  clear s t m r b h1 h2 h3 pe hi hB
  grind
theorem MulIn.done {A B S R : List Int} {i : Nat} {c : Int} (h : MulIn S B R (A.getD i 0) i B.length c) (hS : MulInv A B S i) (hi : i < A.length) : MulInv A B (R.set (i + B.length) c) (i + 1) := by
  obtain ⟨h1, h2, h3, h4, h5, h6⟩ := h
  obtain ⟨g1, g2, g3, g4⟩ := hS
  have s := vl_set R (i + B.length) c (by omega)
  rw [h3 _ (Nat.le_refl _), g3 _ (Nat.le_refl _)] at s
  have t := vl_take A i
  rw [List.take_of_length_le (Nat.le_refl _)] at h6
  refine ⟨by rw [List.length_set]; omega, h2.set _ (by omega), fun k hk => by rw [getD_set_ne (by omega), h3 k (by omega)]; exact g3 k (by omega), ?_⟩
  rw [s, t]
  generalize A.getD i 0 = x at *
  generalize (4294967296 : Int) ^ (i + B.length) = P at *
  generalize (4294967296 : Int) ^ i = Q at *
  clear s t h1 h2 h3 g1 g2 g3
  grind
theorem make32p (n m : Nat) (hn : n + m ≤ 900) (w : World) : (Instr.makeSlice 67 (.int .i64 ((n : Int) + (m : Int))) (.int .i64 ((n : Int) + (m : Int)))).run Tryz.prog w = .ok (.slice (some ⟨w.heap.size, 0, none⟩) (n + m) (n + m)) (w.alloc (.cells (madeCells #[.int .u32 0] (n + m)) 96)) :=
  make32 (n + m) (by omega) w
set_option maxHeartbeats 1000000 in
theorem mul_bany (v1 v2 : Value) (n1 n2 : Int) (w : World) (h1 : Dg w v1 n1) (h2 : Dg w v2 n2) (hn1 : n1 < 4294967296 ^ 8) (hn2 : n2 < 4294967296 ^ 8) :
    Calls Tryz.prog 87 #[v1, v2] w fun e w' => Below w.heap.size w w' ∧ ∃ v', e = .returned v' ∧ Dg w' v' (n1 * n2) := by
  obtain ⟨LA, rA, iA⟩ := h1
  obtain ⟨LB, rB, iB⟩ := h2
  have lA := iA.len 8 hn1
  have lB := iB.len 8 hn2
  obtain ⟨aoA, capA, rfl, _, _, _, hA4, hA5, hA6⟩ := rA.at
  obtain ⟨aoB, capB, rfl, _, _, _, hB4, hB5, hB6⟩ := rB.at
  have HRA := hide (fun d (he : aoA = some ⟨d, 0, none⟩) => And.intro (hA4 d 0 none he).2.2 (hA6 d he))
  have HRB := hide (fun d (he : aoB = some ⟨d, 0, none⟩) => And.intro (hB4 d 0 none he).2.2 (hB6 d he))
  have HA5 := hide hA5
  have HB5 := hide hB5
  have IA := hide iA
  have IB := hide iB
  have zA := iA.zero
  have zB := iB.zero
  clear hA4 hA5 hA6 hB4 hB5 hB6 rA rB iA iB
  by_cases l0 : LA.length = 0
  · have e0 := zA.1 l0
    subst e0
    have hb : ((LA.length : Int) == 0) = true := by rw [l0]; rfl
    rw [Int.zero_mul]
    rw [l0] at hb ⊢
    clear HRA HRB HA5 HB5 zA zB
    go_enter Tryz.func87, Tryz.ntmps87
    go_wp2_with fail
    go_ret
    exact ⟨Below.refl _ _, _, rfl, Dg.nil _⟩
  · by_cases m0 : LB.length = 0
    · have e0 := zB.1 m0
      subst e0
      have hb1 : ((LA.length : Int) == 0) = false := beq_eq_false_iff_ne.2 (by omega)
      rw [Int.mul_zero]
      rw [m0]
      clear HRA HRB HA5 HB5 zA zB
      go_enter Tryz.func87, Tryz.ntmps87
      go_wp2_with fail
      go_ret
      exact ⟨Below.refl _ _, _, rfl, Dg.nil _⟩
    · have hb1 : ((LA.length : Int) == 0) = false := beq_eq_false_iff_ne.2 (by omega)
      have hb2 : ((LB.length : Int) == 0) = false := beq_eq_false_iff_ne.2 (by omega)
      have O0 := hide (Own32.new w (LA.length + LB.length))
      have K0 := hide (below_a w (.cells (madeCells #[.int .u32 0] (LA.length + LB.length)) 96))
      have hmk := make32p LA.length LB.length (by omega)
      obtain ⟨dA, rfl⟩ := unhide HA5 l0
      obtain ⟨dB, rfl⟩ := unhide HB5 m0
      obtain ⟨hdA, hcA⟩ := unhide HRA dA rfl
      obtain ⟨hdB, hcB⟩ := unhide HRB dB rfl
      have HCA := hide hcA
      have HCB := hide hcB
      clear hcA hcB HRA HRB HA5 HB5 zA zB
      go_enter Tryz.func87, Tryz.ntmps87
      go_wp2_with fail
      clear hmk hb1 hb2
      go_loopg [6] LA.length (fun g t wr => ∃ (i : Nat) (R : List Int), i ≤ LA.length ∧ g = LA.length - i ∧ t = .int .i64 i ∧ Hid (Own32 wr w.heap.size R) ∧ Hid (Below w.heap.size w wr) ∧ Hid (MulInv LA LB R i))
      case atStart => exact ⟨0, _, Nat.zero_le _, by simp, rfl, O0, K0, MulInv.start LA LB⟩
      case round =>
        obtain ⟨i, S, hi, hg, rfl, hO, hK, hI⟩ := hrel
        clear O0 K0
        by_cases hlt2 : i < LA.length
        · have hiA : (i : Int) < (LA.length : Int) := by omega
          go_wp2_with fail
          go_loopg [7, 8] LB.length (fun g c t ws => ∃ (j : Nat) (cc : Int) (R : List Int), j ≤ LB.length ∧ g = LB.length - j ∧ c = .int .u64 cc ∧ t = .int .i64 j ∧ Hid (Own32 ws w.heap.size R) ∧ Hid (Below w.heap.size w ws) ∧ Hid (MulIn S LB R (LA.getD i 0) i j cc))
          case atStart => exact ⟨0, 0, S, Nat.zero_le _, by simp, rfl, rfl, hO, hK, MulIn.start S LB _ i (unhide hI).wds⟩
          case round =>
            obtain ⟨j, cc, R, hj, hgj, rfl, rfl, hO2, hK2, hM⟩ := hrel
            have hz := (unhide hK2).size
            have hlt := (unhide hO2).lt
            have cc0 := (unhide hM).c0
            have cc1 := (unhide hM).c1
            have hRl := hide ((unhide hM).len.trans (unhide hI).len)
            have hfj := (unhide hO2).frozen (i + j)
            by_cases hjB : j < LB.length
            · have cA := cell_keep (unhide hK2) hdA (unhide HCA i hlt2)
              have cB := cell_keep (unhide hK2) hdB (unhide HCB j hjB)
              have cR := (unhide hO2).cell (i + j) (by have := unhide hRl; omega)
              have gA := (unhide IA).1.get i
              have gB := (unhide IB).1.get j
              have gR := (unhide hM).wds.get (i + j)
              have hjb : (j : Int) < (LB.length : Int) := by omega
              have hij1 : ((i : Int) + (j : Int)) < (LA.length : Int) + (LB.length : Int) := by omega
              have hij2 : ((i : Int) + (j : Int)).toNat = i + j := by omega
              have hij0 : (0 : Int) ≤ (i : Int) + (j : Int) := by omega
              have NX := hide ((unhide hM).next (by have := unhide hRl; omega) (unhide IB).1 gA)
              have OX := hide ((unhide hO2).set (i + j) ((cc + (LA.getD i 0 * LB.getD j 0 + R.getD (i + j) 0)) % 4294967296) (by have := unhide hRl; omega))
              have KX := hide ((unhide hK2).setCell (p := ⟨w.heap.size, i + j, none⟩) (Nat.le_refl _) (.int .u32 ((cc + (LA.getD i 0 * LB.getD j 0 + R.getD (i + j) 0)) % 4294967296)))
              have mm := mul_lt gA gB
              have hneA : dA ≠ w.heap.size := by omega
              have hneB : dB ≠ w.heap.size := by omega
              obtain ⟨x, hx⟩ : ∃ x, x = LA.getD i 0 := ⟨_, rfl⟩
              rw [← hx] at cA gA NX OX KX mm
              have HX := hide hx
              clear hx
              generalize LB.getD j 0 = y at *
              generalize R.getD (i + j) 0 = z at *
              obtain ⟨p, hp⟩ : ∃ p, x * y = p := ⟨_, rfl⟩
              rw [hp] at NX OX KX mm
              go_wp2_with fail
              go_quiet (fail)
              go_wp2_with fail
              go_roundg (LB.length - (j + 1))
              case measure => omega
              case rel => exact ⟨j + 1, _, _, by omega, rfl, rfl, by go_num, OX, ⟨(unhide KX).os, (unhide KX).tape, (unhide KX).output, (unhide KX).size, (unhide KX).block⟩, unhide HX ▸ NX⟩
            · have hjB' : j = LB.length := by omega
              subst hjB'
              have hjb : decide ((LB.length : Int) < (LB.length : Int)) = false := by simp
              have cR := (unhide hO2).cell (i + LB.length) (by have := unhide hRl; omega)
              have hij1 : ((i : Int) + (LB.length : Int)) < (LA.length : Int) + (LB.length : Int) := by omega
              have hij2 : ((i : Int) + (LB.length : Int)).toNat = i + LB.length := by omega
              have hij0 : (0 : Int) ≤ (i : Int) + (LB.length : Int) := by omega
              have NX := hide ((unhide hM).done (unhide hI) hlt2)
              have OX := hide ((unhide hO2).set (i + LB.length) cc (by have := unhide hRl; omega))
              have KX := hide ((unhide hK2).setCell (p := ⟨w.heap.size, i + LB.length, none⟩) (Nat.le_refl _) (.int .u32 cc))
              generalize R.getD (i + LB.length) 0 = z at *
              go_wp2_with fail
              go_roundg (LA.length - (i + 1))
              case measure => omega
              case rel => exact ⟨i + 1, _, by omega, rfl, by go_num, OX, KX, NX⟩
        · have hiA : i = LA.length := by omega
          subst hiA
          have hz := (unhide hK).size
          have hRl := (unhide hI).len
          have hv : vl S = n1 * n2 := by have := (unhide hI).val; rw [List.take_of_length_le (Nat.le_refl _), (unhide IA).2.2, (unhide IB).2.2] at this; exact this
          have RW := (unhide hO).row (by rw [hRl]; unfold maxLen; omega)
          have TR := trim_any _ _ _ RW (unhide hI).wds (by rw [hRl]; omega)
          rw [hRl, hv] at TR
          have HT := hide TR
          clear TR RW hv hRl
          go_wp2_with fail
          refine (unhide HT).mono ?_
          rintro e w1 ⟨rfl, v1, rfl, D1⟩
          have HD := hide D1
          clear D1
          go_wp2_with fail
          go_ret
          exact ⟨unhide hK, _, rfl, unhide HD⟩
end Go.Proofs.YtdmniecdfakbcaaGreat
