/-
  The long division by (2^32)^2.
-/
import Derived.Test.YtaidefdbjcgcbaaGreatBigLz
namespace Go.Proofs.YtaidefdbjcgcbaaGreat
open Go.RowKit
set_option linter.unusedSimpArgs false
set_option linter.unusedVariables false

set_option maxRecDepth 100000 in
set_option maxHeartbeats 4000000 in
theorem div_long2 (v1 v2 : Value) (n1 : Int) (w : World) (h1 : Dg w v1 n1) (h2 : Dg w v2 (4294967296 ^ 2)) (hn1 : n1 < 4294967296 ^ 6) (hge : 18446744073709551616 ≤ n1) :
    Calls Tryz.prog 144 #[v1, v2] w fun e w' => Below w.heap.size w w' ∧ ∃ q r, e = .returned (.tuple #[q, r]) ∧ Dg w' q (n1 / 4294967296 ^ 2) ∧ Dg w' r (n1 % 4294967296 ^ 2) := by
  have hl31 := left_any v2 (4294967296 ^ 2) 31
  have CM := hide (cmp_any v1 v2 n1 (4294967296 ^ 2) w h1 h2 (by omega) (by decide))
  have LN := hide (fun k => length_any v2 2 (w.drewN k) h2 (by decide))
  have LV := hide (fun k => left_any v2 (4294967296 ^ 2) 31 (w.drewN k) h2 (by decide) (by decide))
  have H1 := hide h1
  obtain ⟨LA, rA, iA⟩ := h1
  obtain ⟨LB, rB, iB⟩ := h2
  have lA := iA.len 6 hn1
  have lA3 : 3 ≤ LA.length := by
    have a := iA.hi
    apply Nat.le_of_not_lt
    intro hl
    have := bp_le (a := LA.length) (b := 2) (by omega)
    omega
  have eB := is_unique iB (by have := is_top1 2 1 (by decide) (by decide); rw [Int.mul_one] at this; exact this)
  obtain ⟨lB, -, -⟩ := top1_at eB
  obtain ⟨aoA, capA, rfl, -, -, -, -, -, -⟩ := rA.at
  obtain ⟨aoB, capB, rfl, -, -, -, -, -, -⟩ := rB.at
  rw [lB] at CM LN LV ⊢
  have IA := hide iA
  clear rA rB iA iB eB lB hl31
  have hcm : decide (cm n1 (4294967296 ^ 2) < 0) = false := by unfold cm; rw [if_neg (by omega)]; split <;> decide
  generalize cm n1 (4294967296 ^ 2) = cmv at *
  have hb2 : decide ((LA.length : Int) ≤ 2) = false := decide_eq_false (by omega)
  have hmk := make32t LA.length (by omega)
  go_enter Tryz.func144, Tryz.ntmps144
  go_wp2_with fail
  refine (unhide CM).mono ?_
  rintro e w1 ⟨⟨k, rfl⟩, rfl⟩
  go_wp2_with fail
  refine (unhide LN k).mono ?_
  rintro e w1 ⟨rfl, rfl⟩
  go_wp2_with fail
  refine (unhide LV k).mono ?_
  rintro e w2 ⟨k2, vv, rfl, ⟨LVs, rV, iV⟩⟩
  have eV := is_unique iV (is_top1 2 2147483648 (by decide) (by decide))
  obtain ⟨lV, tV, zV⟩ := top1_at eV
  obtain ⟨aoV, capV, rfl, -, -, -, hV4, hV5, hV6⟩ := rV.at
  obtain ⟨dV, rfl⟩ := hV5 (by omega)
  have hdV := (hV4 _ _ _ rfl).2.2
  have HCV := hide (hV6 dV rfl)
  have ZV := hide zV
  have TV := hide tV
  have LVL := hide lV
  have K2 := hide (of_drewN k2)
  rw [lV]
  clear k2 iV rV eV hV4 hV5 hV6 CM LN LV zV tV
  have OU := hide (Own32.new w2 (LA.length + 2))
  have KU := hide (below_a w2 (.cells (madeCells #[.int .u32 0] (LA.length + 2)) 159))
  have hsU : (w2.alloc (.cells (madeCells #[.int .u32 0] (LA.length + 2)) 159)).heap.size = w2.heap.size + 1 := by simp
  have hgU : Hid ((w2.alloc (.cells (madeCells #[.int .u32 0] (LA.length + 2)) 159)).heap[w2.heap.size]? = some (.cells (List.replicate (LA.length + 2) (Value.int .u32 0)).toArray 159 (0, 0))) := by
    rw [made_rep]
    show (w2.heap.push _)[w2.heap.size]? = _
    simp
  go_wp2_with fail
  clear hmk
  generalize w2.alloc (.cells (madeCells #[.int .u32 0] (LA.length + 2)) 159) = W3 at *
  refine (left_any _ n1 31 W3 (((unhide H1).step (unhide K2)).step (unhide KU)) (by omega) (by decide)).mono ?_
  rintro e w4 ⟨k4, vu, rfl, ⟨LU, rU, iU⟩⟩
  have lU : LU.length ≤ LA.length + 1 := iU.len (LA.length + 1) (by
    have := (unhide IA).hi
    rw [Int.pow_succ]
    omega)
  obtain ⟨aoU, capU, rfl, -, -, -, hU4, hU5, hU6⟩ := rU.at
  have K4 := hide k4
  have O4 := hide ((unhide OU).step (unhide K4))
  have g4 := hide (((unhide K4).block w2.heap.size (by omega)).trans (unhide hgU))
  have IU := hide iU
  have HU5 := hide hU5
  have HU6 := hide hU6
  clear k4 iU rU hU4 hU5 hU6
  have lq : (LA.length : Int) + 2 - 3 = ((LA.length - 2 + 1 : Nat) : Int) := by omega
  have hmq := make32x (LA.length - 2 + 1) ((LA.length : Int) + 2 - 3) lq (by omega)
  have HLQ := hide lq
  clear lq
  go_wp2_with (refine wpList_copy_splice rfl (.tmp 81) (.tmp 84) 125 125 rfl 159 Tryz.underlying125 Tryz.sizeU32 (some ⟨w2.heap.size, 0, none⟩) aoU (LA.length + 2) (LA.length + 2) LU.length capU rfl rfl w2.heap.size 0 (List.replicate (LA.length + 2) (Value.int .u32 0)) 159 (unhide g4) (LU.map u32v) (by rw [List.length_map]; exact (Nat.min_eq_left (by omega)).symm) (hpu_of (unhide HU5) (unhide HU6)) (by rw [List.length_map, List.length_replicate]; omega) (u32_one _) w2.heap.size w4 (Below.refl _ _) (Nat.le_refl _) ?_; intro w5 g5 k5; have K5 := hide k5; have O5 := hide (own_splice g5 (by omega)); clear g5 k5)
  have OU5 := O5
  have KV5 := hide (((unhide KU).trans ((unhide K4).mono (by omega))).trans (unhide K5))
  have QN := hide (Own32.new w5 (LA.length - 2 + 1))
  have KQ := hide (below_a w5 (.cells (madeCells #[.int .u32 0] (LA.length - 2 + 1)) 159))
  have hsQ : (w5.alloc (.cells (madeCells #[.int .u32 0] (LA.length - 2 + 1)) 159)).heap.size = w5.heap.size + 1 := by simp
  have s5 : w2.heap.size < w5.heap.size := (unhide O5).lt
  have cV0 := cell_keep (below_a w5 (.cells (madeCells #[.int .u32 0] (LA.length - 2 + 1)) 159)) (by omega) (((unhide KV5).cell (p := ⟨dV, 2, none⟩) hdV).trans (unhide HCV 2 (by have := unhide LVL; omega)))
  have cV1 := cell_keep (below_a w5 (.cells (madeCells #[.int .u32 0] (LA.length - 2 + 1)) 159)) (by omega) (((unhide KV5).cell (p := ⟨dV, 1, none⟩) hdV).trans (unhide HCV 1 (by have := unhide LVL; omega)))
  rw [unhide TV] at cV0
  rw [unhide ZV 1 (by decide)] at cV1
  have OU6 := hide ((unhide OU5).step (unhide KQ))
  have KV6 := hide ((unhide KV5).trans ((unhide KQ).mono (by omega)))
  go_wp2_with fail
  clear hmq
  go_quiet (fail)
  go_wp2_with fail
  have SD := hide (DInv.start (unhide IU) lU (m := 2) (la := LA.length) (by omega))
  have QN2 : Hid (Own32 ((w5.alloc (.cells (madeCells #[.int .u32 0] (LA.length - 2 + 1)) 159)).drewN nq) w5.heap.size (List.replicate (LA.length - 2 + 1) 0)) := unhide QN
  have OU7 : Hid (Own32 ((w5.alloc (.cells (madeCells #[.int .u32 0] (LA.length - 2 + 1)) 159)).drewN nq) w2.heap.size (LU ++ List.replicate (LA.length + 2 - LU.length) 0)) := unhide OU6
  have KV7 : Hid (Below w2.heap.size w2 ((w5.alloc (.cells (madeCells #[.int .u32 0] (LA.length - 2 + 1)) 159)).drewN nq)) := ⟨(unhide KV6).os, (unhide KV6).tape, (unhide KV6).output, (unhide KV6).size, (unhide KV6).block⟩
  generalize (w5.alloc (.cells (madeCells #[.int .u32 0] (LA.length - 2 + 1)) 159)).drewN nq = w7 at *
  have s7 := (unhide QN2).lt
  clear OU5 OU6 KV5 KV6 QN KQ hsQ cV0 cV1 O5 K5 IU HU5 HU6 O4 g4 OU hgU hsU KU K4 lU
  generalize w5.heap.size = dQ at *
  go_loopg [18] (LA.length - 2 + 1) (fun g t wr => ∃ (k : Nat) (U Q : List Int), k ≤ LA.length - 2 + 1 ∧ g = k ∧ t = .int .i64 ((k : Int) - 1) ∧ Hid (Own32 wr w2.heap.size U) ∧ Hid (Own32 wr dQ Q) ∧ Hid (Below w2.heap.size w2 wr) ∧ Hid (DInv n1 LA.length 2 U Q k))
  case atStart => exact ⟨LA.length - 2 + 1, _, _, Nat.le_refl _, rfl, congrArg (Value.int .i64) (by have := unhide HLQ; omega), OU7, QN2, KV7, SD⟩
  case round =>
    obtain ⟨k, U, Q, hk, hg, rfl, hOU, hOQ, hKV, hI⟩ := hrel
    clear QN2 OU7 KV7 SD
    have hz := (unhide hOU).lt
    have hz2 := (unhide hOQ).lt
    have hUl := hide (unhide hI).ul
    have hQl := hide (unhide hI).ql
    by_cases k0 : k = 0
    · subst k0
      obtain ⟨e1, e2⟩ := (unhide hI).done (by omega)
      have RWQ := (unhide hOQ).row (by rw [unhide hQl]; unfold maxLen; omega)
      have TRQ := trim_any _ _ _ RWQ (unhide hI).qw (by rw [unhide hQl]; omega)
      rw [unhide hQl, e1] at TRQ
      have RWU := (unhide hOU).row (by rw [unhide hUl]; unfold maxLen; omega)
      have TRU := trim_any _ _ _ RWU (unhide hI).uw (by rw [unhide hUl]; omega)
      rw [unhide hUl] at TRU
      have HTQ := hide TRQ
      have HTU := hide TRU
      have hU8 : vl U < 4294967296 ^ 8 := by
        have a := vl_hi (unhide hI).uw
        have b := bp_le (a := U.length) (b := 8) (by rw [unhide hUl]; omega)
        omega
      have E2 := hide e2
      clear TRQ TRU RWQ RWU e1 e2
      go_wp2_with fail
      refine (unhide HTQ).mono ?_
      rintro e w1 ⟨rfl, vq, rfl, D1⟩
      have HD := hide D1
      clear D1
      go_wp2_with fail
      refine (unhide HTU).mono ?_
      rintro e w1 ⟨rfl, vu, rfl, D2⟩
      have RT := right_any vu (vl U) 31 _ D2 hU8 (by decide)
      rw [show (2 : Int) ^ 31 = 2147483648 by decide, unhide E2] at RT
      clear D2
      go_wp2_with fail
      refine RT.mono ?_
      rintro e w8 ⟨k8, vr, rfl, D8⟩
      have HD8 := hide D8
      have HK8 := hide k8
      clear RT D8 k8
      go_wp2_with fail
      go_ret2
      exact ⟨(unhide K2).trans (((unhide hKV).trans ((unhide HK8).mono (by omega))).mono (unhide K2).size), _, _, rfl, (unhide HD).step (unhide HK8), unhide HD8⟩
    · obtain ⟨j, rfl⟩ : ∃ j, k = j + 1 := ⟨k - 1, by omega⟩
      have hjm : j + 2 ≤ LA.length := by omega
      have e1 : (((j + 1 : Nat) : Int) - 1) = (j : Int) := by omega
      have cy := (unhide hOU).cell (j + 3) (by have := unhide hUl; omega)
      have cx := (unhide hOU).cell (j + 2) (by have := unhide hUl; omega)
      have cz := (unhide hOU).cell (j + 1) (by have := unhide hUl; omega)
      have gx := (unhide hI).uw.get (j + 2)
      have gy := (unhide hI).uw.get (j + 3)
      have gz := (unhide hI).uw.get (j + 1)
      have ty := (unhide hI).top
      rw [show j + 1 + 2 = j + 3 by omega] at ty
      have NX := hide ((unhide hI).next (j := j) hjm)
      have ho := or_two' (U.getD (j + 3) 0) (U.getD (j + 2) 0) gy gx
      rw [e1]
      have b1 : (j : Int) + 3 < (LA.length : Int) + 2 := by omega
      have b2 : (j : Int) + 3 - 1 < (LA.length : Int) + 2 := by omega
      have b3 : ((j : Int) + 3 - 1).toNat = j + 2 := by omega
      have b4 : ((j : Int) + 3).toNat = j + 3 := by omega
      have b5 : (0 : Int) ≤ (j : Int) + 3 - 1 := by omega
      have b6 : (0 : Int) ≤ (j : Int) + 3 := by omega
      obtain ⟨x, hx⟩ : ∃ x, x = U.getD (j + 2) 0 := ⟨_, rfl⟩
      obtain ⟨y, hy⟩ : ∃ y, y = U.getD (j + 3) 0 := ⟨_, rfl⟩
      obtain ⟨z, hzz⟩ : ∃ z, z = U.getD (j + 1) 0 := ⟨_, rfl⟩
      rw [← hx] at cx gx ho
      rw [← hy] at cy gy ty ho
      rw [← hzz] at cz gz
      have HX := hide hx
      have HY := hide hy
      have HZ := hide hzz
      clear hx hy hzz e1
      go_wp2_with fail
      go_quiet (fail)
      go_wp2_with fail
      obtain ⟨T, hT⟩ : ∃ T, T = y * 4294967296 + x := ⟨_, rfl⟩
      rw [← hT]
      have T0 : 0 ≤ T ∧ T < 9223372036854775808 := by omega
      have HT := hide hT
      clear hT ho
      go_quiet (fail)
      obtain ⟨G, hG⟩ : ∃ G, G = T / 2147483648 := ⟨_, rfl⟩
      obtain ⟨S, hS⟩ : ∃ S, S = T % 2147483648 := ⟨_, rfl⟩
      rw [← hG, ← hS]
      have G0 : 0 ≤ G ∧ G ≤ 4294967295 := by omega
      have S0 : 0 ≤ S ∧ S < 2147483648 := by omega
      have HG := hide hG
      have HS := hide hS
      have ho2 := or_two' S z (by omega) gz
      have b7 : ((j : Int) + 3 - 2).toNat = j + 1 := by omega
      have b8 : (0 : Int) ≤ (j : Int) + 3 - 2 := by omega
      have b9 : (j : Int) + 3 - 2 < (LA.length : Int) + 2 := by omega
      have g1 : decide (4294967295 < G) = false := decide_eq_false (by omega)
      have g2 : decide (S * 4294967296 + z < 0) = false := decide_eq_false (by omega)
      clear hG hS T0
      go_wp2_with fail
      go_loopg [20, 21] 0 (fun _ a b ws => a = .int .u64 G ∧ b = .int .u64 S ∧ ∃ q, ws = wr.drewN q)
      case atStart => exact ⟨rfl, rfl, _, World.drewN_drewN _ _ _⟩
      case round =>
        obtain ⟨rfl, rfl, q, rfl⟩ := hrel
        go_wp2_with fail
        clear ho2 g1 g2 b7 b8 b9 cz gz HZ
        go_loopg [22, 23, 24] 3 (fun gk c d i ws => ∃ (ii : Nat) (cc dd : Int) (R : List Int), ii ≤ 3 ∧ gk = 3 - ii ∧ c = .int .u64 cc ∧ d = .int .u64 dd ∧ i = .int .i64 ii ∧ Hid (Own32 ws w2.heap.size R) ∧ Hid (Own32 ws dQ Q) ∧ Hid (Below w2.heap.size w2 ws) ∧ ((ii ≤ 2 ∧ cc = 0 ∧ dd = 0 ∧ R = U) ∨ (ii = 3 ∧ cc = G * 2147483648 / 4294967296 ∧ dd = (x - G * 2147483648 % 4294967296) % 18446744073709551616 / 9223372036854775808 ∧ R = U.set (j + 2) ((x - G * 2147483648 % 4294967296) % 18446744073709551616 % 4294967296))))
        case atStart => exact ⟨0, 0, 0, U, Nat.zero_le _, rfl, rfl, rfl, rfl, unhide hOU, unhide hOQ, below_drewN (unhide hKV) _, .inl ⟨Nat.zero_le _, rfl, rfl, rfl⟩⟩
        case round =>
          obtain ⟨ii, cc, dd, R, hii, hgi, rfl, rfl, rfl, hO3, hQ3, hK3, hC⟩ := hrel
          have lt3 := (unhide hO3).lt
          rcases hC with ⟨hi, rfl, rfl, rfl⟩ | ⟨rfl, hcc, hdd, rfl⟩
          · by_cases him : ii < 2
            · have cv := cell_keep (unhide hK3) hdV (unhide HCV ii (by have := unhide LVL; omega))
              rw [unhide ZV ii him] at cv
              have cu := (unhide hO3).cell (ii + j) (by have := unhide hUl; omega)
              have gu := (unhide hI).uw.get (ii + j)
              have fu := (unhide hO3).frozen (ii + j)
              have SS := hide (set_same R (ii + j) (by have := unhide hUl; omega))
              have OX := hide ((unhide hO3).set (ii + j) (R.getD (ii + j) 0) (by have := unhide hUl; omega))
              have QX := hide ((unhide hQ3).other (b := w2.heap.size) (j := ii + j) (x := .int .u32 (R.getD (ii + j) 0)) (by omega))
              have KX := hide ((unhide hK3).setCell (p := ⟨w2.heap.size, ii + j, none⟩) (Nat.le_refl _) (.int .u32 (R.getD (ii + j) 0)))
              have i1 : (ii : Int) < 3 := by omega
              have i2 : ((ii : Int) + (j : Int)) < (LA.length : Int) + 2 := by omega
              have i3 : ((ii : Int) + (j : Int)).toNat = ii + j := by omega
              have i4 : (0 : Int) ≤ (ii : Int) + (j : Int) := by omega
              generalize R.getD (ii + j) 0 = z at *
              go_wp2_with fail
              go_roundg (3 - (ii + 1))
              case measure => omega
              case rel => exact ⟨ii + 1, 0, z / 9223372036854775808, R, by omega, rfl, rfl, rfl, by go_num, by have := OX; rw [unhide SS] at this; exact this, QX, KX, .inl ⟨by omega, rfl, by omega, rfl⟩⟩
            · obtain rfl : ii = 2 := by omega
              have cv := cell_keep (unhide hK3) hdV (unhide HCV 2 (by have := unhide LVL; omega))
              rw [unhide TV] at cv
              have cu := (unhide hO3).cell (2 + j) (by have := unhide hUl; omega)
              rw [show 2 + j = j + 2 by omega] at cu
              rw [← unhide HX] at cu
              have fu := (unhide hO3).frozen (j + 2)
              have i3 : (2 + (j : Int)).toNat = j + 2 := by omega
              have i4 : (0 : Int) ≤ 2 + (j : Int) := by omega
              have i2 : 2 + (j : Int) < (LA.length : Int) + 2 := by omega
              have V0 : 0 ≤ (x - G * 2147483648 % 4294967296) % 18446744073709551616 % 4294967296 ∧ (x - G * 2147483648 % 4294967296) % 18446744073709551616 % 4294967296 ≤ 4294967295 := by omega
              have OX := hide ((unhide hO3).set (j + 2) ((x - G * 2147483648 % 4294967296) % 18446744073709551616 % 4294967296) (by have := unhide hUl; omega))
              have QX := hide ((unhide hQ3).other (b := w2.heap.size) (j := j + 2) (x := .int .u32 ((x - G * 2147483648 % 4294967296) % 18446744073709551616 % 4294967296)) (by omega))
              have KX := hide ((unhide hK3).setCell (p := ⟨w2.heap.size, j + 2, none⟩) (Nat.le_refl _) (.int .u32 ((x - G * 2147483648 % 4294967296) % 18446744073709551616 % 4294967296)))
              go_wp2_with fail
              rw [wrap_wrap]
              go_roundg 0
              case measure => omega
              case rel => exact ⟨3, _, _, _, Nat.le_refl _, rfl, rfl, rfl, rfl, OX, QX, KX, .inr ⟨rfl, rfl, rfl, rfl⟩⟩
          · have hGT : G = (y * 4294967296 + x) / 2147483648 := by rw [unhide HG, unhide HT]
            obtain ⟨hV, hB⟩ := borrow gx ⟨gy.1, ty⟩ hGT
            rw [← hcc, ← hdd] at hB
            have d0 : 0 ≤ dd ∧ dd ≤ 1 := by
              have : (0 : Int) ≤ (x - G * 2147483648 % 4294967296) % 18446744073709551616 ∧ (x - G * 2147483648 % 4294967296) % 18446744073709551616 < 18446744073709551616 := by omega
              omega
            have hc2 : cc = y - dd := by omega
            have c0 : 0 ≤ y - dd := by rw [← hc2, hcc]; omega
            clear hcc hdd hB
            subst hc2
            have NX2 : Hid (DInv n1 LA.length 2 ((U.set (j + 2) ((x - G * 2147483648 % 4294967296) % 18446744073709551616 % 4294967296)).set (j + 3) 0) (Q.set j G) j) := by
              rw [hV, hGT]
              have := unhide NX
              rw [show j + 2 + 1 = j + 3 by omega, ← unhide HX, ← unhide HY] at this
              exact this
            generalize (x - G * 2147483648 % 4294967296) % 18446744073709551616 % 4294967296 = V at *
            have cu := (unhide hO3).cell (j + 3) (by have := unhide hUl; rw [List.length_set]; omega)
            rw [getD_set_ne (by omega), ← unhide HY] at cu
            have fu := (unhide hO3).frozen (j + 3)
            have cq := (unhide hQ3).cell j (by have := unhide hQl; omega)
            have fq := (unhide hQ3).frozen j
            have OX := hide (((unhide hO3).set (j + 3) 0 (by have := unhide hUl; rw [List.length_set]; omega)).other (b := dQ) (j := j) (x := .int .u32 G) (by omega))
            have QX := hide (((unhide hQ3).other (b := w2.heap.size) (j := j + 3) (x := .int .u32 0) (by omega)).set j G (by have := unhide hQl; omega))
            have KX := hide (((unhide hK3).setCell (p := ⟨w2.heap.size, j + 3, none⟩) (Nat.le_refl _) (.int .u32 0)).setCell (p := ⟨dQ, j, none⟩) (by show w2.heap.size ≤ dQ; omega) (.int .u32 G))
            have i5 : (j : Int) < ((LA.length - 2 : Nat) : Int) + 1 := by omega
            have i6 : j < LA.length - 2 + 1 := by omega
            have hnq : dQ ≠ w2.heap.size := by omega
            have hq3 := (unhide hQ3).lt
            generalize Q.getD j 0 = qz at *
            clear NX hV hGT HX HY
            have e0 : y - (y - dd) - dd = 0 := by omega
            have hb0 : ((y - (y - dd) - dd) / 9223372036854775808 != 0) = false := by rw [e0]; rfl
            have E0 := hide e0
            clear e0
            go_wp2_with fail
            rw [unhide E0]
            go_roundg j
            case measure => omega
            case rel => exact ⟨j, _, _, by omega, rfl, rfl, OX, QX, KX, NX2⟩
end Go.Proofs.YtaidefdbjcgcbaaGreat
