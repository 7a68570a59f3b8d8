/-
  add and sub.
-/
import Derived.Test.YtaidefdbjcgcbaaGreatBig1z
import Derived.Deep.OwnRows
namespace Go.Proofs.YtaidefdbjcgcbaaGreat
open Go.RowKit
set_option linter.unusedSimpArgs false
set_option linter.unusedVariables false

theorem Tryz.infoU32 : (Tryz.prog.info? 159).map (fun i => (i.zero, i.size, i.bytes)) = some (some (.int .u32 0), 1, 4) := by kernel_rfl
theorem make32 (n : Nat) (hn : n ≤ 1000) (w : World) : (Instr.makeSlice 125 (.int .i64 (n : Int)) (.int .i64 (n : Int))).run Tryz.prog w = .ok (.slice (some ⟨w.heap.size, 0, none⟩) n n) (w.alloc (.cells (madeCells #[.int .u32 0] n) 159)) :=
  run_make_row' 125 159 (.int .u32 0) 4 Tryz.underlying125 Tryz.infoU32 rfl .i64 .i64 n (by omega) (by omega) w

theorem make32s (n : Nat) (hn : n ≤ 900) (w : World) : (Instr.makeSlice 125 (.int .i64 ((n : Int) + 1)) (.int .i64 ((n : Int) + 1))).run Tryz.prog w = .ok (.slice (some ⟨w.heap.size, 0, none⟩) (n + 1) (n + 1)) (w.alloc (.cells (madeCells #[.int .u32 0] (n + 1)) 159)) :=
  make32 (n + 1) (by omega) w

structure AddInv (A B R : List Int) (i : Nat) (c : Int) : Prop where
  len : R.length = A.length + 1
  wds : Wds R
  zer : ∀ j, i ≤ j → R.getD j 0 = 0
  c0 : 0 ≤ c
  c1 : c ≤ 1
  val : vl R + 4294967296 ^ i * c = vl (A.take i) + vl (B.take i)
theorem AddInv.start (A B : List Int) : AddInv A B (List.replicate (A.length + 1) 0) 0 0 :=
  ⟨by simp, wds_rep _, fun j _ => getD_rep _ j, by decide, by decide, by rw [vl_rep]; simp [vl]⟩
theorem AddInv.next {A B R : List Int} {i : Nat} {c y : Int} (h : AddInv A B R i c) (hi : i < A.length) (hA : Wds A) (hB : Wds B) (hy : y = B.getD i 0) : AddInv A B (R.set i ((c + A.getD i 0 + y) % 4294967296)) (i + 1) ((c + A.getD i 0 + y) / 4294967296) := by
  obtain ⟨h1, h2, h3, h4, h5, h6⟩ := h
  have a := hA.get i
  have b := hB.get i
  rw [← hy] at b
  have t1 := vl_take A i
  have t2 := vl_take B i
  rw [← hy] at t2
  have s1 := vl_set R i ((c + A.getD i 0 + y) % 4294967296) (by omega)
  rw [h3 i (Nat.le_refl _)] at s1
  have dm : c + A.getD i 0 + y = (c + A.getD i 0 + y) % 4294967296 + 4294967296 * ((c + A.getD i 0 + y) / 4294967296) := by omega
  refine ⟨by rw [List.length_set]; exact h1, h2.set _ (by omega), fun j hj => by rw [getD_set_ne (by omega)]; exact h3 j (by omega), by omega, by omega, ?_⟩
  rw [t1, t2, s1, Int.pow_succ]
  generalize (c + A.getD i 0 + y) % 4294967296 = r at *
  generalize (c + A.getD i 0 + y) / 4294967296 = q at *
  generalize A.getD i 0 = x at *
  generalize (4294967296 : Int) ^ i = P at *
  grind
theorem AddInv.done {A B R : List Int} {c : Int} (h : AddInv A B R A.length c) (hl : B.length ≤ A.length) : Wds (R.set A.length c) ∧ vl (R.set A.length c) = vl A + vl B := by
  obtain ⟨h1, h2, h3, h4, h5, h6⟩ := h
  refine ⟨h2.set _ (by omega), ?_⟩
  rw [vl_set _ _ _ (by omega), h3 _ (Nat.le_refl _)]
  rw [List.take_of_length_le (Nat.le_refl _), List.take_of_length_le hl] at h6
  rw [Int.sub_zero]
  exact h6
set_option maxHeartbeats 1000000 in
theorem badd_any (v1 v2 : Value) (n1 n2 : Int) (w : World) (h1 : Dg w v1 n1) (h2 : Dg w v2 n2) (hn1 : n1 < 4294967296 ^ 8) (hn2 : n2 < 4294967296 ^ 8) :
    Calls Tryz.prog 162 #[v1, v2] w fun e w' => Below w.heap.size w w' ∧ ∃ v', e = .returned v' ∧ Dg w' v' (n1 + n2) := by
  obtain ⟨L1, r1, i1⟩ := h1
  obtain ⟨L2, r2, i2⟩ := h2
  by_cases hlen : L1.length < L2.length
  · obtain ⟨LA, hLA⟩ : ∃ LA, LA = L2 := ⟨_, rfl⟩
    obtain ⟨LB, hLB⟩ : ∃ LB, LB = L1 := ⟨_, rfl⟩
    rw [← hLA] at r2 i2 hlen
    rw [← hLB] at r1 i1 hlen
    have rA := r2
    have rB := r1
    have iA := i2
    have iB := i1
    have hA := hn2
    have hB := hn1
    clear r1 r2 i1 i2 hn1 hn2 hLA hLB L1 L2
    have lA := iA.len 8 hA
    have lB := iB.len 8 hB
    obtain ⟨aoA, capA, rfl, _, _, _, hA4, hA5, hA6⟩ := rA.at
    obtain ⟨aoB, capB, rfl, _, _, _, hB4, hB5, hB6⟩ := rB.at
    have HRA := hide (fun d (he : aoA = some ⟨d, 0, none⟩) => And.intro (hA4 d 0 none he).2.2 (hA6 d he))
    have HRB := hide (fun d (he : aoB = some ⟨d, 0, none⟩) => And.intro (hB4 d 0 none he).2.2 (hB6 d he))
    have HA5 := hide hA5
    have HB5 := hide hB5
    have IA := hide iA
    have IB := hide iB
    clear hA4 hA5 hA6 hB4 hB5 hB6 rA rB iA iB
    have hle : LB.length ≤ LA.length := by omega
    have hlb : decide ((LB.length : Int) < (LA.length : Int)) = true := by simp; omega
    go_enter Tryz.func162, Tryz.ntmps162
    have O0 := hide (Own32.new w (LA.length + 1))
    have K0 := hide (below_a w (.cells (madeCells #[.int .u32 0] (LA.length + 1)) 159))
    have hmk := make32s LA.length (by omega)
    go_wp2_with fail
    clear hmk
    go_loopg [6, 7] LA.length (fun g c t wr => ∃ (i : Nat) (cc : Int) (R : List Int), i ≤ LA.length ∧ g = LA.length - i ∧ c = .int .u64 cc ∧ t = .int .i64 i ∧ Hid (Own32 wr w.heap.size R) ∧ Hid (Below w.heap.size w wr) ∧ Hid (AddInv LA LB R i cc))
    case atStart => exact ⟨0, 0, _, Nat.zero_le _, by simp, rfl, rfl, O0, K0, AddInv.start LA LB⟩
    case round =>
      obtain ⟨i, cc, R, hi, hg, rfl, rfl, hO, hK, hI⟩ := hrel
      clear O0 K0
      have hz := (unhide hK).size
      have hlt := (unhide hO).lt
      have cc0 := (unhide hI).c0
      have cc1 := (unhide hI).c1
      have hRl := hide (unhide hI).len
      have hf := (unhide hO).frozen i
      by_cases hlt2 : i < LA.length
      · obtain ⟨dA, rfl⟩ := unhide HA5 (by omega)
        obtain ⟨hdA, hcA⟩ := unhide HRA dA rfl
        have cA := cell_keep (unhide hK) hdA (hcA i hlt2)
        have gA := (unhide IA).1.get i
        have cR := (unhide hO).cell i (by have := unhide hRl; omega)
        have hne : dA ≠ w.heap.size := by omega
        have hiA : (i : Int) < (LA.length : Int) := by omega
        have hiR : (i : Int) < (LA.length : Int) + 1 := by omega
        clear hcA
        by_cases hb : i < LB.length
        · obtain ⟨dB, rfl⟩ := unhide HB5 (by omega)
          obtain ⟨hdB, hcB⟩ := unhide HRB dB rfl
          have cB := cell_keep (unhide hK) hdB (hcB i hb)
          have gB := (unhide IB).1.get i
          have hiB : (i : Int) < (LB.length : Int) := by omega
          have NX := hide ((unhide hI).next hlt2 (unhide IA).1 (unhide IB).1 (y := LB.getD i 0) rfl)
          have OX := hide ((unhide hO).set i ((cc + LA.getD i 0 + LB.getD i 0) % 4294967296) (by have := unhide hRl; omega))
          have KX := hide ((unhide hK).setCell (p := ⟨w.heap.size, i, none⟩) (Nat.le_refl _) (.int .u32 ((cc + LA.getD i 0 + LB.getD i 0) % 4294967296)))
          clear hcB
          generalize LA.getD i 0 = x at *
          generalize LB.getD i 0 = y at *
          generalize R.getD i 0 = z at *
          go_wp2_with fail
          go_roundg (LA.length - (i + 1))
          case measure => omega
          case rel => exact ⟨i + 1, _, _, by omega, rfl, rfl, by go_num, OX, KX, NX⟩
        · have hib : decide ((i : Int) < (LB.length : Int)) = false := by simp; omega
          have NX := hide ((unhide hI).next hlt2 (unhide IA).1 (unhide IB).1 (y := 0) (by rw [List.getD_eq_getElem?_getD, List.getElem?_eq_none (by omega)]; rfl))
          rw [Int.add_zero] at NX
          have OX := hide ((unhide hO).set i ((cc + LA.getD i 0) % 4294967296) (by have := unhide hRl; omega))
          have KX := hide ((unhide hK).setCell (p := ⟨w.heap.size, i, none⟩) (Nat.le_refl _) (.int .u32 ((cc + LA.getD i 0) % 4294967296)))
          generalize LA.getD i 0 = x at *
          generalize R.getD i 0 = z at *
          go_wp2_with fail
          go_roundg (LA.length - (i + 1))
          case measure => omega
          case rel => exact ⟨i + 1, _, _, by omega, rfl, rfl, by go_num, OX, KX, NX⟩
      · have hiA : i = LA.length := by omega
        subst hiA
        have cR := (unhide hO).cell LA.length (by have := unhide hRl; omega)
        have DN := hide ((unhide hI).done hle)
        have OX := hide ((unhide hO).set LA.length cc (by have := unhide hRl; omega))
        have KX := hide ((unhide hK).setCell (p := ⟨w.heap.size, LA.length, none⟩) (Nat.le_refl _) (.int .u32 cc))
        have hRX : (R.set LA.length cc).length = LA.length + 1 := by rw [List.length_set]; exact unhide hRl
        have RW := (unhide OX).row (by rw [hRX]; unfold maxLen; omega)
        have TR := trim_any _ _ _ RW (unhide DN).1 (by rw [hRX]; omega)
        rw [hRX, (unhide DN).2, (unhide IA).2.2, (unhide IB).2.2] at TR
        have HT := hide TR
        clear TR RW hRX
        generalize R.getD LA.length 0 = z at *
        go_wp2_with fail
        refine (unhide HT).mono ?_
        rintro e w1 ⟨rfl, v1, rfl, D1⟩
        have HD := hide D1
        clear D1
        go_wp2_with fail
        go_ret
        exact ⟨unhide KX, _, rfl, by first | exact unhide HD | exact Int.add_comm n2 n1 ▸ unhide HD⟩
  · obtain ⟨LA, hLA⟩ : ∃ LA, LA = L1 := ⟨_, rfl⟩
    obtain ⟨LB, hLB⟩ : ∃ LB, LB = L2 := ⟨_, rfl⟩
    rw [← hLA] at r1 i1 hlen
    rw [← hLB] at r2 i2 hlen
    have rA := r1
    have rB := r2
    have iA := i1
    have iB := i2
    have hA := hn1
    have hB := hn2
    clear r1 r2 i1 i2 hn1 hn2 hLA hLB L1 L2
    have lA := iA.len 8 hA
    have lB := iB.len 8 hB
    obtain ⟨aoA, capA, rfl, _, _, _, hA4, hA5, hA6⟩ := rA.at
    obtain ⟨aoB, capB, rfl, _, _, _, hB4, hB5, hB6⟩ := rB.at
    have HRA := hide (fun d (he : aoA = some ⟨d, 0, none⟩) => And.intro (hA4 d 0 none he).2.2 (hA6 d he))
    have HRB := hide (fun d (he : aoB = some ⟨d, 0, none⟩) => And.intro (hB4 d 0 none he).2.2 (hB6 d he))
    have HA5 := hide hA5
    have HB5 := hide hB5
    have IA := hide iA
    have IB := hide iB
    clear hA4 hA5 hA6 hB4 hB5 hB6 rA rB iA iB
    have hle : LB.length ≤ LA.length := by omega
    have hlb : decide ((LA.length : Int) < (LB.length : Int)) = false := by simp; omega
    go_enter Tryz.func162, Tryz.ntmps162
    have O0 := hide (Own32.new w (LA.length + 1))
    have K0 := hide (below_a w (.cells (madeCells #[.int .u32 0] (LA.length + 1)) 159))
    have hmk := make32s LA.length (by omega)
    go_wp2_with fail
    clear hmk
    go_loopg [6, 7] LA.length (fun g c t wr => ∃ (i : Nat) (cc : Int) (R : List Int), i ≤ LA.length ∧ g = LA.length - i ∧ c = .int .u64 cc ∧ t = .int .i64 i ∧ Hid (Own32 wr w.heap.size R) ∧ Hid (Below w.heap.size w wr) ∧ Hid (AddInv LA LB R i cc))
    case atStart => exact ⟨0, 0, _, Nat.zero_le _, by simp, rfl, rfl, O0, K0, AddInv.start LA LB⟩
    case round =>
      obtain ⟨i, cc, R, hi, hg, rfl, rfl, hO, hK, hI⟩ := hrel
      clear O0 K0
      have hz := (unhide hK).size
      have hlt := (unhide hO).lt
      have cc0 := (unhide hI).c0
      have cc1 := (unhide hI).c1
      have hRl := hide (unhide hI).len
      have hf := (unhide hO).frozen i
      by_cases hlt2 : i < LA.length
      · obtain ⟨dA, rfl⟩ := unhide HA5 (by omega)
        obtain ⟨hdA, hcA⟩ := unhide HRA dA rfl
        have cA := cell_keep (unhide hK) hdA (hcA i hlt2)
        have gA := (unhide IA).1.get i
        have cR := (unhide hO).cell i (by have := unhide hRl; omega)
        have hne : dA ≠ w.heap.size := by omega
        have hiA : (i : Int) < (LA.length : Int) := by omega
        have hiR : (i : Int) < (LA.length : Int) + 1 := by omega
        clear hcA
        by_cases hb : i < LB.length
        · obtain ⟨dB, rfl⟩ := unhide HB5 (by omega)
          obtain ⟨hdB, hcB⟩ := unhide HRB dB rfl
          have cB := cell_keep (unhide hK) hdB (hcB i hb)
          have gB := (unhide IB).1.get i
          have hiB : (i : Int) < (LB.length : Int) := by omega
          have NX := hide ((unhide hI).next hlt2 (unhide IA).1 (unhide IB).1 (y := LB.getD i 0) rfl)
          have OX := hide ((unhide hO).set i ((cc + LA.getD i 0 + LB.getD i 0) % 4294967296) (by have := unhide hRl; omega))
          have KX := hide ((unhide hK).setCell (p := ⟨w.heap.size, i, none⟩) (Nat.le_refl _) (.int .u32 ((cc + LA.getD i 0 + LB.getD i 0) % 4294967296)))
          clear hcB
          generalize LA.getD i 0 = x at *
          generalize LB.getD i 0 = y at *
          generalize R.getD i 0 = z at *
          go_wp2_with fail
          go_roundg (LA.length - (i + 1))
          case measure => omega
          case rel => exact ⟨i + 1, _, _, by omega, rfl, rfl, by go_num, OX, KX, NX⟩
        · have hib : decide ((i : Int) < (LB.length : Int)) = false := by simp; omega
          have NX := hide ((unhide hI).next hlt2 (unhide IA).1 (unhide IB).1 (y := 0) (by rw [List.getD_eq_getElem?_getD, List.getElem?_eq_none (by omega)]; rfl))
          rw [Int.add_zero] at NX
          have OX := hide ((unhide hO).set i ((cc + LA.getD i 0) % 4294967296) (by have := unhide hRl; omega))
          have KX := hide ((unhide hK).setCell (p := ⟨w.heap.size, i, none⟩) (Nat.le_refl _) (.int .u32 ((cc + LA.getD i 0) % 4294967296)))
          generalize LA.getD i 0 = x at *
          generalize R.getD i 0 = z at *
          go_wp2_with fail
          go_roundg (LA.length - (i + 1))
          case measure => omega
          case rel => exact ⟨i + 1, _, _, by omega, rfl, rfl, by go_num, OX, KX, NX⟩
      · have hiA : i = LA.length := by omega
        subst hiA
        have cR := (unhide hO).cell LA.length (by have := unhide hRl; omega)
        have DN := hide ((unhide hI).done hle)
        have OX := hide ((unhide hO).set LA.length cc (by have := unhide hRl; omega))
        have KX := hide ((unhide hK).setCell (p := ⟨w.heap.size, LA.length, none⟩) (Nat.le_refl _) (.int .u32 cc))
        have hRX : (R.set LA.length cc).length = LA.length + 1 := by rw [List.length_set]; exact unhide hRl
        have RW := (unhide OX).row (by rw [hRX]; unfold maxLen; omega)
        have TR := trim_any _ _ _ RW (unhide DN).1 (by rw [hRX]; omega)
        rw [hRX, (unhide DN).2, (unhide IA).2.2, (unhide IB).2.2] at TR
        have HT := hide TR
        clear TR RW hRX
        generalize R.getD LA.length 0 = z at *
        go_wp2_with fail
        refine (unhide HT).mono ?_
        rintro e w1 ⟨rfl, v1, rfl, D1⟩
        have HD := hide D1
        clear D1
        go_wp2_with fail
        go_ret
        exact ⟨unhide KX, _, rfl, by first | exact unhide HD | exact Int.add_comm n2 n1 ▸ unhide HD⟩
end Go.Proofs.YtaidefdbjcgcbaaGreat
