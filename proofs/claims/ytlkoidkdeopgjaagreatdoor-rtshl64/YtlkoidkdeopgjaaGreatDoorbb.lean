/-
  Big4, Big6, Big7, Big8, Big5, Big9.
-/
import Derived.Test.YtlkoidkdeopgjaaGreatDoorba
import Derived.Deep.OwnRows
import Derived.Test.YtlkoidkdeopgjaaGreatDoorel
set_option maxHeartbeats 4000000
set_option maxRecDepth 100000
namespace Go.Proofs.YtlkoidkdeopgjaaGreatDoor
open Go.RowKit
set_option linter.unusedSimpArgs false
set_option linter.unusedVariables false
theorem Tryz.infoU32 : (Tryz.prog.info? 90).map (fun i => (i.zero, i.size, i.bytes)) = some (some (.int .u32 0), 1, 4) := by kernel_rfl
theorem make32 (n : Nat) (hn : n ≤ 1000) (w : World) : (Instr.makeSlice 32 (.int .i64 (n : Int)) (.int .i64 (n : Int))).run Tryz.prog w = .ok (.slice (some ⟨w.heap.size, 0, none⟩) n n) (w.alloc (.cells (madeCells #[.int .u32 0] n) 90)) :=
 run_make_row' 32 90 (.int .u32 0) 4 Tryz.underlying32 Tryz.infoU32 rfl .i64 .i64 n (by omega) (by omega) w
theorem make32s (n : Nat) (hn : n ≤ 900) (w : World) : (Instr.makeSlice 32 (.int .i64 ((n : Int) + 1)) (.int .i64 ((n : Int) + 1))).run Tryz.prog w = .ok (.slice (some ⟨w.heap.size, 0, none⟩) (n + 1) (n + 1)) (w.alloc (.cells (madeCells #[.int .u32 0] (n + 1)) 90)) :=
 make32 (n + 1) (by omega) w
structure AddInv (A B R : List Int) (i : Nat) (c : Int) : Prop where
 len : R.length = A.length + 1
 wds : Wds R
 zer : ∀ j, i ≤ j → R.getD j 0 = 0
 c0 : 0 ≤ c
 c1 : c ≤ 1
 val : vl R + 4294967296 ^ i * c = vl (A.take i) + vl (B.take i)
theorem AddInv.start (A B : List Int) : AddInv A B (List.replicate (A.length + 1) 0) 0 0 :=
 ⟨by simp, wds_rep _, fun j _ => getD_rep _ j, by decide, by decide, by rw [vl_rep]; simp [vl]⟩
theorem AddInv.next {A B R : List Int} {i : Nat} {c y : Int} (h : AddInv A B R i c) (hi : i < A.length) (hA : Wds A) (hB : Wds B) (hy : y = B.getD i 0) : AddInv A B (R.set i ((c + A.getD i 0 + y) % 4294967296)) (i + 1) ((c + A.getD i 0 + y) / 4294967296) := by
 obtain ⟨h1, h2, h3, h4, h5, h6⟩ := h
 have a := hA.get i
 have b := hB.get i
 rw [← hy] at b
 have t1 := vl_take A i
 have t2 := vl_take B i
 rw [← hy] at t2
 have s1 := vl_set R i ((c + A.getD i 0 + y) % 4294967296) (by omega)
 rw [h3 i (Nat.le_refl _)] at s1
 have dm : c + A.getD i 0 + y = (c + A.getD i 0 + y) % 4294967296 + 4294967296 * ((c + A.getD i 0 + y) / 4294967296) := by omega
 refine ⟨by rw [List.length_set]; exact h1, h2.set _ (by omega), fun j hj => by rw [getD_set_ne (by omega)]; exact h3 j (by omega), by omega, by omega, ?_⟩
 rw [t1, t2, s1, Int.pow_succ]
 generalize (c + A.getD i 0 + y) % 4294967296 = r at *
 generalize (c + A.getD i 0 + y) / 4294967296 = q at *
 generalize A.getD i 0 = x at *
 generalize (4294967296 : Int) ^ i = P at *
 grind
theorem AddInv.done {A B R : List Int} {c : Int} (h : AddInv A B R A.length c) (hl : B.length ≤ A.length) : Wds (R.set A.length c) ∧ vl (R.set A.length c) = vl A + vl B := by
 obtain ⟨h1, h2, h3, h4, h5, h6⟩ := h
 refine ⟨h2.set _ (by omega), ?_⟩
 rw [vl_set _ _ _ (by omega), h3 _ (Nat.le_refl _)]
 rw [List.take_of_length_le (Nat.le_refl _), List.take_of_length_le hl] at h6
 rw [Int.sub_zero]
 exact h6
theorem badd_any (v1 v2 : Value) (n1 n2 : Int) (w : World) (h1 : Dg w v1 n1) (h2 : Dg w v2 n2) (hn1 : n1 < 4294967296 ^ 8) (hn2 : n2 < 4294967296 ^ 8) :
   Calls Tryz.prog 51 #[v1, v2] w fun e w' => Below w.heap.size w w' ∧ ∃ v', e = .returned v' ∧ Dg w' v' (n1 + n2) := by
 obtain ⟨L1, r1, i1⟩ := h1
 obtain ⟨L2, r2, i2⟩ := h2
 by_cases hlen : L1.length < L2.length
 · obtain ⟨LA, hLA⟩ : ∃ LA, LA = L2 := ⟨_, rfl⟩
   obtain ⟨LB, hLB⟩ : ∃ LB, LB = L1 := ⟨_, rfl⟩
   rw [← hLA] at r2 i2 hlen
   rw [← hLB] at r1 i1 hlen
   have rA := r2
   have rB := r1
   have iA := i2
   have iB := i1
   have hA := hn2
   have hB := hn1
   clear r1 r2 i1 i2 hn1 hn2 hLA hLB L1 L2
   have lA := iA.len 8 hA
   have lB := iB.len 8 hB
   obtain ⟨aoA, capA, rfl, _, _, _, hA4, hA5, hA6⟩ := rA.at
   obtain ⟨aoB, capB, rfl, _, _, _, hB4, hB5, hB6⟩ := rB.at
   have HRA := hide (fun d (he : aoA = some ⟨d, 0, none⟩) => And.intro (hA4 d 0 none he).2.2 (hA6 d he))
   have HRB := hide (fun d (he : aoB = some ⟨d, 0, none⟩) => And.intro (hB4 d 0 none he).2.2 (hB6 d he))
   have HA5 := hide hA5
   have HB5 := hide hB5
   have IA := hide iA
   have IB := hide iB
   clear hA4 hA5 hA6 hB4 hB5 hB6 rA rB iA iB
   have hle : LB.length ≤ LA.length := by omega
   have hlb : decide ((LB.length : Int) < (LA.length : Int)) = true := by simp; omega
   go_enter Tryz.func51, Tryz.ntmps51
   have O0 := hide (Own32.new w (LA.length + 1))
   have K0 := hide (below_a w (.cells (madeCells #[.int .u32 0] (LA.length + 1)) 90))
   have hmk := make32s LA.length (by omega)
   go_wp2_with fail
   clear hmk
   go_loopg [6, 7] LA.length (fun g c t wr => ∃ (i : Nat) (cc : Int) (R : List Int), i ≤ LA.length ∧ g = LA.length - i ∧ c = .int .u64 cc ∧ t = .int .i64 i ∧ Hid (Own32 wr w.heap.size R) ∧ Hid (Below w.heap.size w wr) ∧ Hid (AddInv LA LB R i cc))
   case atStart => exact ⟨0, 0, _, Nat.zero_le _, by simp, rfl, rfl, O0, K0, AddInv.start LA LB⟩
   case round =>
     obtain ⟨i, cc, R, hi, hg, rfl, rfl, hO, hK, hI⟩ := hrel
     clear O0 K0
     have hz := (unhide hK).size
     have hlt := (unhide hO).lt
     have cc0 := (unhide hI).c0
     have cc1 := (unhide hI).c1
     have hRl := hide (unhide hI).len
     have hf := (unhide hO).frozen i
     by_cases hlt2 : i < LA.length
     · obtain ⟨dA, rfl⟩ := unhide HA5 (by omega)
       obtain ⟨hdA, hcA⟩ := unhide HRA dA rfl
       have cA := cell_keep (unhide hK) hdA (hcA i hlt2)
       have gA := (unhide IA).1.get i
       have cR := (unhide hO).cell i (by have := unhide hRl; omega)
       have hne : dA ≠ w.heap.size := by omega
       have hiA : (i : Int) < (LA.length : Int) := by omega
       have hiR : (i : Int) < (LA.length : Int) + 1 := by omega
       clear hcA
       by_cases hb : i < LB.length
       · obtain ⟨dB, rfl⟩ := unhide HB5 (by omega)
         obtain ⟨hdB, hcB⟩ := unhide HRB dB rfl
         have cB := cell_keep (unhide hK) hdB (hcB i hb)
         have gB := (unhide IB).1.get i
         have hiB : (i : Int) < (LB.length : Int) := by omega
         have NX := hide ((unhide hI).next hlt2 (unhide IA).1 (unhide IB).1 (y := LB.getD i 0) rfl)
         have OX := hide ((unhide hO).set i ((cc + LA.getD i 0 + LB.getD i 0) % 4294967296) (by have := unhide hRl; omega))
         have KX := hide ((unhide hK).setCell (p := ⟨w.heap.size, i, none⟩) (Nat.le_refl _) (.int .u32 ((cc + LA.getD i 0 + LB.getD i 0) % 4294967296)))
         clear hcB
         generalize LA.getD i 0 = x at *
         generalize LB.getD i 0 = y at *
         generalize R.getD i 0 = z at *
         go_wp2_with fail
         go_roundg (LA.length - (i + 1))
         case measure => omega
         case rel => exact ⟨i + 1, _, _, by omega, rfl, rfl, by go_num, OX, KX, NX⟩
       · have hib : decide ((i : Int) < (LB.length : Int)) = false := by simp; omega
         have NX := hide ((unhide hI).next hlt2 (unhide IA).1 (unhide IB).1 (y := 0) (by rw [List.getD_eq_getElem?_getD, List.getElem?_eq_none (by omega)]; rfl))
         rw [Int.add_zero] at NX
         have OX := hide ((unhide hO).set i ((cc + LA.getD i 0) % 4294967296) (by have := unhide hRl; omega))
         have KX := hide ((unhide hK).setCell (p := ⟨w.heap.size, i, none⟩) (Nat.le_refl _) (.int .u32 ((cc + LA.getD i 0) % 4294967296)))
         generalize LA.getD i 0 = x at *
         generalize R.getD i 0 = z at *
         go_wp2_with fail
         go_roundg (LA.length - (i + 1))
         case measure => omega
         case rel => exact ⟨i + 1, _, _, by omega, rfl, rfl, by go_num, OX, KX, NX⟩
     · have hiA : i = LA.length := by omega
       subst hiA
       have cR := (unhide hO).cell LA.length (by have := unhide hRl; omega)
       have DN := hide ((unhide hI).done hle)
       have OX := hide ((unhide hO).set LA.length cc (by have := unhide hRl; omega))
       have KX := hide ((unhide hK).setCell (p := ⟨w.heap.size, LA.length, none⟩) (Nat.le_refl _) (.int .u32 cc))
       have hRX : (R.set LA.length cc).length = LA.length + 1 := by rw [List.length_set]; exact unhide hRl
       have RW := (unhide OX).row (by rw [hRX]; unfold maxLen; omega)
       have TR := trim_any _ _ _ RW (unhide DN).1 (by rw [hRX]; omega)
       rw [hRX, (unhide DN).2, (unhide IA).2.2, (unhide IB).2.2] at TR
       have HT := hide TR
       clear TR RW hRX
       generalize R.getD LA.length 0 = z at *
       go_wp2_with fail
       refine (unhide HT).mono ?_
       rintro e w1 ⟨rfl, v1, rfl, D1⟩
       have HD := hide D1
       clear D1
       go_wp2_with fail
       go_ret
       exact ⟨unhide KX, _, rfl, by first | exact unhide HD | exact Int.add_comm n2 n1 ▸ unhide HD⟩
 · obtain ⟨LA, hLA⟩ : ∃ LA, LA = L1 := ⟨_, rfl⟩
   obtain ⟨LB, hLB⟩ : ∃ LB, LB = L2 := ⟨_, rfl⟩
   rw [← hLA] at r1 i1 hlen
   rw [← hLB] at r2 i2 hlen
   have rA := r1
   have rB := r2
   have iA := i1
   have iB := i2
   have hA := hn1
   have hB := hn2
   clear r1 r2 i1 i2 hn1 hn2 hLA hLB L1 L2
   have lA := iA.len 8 hA
   have lB := iB.len 8 hB
   obtain ⟨aoA, capA, rfl, _, _, _, hA4, hA5, hA6⟩ := rA.at
   obtain ⟨aoB, capB, rfl, _, _, _, hB4, hB5, hB6⟩ := rB.at
   have HRA := hide (fun d (he : aoA = some ⟨d, 0, none⟩) => And.intro (hA4 d 0 none he).2.2 (hA6 d he))
   have HRB := hide (fun d (he : aoB = some ⟨d, 0, none⟩) => And.intro (hB4 d 0 none he).2.2 (hB6 d he))
   have HA5 := hide hA5
   have HB5 := hide hB5
   have IA := hide iA
   have IB := hide iB
   clear hA4 hA5 hA6 hB4 hB5 hB6 rA rB iA iB
   have hle : LB.length ≤ LA.length := by omega
   have hlb : decide ((LA.length : Int) < (LB.length : Int)) = false := by simp; omega
   go_enter Tryz.func51, Tryz.ntmps51
   have O0 := hide (Own32.new w (LA.length + 1))
   have K0 := hide (below_a w (.cells (madeCells #[.int .u32 0] (LA.length + 1)) 90))
   have hmk := make32s LA.length (by omega)
   go_wp2_with fail
   clear hmk
   go_loopg [6, 7] LA.length (fun g c t wr => ∃ (i : Nat) (cc : Int) (R : List Int), i ≤ LA.length ∧ g = LA.length - i ∧ c = .int .u64 cc ∧ t = .int .i64 i ∧ Hid (Own32 wr w.heap.size R) ∧ Hid (Below w.heap.size w wr) ∧ Hid (AddInv LA LB R i cc))
   case atStart => exact ⟨0, 0, _, Nat.zero_le _, by simp, rfl, rfl, O0, K0, AddInv.start LA LB⟩
   case round =>
     obtain ⟨i, cc, R, hi, hg, rfl, rfl, hO, hK, hI⟩ := hrel
     clear O0 K0
     have hz := (unhide hK).size
     have hlt := (unhide hO).lt
     have cc0 := (unhide hI).c0
     have cc1 := (unhide hI).c1
     have hRl := hide (unhide hI).len
     have hf := (unhide hO).frozen i
     by_cases hlt2 : i < LA.length
     · obtain ⟨dA, rfl⟩ := unhide HA5 (by omega)
       obtain ⟨hdA, hcA⟩ := unhide HRA dA rfl
       have cA := cell_keep (unhide hK) hdA (hcA i hlt2)
       have gA := (unhide IA).1.get i
       have cR := (unhide hO).cell i (by have := unhide hRl; omega)
       have hne : dA ≠ w.heap.size := by omega
       have hiA : (i : Int) < (LA.length : Int) := by omega
       have hiR : (i : Int) < (LA.length : Int) + 1 := by omega
       clear hcA
       by_cases hb : i < LB.length
       · obtain ⟨dB, rfl⟩ := unhide HB5 (by omega)
         obtain ⟨hdB, hcB⟩ := unhide HRB dB rfl
         have cB := cell_keep (unhide hK) hdB (hcB i hb)
         have gB := (unhide IB).1.get i
         have hiB : (i : Int) < (LB.length : Int) := by omega
         have NX := hide ((unhide hI).next hlt2 (unhide IA).1 (unhide IB).1 (y := LB.getD i 0) rfl)
         have OX := hide ((unhide hO).set i ((cc + LA.getD i 0 + LB.getD i 0) % 4294967296) (by have := unhide hRl; omega))
         have KX := hide ((unhide hK).setCell (p := ⟨w.heap.size, i, none⟩) (Nat.le_refl _) (.int .u32 ((cc + LA.getD i 0 + LB.getD i 0) % 4294967296)))
         clear hcB
         generalize LA.getD i 0 = x at *
         generalize LB.getD i 0 = y at *
         generalize R.getD i 0 = z at *
         go_wp2_with fail
         go_roundg (LA.length - (i + 1))
         case measure => omega
         case rel => exact ⟨i + 1, _, _, by omega, rfl, rfl, by go_num, OX, KX, NX⟩
       · have hib : decide ((i : Int) < (LB.length : Int)) = false := by simp; omega
         have NX := hide ((unhide hI).next hlt2 (unhide IA).1 (unhide IB).1 (y := 0) (by rw [List.getD_eq_getElem?_getD, List.getElem?_eq_none (by omega)]; rfl))
         rw [Int.add_zero] at NX
         have OX := hide ((unhide hO).set i ((cc + LA.getD i 0) % 4294967296) (by have := unhide hRl; omega))
         have KX := hide ((unhide hK).setCell (p := ⟨w.heap.size, i, none⟩) (Nat.le_refl _) (.int .u32 ((cc + LA.getD i 0) % 4294967296)))
         generalize LA.getD i 0 = x at *
         generalize R.getD i 0 = z at *
         go_wp2_with fail
         go_roundg (LA.length - (i + 1))
         case measure => omega
         case rel => exact ⟨i + 1, _, _, by omega, rfl, rfl, by go_num, OX, KX, NX⟩
     · have hiA : i = LA.length := by omega
       subst hiA
       have cR := (unhide hO).cell LA.length (by have := unhide hRl; omega)
       have DN := hide ((unhide hI).done hle)
       have OX := hide ((unhide hO).set LA.length cc (by have := unhide hRl; omega))
       have KX := hide ((unhide hK).setCell (p := ⟨w.heap.size, LA.length, none⟩) (Nat.le_refl _) (.int .u32 cc))
       have hRX : (R.set LA.length cc).length = LA.length + 1 := by rw [List.length_set]; exact unhide hRl
       have RW := (unhide OX).row (by rw [hRX]; unfold maxLen; omega)
       have TR := trim_any _ _ _ RW (unhide DN).1 (by rw [hRX]; omega)
       rw [hRX, (unhide DN).2, (unhide IA).2.2, (unhide IB).2.2] at TR
       have HT := hide TR
       clear TR RW hRX
       generalize R.getD LA.length 0 = z at *
       go_wp2_with fail
       refine (unhide HT).mono ?_
       rintro e w1 ⟨rfl, v1, rfl, D1⟩
       have HD := hide D1
       clear D1
       go_wp2_with fail
       go_ret
       exact ⟨unhide KX, _, rfl, by first | exact unhide HD | exact Int.add_comm n2 n1 ▸ unhide HD⟩
end Go.Proofs.YtlkoidkdeopgjaaGreatDoor
namespace Go.Proofs.YtlkoidkdeopgjaaGreatDoor
open Go.RowKit
set_option linter.unusedSimpArgs false
set_option linter.unusedVariables false
def cm (a b : Int) : Int := if a < b then -1 else if a = b then 0 else 1
theorem vl_parts (L : List Int) (m : Nat) : vl L = vl (L.take m) + 4294967296 ^ m * L.getD m 0 + 4294967296 ^ (m + 1) * vl (L.drop (m + 1)) := by
 have e := vl_app (L.take (m + 1)) (L.drop (m + 1))
 rw [List.take_append_drop, vl_take] at e
 by_cases h : m + 1 ≤ L.length
 · rw [List.length_take, Nat.min_eq_left h] at e; exact e
 · rw [List.drop_eq_nil_of_le (by omega)] at e ⊢
   simpa [vl] using e
theorem drop_eq {A B : List Int} {k : Nat} (hl : A.length = B.length) (h : ∀ j, k ≤ j → A.getD j 0 = B.getD j 0) : A.drop k = B.drop k := by
 apply List.ext_getElem? 
 intro j
 rw [List.getElem?_drop, List.getElem?_drop]
 by_cases hj : k + j < A.length
 · rw [getD_of_lt hj, getD_of_lt (by omega), h _ (by omega)]
 · rw [List.getElem?_eq_none (by omega), List.getElem?_eq_none (by omega)]
theorem cm_at {A B : List Int} {m : Nat} (hA : Wds A) (hB : Wds B) (hl : A.length = B.length) (hm : m < A.length) (h : ∀ j, m + 1 ≤ j → A.getD j 0 = B.getD j 0) (hx : A.getD m 0 < B.getD m 0) : vl A < vl B := by
 have a := vl_parts A m
 have b := vl_parts B m
 rw [drop_eq hl h] at a
 have ta := vl_hi (hA.take m)
 have tb := vl_lo (hB.take m)
 rw [List.length_take, Nat.min_eq_left (by omega)] at ta
 have g : (4294967296 : Int) ^ m * (A.getD m 0 + 1) ≤ 4294967296 ^ m * B.getD m 0 := Int.mul_le_mul_of_nonneg_left (by omega) (Int.le_of_lt (bp_pos m))
 rw [Int.mul_add, Int.mul_one] at g
 omega
theorem cm_len {A B : List Int} {n m : Int} (hA : Is A n) (hB : Is B m) (h : A.length < B.length) : n < m := by
 have a := hA.hi
 have b := is_top hB (k := B.length - 1) (by omega)
 have c := bp_le (a := A.length) (b := B.length - 1) (by omega)
 omega
theorem drew_e1 (w : World) (a : Nat) : ∃ q, w.drewN a = w.drewN q := ⟨a, rfl⟩
theorem drew_e2 (w : World) (a b : Nat) : ∃ q, (w.drewN a).drewN b = w.drewN q := ⟨a + b, by rw [World.drewN_drewN]⟩
theorem drew_e3 (w : World) (a b c : Nat) : ∃ q, ((w.drewN a).drewN b).drewN c = w.drewN q := ⟨a + (b + c), by rw [World.drewN_drewN, World.drewN_drewN]⟩
theorem cmp_any (v1 v2 : Value) (n1 n2 : Int) (w : World) (h1 : Dg w v1 n1) (h2 : Dg w v2 n2) (hn1 : n1 < 4294967296 ^ 8) (hn2 : n2 < 4294967296 ^ 8) :
   Calls Tryz.prog 39 #[v1, v2] w fun e w' => (∃ q, w' = w.drewN q) ∧ e = .returned (.int .i64 (cm n1 n2)) := by
 obtain ⟨LA, rA, iA⟩ := h1
 obtain ⟨LB, rB, iB⟩ := h2
 have lA := iA.len 8 hn1
 have lB := iB.len 8 hn2
 obtain ⟨aoA, capA, rfl, _, _, _, hA4, hA5, hA6⟩ := rA.at
 obtain ⟨aoB, capB, rfl, _, _, _, hB4, hB5, hB6⟩ := rB.at
 have HRA := hide (fun d (he : aoA = some ⟨d, 0, none⟩) => And.intro (hA4 d 0 none he).2.2 (hA6 d he))
 have HRB := hide (fun d (he : aoB = some ⟨d, 0, none⟩) => And.intro (hB4 d 0 none he).2.2 (hB6 d he))
 have HA5 := hide hA5
 have HB5 := hide hB5
 have IA := hide iA
 have IB := hide iB
 clear hA4 hA5 hA6 hB4 hB5 hB6 rA rB iA iB
 by_cases hne : LA.length = LB.length
 · have hE : ((LA.length : Int) != (LB.length : Int)) = false := by rw [hne]; simp
   have HN := hide hne
   clear hne
   go_enter Tryz.func39, Tryz.ntmps39
   go_wp2_with fail
   clear hE
   go_loopg [5] LA.length (fun g t wr => ∃ (k : Nat), k ≤ LA.length ∧ g = k ∧ t = .int .i64 ((k : Int) - 1) ∧ (∃ q, wr = w.drewN q) ∧ Hid (∀ j, k ≤ j → LA.getD j 0 = LB.getD j 0))
   case atStart =>
     refine ⟨LA.length, Nat.le_refl _, rfl, by go_num, ⟨0, rfl⟩, fun j hj => ?_⟩
     rw [List.getD_eq_getElem?_getD, List.getD_eq_getElem?_getD, List.getElem?_eq_none hj, List.getElem?_eq_none (by have := unhide HN; omega)]
   case round =>
     obtain ⟨k, hk, hg, rfl, ⟨q, rfl⟩, hz⟩ := hrel
     by_cases k0 : k = 0
     · subst k0
       have hv : cm n1 n2 = 0 := by
         have e := drop_eq (k := 0) (unhide HN) (unhide hz)
         rw [List.drop_zero, List.drop_zero] at e
         have : n1 = n2 := by rw [← (unhide IA).2.2, ← (unhide IB).2.2, e]
         simp [cm, this]
       have HV := hide hv
       clear hv
       go_wp2_with fail
       go_ret
       exact ⟨by first | exact drew_e1 _ _ | exact drew_e2 _ _ _ | exact drew_e3 _ _ _ _, congrArg (fun z => Ending.returned (Value.int .i64 z)) (unhide HV).symm⟩
     · obtain ⟨m, rfl⟩ : ∃ m, k = m + 1 := ⟨k - 1, by omega⟩
       obtain ⟨dA, rfl⟩ := unhide HA5 (by omega)
       obtain ⟨hdA, hcA⟩ := unhide HRA dA rfl
       have cA := hcA m (by omega)
       obtain ⟨dB, rfl⟩ := unhide HB5 (by have := unhide HN; omega)
       obtain ⟨hdB, hcB⟩ := unhide HRB dB rfl
       have cB := hcB m (by have := unhide HN; omega)
       have e1 : (((m + 1 : Nat) : Int) - 1) = (m : Int) := by omega
       have hm0 : (0 : Int) ≤ (m : Int) := by omega
       have hmA : (m : Int) < (LA.length : Int) := by omega
       have hmB : (m : Int) < (LB.length : Int) := by have := unhide HN; omega
       clear hcA hcB
       rcases Int.lt_trichotomy (LA.getD m 0) (LB.getD m 0) with hx | hx | hx
       · have hv : cm n1 n2 = -1 := by
           have := cm_at (unhide IA).1 (unhide IB).1 (unhide HN) (by omega) (unhide hz) hx
           rw [(unhide IA).2.2, (unhide IB).2.2] at this
           simp [cm, this]
         have HV := hide hv
         clear hv
         have hb1 : (LA.getD m 0 != LB.getD m 0) = true := bne_iff_ne.2 (by omega)
         have hb2 : decide (LA.getD m 0 < LB.getD m 0) = true := decide_eq_true hx
         clear hx
         generalize LA.getD m 0 = x at *
         generalize LB.getD m 0 = y at *
         go_wp2_with fail
         go_quiet (fail)
         go_wp2_with fail
         go_quiet (fail)
         go_wp2_with fail
         go_ret
         exact ⟨by first | exact drew_e1 _ _ | exact drew_e2 _ _ _ | exact drew_e3 _ _ _ _, congrArg (fun z => Ending.returned (Value.int .i64 z)) (unhide HV).symm⟩
       · have hb1 : (LA.getD m 0 != LB.getD m 0) = false := by rw [hx]; exact bne_self_eq_false _
         have HX := hide hx
         clear hx
         generalize hx' : LA.getD m 0 = x at *
         generalize hy' : LB.getD m 0 = y at *
         have HX' := hide hx'
         have HY' := hide hy'
         clear hx' hy'
         go_wp2_with fail
         go_quiet (fail)
         go_wp2_with fail
         go_roundg m
         case measure => omega
         case rel => exact ⟨m, by omega, rfl, by go_num, by first | exact drew_e1 _ _ | exact drew_e2 _ _ _ | exact drew_e3 _ _ _ _, fun j hj => by
           by_cases e : j = m
           · rw [e, unhide HX', unhide HY']; exact unhide HX
           · exact unhide hz j (by omega)⟩
       · have hv : cm n1 n2 = 1 := by
           have := cm_at (unhide IB).1 (unhide IA).1 (unhide HN).symm (by have := unhide HN; omega) (fun j hj => (unhide hz j hj).symm) hx
           rw [(unhide IA).2.2, (unhide IB).2.2] at this
           have a1 : ¬ n1 < n2 := by omega
           have a2 : ¬ n1 = n2 := by omega
           simp [cm, a1, a2]
         have HV := hide hv
         clear hv
         have hb1 : (LA.getD m 0 != LB.getD m 0) = true := bne_iff_ne.2 (by omega)
         have hb2 : decide (LA.getD m 0 < LB.getD m 0) = false := decide_eq_false (by omega)
         clear hx
         generalize LA.getD m 0 = x at *
         generalize LB.getD m 0 = y at *
         go_wp2_with fail
         go_quiet (fail)
         go_wp2_with fail
         go_quiet (fail)
         go_wp2_with fail
         go_ret
         exact ⟨by first | exact drew_e1 _ _ | exact drew_e2 _ _ _ | exact drew_e3 _ _ _ _, congrArg (fun z => Ending.returned (Value.int .i64 z)) (unhide HV).symm⟩
 · have hE : ((LA.length : Int) != (LB.length : Int)) = true := by simp; omega
   by_cases hlt : LA.length < LB.length
   · have hb : decide ((LA.length : Int) < (LB.length : Int)) = true := by simp; omega
     have hv : cm n1 n2 = -1 := by have := cm_len (unhide IA) (unhide IB) hlt; simp [cm, this]
     rw [hv]
     go_enter Tryz.func39, Tryz.ntmps39
     go_wp2_with fail
     go_ret
     exact ⟨⟨0, rfl⟩, rfl⟩
   · have hb : decide ((LA.length : Int) < (LB.length : Int)) = false := by simp; omega
     have hv : cm n1 n2 = 1 := by
       have := cm_len (unhide IB) (unhide IA) (by omega)
       have a1 : ¬ n1 < n2 := by omega
       have a2 : ¬ n1 = n2 := by omega
       simp [cm, a1, a2]
     rw [hv]
     go_enter Tryz.func39, Tryz.ntmps39
     go_wp2_with fail
     go_ret
     exact ⟨⟨0, rfl⟩, rfl⟩
def u32v (x : Int) : Value := .int .u32 x
theorem Row.lies {w : World} {v : Value} {L : List Int} (h : Row w v L) : Lies w 1 v L.length (L.map u32v) := by
 refine ⟨by simp, ?_⟩
 rcases h with ⟨rfl, rfl⟩ | ⟨d, cap, cs, fz, rfl, h2, h3, h4, h5⟩
 · exact ⟨none, 0, rfl, Nat.le_refl _, Nat.zero_le _, fun _ => rfl, fun h => absurd rfl h⟩
 · refine ⟨_, cap, rfl, h2, h3, (fun h => by cases h), fun _ => ⟨d, 0, rfl, (Array.getElem?_eq_some_iff.1 h4).1, fun j hj => ?_⟩⟩
   have hj' : j < L.length := by omega
   have := h5 j hj'
   rw [Nat.zero_add, List.getElem?_map, getD_of_lt hj']
   simp only [World.cell?, h4, this, Option.map_some]
   rfl
theorem own_row {w : World} {B : Nat} {v : Value} {L : List Int} (h : w.ownsRow B 90 1 v L.length (L.map u32v)) : Row w v L := by
 obtain ⟨h1, h2⟩ := h
 rcases h2 with ⟨rfl, h3⟩ | ⟨g, cap, cur, rfl, hb, hg, hn, hm, hs, ht⟩
 · exact .inl ⟨rfl, List.eq_nil_of_length_eq_zero h3⟩
 · refine .inr ⟨g, cap, cur, _, rfl, hn, hm, hg, fun j hj => ?_⟩
   have e : (cur.toList.take (L.length * 1))[j]? = (L.map u32v)[j]? := by rw [ht]
   rw [List.getElem?_take, if_pos (by omega), List.getElem?_map, getD_of_lt hj, Array.getElem?_toList] at e
   exact e
theorem u32_one (L : List Int) : ∀ u ∈ L.map u32v, u.oneCell' = true := by
 intro u hu
 obtain ⟨x, _, rfl⟩ := List.mem_map.1 hu
 rfl
theorem twin_any (v : Value) (n : Int) (w : World) (h : Dg w v n) (hn : n < 4294967296 ^ 8) :
   Calls Tryz.prog 54 #[v] w fun e w' => Below w.heap.size w w' ∧ ∃ v', e = .returned v' ∧ Dg w' v' n := by
 obtain ⟨L, hr, hI⟩ := h
 have hl := hI.len 8 hn
 obtain ⟨i0, hi, hz0, hz1, hz2⟩ := info_parts Tryz.infoU32
 have HR := hide hr
 have II := hide hI
 clear hr hI
 go_enter Tryz.func54, Tryz.ntmps54
 go_wp2_with (at_builtin; refine append_lies rfl (.const (.slice none 0 0)) (.tmp 3) 32 rfl w.heap.size 90 i0 (.int .u32 0) 1 4 Tryz.underlying32 hi hz0 hz1 hz2 rfl (by decide) _ 0 [] rfl (World.ownsRow_nil _ _ _ _) _ _ _ rfl (unhide HR).lies (u32_one _) (by unfold maxLen; omega) (by omega) (Nat.le_refl _) ?_; intro v3 w3 own3 grow3; rw [Nat.zero_add, List.nil_append] at own3; have R3 := hide (own_row own3); have K3 := hide ((Below.refl w.heap.size w).grown grow3 (Nat.le_refl _) (fun k hk => nomatch (show (none : Option Nat) = some k from hk))); clear own3 grow3)
 go_ret
 exact ⟨unhide K3, _, rfl, L, unhide R3, unhide II⟩
end Go.Proofs.YtlkoidkdeopgjaaGreatDoor
namespace Go.Proofs.YtlkoidkdeopgjaaGreatDoor
open Go.RowKit
set_option linter.unusedSimpArgs false
set_option linter.unusedVariables false
structure MulInv (A B R : List Int) (i : Nat) : Prop where
 len : R.length = A.length + B.length
 wds : Wds R
 zer : ∀ j, i + B.length ≤ j → R.getD j 0 = 0
 val : vl R = vl (A.take i) * vl B
structure MulIn (S B R : List Int) (x : Int) (i j : Nat) (c : Int) : Prop where
 len : R.length = S.length
 wds : Wds R
 rest : ∀ k, i + j ≤ k → R.getD k 0 = S.getD k 0
 c0 : 0 ≤ c
 c1 : c ≤ 4294967295
 val : vl R + 4294967296 ^ (i + j) * c = vl S + 4294967296 ^ i * x * vl (B.take j)
theorem MulInv.start (A B : List Int) : MulInv A B (List.replicate (A.length + B.length) 0) 0 :=
 ⟨by simp, wds_rep _, fun j _ => getD_rep _ j, by rw [vl_rep]; simp [vl]⟩
theorem MulIn.start (S B : List Int) (x : Int) (i : Nat) (h : Wds S) : MulIn S B S x i 0 0 :=
 ⟨rfl, h, fun _ _ => rfl, by decide, by decide, by simp [vl]⟩
theorem mul_lt {x y : Int} (hx : 0 ≤ x ∧ x ≤ 4294967295) (hy : 0 ≤ y ∧ y ≤ 4294967295) : 0 ≤ x * y ∧ x * y ≤ 18446744065119617025 := by
 refine ⟨Int.mul_nonneg hx.1 hy.1, ?_⟩
 have h1 : x * y ≤ x * 4294967295 := Int.mul_le_mul_of_nonneg_left hy.2 hx.1
 omega
theorem MulIn.next {S B R : List Int} {x : Int} {i j : Nat} {c : Int} (h : MulIn S B R x i j c) (hi : i + j < R.length) (hB : Wds B) (hx : 0 ≤ x ∧ x ≤ 4294967295) :
   MulIn S B (R.set (i + j) ((c + (x * B.getD j 0 + R.getD (i + j) 0)) % 4294967296)) x i (j + 1) ((c + (x * B.getD j 0 + R.getD (i + j) 0)) / 4294967296) := by
 obtain ⟨h1, h2, h3, h4, h5, h6⟩ := h
 have b := hB.get j
 have r := h2.get (i + j)
 have m := mul_lt hx b
 have t := vl_take B j
 have s := vl_set R (i + j) ((c + (x * B.getD j 0 + R.getD (i + j) 0)) % 4294967296) hi
 have dm : c + (x * B.getD j 0 + R.getD (i + j) 0) = (c + (x * B.getD j 0 + R.getD (i + j) 0)) % 4294967296 + 4294967296 * ((c + (x * B.getD j 0 + R.getD (i + j) 0)) / 4294967296) := by omega
 refine ⟨by rw [List.length_set]; exact h1, h2.set _ (by omega), fun k hk => by rw [getD_set_ne (by omega)]; exact h3 k (by omega), by omega, by omega, ?_⟩
 rw [t, s, show i + (j + 1) = (i + j) + 1 by omega, Int.pow_succ]
 have pe : (4294967296 : Int) ^ (i + j) = 4294967296 ^ i * 4294967296 ^ j := Int.pow_add ..
 rw [pe] at h6 ⊢
 generalize (c + (x * B.getD j 0 + R.getD (i + j) 0)) % 4294967296 = q at *
 generalize (c + (x * B.getD j 0 + R.getD (i + j) 0)) / 4294967296 = p at *
 generalize B.getD j 0 = y at *
 generalize R.getD (i + j) 0 = z at *
 generalize (4294967296 : Int) ^ i = P at *
 generalize (4294967296 : Int) ^ j = Q at *
 clear s t m r b h1 h2 h3 pe hi hB
 grind
theorem MulIn.done {A B S R : List Int} {i : Nat} {c : Int} (h : MulIn S B R (A.getD i 0) i B.length c) (hS : MulInv A B S i) (hi : i < A.length) : MulInv A B (R.set (i + B.length) c) (i + 1) := by
 obtain ⟨h1, h2, h3, h4, h5, h6⟩ := h
 obtain ⟨g1, g2, g3, g4⟩ := hS
 have s := vl_set R (i + B.length) c (by omega)
 rw [h3 _ (Nat.le_refl _), g3 _ (Nat.le_refl _)] at s
 have t := vl_take A i
 rw [List.take_of_length_le (Nat.le_refl _)] at h6
 refine ⟨by rw [List.length_set]; omega, h2.set _ (by omega), fun k hk => by rw [getD_set_ne (by omega), h3 k (by omega)]; exact g3 k (by omega), ?_⟩
 rw [s, t]
 generalize A.getD i 0 = x at *
 generalize (4294967296 : Int) ^ (i + B.length) = P at *
 generalize (4294967296 : Int) ^ i = Q at *
 clear s t h1 h2 h3 g1 g2 g3
 grind
end Go.Proofs.YtlkoidkdeopgjaaGreatDoor
namespace Go.Proofs.YtlkoidkdeopgjaaGreatDoor
open Go.RowKit
set_option linter.unusedSimpArgs false
set_option linter.unusedVariables false
structure LeftInv (A R : List Int) (q s i : Nat) : Prop where
 len : R.length = A.length + q + 1
 wds : Wds R
 zer : ∀ j, i + q + 1 ≤ j → R.getD j 0 = 0
 top : R.getD (i + q) 0 < 2 ^ s
 val : vl R = 4294967296 ^ q * 2 ^ s * vl (A.take i)
theorem LeftInv.start (A : List Int) (q s : Nat) : LeftInv A (List.replicate (A.length + q + 1) 0) q s 0 :=
 ⟨by simp, wds_rep _, fun j _ => getD_rep _ j, by rw [getD_rep]; exact Int.pow_pos (by decide), by rw [vl_rep]; simp [vl]⟩
theorem two_pow_le {s : Nat} (h : s ≤ 31) : (2 : Int) ^ s ≤ 2147483648 ∧ 0 < (2 : Int) ^ s ∧ (2 : Int) ^ s * 2 ^ (32 - s) = 4294967296 := by
 have h1 : (0 : Int) < 2 ^ s := Int.pow_pos (by decide)
 have h2 : (0 : Int) < 2 ^ (32 - s) := Int.pow_pos (by decide)
 have h3 : (2 : Int) ^ s * 2 ^ (32 - s) = 4294967296 := by rw [← Int.pow_add, show s + (32 - s) = 32 by omega]; decide
 refine ⟨?_, h1, h3⟩
 have h4 : (2 : Int) ^ 1 ≤ 2 ^ (32 - s) := by
   rw [show 32 - s = 1 + (31 - s) by omega, Int.pow_add]
   have : (0 : Int) < 2 ^ (31 - s) := Int.pow_pos (by decide)
   omega
 have h5 := Int.mul_le_mul_of_nonneg_left h4 (Int.le_of_lt h1)
 omega
theorem shl_parts {x : Int} {s : Nat} (hs : s ≤ 31) (hx : 0 ≤ x ∧ x ≤ 4294967295) : 0 ≤ x * 2 ^ s ∧ x * 2 ^ s ≤ 18446744073709551615 ∧ x * 2 ^ s / 4294967296 < 2 ^ s ∧ ∃ k, 0 ≤ k ∧ x * 2 ^ s % 4294967296 = k * 2 ^ s := by
 obtain ⟨p1, p2, p3⟩ := two_pow_le hs
 have h1 : x * 2 ^ s ≤ 4294967295 * 2 ^ s := Int.mul_le_mul_of_nonneg_right hx.2 (Int.le_of_lt p2)
 refine ⟨Int.mul_nonneg hx.1 (Int.le_of_lt p2), by omega, ?_, ?_⟩
 · apply Int.ediv_lt_of_lt_mul (by decide)
   omega
 · have p4 : (0 : Int) < 2 ^ (32 - s) := Int.pow_pos (by decide)
   refine ⟨x % 2 ^ (32 - s), Int.emod_nonneg _ (by omega), ?_⟩
   rw [← p3, Int.mul_comm x, Int.mul_emod_mul_of_pos _ _ p2, Int.mul_comm]
theorem or_add {z k : Int} {s : Nat} (hz : 0 ≤ z ∧ z < 2 ^ s) (hk : 0 ≤ k) (hb : k * 2 ^ s ≤ 4294967295) (hs : s ≤ 31) : bits .or .u32 z (k * 2 ^ s) = z + k * 2 ^ s := by
 obtain ⟨a, rfl⟩ := Int.eq_ofNat_of_zero_le hz.1
 obtain ⟨b, rfl⟩ := Int.eq_ofNat_of_zero_le hk
 have h2 : a < 2 ^ s := by have := hz.2; exact_mod_cast this
 have h := Nat.shiftLeft_add_eq_or_of_lt (i := s) (b := a) h2 b
 rw [Nat.shiftLeft_eq, Nat.or_comm] at h
 have q1 : (0 : Int) ≤ (b : Int) * 2 ^ s := Int.mul_nonneg (by omega) (Int.le_of_lt (Int.pow_pos (by decide)))
 have q2 : ((b : Int) * 2 ^ s).toNat = b * 2 ^ s := by
   have : ((b : Int) * 2 ^ s) = ((b * 2 ^ s : Nat) : Int) := by push_cast; rfl
   rw [this]; exact Int.toNat_natCast _
 obtain ⟨p1, p2, p3⟩ := two_pow_le hs
 rw [u32_or _ _ (by omega) (by omega) (by omega) (by omega), q2, Int.toNat_natCast, ← h]
 push_cast
 omega
theorem or_zero {z : Int} (hz : 0 ≤ z ∧ z ≤ 4294967295) : bits .or .u32 0 z = z := by
 obtain ⟨h1, h2⟩ := hz
 go_bits2
theorem LeftInv.next {A R : List Int} {q s i : Nat} (h : LeftInv A R q s i) (hi : i < A.length) (hA : Wds A) (hs : s ≤ 31) :
   LeftInv A ((R.set (i + q) (R.getD (i + q) 0 + A.getD i 0 * 2 ^ s % 4294967296)).set (i + q + 1) (A.getD i 0 * 2 ^ s / 4294967296)) q s (i + 1) ∧ 0 ≤ R.getD (i + q) 0 + A.getD i 0 * 2 ^ s % 4294967296 ∧ R.getD (i + q) 0 + A.getD i 0 * 2 ^ s % 4294967296 ≤ 4294967295 := by
 obtain ⟨h1, h2, h3, h4, h5⟩ := h
 have a := hA.get i
 obtain ⟨m1, m2, m3, k, m4, m5⟩ := shl_parts hs a
 have z := h2.get (i + q)
 obtain ⟨p1, p2, p3⟩ := two_pow_le hs
 have hb : R.getD (i + q) 0 + A.getD i 0 * 2 ^ s % 4294967296 ≤ 4294967295 := by
   rw [m5]
   have c1 : k < 2 ^ (32 - s) := by
     have : k * 2 ^ s < 2 ^ (32 - s) * 2 ^ s := by rw [← m5, Int.mul_comm (2 ^ (32 - s)), p3]; omega
     exact Int.lt_of_mul_lt_mul_right this (Int.le_of_lt p2)
   have c2 : (k + 1) * 2 ^ s ≤ 2 ^ (32 - s) * 2 ^ s := Int.mul_le_mul_of_nonneg_right (by omega) (Int.le_of_lt p2)
   rw [Int.mul_comm (2 ^ (32 - s)), p3, Int.add_mul, Int.one_mul] at c2
   omega
 have t := vl_take A i
 have s1 := vl_set R (i + q) (R.getD (i + q) 0 + A.getD i 0 * 2 ^ s % 4294967296) (by omega)
 have s2 := vl_set (R.set (i + q) (R.getD (i + q) 0 + A.getD i 0 * 2 ^ s % 4294967296)) (i + q + 1) (A.getD i 0 * 2 ^ s / 4294967296) (by rw [List.length_set]; omega)
 rw [getD_set_ne (by omega), h3 _ (Nat.le_refl _)] at s2
 have w1 : Wds (R.set (i + q) (R.getD (i + q) 0 + A.getD i 0 * 2 ^ s % 4294967296)) := h2.set _ (by omega)
 refine ⟨⟨by rw [List.length_set, List.length_set]; exact h1, w1.set _ (by omega), fun j hj => by rw [getD_set_ne (by omega), getD_set_ne (by omega)]; exact h3 j (by omega), ?_, ?_⟩, by omega, hb⟩
 · rw [show i + 1 + q = i + q + 1 by omega, getD_set_self (by rw [List.length_set]; omega)]; exact m3
 · rw [s2, s1, t, h5]
   have dm : A.getD i 0 * 2 ^ s = A.getD i 0 * 2 ^ s % 4294967296 + 4294967296 * (A.getD i 0 * 2 ^ s / 4294967296) := by omega
   have e1 : (4294967296 : Int) ^ (i + q + 1) = 4294967296 ^ i * 4294967296 ^ q * 4294967296 := by rw [Int.pow_succ, Int.pow_add]
   have e2 : (4294967296 : Int) ^ (i + q) = 4294967296 ^ i * 4294967296 ^ q := Int.pow_add ..
   rw [e1, e2]
   generalize A.getD i 0 * 2 ^ s % 4294967296 = u at *
   generalize A.getD i 0 * 2 ^ s / 4294967296 = v at *
   generalize A.getD i 0 = x at *
   generalize R.getD (i + q) 0 = y at *
   generalize (2 : Int) ^ s = T at *
   generalize (4294967296 : Int) ^ i = P at *
   generalize (4294967296 : Int) ^ q = Q at *
   clear s1 s2 t h1 h2 h3 h4 h5 m1 m2 m3 m4 m5 z p1 p2 p3 hb w1 a e1 e2
   grind
theorem make32q (n q : Nat) (hn : n + q ≤ 900) (w : World) : (Instr.makeSlice 32 (.int .i64 ((n : Int) + (q : Int) + 1)) (.int .i64 ((n : Int) + (q : Int) + 1))).run Tryz.prog w = .ok (.slice (some ⟨w.heap.size, 0, none⟩) (n + q + 1) (n + q + 1)) (w.alloc (.cells (madeCells #[.int .u32 0] (n + q + 1)) 90)) :=
 make32 (n + q + 1) (by omega) w
theorem left_any (v : Value) (n : Int) (k : Nat) (w : World) (h : Dg w v n) (hn : n < 4294967296 ^ 8) (hk : k ≤ 1000) :
   Calls Tryz.prog 47 #[v, .int .u64 (k : Int)] w fun e w' => Below w.heap.size w w' ∧ ∃ v', e = .returned v' ∧ Dg w' v' (n * 2 ^ k) := by
 obtain ⟨LA, rA, iA⟩ := h
 have lA := iA.len 8 hn
 obtain ⟨aoA, capA, rfl, _, _, _, hA4, hA5, hA6⟩ := rA.at
 have HRA := hide (fun d (he : aoA = some ⟨d, 0, none⟩) => And.intro (hA4 d 0 none he).2.2 (hA6 d he))
 have HA5 := hide hA5
 have IA := hide iA
 have zA := iA.zero
 clear hA4 hA5 hA6 rA iA
 by_cases l0 : LA.length = 0
 · have e0 := zA.1 l0
   subst e0
   rw [Int.zero_mul]
   rw [l0]
   clear HRA HA5 zA
   go_enter Tryz.func47, Tryz.ntmps47
   go_wp2_with fail
   go_ret
   exact ⟨Below.refl _ _, _, rfl, Dg.nil _⟩
 · have hb1 : ((LA.length : Int) == 0) = false := beq_eq_false_iff_ne.2 (by omega)
   obtain ⟨dA, rfl⟩ := unhide HA5 l0
   obtain ⟨hdA, hcA⟩ := unhide HRA dA rfl
   have HCA := hide hcA
   obtain ⟨q, s, hs, hks⟩ : ∃ q s : Nat, s ≤ 31 ∧ k = 32 * q + s := ⟨k / 32, k % 32, by omega, by omega⟩
   have hq1 : (k : Int) / 32 = (q : Int) := by omega
   have hq2 : (k : Int) % 32 = (s : Int) := by omega
   have hq : q ≤ 40 := by omega
   have HP := hide (show n * 2 ^ k = 4294967296 ^ q * 2 ^ s * n by
     rw [hks, Int.pow_add, Int.pow_mul, Int.mul_comm]; rfl)
   have O0 := hide (Own32.new w (LA.length + q + 1))
   have K0 := hide (below_a w (.cells (madeCells #[.int .u32 0] (LA.length + q + 1)) 90))
   have hmk := make32q LA.length q (by omega)
   clear hcA HRA HA5 zA hks
   go_enter Tryz.func47, Tryz.ntmps47
   go_wp2_with fail
   clear hmk hb1
   go_loopg [8] LA.length (fun g t wr => ∃ (i : Nat) (R : List Int), i ≤ LA.length ∧ g = LA.length - i ∧ t = .int .i64 i ∧ Hid (Own32 wr w.heap.size R) ∧ Hid (Below w.heap.size w wr) ∧ Hid (LeftInv LA R q s i))
   case atStart => exact ⟨0, _, Nat.zero_le _, by simp, rfl, O0, K0, LeftInv.start LA q s⟩
   case round =>
     obtain ⟨i, R, hi, hg, rfl, hO, hK, hI⟩ := hrel
     clear O0 K0
     have hz := (unhide hK).size
     have hlt := (unhide hO).lt
     have hRl := hide (unhide hI).len
     by_cases hlt2 : i < LA.length
     · have hiA : (i : Int) < (LA.length : Int) := by omega
       have cA := cell_keep (unhide hK) hdA (unhide HCA i hlt2)
       have gA := (unhide IA).1.get i
       have f1 := (unhide hO).frozen (i + q)
       have f2 := (unhide hO).frozen (i + q + 1)
       have c1 := (unhide hO).cell (i + q) (by have := unhide hRl; omega)
       have c2 := (unhide hO).cell (i + q + 1) (by have := unhide hRl; omega)
       rw [(unhide hI).zer _ (Nat.le_refl _)] at c2
       obtain ⟨nx, b1, b2⟩ := (unhide hI).next hlt2 (unhide IA).1 hs
       have NX := hide nx
       clear nx
       obtain ⟨m1, m2, m3, kk, m4, m5⟩ := shl_parts hs gA
       obtain ⟨p1, p2, p3⟩ := two_pow_le hs
       have gR := (unhide hI).wds.get (i + q)
       have oa := or_add ⟨gR.1, (unhide hI).top⟩ m4 (by rw [← m5]; omega) hs
       rw [← m5] at oa
       have oz := or_zero (z := LA.getD i 0 * 2 ^ s / 4294967296) (by omega)
       have OX := hide (((unhide hO).set (i + q) (R.getD (i + q) 0 + LA.getD i 0 * 2 ^ s % 4294967296) (by have := unhide hRl; omega)).set (i + q + 1) (LA.getD i 0 * 2 ^ s / 4294967296) (by rw [List.length_set]; have := unhide hRl; omega))
       have KX := hide (((unhide hK).setCell (p := ⟨w.heap.size, i + q, none⟩) (Nat.le_refl _) (.int .u32 (R.getD (i + q) 0 + LA.getD i 0 * 2 ^ s % 4294967296))).setCell (p := ⟨w.heap.size, i + q + 1, none⟩) (Nat.le_refl _) (.int .u32 (LA.getD i 0 * 2 ^ s / 4294967296)))
       have hneA : dA ≠ w.heap.size := by omega
       have hij1 : ((i : Int) + (q : Int)) < (LA.length : Int) + (q : Int) + 1 := by omega
       have hij2 : ((i : Int) + (q : Int)).toNat = i + q := by omega
       have hij0 : (0 : Int) ≤ (i : Int) + (q : Int) := by omega
       have hik1 : ((i : Int) + (q : Int) + 1) < (LA.length : Int) + (q : Int) + 1 := by omega
       have hik2 : ((i : Int) + (q : Int) + 1).toNat = i + q + 1 := by omega
       have hik0 : (0 : Int) ≤ (i : Int) + (q : Int) + 1 := by omega
       have hqq : i + q ≠ i + q + 1 := by omega
       have hss : ((s : Int)).toNat = s := by omega
       have hs64 : (s : Int) < 64 := by omega
       clear m3 m4 m5 p1 p2 p3
       generalize LA.getD i 0 = x at *
       generalize R.getD (i + q) 0 = z at *
       obtain ⟨P, hP⟩ : ∃ P, x * 2 ^ s = P := ⟨_, rfl⟩
       rw [hP] at b1 b2 m1 m2 oa oz NX OX KX
       go_wp2_with fail
       go_roundg (LA.length - (i + 1))
       case measure => omega
       case rel => exact ⟨i + 1, _, by omega, rfl, by go_num, OX, KX, NX⟩
     · have hiA : i = LA.length := by omega
       subst hiA
       have hv : vl R = n * 2 ^ k := by have := (unhide hI).val; rw [List.take_of_length_le (Nat.le_refl _), (unhide IA).2.2] at this; rw [unhide HP]; exact this
       have RW := (unhide hO).row (by rw [unhide hRl]; unfold maxLen; omega)
       have TR := trim_any _ _ _ RW (unhide hI).wds (by rw [unhide hRl]; omega)
       rw [unhide hRl, hv] at TR
       have HT := hide TR
       clear TR RW hv
       go_wp2_with fail
       refine (unhide HT).mono ?_
       rintro e w1 ⟨rfl, v1, rfl, D1⟩
       have HD := hide D1
       clear D1
       go_wp2_with fail
       go_ret
       exact ⟨unhide hK, _, rfl, unhide HD⟩
end Go.Proofs.YtlkoidkdeopgjaaGreatDoor
namespace Go.Proofs.YtlkoidkdeopgjaaGreatDoor
open Go.RowKit
set_option linter.unusedSimpArgs false
set_option linter.unusedVariables false
structure SubInv (A B R : List Int) (i : Nat) (c : Int) : Prop where
 len : R.length = A.length
 wds : Wds R
 zer : ∀ j, i ≤ j → R.getD j 0 = 0
 c0 : 0 ≤ c
 c1 : c ≤ 1
 val : vl R - 4294967296 ^ i * c = vl (A.take i) - vl (B.take i)
theorem SubInv.start (A B : List Int) : SubInv A B (List.replicate A.length 0) 0 0 :=
 ⟨by simp, wds_rep _, fun j _ => getD_rep _ j, by decide, by decide, by rw [vl_rep]; simp [vl]⟩
theorem SubInv.next {A B R : List Int} {i : Nat} {c y D : Int} (h : SubInv A B R i c) (hi : i < A.length) (hA : Wds A) (hB : Wds B) (hy : y = B.getD i 0) (hD : D = (A.getD i 0 - c - y) % 18446744073709551616) : SubInv A B (R.set i (D % 4294967296)) (i + 1) (D / 9223372036854775808) := by
 obtain ⟨h1, h2, h3, h4, h5, h6⟩ := h
 have a := hA.get i
 have b := hB.get i
 rw [← hy] at b
 have t1 := vl_take A i
 have t2 := vl_take B i
 rw [← hy] at t2
 have s1 := vl_set R i (D % 4294967296) (by omega)
 rw [h3 i (Nat.le_refl _)] at s1
 have dm : A.getD i 0 - c - y = D % 4294967296 - 4294967296 * (D / 9223372036854775808) := by omega
 refine ⟨by rw [List.length_set]; exact h1, h2.set _ (by omega), fun j hj => by rw [getD_set_ne (by omega)]; exact h3 j (by omega), by omega, by omega, ?_⟩
 rw [t1, t2, s1, Int.pow_succ]
 generalize D % 4294967296 = r at *
 generalize D / 9223372036854775808 = q at *
 generalize A.getD i 0 = x at *
 generalize (4294967296 : Int) ^ i = P at *
 grind
theorem SubInv.done {A B R : List Int} {c : Int} (h : SubInv A B R A.length c) (hl : B.length ≤ A.length) (hle : vl B ≤ vl A) : Wds R ∧ vl R = vl A - vl B := by
 obtain ⟨h1, h2, h3, h4, h5, h6⟩ := h
 refine ⟨h2, ?_⟩
 rw [List.take_of_length_le (Nat.le_refl _), List.take_of_length_le hl] at h6
 have hh := vl_hi h2
 rw [h1] at hh
 have c01 : c = 0 ∨ c = 1 := by omega
 rcases c01 with rfl | rfl
 · omega
 · rw [Int.mul_one] at h6; omega
theorem bsub_any (v1 v2 : Value) (n1 n2 : Int) (w : World) (h1 : Dg w v1 n1) (h2 : Dg w v2 n2) (hn1 : n1 < 4294967296 ^ 8) (hn : n2 ≤ n1) :
   Calls Tryz.prog 52 #[v1, v2] w fun e w' => Below w.heap.size w w' ∧ ∃ v', e = .returned v' ∧ Dg w' v' (n1 - n2) := by
 obtain ⟨LA, rA, iA⟩ := h1
 obtain ⟨LB, rB, iB⟩ := h2
 have hA := hn1
 have hB : n2 < 4294967296 ^ 8 := by omega
 have hle : LB.length ≤ LA.length := iB.len LA.length (by have := iA.hi; omega)
 have lA := iA.len 8 hA
 have lB := iB.len 8 hB
 obtain ⟨aoA, capA, rfl, _, _, _, hA4, hA5, hA6⟩ := rA.at
 obtain ⟨aoB, capB, rfl, _, _, _, hB4, hB5, hB6⟩ := rB.at
 have HRA := hide (fun d (he : aoA = some ⟨d, 0, none⟩) => And.intro (hA4 d 0 none he).2.2 (hA6 d he))
 have HRB := hide (fun d (he : aoB = some ⟨d, 0, none⟩) => And.intro (hB4 d 0 none he).2.2 (hB6 d he))
 have HA5 := hide hA5
 have HB5 := hide hB5
 have IA := hide iA
 have IB := hide iB
 clear hA4 hA5 hA6 hB4 hB5 hB6 rA rB iA iB
 have O0 := hide (Own32.new w LA.length)
 have K0 := hide (below_a w (.cells (madeCells #[.int .u32 0] LA.length) 90))
 have hmk := make32 LA.length (by omega)
 go_enter Tryz.func52, Tryz.ntmps52
 go_wp2_with fail
 clear hmk
 go_loopg [6, 7] LA.length (fun g c t wr => ∃ (i : Nat) (cc : Int) (R : List Int), i ≤ LA.length ∧ g = LA.length - i ∧ c = .int .u64 cc ∧ t = .int .i64 i ∧ Hid (Own32 wr w.heap.size R) ∧ Hid (Below w.heap.size w wr) ∧ Hid (SubInv LA LB R i cc))
 case atStart => exact ⟨0, 0, _, Nat.zero_le _, by simp, rfl, rfl, O0, K0, SubInv.start LA LB⟩
 case round =>
   obtain ⟨i, cc, R, hi, hg, rfl, rfl, hO, hK, hI⟩ := hrel
   clear O0 K0
   have hz := (unhide hK).size
   have hlt := (unhide hO).lt
   have cc0 := (unhide hI).c0
   have cc1 := (unhide hI).c1
   have hRl := hide (unhide hI).len
   have hf := (unhide hO).frozen i
   by_cases hlt2 : i < LA.length
   · obtain ⟨dA, rfl⟩ := unhide HA5 (by omega)
     obtain ⟨hdA, hcA⟩ := unhide HRA dA rfl
     have cA := cell_keep (unhide hK) hdA (hcA i hlt2)
     have gA := (unhide IA).1.get i
     have cR := (unhide hO).cell i (by have := unhide hRl; omega)
     have hne : dA ≠ w.heap.size := by omega
     have hiA : (i : Int) < (LA.length : Int) := by omega
     clear hcA
     by_cases hb : i < LB.length
     · obtain ⟨dB, rfl⟩ := unhide HB5 (by omega)
       obtain ⟨hdB, hcB⟩ := unhide HRB dB rfl
       have cB := cell_keep (unhide hK) hdB (hcB i hb)
       have gB := (unhide IB).1.get i
       have hiB : (i : Int) < (LB.length : Int) := by omega
       obtain ⟨D, hD⟩ : ∃ D, IntKind.u64.wrap (IntKind.u64.wrap (LA.getD i 0 - cc) - LB.getD i 0) = D := ⟨_, rfl⟩
       have hD2 : D = (LA.getD i 0 - cc - LB.getD i 0) % 18446744073709551616 := by rw [← hD, u64_wrap, u64_wrap]; omega
       have hD0 : 0 ≤ D ∧ D ≤ 18446744073709551615 := by omega
       have NX := hide ((unhide hI).next hlt2 (unhide IA).1 (unhide IB).1 (y := LB.getD i 0) rfl hD2)
       have OX := hide ((unhide hO).set i (D % 4294967296) (by have := unhide hRl; omega))
       have KX := hide ((unhide hK).setCell (p := ⟨w.heap.size, i, none⟩) (Nat.le_refl _) (.int .u32 (D % 4294967296)))
       clear hcB hD2
       generalize LA.getD i 0 = x at *
       generalize LB.getD i 0 = y at *
       generalize R.getD i 0 = z at *
       go_wp2_with fail
       go_roundg (LA.length - (i + 1))
       case measure => omega
       case rel => exact ⟨i + 1, _, _, by omega, rfl, rfl, by go_num, OX, KX, NX⟩
     · have hib : decide ((i : Int) < (LB.length : Int)) = false := by simp; omega
       obtain ⟨D, hD⟩ : ∃ D, IntKind.u64.wrap (LA.getD i 0 - cc) = D := ⟨_, rfl⟩
       have hD2 : D = (LA.getD i 0 - cc - 0) % 18446744073709551616 := by rw [← hD, u64_wrap]; omega
       have hD0 : 0 ≤ D ∧ D ≤ 18446744073709551615 := by omega
       have NX := hide ((unhide hI).next hlt2 (unhide IA).1 (unhide IB).1 (y := 0) (by rw [List.getD_eq_getElem?_getD, List.getElem?_eq_none (by omega)]; rfl) hD2)
       have OX := hide ((unhide hO).set i (D % 4294967296) (by have := unhide hRl; omega))
       have KX := hide ((unhide hK).setCell (p := ⟨w.heap.size, i, none⟩) (Nat.le_refl _) (.int .u32 (D % 4294967296)))
       clear hD2
       generalize LA.getD i 0 = x at *
       generalize R.getD i 0 = z at *
       go_wp2_with fail
       go_roundg (LA.length - (i + 1))
       case measure => omega
       case rel => exact ⟨i + 1, _, _, by omega, rfl, rfl, by go_num, OX, KX, NX⟩
   · have hiA : i = LA.length := by omega
     subst hiA
     have DN := hide ((unhide hI).done hle (by rw [(unhide IA).2.2, (unhide IB).2.2]; exact hn))
     have RW := (unhide hO).row (by rw [unhide hRl]; unfold maxLen; omega)
     have TR := trim_any _ _ _ RW (unhide DN).1 (by rw [unhide hRl]; omega)
     rw [unhide hRl, (unhide DN).2, (unhide IA).2.2, (unhide IB).2.2] at TR
     have HT := hide TR
     clear TR RW
     go_wp2_with fail
     refine (unhide HT).mono ?_
     rintro e w1 ⟨rfl, v1, rfl, D1⟩
     have HD := hide D1
     clear D1
     go_wp2_with fail
     go_ret
     exact ⟨unhide hK, _, rfl, unhide HD⟩
end Go.Proofs.YtlkoidkdeopgjaaGreatDoor
namespace Go.Proofs.YtlkoidkdeopgjaaGreatDoor
open Go.RowKit
set_option linter.unusedSimpArgs false
set_option linter.unusedVariables false
structure SmInv (A Q : List Int) (k : Nat) (r d : Int) : Prop where
 len : Q.length = A.length
 wds : Wds Q
 zer : ∀ j, j < k → Q.getD j 0 = 0
 r0 : 0 ≤ r
 r1 : r < d
 val : vl A = vl (A.take k) + d * vl Q + 4294967296 ^ k * r
theorem SmInv.start (A : List Int) {d : Int} (hd : 0 < d) : SmInv A (List.replicate A.length 0) A.length 0 d :=
 ⟨by simp, wds_rep _, fun j _ => getD_rep _ j, by decide, hd, by rw [vl_rep, List.take_of_length_le (Nat.le_refl _)]; simp⟩
theorem quo_fit {r x d : Int} (r0 : 0 ≤ r) (r1 : r < d) (hx : 0 ≤ x ∧ x ≤ 4294967295) : 0 ≤ (r * 4294967296 + x) / d ∧ (r * 4294967296 + x) / d ≤ 4294967295 ∧ 0 ≤ (r * 4294967296 + x) % d ∧ (r * 4294967296 + x) % d < d ∧ r * 4294967296 + x = d * ((r * 4294967296 + x) / d) + (r * 4294967296 + x) % d := by
 have hd : 0 < d := by omega
 refine ⟨Int.ediv_nonneg (by omega) (by omega), ?_, Int.emod_nonneg _ (by omega), Int.emod_lt_of_pos _ hd, (Int.mul_ediv_add_emod _ _).symm⟩
 have : (r * 4294967296 + x) / d < 4294967296 := by
   apply Int.ediv_lt_of_lt_mul hd
   have h1 : (r + 1) * 4294967296 ≤ d * 4294967296 := Int.mul_le_mul_of_nonneg_right (by omega) (by decide)
   omega
 omega
theorem SmInv.next {A Q : List Int} {m : Nat} {r d : Int} (h : SmInv A Q (m + 1) r d) (hm : m < A.length) (hA : Wds A) :
   SmInv A (Q.set m ((r * 4294967296 + A.getD m 0) / d)) m ((r * 4294967296 + A.getD m 0) % d) d := by
 obtain ⟨h1, h2, h3, h4, h5, h6⟩ := h
 have a := hA.get m
 obtain ⟨q1, q2, q3, q4, q5⟩ := quo_fit h4 h5 a
 have t := vl_take A m
 have s := vl_set Q m ((r * 4294967296 + A.getD m 0) / d) (by omega)
 rw [h3 m (by omega)] at s
 refine ⟨by rw [List.length_set]; exact h1, h2.set _ ⟨q1, q2⟩, fun j hj => by rw [getD_set_ne (by omega)]; exact h3 j (by omega), q3, q4, ?_⟩
 rw [t] at h6
 rw [s, h6, Int.pow_succ]
 generalize (r * 4294967296 + A.getD m 0) / d = q at *
 generalize (r * 4294967296 + A.getD m 0) % d = r' at *
 generalize A.getD m 0 = x at *
 generalize (4294967296 : Int) ^ m = P at *
 clear s t h1 h2 h3 h4 h5 h6 q1 q2 q3 q4
 grind
theorem SmInv.done {A Q : List Int} {r d : Int} (h : SmInv A Q 0 r d) : vl Q = vl A / d ∧ r = vl A % d := by
 obtain ⟨h1, h2, h3, h4, h5, h6⟩ := h
 have e : vl A = r + d * vl Q := by simp [vl] at h6; omega
 rw [e]
 constructor
 · rw [Int.add_mul_ediv_left _ _ (by omega), Int.ediv_eq_zero_of_lt h4 h5]; omega
 · rw [Int.add_mul_emod_self_left, Int.emod_eq_of_lt h4 h5]
theorem or_two' (y x : Int) (hy : 0 ≤ y ∧ y ≤ 4294967295) (hx : 0 ≤ x ∧ x ≤ 4294967295) : bits .or .u64 (y * 4294967296) x = y * 4294967296 + x := by
 obtain ⟨hx1, hx2⟩ := hx
 obtain ⟨hy1, hy2⟩ := hy
 go_bits2
theorem small_any (v : Value) (n d : Int) (w : World) (h : Dg w v n) (hn : n < 4294967296 ^ 8) (hd : 0 < d) (hd1 : d ≤ 4294967295) :
   Calls Tryz.prog 56 #[v, .int .u32 d] w fun e w' => Below w.heap.size w w' ∧ ∃ v', e = .returned (.tuple #[v', .int .u32 (n % d)]) ∧ Dg w' v' (n / d) := by
 obtain ⟨LA, rA, iA⟩ := h
 have lA := iA.len 8 hn
 obtain ⟨aoA, capA, rfl, _, _, _, hA4, hA5, hA6⟩ := rA.at
 have HRA := hide (fun d (he : aoA = some ⟨d, 0, none⟩) => And.intro (hA4 d 0 none he).2.2 (hA6 d he))
 have HA5 := hide hA5
 have IA := hide iA
 clear hA4 hA5 hA6 rA iA
 have O0 := hide (Own32.new w LA.length)
 have K0 := hide (below_a w (.cells (madeCells #[.int .u32 0] LA.length) 90))
 have hmk := make32 LA.length (by omega)
 have hd0 : (d == 0) = false := beq_eq_false_iff_ne.2 (by omega)
 go_enter Tryz.func56, Tryz.ntmps56
 go_wp2_with fail
 clear hmk
 go_loopg [7, 8] LA.length (fun g c t wr => ∃ (k : Nat) (r : Int) (Q : List Int), k ≤ LA.length ∧ g = k ∧ c = .int .u64 r ∧ t = .int .i64 ((k : Int) - 1) ∧ Hid (Own32 wr w.heap.size Q) ∧ Hid (Below w.heap.size w wr) ∧ Hid (SmInv LA Q k r d))
 case atStart => exact ⟨LA.length, 0, _, Nat.le_refl _, rfl, rfl, by go_num, O0, K0, SmInv.start LA hd⟩
 case round =>
   obtain ⟨k, r, Q, hk, hg, rfl, rfl, hO, hK, hI⟩ := hrel
   clear O0 K0
   have hz := (unhide hK).size
   have hlt := (unhide hO).lt
   have r0 := (unhide hI).r0
   have r1 := (unhide hI).r1
   have hQl := hide (unhide hI).len
   by_cases k0 : k = 0
   · subst k0
     have RW := (unhide hO).row (by rw [unhide hQl]; unfold maxLen; omega)
     have TR := trim_any _ _ _ RW (unhide hI).wds (by rw [unhide hQl]; omega)
     obtain ⟨e1, e2⟩ := (unhide hI).done
     rw [unhide hQl, e1, (unhide IA).2.2] at TR
     rw [(unhide IA).2.2] at e2
     have HT := hide TR
     have HE := hide e2
     clear TR RW e1 e2
     go_wp2_with fail
     refine (unhide HT).mono ?_
     rintro e w1 ⟨rfl, v1, rfl, D1⟩
     have HD := hide D1
     clear D1
     go_wp2_with fail
     go_ret2
     exact ⟨unhide hK, _, congrArg (fun z => Ending.returned (.tuple #[_, .int .u32 z])) (unhide HE), unhide HD⟩
   · obtain ⟨m, rfl⟩ : ∃ m, k = m + 1 := ⟨k - 1, by omega⟩
     obtain ⟨dA, rfl⟩ := unhide HA5 (by omega)
     obtain ⟨hdA, hcA⟩ := unhide HRA dA rfl
     have cA := cell_keep (unhide hK) hdA (hcA m (by omega))
     have gA := (unhide IA).1.get m
     have hf := (unhide hO).frozen m
     have cQ := (unhide hO).cell m (by have := unhide hQl; omega)
     have e1 : (((m + 1 : Nat) : Int) - 1) = (m : Int) := by omega
     have hm0 : (0 : Int) ≤ (m : Int) := by omega
     have hmA : (m : Int) < (LA.length : Int) := by omega
     have hne : dA ≠ w.heap.size := by omega
     have NX := hide ((unhide hI).next (by omega) (unhide IA).1)
     have OX := hide ((unhide hO).set m ((r * 4294967296 + LA.getD m 0) / d) (by have := unhide hQl; omega))
     have KX := hide ((unhide hK).setCell (p := ⟨w.heap.size, m, none⟩) (Nat.le_refl _) (.int .u32 ((r * 4294967296 + LA.getD m 0) / d)))
     obtain ⟨q1, q2, q3, q4, q5⟩ := quo_fit r0 r1 gA
     have ho := or_two' r (LA.getD m 0) ⟨r0, by omega⟩ gA
     clear hcA q5
     generalize LA.getD m 0 = x at *
     generalize Q.getD m 0 = z at *
     obtain ⟨T, hT⟩ : ∃ T, T = r * 4294967296 + x := ⟨_, rfl⟩
     rw [← hT] at q1 q2 q3 q4 ho NX OX KX
     have T0 : 0 ≤ T ∧ T ≤ 18446744073709551615 := by omega
     clear hT
     go_wp2_with fail
     go_roundg m
     case measure => omega
     case rel => exact ⟨m, _, _, by omega, rfl, rfl, by go_num, OX, KX, NX⟩
end Go.Proofs.YtlkoidkdeopgjaaGreatDoor
