/-
  pairlegallaw4.AsmRemarks.
-/
import Derived.Test.YticbejfdldehcabGreatDoorAlive4
import Derived.Test.YticbejfdldehcabGreatDoorRdM
import Derived.Test.YticbejfdldehcabGreatDoorRefS4
import Derived.Lib.ConvBytes
import Derived.Laws.IdiomStrings
import Derived.Laws.BytesArg
namespace Go.Proofs.YticbejfdldehcabGreatDoor
open Go.RowKit Go.Maps
set_option linter.unusedSimpArgs false
set_option linter.unusedVariables false

theorem Tryz.infoByte : (Tryz.prog.info? 5).map (fun i => (i.zero, i.size, i.bytes)) = some (some (.int .u8 0), 1, 1) := by kernel_rfl
/-- A byte's cell. -/
def bc (x : UInt8) : Value := .int .u8 (x.toNat : Int)
theorem bw_below (w : World) (e : TypeId) (s : ByteArray) : Below w.heap.size w (Lib.bytesWorld w e s) := ⟨rfl, rfl, rfl, by rw [Lib.bytesWorld_size]; omega, fun k hk => Lib.bytesWorld_at_old w e s k hk⟩
theorem noNl_snoc (l : List UInt8) (x : UInt8) : noNl (l ++ [x]) = noNl l ++ (if x = 10 then [] else [x]) := by
  unfold noNl; rw [List.filter_append]; congr 1; by_cases h : x = 10 <;> simp [h]
theorem noNl_len (l : List UInt8) : (noNl l).length ≤ l.length := List.length_filter_le _ _
theorem bc_back (w : World) (l : List UInt8) (v : Value) (h : Lies w 1 v l.length (l.map bc)) : (convert 29 9 v).run Tryz.prog w = .ok (.string (ba l)) w := by
  obtain ⟨-, ao, cap, rfl, -, -, -, h5⟩ := h
  cases ao with
  | none =>
    have hl : l = [] := by
      by_cases e : l.length = 0
      · exact List.eq_nil_of_length_eq_zero e
      · obtain ⟨b, off, h6, -⟩ := h5 e; cases h6
    subst hl
    exact run_convert_bytes_nil w _ 5 Tryz.underlying29 Tryz.underlying5 _ _ _ Tryz.underlying9
  | some a =>
    refine run_convert_bytes_back w _ _ 5 a cap l Tryz.underlying29 Tryz.underlying5 Tryz.underlying9 (fun j hj => ?_)
    obtain ⟨b, off, h6, -, h7⟩ := h5 (by omega)
    injection h6 with h6
    subst h6
    have := h7 j (by omega)
    have hp : (⟨b, off, none⟩ : Addr).add j = ⟨b, off + j, none⟩ := by unfold Addr.add; split <;> simp_all
    rw [hp, this]
    simp [bc, hj]
set_option maxRecDepth 100000 in
set_option maxHeartbeats 4000000 in
theorem asmRemarks_any (t r : ByteArray) (w : World) (G : Gl w) : Calls Tryz.prog 3 #[.string t, .string r] w fun e w' => e = .returned (.bool true) ∧ Below w.heap.size w w' := by
  have AL := alive4 w G
  have RD := fun w G => read_any t w G
  have RM := remarked (t := t.data.toList) (r := r.data.toList)
  have hT : (readA t.data.toList).2.1 = 0 → t.size ≤ 1048576 := fun h => by
    have e : t.data.toList.length = t.size := by simp
    unfold readA at h
    by_cases h1 : 1048576 < t.data.toList.length
    · rw [if_pos h1] at h; cases h
    · omega
  generalize readA t.data.toList = R at *
  obtain ⟨ls, er, ef⟩ := R
  dsimp only at RM RD hT
  have HT := hideI hT
  clear hT
  have HRM := hideI RM
  have HG := hideI G
  clear RM G
  go_enter Tryz.func3, Tryz.ntmps3
  go_wp2_with fail
  refine AL.mono ?_
  rintro e w1 ⟨rfl, k1⟩
  have G1 := (unhideI HG).step k1
  go_wp2_with fail
  refine (RD _ G1).mono ?_
  rintro e w2 ⟨v2, rfl, l2, o2, k2⟩
  have K2 := hideI (bt k1 k2)
  have L2 := hideI l2
  have G2 := hideI (G1.step k2)
  clear AL RD G1 k1 k2 o2 l2
  by_cases he : er = 0
  · subst he
    have HR2 := hideI (unhideI HRM rfl)
    have hts := unhideI HT rfl
    clear HRM HT
    by_cases hr : r.size ≤ 1000
    · have hr2 : ¬ (1000 : Int) < (r.size : Int) := by omega
      obtain ⟨-, va, vc, rfl, -⟩ := id (unhideI L2)
      have CV : ∀ w, (convert 9 29 (.string r)).run Tryz.prog w = .ok (.slice (some ⟨w.heap.size, 0, none⟩) r.size (grownCap w r.size 0 5)) (Lib.bytesWorld w 5 r) := fun w => Lib.run_convert_string_bytes w _ _ _ r Tryz.underlying9 Tryz.underlying29 Tryz.underlying5
      obtain ⟨i0, hi, hz0, hz1, hz2⟩ := info_parts Tryz.infoByte
      have hrl : r.data.toList.length = r.size := by simp
      have CE := fun (w : World) j hj => Lib.bytesWorld_cell w 5 r j hj
      go_wp2_with fail
      have K3 := bw_below (w2.alloc (.cells #[.int .i64 0, .int .i64 ef] 26)) 5 r
      have hsz := Lib.bytesWorld_size (w2.alloc (.cells #[.int .i64 0, .int .i64 ef] 26)) 5 r
      have C3 := hideI (CE (w2.alloc (.cells #[.int .i64 0, .int .i64 ef] 26)))
      generalize Lib.bytesWorld (w2.alloc (.cells #[.int .i64 0, .int .i64 ef] 26)) 5 r = w3 at *
      simp only [World.size_alloc] at hsz C3
      have B3 := hideI ((Box.new w2 #[.int .i64 0, .int .i64 ef] 26).step K3)
      have KB := hideI (bt (below_a w2 (.cells #[.int .i64 0, .int .i64 ef] 26)) K3)
      clear CV CE K3
      generalize (grownCap _ _ _ _) = gc at *
      go_loopg [7, 29] r.size (fun g vr vi wr => ∃ (k : Nat), k ≤ r.size ∧ g = r.size - k ∧ vi = .int .i64 k ∧ Hid (wr.ownsRow w3.heap.size 5 1 vr (noNl (r.data.toList.take k)).length ((noNl (r.data.toList.take k)).map bc)) ∧ Hid (Below w3.heap.size w3 wr))
      case atStart => exact ⟨0, Nat.zero_le _, rfl, rfl, World.ownsRow_nil _ _ _ _, Below.refl _ _⟩
      case round =>
        obtain ⟨k, hk, hg, rfl, HO, HW⟩ := hrel
        by_cases hlt : k < r.size
        · have hlt2 : k < r.data.toList.length := by omega
          have htk : r.data.toList.take (k + 1) = r.data.toList.take k ++ [r.data.toList[k]] := List.take_succ_eq_append_getElem hlt2
          have ck := (unhideI C3) k hlt
          have hgd : r.data.toList.getD k 0 = r.data.toList[k] := by simp [List.getD, List.getElem?_eq_getElem hlt2]
          rw [hgd] at ck
          clear hgd
          have hcb : w2.heap.size + 1 < w3.heap.size := by omega
          replace ck := cell_keep (unhideI HW) hcb ck
          have hx := noNl_snoc (r.data.toList.take k) (r.data.toList[k])
          rw [← htk] at hx
          have hln := noNl_len (r.data.toList.take k)
          have hln2 : (r.data.toList.take k).length ≤ k := List.length_take_le _ _
          generalize r.data.toList[k] = x at *
          have HX := hideI hx
          clear hx htk
          generalize noNl (r.data.toList.take k) = acc at *
          have hwr := (unhideI HW).size
          by_cases h10 : x = 10
          · subst h10
            have e1 := unhideI HX
            rw [if_pos rfl, List.append_nil] at e1
            go_wp2_with fail
            go_roundg (r.size - (k + 1))
            case measure => omega
            case rel => exact ⟨k + 1, by omega, rfl, by go_num, by rw [e1]; exact HO, HW⟩
          · have e1 := hideI (unhideI HX)
            have hxn : ((x.toNat : Int) == 10) = false := by
              simp only [beq_eq_false_iff_ne, ne_eq]
              intro h
              exact h10 (UInt8.toNat_inj.1 (by show x.toNat = 10; omega))
            go_wp2_with (at_builtin; refine wpList_append_own _ rfl (.tmp 35) (.tmp 37) 29 rfl w3.heap.size 5 i0 (.int .u8 0) 1 1 Tryz.underlying29 hi hz0 hz1 hz2 rfl (by decide) _ _ _ rfl ((unhideI HO).alloc _) ⟨_, 0, none⟩ 1 1 [.int .u8 (x.toNat : Int)] rfl rfl (one_c1 _ _ _) (one_c2 _ _) (by unfold maxLen; omega) (by omega) (by simp; omega) ?_; intro v4 w4 own4 grow4 _; have b4 := hideI (below_own ((unhideI HW).alloc (by omega) _) (by simp; omega) ((unhideI HO).alloc _) grow4); have O4 := hideI own4; clear own4 grow4)
            go_roundg (r.size - (k + 1))
            case measure => omega
            case rel => exact ⟨k + 1, by omega, rfl, by go_num, by rw [unhideI e1, if_neg h10]; rw [List.length_append, List.map_append]; exact O4, b4⟩
        · have hke : k = r.size := by omega
          have htk : r.data.toList.take k = r.data.toList := List.take_of_length_le (by omega)
          rw [htk] at HO
          have CB := bc_back wr (noNl r.data.toList) _ (Lies.owned (unhideI HO))
          have hnl := noNl_len r.data.toList
          have hbs : (ba (noNl r.data.toList)).size = (noNl r.data.toList).length := rfl
          have q1 : ¬ 9223372036854775807 < 3 + (ba (noNl r.data.toList)).size := by omega
          have q2 : ¬ 9223372036854775807 < 3 + (ba (noNl r.data.toList)).size + 1 := by omega
          have q3 : ¬ 9223372036854775807 < 3 + (ba (noNl r.data.toList)).size + 1 + t.size := by omega
          have KR := hideI (bt (unhideI KB) (unhideI HW))
          have RD := fun s => read_any s wr ((unhideI G2).step (unhideI KR))
          have BR := hideI ((unhideI B3).step (unhideI HW))
          have hw3 := (unhideI HW).size
          clear hbs hnl HO
          go_wp2_with fail
          refine (RD _).mono ?_
          have hcat : ((⟨#[32, 32, 59]⟩ ++ ba (noNl r.data.toList) ++ ⟨#[10]⟩ ++ t : ByteArray)).data.toList = [32, 32, 59] ++ noNl r.data.toList ++ [10] ++ t.data.toList := by simp [ba]
          rw [hcat]
          clear hcat RD
          generalize readA ([32, 32, 59] ++ noNl r.data.toList ++ [10] ++ t.data.toList) = R2 at *
          obtain ⟨ls2, er2, ef2⟩ := R2
          rintro e w5 ⟨v5, rfl, l5, o5, k5⟩
          dsimp only at *
          have B5 := (unhideI BR).step k5
          obtain ⟨y0, y1⟩ := B5.at2
          have y2 := B5.2.2
          have K5 := hideI (bt (unhideI KR) k5)
          have L5 := hideI l5
          have O5 := hideI o5
          clear l5 o5 k5 B5 BR
          rcases unhideI HR2 with h | h | h
          · simp only [Prod.mk.injEq] at h
            obtain ⟨g1, g2, g3⟩ := h
            have L6 : Hid (Lns w5 v5 ls) := by rw [← g1]; exact L5
            clear L5 g1 HR2
            subst g2 g3
            obtain ⟨-, vb, vd, rfl, -⟩ := id (unhideI L6)
            have A1 : Lns ((w5.setCell ⟨w2.heap.size, 0, none⟩ (.int .i64 0)).setCell ⟨w2.heap.size, 1, none⟩ (.int .i64 0)) (.slice va ls.length vc) ls := (unhideI L2).step (below_2 (unhideI K5) (Nat.le_refl _) _ _)
            have A2 : Lns ((w5.setCell ⟨w2.heap.size, 0, none⟩ (.int .i64 0)).setCell ⟨w2.heap.size, 1, none⟩ (.int .i64 0)) (.slice vb ls.length vd) ls := Lies.other (Lies.other (unhideI L6) (fun k hk => by have := unhideI O5 k hk; omega)) (fun k hk => by have := unhideI O5 k hk; omega)
            have KZ := hideI (below_2 (unhideI K5) (Nat.le_refl _) (.int .i64 0) (.int .i64 0))
            have SA := same4_yes ls _ _ _ A1 A2
            clear A1 A2 L6 O5 L2
            go_wp2_with fail
            refine SA.mono ?_
            rintro e w6 ⟨rfl, k6⟩
            have K6 := hideI (bt (unhideI KZ) k6)
            clear k6 SA
            go_wp2_with fail
            go_ret
            exact ⟨rfl, bt (unhideI K2) (unhideI K6)⟩
          · simp only [Prod.mk.injEq] at h
            obtain ⟨g1, g2, g3⟩ := h
            subst g1 g2 g3
            clear HR2
            obtain ⟨-, vb, vd, rfl, -⟩ := id (unhideI L5)
            go_wp2_with fail
            go_ret
            exact ⟨rfl, bt (unhideI K2) (below_2 (unhideI K5) (Nat.le_refl _) _ _)⟩
          · simp only [Prod.mk.injEq] at h
            obtain ⟨g1, g2, g3⟩ := h
            subst g1 g2 g3
            clear HR2
            obtain ⟨-, vb, vd, rfl, -⟩ := id (unhideI L5)
            go_wp2_with fail
            go_ret
            exact ⟨rfl, bt (unhideI K2) (below_2 (unhideI K5) (Nat.le_refl _) _ _)⟩
    · have hr2 : (1000 : Int) < (r.size : Int) := by omega
      obtain ⟨-, va, vc, rfl, -⟩ := id (unhideI L2)
      go_wp2_with fail
      go_ret
      exact ⟨rfl, bt (unhideI K2) (below_a _ _)⟩
  · have he0 : (er == 0) = false := by simpa using he
    obtain ⟨-, va, vc, rfl, -⟩ := id (unhideI L2)
    go_wp2_with fail
    go_ret
    exact ⟨rfl, bt (unhideI K2) (below_a _ _)⟩
end Go.Proofs.YticbejfdldehcabGreatDoor
