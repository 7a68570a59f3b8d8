/-
  The reader's small parts: trimmed, withoutRemark, lineCount, kept, number.
-/
import Derived.Test.YtodfjomglgmffaaGreatDoorAsW
import Derived.Test.YtodfjomglgmffaaGreatDoorShelf
import Derived.Shelf.Strings.SlTrimAscii
import Derived.Lib.AppendIntMem
import Derived.BigQuiet
namespace Go.Proofs.YtodfjomglgmffaaGreatDoor
open Go.RowKit
set_option linter.unusedSimpArgs false
set_option linter.unusedVariables false

/-- The words of kinds. -/
def kwL : List (List UInt8) := [[104, 97, 108, 116], [109, 111, 118], [108, 100, 105], [108, 100], [115, 116], [97, 100, 100], [97, 100, 99], [115, 117, 98], [115, 98, 99], [97, 110, 100], [111, 114], [120, 111, 114], [99, 109, 112], [99, 112, 99], [115, 104, 108], [114, 111, 108], [115, 104, 114], [115, 97, 114], [114, 111, 114], [106, 109, 112], [106, 122], [106, 110, 122], [106, 99], [106, 110, 99], [106, 108, 116], [106, 103, 101], [99, 97, 108, 108], [114, 101, 116], [112, 117, 115, 104], [112, 111, 112], [111, 117, 116], [105, 110], [116, 114, 97, 112]]
def ba (l : List UInt8) : ByteArray := ⟨l.toArray⟩
theorem ba_list (l : List UInt8) : (ba l).toList = l := by rw [ByteArray.toList_eq]; simp [ba]
theorem ba_data (l : List UInt8) : (ba l).data.toList = l := by simp [ba]
theorem ba_size (l : List UInt8) : (ba l).size = l.length := rfl
/-- What lies in package variables. -/
structure Gl (w : World) : Prop where
  mx : ∃ m, w.cell? ⟨2, 0, none⟩ = some (.int .i64 m)
  es : ∃ te pe, w.cell? ⟨8, 0, none⟩ = some (.iface te pe)
  er : ∃ te pe, w.cell? ⟨9, 0, none⟩ = some (.iface te pe)
  tab : Lib.TabIs Tryz.prog w "internal/strconv.uint64pow10" .u64 Lib.pow10Tab
  kw : ∃ t fr, w.heap[1]? = some (.cells (kwL.map fun l => Value.string (ba l)).toArray t fr)
theorem cell_lt {w : World} {b o : Nat} {v : Value} (h : w.cell? ⟨b, o, none⟩ = some v) : b < w.heap.size := World.block_lt_of_cell? w ⟨b, o, none⟩ h
theorem Gl.step {w w' : World} (h : Gl w) (k : Below w.heap.size w w') : Gl w' := by
  obtain ⟨⟨m, hm⟩, ⟨te, pe, hs⟩, ⟨tr, pr, hr⟩, ht, ⟨tk, fr, hk⟩⟩ := h
  exact ⟨⟨m, cell_keep k (cell_lt hm) hm⟩, ⟨te, pe, cell_keep k (cell_lt hs) hs⟩, ⟨tr, pr, cell_keep k (cell_lt hr) hr⟩, Lib.tabBelow_of_tabIs ht w' k, ⟨tk, fr, by rw [k.block _ (Array.getElem?_eq_some_iff.1 hk).1]; exact hk⟩⟩
def trimA (s : List UInt8) : List UInt8 := Lib.trimS s [32, 9]
set_option maxRecDepth 100000 in
theorem trimmed_any (s : ByteArray) (w : World) (hs : s.size ≤ 9223372036854775807) : Calls Tryz.prog 41 #[.string s] w fun e w' => e = .returned (.string (ba (trimA s.data.toList))) ∧ Below w.heap.size w w' := by
  have T := fun w => Any.strings_Trim_laid Tryz.lays160 (by kernel_rfl) s ⟨#[32, 9]⟩ w hs (by decide) (ascii_of_all (by decide))
  go_enter Tryz.func41, Tryz.ntmps41
  go_wp2_with fail
  refine (T _).mono ?_
  rintro e w1 ⟨rfl, k1⟩
  go_wp2_with fail
  go_ret
  exact ⟨rfl, k1⟩
def rmkA (s : List UInt8) : List UInt8 := trimA (Lib.cut s [59]).1
theorem cut_len (s sep : List UInt8) : (Lib.cut s sep).1.length ≤ s.length ∧ (Lib.cut s sep).2.1.length ≤ s.length := by
  unfold Lib.cut; split
  · simp; omega
  · simp
theorem remark_any (s : ByteArray) (w : World) (G : Gl w) (hs : s.size < 4294967281) : Calls Tryz.prog 20 #[.string s] w fun e w' => e = .returned (.string (ba (rmkA s.data.toList))) ∧ Below w.heap.size w w' := by
  obtain ⟨m, hm⟩ := G.mx
  have C := Tryz.strings_Cut s ⟨#[59]⟩ m w hs hm
  have hl := (cut_len s.data.toList [59]).1
  have hl2 : s.data.toList.length = s.size := by simp
  have TR := fun w => trimmed_any (ba (Lib.cut s.data.toList [59]).1) w (by rw [ba_size]; omega)
  rw [ba_data] at TR
  unfold rmkA
  unfold ba at *
  generalize (Lib.cut s.data.toList [59]) = R at *
  go_enter Tryz.func20, Tryz.ntmps20
  go_wp2_with fail
  refine C.mono ?_
  rintro e w1 ⟨rfl, n, rfl⟩
  go_wp2_with fail
  refine (TR _).mono ?_
  rintro e w2 ⟨rfl, k2⟩
  go_wp2_with fail
  go_ret
  exact ⟨rfl, ⟨k2.os, k2.tape, k2.output, k2.size, k2.block⟩⟩
theorem kept_any (s : ByteArray) (w : World) (h : s.size ≤ 281474976710656) : Calls Tryz.prog 43 #[.string s] w fun e w' => e = .returned (.string s) ∧ Below w.heap.size w w' := by
  have C : ∀ w, Calls Tryz.prog 52 #[.string s] w fun e w' => e = .returned (.string s) ∧ Below w.heap.size w w' := fun w => by
    have D := fun w => Tryz.stringslite_Clone s w h
    go_enter Tryz.func52, Tryz.ntmps52
    go_wp2_with fail
    refine (D _).mono ?_
    rintro e w1 ⟨rfl, k1⟩
    go_wp2_with fail
    go_ret
    exact ⟨rfl, k1⟩
  go_enter Tryz.func43, Tryz.ntmps43
  go_wp2_with fail
  refine (C _).mono ?_
  rintro e w1 ⟨rfl, k1⟩
  go_wp2_with fail
  go_ret
  exact ⟨rfl, k1⟩
/-- A number up to a bound, as it is written. -/
def numA (s : List UInt8) (most : Int) : Option Int :=
  match Lib.atoiAll s with
  | .ok v => if v < 0 ∨ most < v ∨ Lib.itoa v ≠ s then none else some v
  | _ => none
set_option maxHeartbeats 1000000 in
theorem number_any (s : ByteArray) (most : Int) (w : World) (G : Gl w) (hs : s.size ≤ 281474976710656) (hm : most ≤ 65535) : Calls Tryz.prog 151 #[.string s, .int .i64 most] w fun e w' => e = .returned (.tuple #[.int .i64 ((numA s.data.toList most).getD 0), .bool (numA s.data.toList most).isSome]) ∧ Below w.heap.size w w' := by
  cases ha : Lib.atoiAll s.data.toList with
  | ok v =>
    have A := Tryz.strconv_Atoi_ok s (by omega) v ha w
    have AB : ∀ w', (w' = w ∨ ∃ t, w' = Lib.bytesWorld w 5 t) → Below w.heap.size w w' := fun w' h => by
      rcases h with rfl | ⟨t, rfl⟩
      · exact Below.refl _ _
      · exact Lib.bytesWorld_below _ _ _
    by_cases h1 : v < 0
    · have hn : numA s.data.toList most = none := by unfold numA; rw [ha]; dsimp only; rw [if_pos (.inl h1)]
      rw [hn]
      go_enter Tryz.func151, Tryz.ntmps151
      go_wp2_with fail
      refine A.mono ?_
      rintro e w1 ⟨rfl, k1⟩
      have K1 := hideI (AB _ k1)
      clear k1 AB A
      go_wp2_with fail
      go_ret2
      exact ⟨rfl, unhideI K1⟩
    · by_cases h2 : most < v
      · have hn : numA s.data.toList most = none := by unfold numA; rw [ha]; dsimp only; rw [if_pos (.inr (.inl h2))]
        rw [hn]
        go_enter Tryz.func151, Tryz.ntmps151
        go_wp2_with fail
        refine A.mono ?_
        rintro e w1 ⟨rfl, k1⟩
        have K1 := hideI (AB _ k1)
        clear k1 AB A
        go_wp2_with fail
        go_ret2
        exact ⟨rfl, unhideI K1⟩
      · have IT := fun w' k => Tryz.strconv_Itoa v (by omega) (by omega) w' (Lib.tabBelow_of_tabIs G.tab w' k)
        have hst : s.toList = s.data.toList := ByteArray.toList_eq s
        have hit : ByteArray.toList ⟨(Lib.itoa v).toArray⟩ = Lib.itoa v := by rw [ByteArray.toList_eq]
        by_cases h3 : Lib.itoa v = s.data.toList
        · have hn : numA s.data.toList most = some v := by unfold numA; rw [ha]; dsimp only; rw [if_neg (by rintro (h | h | h); exact h1 h; exact h2 h; exact h h3)]
          rw [hn]
          have hne : (Lib.itoa v == s.data.toList) = true := by rw [h3]; simp
          clear hn h3
          generalize Lib.itoa v = iv at *
          go_enter Tryz.func151, Tryz.ntmps151
          go_wp2_with fail
          refine A.mono ?_
          rintro e w1 ⟨rfl, k1⟩
          have IT1 := IT w1 (AB _ k1)
          have K1 := hideI (AB _ k1)
          clear k1 AB A IT
          go_wp2_with fail
          refine IT1.mono ?_
          rintro e w2 ⟨rfl, q, os, rfl⟩
          have K2 := hideI (bt (unhideI K1) (Lib.below_grow w1.heap.size w1 (Nat.le_refl _) q os))
          go_wp2_with fail
          go_ret2
          exact ⟨rfl, unhideI K2⟩
        · have hn : numA s.data.toList most = none := by unfold numA; rw [ha]; dsimp only; rw [if_pos (.inr (.inr h3))]
          rw [hn]
          have hne : (Lib.itoa v == s.data.toList) = false := by simpa using h3
          clear hn h3
          generalize Lib.itoa v = iv at *
          go_enter Tryz.func151, Tryz.ntmps151
          go_wp2_with fail
          refine A.mono ?_
          rintro e w1 ⟨rfl, k1⟩
          have IT1 := IT w1 (AB _ k1)
          have K1 := hideI (AB _ k1)
          clear k1 AB A IT
          go_wp2_with fail
          refine IT1.mono ?_
          rintro e w2 ⟨rfl, q, os, rfl⟩
          have K2 := hideI (bt (unhideI K1) (Lib.below_grow w1.heap.size w1 (Nat.le_refl _) q os))
          go_wp2_with fail
          go_ret2
          exact ⟨rfl, unhideI K2⟩
  | «syntax» =>
    have hn : numA s.data.toList most = none := by unfold numA; rw [ha]
    rw [hn]
    obtain ⟨te, pe, he⟩ := G.es
    have A := Tryz.strconv_Atoi_syntax s hs ha _ w he (.inr ⟨te, pe, rfl⟩)
    go_enter Tryz.func151, Tryz.ntmps151
    go_wp2_with fail
    refine A.mono ?_
    rintro e w1 ⟨N, rfl, -, -, k1⟩
    have K1 := hideI k1
    clear k1 A
    go_wp2_with fail
    go_ret2
    exact ⟨rfl, unhideI K1⟩
  | range =>
    have hn : numA s.data.toList most = none := by unfold numA; rw [ha]
    rw [hn]
    obtain ⟨te, pe, he⟩ := G.er
    have A := Tryz.strconv_Atoi_range s hs ha _ w he (.inr ⟨te, pe, rfl⟩)
    go_enter Tryz.func151, Tryz.ntmps151
    go_wp2_with fail
    refine A.mono ?_
    rintro e w1 ⟨N, rfl, -, -, k1⟩
    have K1 := hideI k1
    clear k1 A
    go_wp2_with fail
    go_ret2
    exact ⟨rfl, unhideI K1⟩
def lcA (s : List UInt8) : Int := Lib.countByte s 10 + (if s.isEmpty = false ∧ Lib.hasSuffix s [10] = false then 1 else 0)
theorem lineCount_any (s : ByteArray) (w : World) (hs : s.size ≤ 1048576) : Calls Tryz.prog 17 #[.string s] w fun e w' => e = .returned (.int .i64 (lcA s.data.toList)) ∧ w' = w := by
  have C := fun w => Tryz.strings_Count_one s 10 w
  have HS := fun w => Tryz.strings_HasSuffix s ⟨#[10]⟩ w (by omega)
  have hst : s.toList = s.data.toList := ByteArray.toList_eq s
  have hc0 : 0 ≤ Lib.countByte s.data.toList 10 ∧ Lib.countByte s.data.toList 10 ≤ 1048576 := by
    have h1 := List.count_le_length (a := (10 : UInt8)) (l := s.data.toList)
    have h2 : s.data.toList.length = s.size := by simp
    unfold Lib.countByte
    omega
  unfold lcA
  generalize Lib.countByte s.data.toList 10 = cb at *
  by_cases h1 : s.data.toList.isEmpty = true
  · rw [if_neg (by simp [h1])]
    have h1' : s.toList.isEmpty = true := by rw [hst]; exact h1
    go_enter Tryz.func17, Tryz.ntmps17
    go_wp2_with fail
    refine (C _).mono ?_
    rintro e w1 ⟨rfl, hw⟩
    subst w1
    go_wp2_with fail
    go_ret
    exact ⟨by simp, rfl⟩
  · replace h1 : s.data.toList.isEmpty = false := by simpa using h1
    have h1' : s.toList.isEmpty = false := by rw [hst]; exact h1
    by_cases h2 : Lib.hasSuffix s.data.toList [10] = true
    · rw [if_neg (by simp [h2])]
      have HS2 := HS
      rw [show (⟨#[10]⟩ : ByteArray).data.toList = [10] from rfl, h2] at HS2
      clear HS
      go_enter Tryz.func17, Tryz.ntmps17
      go_wp2_with fail
      refine (C _).mono ?_
      rintro e w1 ⟨rfl, hw⟩
      subst w1
      go_wp2_with fail
      refine (HS2 _).mono ?_
      rintro e w1 ⟨rfl, hw⟩
      subst w1
      go_wp2_with fail
      go_ret
      exact ⟨by simp, rfl⟩
    · replace h2 : Lib.hasSuffix s.data.toList [10] = false := by simpa using h2
      rw [if_pos ⟨h1, h2⟩]
      have HS2 := HS
      rw [show (⟨#[10]⟩ : ByteArray).data.toList = [10] from rfl, h2] at HS2
      clear HS
      go_enter Tryz.func17, Tryz.ntmps17
      go_wp2_with fail
      refine (C _).mono ?_
      rintro e w1 ⟨rfl, hw⟩
      subst w1
      go_wp2_with fail
      refine (HS2 _).mono ?_
      rintro e w1 ⟨rfl, hw⟩
      subst w1
      go_wp2_with fail
      go_ret
      exact ⟨by simp, rfl⟩
end Go.Proofs.YtodfjomglgmffaaGreatDoor
