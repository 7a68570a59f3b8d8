/-
  RdG, RdK, RdF, RdI.
-/
import Derived.Test.YtlkoidkdeopgjaaGreatDoorkd
import Derived.Test.YtlkoidkdeopgjaaGreatDooryShelf
import Derived.Shelf.Strings.SlTrimAscii
import Derived.Lib.AppendIntMem
import Derived.BigQuiet
import Derived.Test.YtlkoidkdeopgjaaGreatDoorke
import Derived.Laws.Rows
import Derived.Test.YtlkoidkdeopgjaaGreatDooryReg
set_option maxHeartbeats 4000000
set_option maxRecDepth 100000
namespace Go.Proofs.YtlkoidkdeopgjaaGreatDoor
open Go.RowKit
set_option linter.unusedSimpArgs false
set_option linter.unusedVariables false
def kwL : List (List UInt8) := [[104, 97, 108, 116], [109, 111, 118], [108, 100, 105], [108, 100], [115, 116], [97, 100, 100], [97, 100, 99], [115, 117, 98], [115, 98, 99], [97, 110, 100], [111, 114], [120, 111, 114], [99, 109, 112], [99, 112, 99], [115, 104, 108], [114, 111, 108], [115, 104, 114], [115, 97, 114], [114, 111, 114], [106, 109, 112], [106, 122], [106, 110, 122], [106, 99], [106, 110, 99], [106, 108, 116], [106, 103, 101], [99, 97, 108, 108], [114, 101, 116], [112, 117, 115, 104], [112, 111, 112], [111, 117, 116], [105, 110], [116, 114, 97, 112]]
def ba (l : List UInt8) : ByteArray := ⟨l.toArray⟩
theorem ba_list (l : List UInt8) : (ba l).toList = l := by rw [ByteArray.toList_eq]; simp [ba]
theorem ba_data (l : List UInt8) : (ba l).data.toList = l := by simp [ba]
theorem ba_size (l : List UInt8) : (ba l).size = l.length := rfl
structure Gl (w : World) : Prop where
 mx : ∃ m, w.cell? ⟨2, 0, none⟩ = some (.int .i64 m)
 es : ∃ te pe, w.cell? ⟨8, 0, none⟩ = some (.iface te pe)
 er : ∃ te pe, w.cell? ⟨9, 0, none⟩ = some (.iface te pe)
 tab : Lib.TabIs Tryz.prog w "internal/strconv.uint64pow10" .u64 Lib.pow10Tab
 kw : ∃ t fr, w.heap[1]? = some (.cells (kwL.map fun l => Value.string (ba l)).toArray t fr)
theorem cell_lt {w : World} {b o : Nat} {v : Value} (h : w.cell? ⟨b, o, none⟩ = some v) : b < w.heap.size := World.block_lt_of_cell? w ⟨b, o, none⟩ h
theorem Gl.step {w w' : World} (h : Gl w) (k : Below w.heap.size w w') : Gl w' := by
 obtain ⟨⟨m, hm⟩, ⟨te, pe, hs⟩, ⟨tr, pr, hr⟩, ht, ⟨tk, fr, hk⟩⟩ := h
 exact ⟨⟨m, cell_keep k (cell_lt hm) hm⟩, ⟨te, pe, cell_keep k (cell_lt hs) hs⟩, ⟨tr, pr, cell_keep k (cell_lt hr) hr⟩, Lib.tabBelow_of_tabIs ht w' k, ⟨tk, fr, by rw [k.block _ (Array.getElem?_eq_some_iff.1 hk).1]; exact hk⟩⟩
def trimA (s : List UInt8) : List UInt8 := Lib.trimS s [32, 9]
theorem trimmed_any (s : ByteArray) (w : World) (hs : s.size ≤ 9223372036854775807) : Calls Tryz.prog 111 #[.string s] w fun e w' => e = .returned (.string (ba (trimA s.data.toList))) ∧ Below w.heap.size w w' := by
 have T := fun w => Any.strings_Trim_laid Tryz.lays160 (by kernel_rfl) s ⟨#[32, 9]⟩ w hs (by decide) (ascii_of_all (by decide))
 go_enter Tryz.func111, Tryz.ntmps111
 go_wp2_with fail
 refine (T _).mono ?_
 rintro e w1 ⟨rfl, k1⟩
 go_wp2_with fail
 go_ret
 exact ⟨rfl, k1⟩
def rmkA (s : List UInt8) : List UInt8 := trimA (Lib.cut s [59]).1
theorem cut_len (s sep : List UInt8) : (Lib.cut s sep).1.length ≤ s.length ∧ (Lib.cut s sep).2.1.length ≤ s.length := by
 unfold Lib.cut; split
 · simp; omega
 · simp
theorem remark_any (s : ByteArray) (w : World) (G : Gl w) (hs : s.size < 4294967281) : Calls Tryz.prog 78 #[.string s] w fun e w' => e = .returned (.string (ba (rmkA s.data.toList))) ∧ Below w.heap.size w w' := by
 obtain ⟨m, hm⟩ := G.mx
 have C := Tryz.strings_Cut s ⟨#[59]⟩ m w hs hm
 have hl := (cut_len s.data.toList [59]).1
 have hl2 : s.data.toList.length = s.size := by simp
 have TR := fun w => trimmed_any (ba (Lib.cut s.data.toList [59]).1) w (by rw [ba_size]; omega)
 rw [ba_data] at TR
 unfold rmkA
 unfold ba at *
 generalize (Lib.cut s.data.toList [59]) = R at *
 go_enter Tryz.func78, Tryz.ntmps78
 go_wp2_with fail
 refine C.mono ?_
 rintro e w1 ⟨rfl, n, rfl⟩
 go_wp2_with fail
 refine (TR _).mono ?_
 rintro e w2 ⟨rfl, k2⟩
 go_wp2_with fail
 go_ret
 exact ⟨rfl, ⟨k2.os, k2.tape, k2.output, k2.size, k2.block⟩⟩
theorem kept_any (s : ByteArray) (w : World) (h : s.size ≤ 281474976710656) : Calls Tryz.prog 113 #[.string s] w fun e w' => e = .returned (.string s) ∧ Below w.heap.size w w' := by
 have C : ∀ w, Calls Tryz.prog 87 #[.string s] w fun e w' => e = .returned (.string s) ∧ Below w.heap.size w w' := fun w => by
   have D := fun w => Tryz.stringslite_Clone s w h
   go_enter Tryz.func87, Tryz.ntmps87
   go_wp2_with fail
   refine (D _).mono ?_
   rintro e w1 ⟨rfl, k1⟩
   go_wp2_with fail
   go_ret
   exact ⟨rfl, k1⟩
 go_enter Tryz.func113, Tryz.ntmps113
 go_wp2_with fail
 refine (C _).mono ?_
 rintro e w1 ⟨rfl, k1⟩
 go_wp2_with fail
 go_ret
 exact ⟨rfl, k1⟩
def numA (s : List UInt8) (most : Int) : Option Int :=
 match Lib.atoiAll s with
 | .ok v => if v < 0 ∨ most < v ∨ Lib.itoa v ≠ s then none else some v
 | _ => none
theorem number_any (s : ByteArray) (most : Int) (w : World) (G : Gl w) (hs : s.size ≤ 281474976710656) (hm : most ≤ 65535) : Calls Tryz.prog 228 #[.string s, .int .i64 most] w fun e w' => e = .returned (.tuple #[.int .i64 ((numA s.data.toList most).getD 0), .bool (numA s.data.toList most).isSome]) ∧ Below w.heap.size w w' := by
 cases ha : Lib.atoiAll s.data.toList with
 | ok v =>
   have A := Tryz.strconv_Atoi_ok s (by omega) v ha w
   have AB : ∀ w', (w' = w ∨ ∃ t, w' = Lib.bytesWorld w 5 t) → Below w.heap.size w w' := fun w' h => by
     rcases h with rfl | ⟨t, rfl⟩
     · exact Below.refl _ _
     · exact Lib.bytesWorld_below _ _ _
   by_cases h1 : v < 0
   · have hn : numA s.data.toList most = none := by unfold numA; rw [ha]; dsimp only; rw [if_pos (.inl h1)]
     rw [hn]
     go_enter Tryz.func228, Tryz.ntmps228
     go_wp2_with fail
     refine A.mono ?_
     rintro e w1 ⟨rfl, k1⟩
     have K1 := zH (AB _ k1)
     clear k1 AB A
     go_wp2_with fail
     go_ret2
     exact ⟨rfl, uI K1⟩
   · by_cases h2 : most < v
     · have hn : numA s.data.toList most = none := by unfold numA; rw [ha]; dsimp only; rw [if_pos (.inr (.inl h2))]
       rw [hn]
       go_enter Tryz.func228, Tryz.ntmps228
       go_wp2_with fail
       refine A.mono ?_
       rintro e w1 ⟨rfl, k1⟩
       have K1 := zH (AB _ k1)
       clear k1 AB A
       go_wp2_with fail
       go_ret2
       exact ⟨rfl, uI K1⟩
     · have IT := fun w' k => Tryz.strconv_Itoa v (by omega) (by omega) w' (Lib.tabBelow_of_tabIs G.tab w' k)
       have hst : s.toList = s.data.toList := ByteArray.toList_eq s
       have hit : ByteArray.toList ⟨(Lib.itoa v).toArray⟩ = Lib.itoa v := by rw [ByteArray.toList_eq]
       by_cases h3 : Lib.itoa v = s.data.toList
       · have hn : numA s.data.toList most = some v := by unfold numA; rw [ha]; dsimp only; rw [if_neg (by rintro (h | h | h); exact h1 h; exact h2 h; exact h h3)]
         rw [hn]
         have hne : (Lib.itoa v == s.data.toList) = true := by rw [h3]; simp
         clear hn h3
         generalize Lib.itoa v = iv at *
         go_enter Tryz.func228, Tryz.ntmps228
         go_wp2_with fail
         refine A.mono ?_
         rintro e w1 ⟨rfl, k1⟩
         have IT1 := IT w1 (AB _ k1)
         have K1 := zH (AB _ k1)
         clear k1 AB A IT
         go_wp2_with fail
         refine IT1.mono ?_
         rintro e w2 ⟨rfl, q, os, rfl⟩
         have K2 := zH (bt (uI K1) (Lib.below_grow w1.heap.size w1 (Nat.le_refl _) q os))
         go_wp2_with fail
         go_ret2
         exact ⟨rfl, uI K2⟩
       · have hn : numA s.data.toList most = none := by unfold numA; rw [ha]; dsimp only; rw [if_pos (.inr (.inr h3))]
         rw [hn]
         have hne : (Lib.itoa v == s.data.toList) = false := by simpa using h3
         clear hn h3
         generalize Lib.itoa v = iv at *
         go_enter Tryz.func228, Tryz.ntmps228
         go_wp2_with fail
         refine A.mono ?_
         rintro e w1 ⟨rfl, k1⟩
         have IT1 := IT w1 (AB _ k1)
         have K1 := zH (AB _ k1)
         clear k1 AB A IT
         go_wp2_with fail
         refine IT1.mono ?_
         rintro e w2 ⟨rfl, q, os, rfl⟩
         have K2 := zH (bt (uI K1) (Lib.below_grow w1.heap.size w1 (Nat.le_refl _) q os))
         go_wp2_with fail
         go_ret2
         exact ⟨rfl, uI K2⟩
 | «syntax» =>
   have hn : numA s.data.toList most = none := by unfold numA; rw [ha]
   rw [hn]
   obtain ⟨te, pe, he⟩ := G.es
   have A := Tryz.strconv_Atoi_syntax s hs ha _ w he (.inr ⟨te, pe, rfl⟩)
   go_enter Tryz.func228, Tryz.ntmps228
   go_wp2_with fail
   refine A.mono ?_
   rintro e w1 ⟨N, rfl, -, -, k1⟩
   have K1 := zH k1
   clear k1 A
   go_wp2_with fail
   go_ret2
   exact ⟨rfl, uI K1⟩
 | range =>
   have hn : numA s.data.toList most = none := by unfold numA; rw [ha]
   rw [hn]
   obtain ⟨te, pe, he⟩ := G.er
   have A := Tryz.strconv_Atoi_range s hs ha _ w he (.inr ⟨te, pe, rfl⟩)
   go_enter Tryz.func228, Tryz.ntmps228
   go_wp2_with fail
   refine A.mono ?_
   rintro e w1 ⟨N, rfl, -, -, k1⟩
   have K1 := zH k1
   clear k1 A
   go_wp2_with fail
   go_ret2
   exact ⟨rfl, uI K1⟩
def lcA (s : List UInt8) : Int := Lib.countByte s 10 + (if s.isEmpty = false ∧ Lib.hasSuffix s [10] = false then 1 else 0)
theorem lineCount_any (s : ByteArray) (w : World) (hs : s.size ≤ 1048576) : Calls Tryz.prog 75 #[.string s] w fun e w' => e = .returned (.int .i64 (lcA s.data.toList)) ∧ w' = w := by
 have C := fun w => Tryz.strings_Count_one s 10 w
 have HS := fun w => Tryz.strings_HasSuffix s ⟨#[10]⟩ w (by omega)
 have hst : s.toList = s.data.toList := ByteArray.toList_eq s
 have hc0 : 0 ≤ Lib.countByte s.data.toList 10 ∧ Lib.countByte s.data.toList 10 ≤ 1048576 := by
   have h1 := List.count_le_length (a := (10 : UInt8)) (l := s.data.toList)
   have h2 : s.data.toList.length = s.size := by simp
   unfold Lib.countByte
   omega
 unfold lcA
 generalize Lib.countByte s.data.toList 10 = cb at *
 by_cases h1 : s.data.toList.isEmpty = true
 · rw [if_neg (by simp [h1])]
   have h1' : s.toList.isEmpty = true := by rw [hst]; exact h1
   go_enter Tryz.func75, Tryz.ntmps75
   go_wp2_with fail
   refine (C _).mono ?_
   rintro e w1 ⟨rfl, hw⟩
   subst w1
   go_wp2_with fail
   go_ret
   exact ⟨by simp, rfl⟩
 · replace h1 : s.data.toList.isEmpty = false := by simpa using h1
   have h1' : s.toList.isEmpty = false := by rw [hst]; exact h1
   by_cases h2 : Lib.hasSuffix s.data.toList [10] = true
   · rw [if_neg (by simp [h2])]
     have HS2 := HS
     rw [show (⟨#[10]⟩ : ByteArray).data.toList = [10] from rfl, h2] at HS2
     clear HS
     go_enter Tryz.func75, Tryz.ntmps75
     go_wp2_with fail
     refine (C _).mono ?_
     rintro e w1 ⟨rfl, hw⟩
     subst w1
     go_wp2_with fail
     refine (HS2 _).mono ?_
     rintro e w1 ⟨rfl, hw⟩
     subst w1
     go_wp2_with fail
     go_ret
     exact ⟨by simp, rfl⟩
   · replace h2 : Lib.hasSuffix s.data.toList [10] = false := by simpa using h2
     rw [if_pos ⟨h1, h2⟩]
     have HS2 := HS
     rw [show (⟨#[10]⟩ : ByteArray).data.toList = [10] from rfl, h2] at HS2
     clear HS
     go_enter Tryz.func75, Tryz.ntmps75
     go_wp2_with fail
     refine (C _).mono ?_
     rintro e w1 ⟨rfl, hw⟩
     subst w1
     go_wp2_with fail
     refine (HS2 _).mono ?_
     rintro e w1 ⟨rfl, hw⟩
     subst w1
     go_wp2_with fail
     go_ret
     exact ⟨by simp, rfl⟩
end Go.Proofs.YtlkoidkdeopgjaaGreatDoor
namespace Go.Proofs.YtlkoidkdeopgjaaGreatDoor
open Go.RowKit Go.Maps
set_option linter.unusedSimpArgs false
set_option linter.unusedVariables false
theorem below_grownBy {w w' : World} {row : Option Nat} {B : Nat} (h : w.grownBy w' row) (hB : B ≤ w.heap.size) (hr : ∀ j, row = some j → B ≤ j) : Below B w w' := ⟨h.os, h.tape, h.output, h.size, fun k hk => h.block k (by omega) (fun e => by have := hr k e.symm; omega)⟩
def kdA : Nmd := kwL.zipIdx.map fun p => (p.1, (p.2 : Int))
theorem kd_len : kdA.length = 33 := by decide
theorem kd_new : ∀ k : Fin 33, hasA (kdA.take k.val) (kwL[k.val]'(by have := k.2; exact this)) = false := by decide
theorem kd_snoc : ∀ k : Fin 33, kdA.take (k.val + 1) = kdA.take k.val ++ [((kwL[k.val]'(by have := k.2; exact this)), (k.val : Int))] := by decide
theorem kd_short : ∀ k : Fin 33, (kwL[k.val]'(by have := k.2; exact this)).length ≤ 4 := by decide
theorem makeM33 (w : World) : (Instr.makeMap 107 (some (.int .i64 33))).run Tryz.prog w = .ok (.map (some w.heap.size)) (w.alloc (.map #[] 0)) := by kernel_rfl
theorem Tryz.sizeKW : (Tryz.prog.info? 176).map (·.size) = some 33 := by kernel_rfl
theorem Tryz.sizeStr : (Tryz.prog.info? 9).map (·.size) = some 1 := by kernel_rfl
theorem index_kw (AR : Array Value) (k : Nat) (hk : k < 33) (s : ByteArray) (h : AR[k]? = some (.string s)) (w : World) : (Instr.index 176 (.agg AR) (.int .i64 (k : Int))).run Tryz.prog w = .ok (.string s) w := by
 have h1 : 0 ≤ (k : Int) ∧ (k : Int) < 33 := by omega
 obtain ⟨i, hi, hs⟩ : ∃ i, Tryz.prog.info? 9 = some i ∧ i.size = 1 := by
   have := Tryz.sizeStr
   cases e : Tryz.prog.info? 9 with
   | none => rw [e] at this; cases this
   | some i => rw [e] at this; exact ⟨i, rfl, by simpa using this⟩
 simp [Instr.index, run_underlying Tryz.underlying176, asIntOf, hk, part, sizeOf, typeInfo, hi, hs, h, go_sem]
theorem kinds_any (w : World) (G : Gl w) : Calls Tryz.prog 76 #[] w fun e w' => ∃ b, e = .returned (.map (some b)) ∧ w.heap.size ≤ b ∧ Mp w' b kdA ∧ Below w.heap.size w w' := by
 have hmm := makeM33
 obtain ⟨tk, fr, hk⟩ := G.kw
 have hg : 1 < w.heap.size := (Array.getElem?_eq_some_iff.1 hk).1
 have hk2 : (w.alloc (.map #[] 0)).heap[1]? = some (.cells (kwL.map fun l => Value.string (ba l)).toArray tk fr) := by rw [(below_a w (.map #[] 0)).block _ hg]; exact hk
 have hAz : (kwL.map fun l => Value.string (ba l)).toArray.size = 33 := by decide
 have hAt : Hid (∀ k (h : k < 33), (kwL.map fun l => Value.string (ba l)).toArray[k]? = some (.string (ba (kwL[k]'h)))) := fun k h => by
   have h' : k < kwL.length := h
   rw [List.getElem?_toArray, List.getElem?_map, List.getElem?_eq_getElem h']; rfl
 have HSZ : (Tryz.prog.info? 176).map (·.size) = some (kwL.map fun l => Value.string (ba l)).toArray.size := by rw [hAz]; exact Tryz.sizeKW
 generalize (kwL.map fun l => Value.string (ba l)).toArray = AR at *
 clear hk
 go_enter Tryz.func76, Tryz.ntmps76
 go_wp2_with (refine wpList_load_row rfl 176 (.global 1) rfl 1 rfl _ AR fr _ hk2 Tryz.underlying176 rfl HSZ ?_)
 have M0 := zH (Mp.made w)
 have K0 := zH (below_a w (.map #[] 0))
 clear hmm hk2
 generalize w.alloc (.map #[] 0) = w1 at *
 generalize hmb : w.heap.size = mb at *
 go_loopg [6] 33 (fun g ii wr => ∃ (k : Nat), k ≤ 33 ∧ g = 33 - k ∧ ii = .int .i64 k ∧ Hid (Mp wr mb (kdA.take k)) ∧ Hid (Below mb w wr))
 case atStart => exact ⟨0, Nat.zero_le _, rfl, rfl, M0, K0⟩
 case round =>
   obtain ⟨k, hk, hg2, rfl, HM, HB⟩ := hrel
   clear M0 K0
   by_cases hlt : k < 33
   · have hak := (uI hAt) k hlt
     have hnew := kd_new ⟨k, hlt⟩
     have hsn := zH (kd_snoc ⟨k, hlt⟩)
     have hsh := kd_short ⟨k, hlt⟩
     dsimp only at hnew hsh hsn
     generalize (kwL[k]'hlt) = wd at *
     have hwz : (ba wd).size ≤ maxLen := by rw [ba_size]; unfold maxLen; omega
     have hnew2 : hasA (kdA.take k) (ba wd).toList = false := by rw [ba_list]; exact hnew
     have hAl : (kdA.take k).length < maxLen := by rw [List.length_take]; unfold maxLen; omega
     have hk33 : (k : Int) < 33 := by omega
     have hzk : k < AR.size := by omega
     have hix := index_kw AR k hlt (ba wd) hak
     go_wp2_with (at_mapUpdate; refine wpList_put rfl (.tmp 10) (.tmp 11) (.tmp 12) rfl mb (kdA.take k) rfl (uI HM) hAl (ba wd) rfl hwz (k : Int) rfl (WalkArith.wf_i64 (by omega)) hnew2 ?_; intro w8 m8 r8; have M8 := zH m8; have R8 := zH r8; clear m8 r8)
     rw [ba_list, ← uI hsn] at M8
     have HB2 := zH ((uI HB).trans (below_grownBy (uI R8) (by have := (uI HB).size; omega) (fun j hj => by cases hj; exact Nat.le_refl _)))
     go_roundg (33 - (k + 1))
     case measure => omega
     case rel => exact ⟨k + 1, by omega, rfl, by go_num, M8, HB2⟩
   · have hke : k = 33 := by omega
     subst hke
     have hfull : kdA.take 33 = kdA := List.take_of_length_le (by rw [kd_len]; omega)
     rw [hfull] at HM
     go_wp2_with fail
     go_ret
     exact ⟨mb, rfl, Nat.le_of_eq hmb, uI HM, by rw [hmb]; exact uI HB⟩
end Go.Proofs.YtlkoidkdeopgjaaGreatDoor
namespace Go.Proofs.YtlkoidkdeopgjaaGreatDoor
open Go.RowKit Go.Maps
set_option linter.unusedSimpArgs false
set_option linter.unusedVariables false
def regA (s : List UInt8) : Option Int := if Lib.hasPrefix s [114] = true then numA (Lib.trimPrefix s [114]) 7 else none
def LnBox (w : World) (lb : Nat) (x : Ln) : Prop := Box w lb [.string x.lab, .int .i64 x.i.o, .int .i64 x.i.d, .int .i64 x.i.s, .int .i64 x.i.m, .string x.ref]
theorem trimPrefix_len (s p : List UInt8) : (Lib.trimPrefix s p).length ≤ s.length := by unfold Lib.trimPrefix; split <;> simp
theorem setD_any (r : Int) (lb pb : Nat) (x : Ln) (w : World) (hB : LnBox w lb x) (hP : Box w pb [.pointer (some ⟨lb, 0, none⟩)]) : Calls Tryz.prog 207 #[.int .i64 r, .pointer (some ⟨pb, 0, none⟩)] w fun e w' => e = .returned (.tuple #[]) ∧ w' = w.setCell ⟨lb, 2, none⟩ (.int .i64 r) := by
 have p0 := hP.2.1 0 _ rfl
 have c2 := hB.2.1 2 _ rfl
 have f2 := hB.2.2
 go_enter Tryz.func207, Tryz.ntmps207
 go_wp2_with fail
 exact bodyPost_end (v := .tuple #[]) (by simp [results, Tryz.results207, go_sem]) rfl ⟨rfl, rfl⟩
theorem setS_any (r : Int) (lb pb : Nat) (x : Ln) (w : World) (hB : LnBox w lb x) (hP : Box w pb [.pointer (some ⟨lb, 0, none⟩)]) : Calls Tryz.prog 208 #[.int .i64 r, .pointer (some ⟨pb, 0, none⟩)] w fun e w' => e = .returned (.tuple #[]) ∧ w' = w.setCell ⟨lb, 3, none⟩ (.int .i64 r) := by
 have p0 := hP.2.1 0 _ rfl
 have c3 := hB.2.1 3 _ rfl
 have f3 := hB.2.2
 go_enter Tryz.func208, Tryz.ntmps208
 go_wp2_with fail
 exact bodyPost_end (v := .tuple #[]) (by simp [results, Tryz.results208, go_sem]) rfl ⟨rfl, rfl⟩
theorem regD_any (s : ByteArray) (sb pb lb : Nat) (x : Ln) (w : World) (G : Gl w) (hB : LnBox w lb x) (hP : Box w pb [.pointer (some ⟨lb, 0, none⟩)]) (hS : Box w sb [.func (.func 207) #[] #[.pointer (some ⟨pb, 0, none⟩)]]) (hs : s.size ≤ 1048576) :
   Calls Tryz.prog 226 #[.string s, .pointer (some ⟨sb, 0, none⟩)] w fun e w' => e = .returned (.bool (regA s.data.toList).isSome) ∧ (∀ n, regA s.data.toList = some n → LnBox w' lb ⟨x.lab, ⟨x.i.o, n, x.i.s, x.i.m⟩, x.ref⟩) ∧ Kpt (fun k => k = lb) w w' := by
 have CP := fun w => Tryz.strings_CutPrefix s ⟨#[114]⟩ w
 rw [show (⟨#[114]⟩ : ByteArray).data.toList = [114] from rfl] at CP
 by_cases hp : Lib.hasPrefix s.data.toList [114] = true
 · have hr : regA s.data.toList = numA (Lib.trimPrefix s.data.toList [114]) 7 := by unfold regA; rw [if_pos hp]
   rw [hr]
   rw [hp] at CP
   have hl := trimPrefix_len s.data.toList [114]
   have hl2 : s.data.toList.length = s.size := by simp
   have NA := number_any (ba (Lib.trimPrefix s.data.toList [114])) 7 w G (by rw [ba_size]; omega) (by omega)
   rw [ba_data] at NA
   unfold ba at NA
   clear hr hp
   generalize Lib.trimPrefix s.data.toList [114] = t at *
   cases hn : numA t 7 with
   | none =>
     rw [hn] at NA
     go_enter Tryz.func226, Tryz.ntmps226
     go_wp2_with fail
     refine (CP _).mono ?_
     rintro e w1 ⟨rfl, hw⟩
     subst w1
     go_wp2_with fail
     refine NA.mono ?_
     rintro e w1 ⟨rfl, k1⟩
     go_wp2_with fail
     go_ret
     exact ⟨rfl, (fun n h => by cases h), Kpt.of k1⟩
   | some n =>
     rw [hn] at NA
     go_enter Tryz.func226, Tryz.ntmps226
     go_wp2_with fail
     refine (CP _).mono ?_
     rintro e w1 ⟨rfl, hw⟩
     subst w1
     go_wp2_with fail
     refine NA.mono ?_
     rintro e w1 ⟨rfl, k1⟩
     have B1 := zH (hB.step k1)
     have P1 := zH (hP.step k1)
     have q0 := (hS.step k1).2.1 0 _ rfl
     have K1 := zH k1
     clear k1
     go_wp2_with fail
     refine (setD_any n lb pb x w1 (uI B1) (uI P1)).mono ?_
     rintro e w2 ⟨rfl, hw2⟩
     subst w2
     go_wp2_with fail
     go_ret
     exact ⟨rfl, (fun m h => by cases h; exact (uI B1).set (j := 2) (by simp)), (Kpt.of (X := fun _ => False) (uI K1)).trans (Kpt.setCell (X := fun k => k = lb) _ _ rfl) (fun _ h => h.elim) (fun _ h _ => h)⟩
 · replace hp : Lib.hasPrefix s.data.toList [114] = false := by simpa using hp
   have hr : regA s.data.toList = none := by unfold regA; rw [if_neg (by simp [hp])]
   rw [hr]
   rw [hp] at CP
   generalize Lib.trimPrefix s.data.toList [114] = t at *
   go_enter Tryz.func226, Tryz.ntmps226
   go_wp2_with fail
   refine (CP _).mono ?_
   rintro e w1 ⟨rfl, hw⟩
   subst w1
   go_wp2_with fail
   go_ret
   exact ⟨rfl, (fun n h => by cases h), Kpt.refl _ _⟩
theorem regS_any (s : ByteArray) (sb pb lb : Nat) (x : Ln) (w : World) (G : Gl w) (hB : LnBox w lb x) (hP : Box w pb [.pointer (some ⟨lb, 0, none⟩)]) (hS : Box w sb [.func (.func 208) #[] #[.pointer (some ⟨pb, 0, none⟩)]]) (hs : s.size ≤ 1048576) :
   Calls Tryz.prog 226 #[.string s, .pointer (some ⟨sb, 0, none⟩)] w fun e w' => e = .returned (.bool (regA s.data.toList).isSome) ∧ (∀ n, regA s.data.toList = some n → LnBox w' lb ⟨x.lab, ⟨x.i.o, x.i.d, n, x.i.m⟩, x.ref⟩) ∧ Kpt (fun k => k = lb) w w' := by
 have CP := fun w => Tryz.strings_CutPrefix s ⟨#[114]⟩ w
 rw [show (⟨#[114]⟩ : ByteArray).data.toList = [114] from rfl] at CP
 by_cases hp : Lib.hasPrefix s.data.toList [114] = true
 · have hr : regA s.data.toList = numA (Lib.trimPrefix s.data.toList [114]) 7 := by unfold regA; rw [if_pos hp]
   rw [hr]
   rw [hp] at CP
   have hl := trimPrefix_len s.data.toList [114]
   have hl2 : s.data.toList.length = s.size := by simp
   have NA := number_any (ba (Lib.trimPrefix s.data.toList [114])) 7 w G (by rw [ba_size]; omega) (by omega)
   rw [ba_data] at NA
   unfold ba at NA
   clear hr hp
   generalize Lib.trimPrefix s.data.toList [114] = t at *
   cases hn : numA t 7 with
   | none =>
     rw [hn] at NA
     go_enter Tryz.func226, Tryz.ntmps226
     go_wp2_with fail
     refine (CP _).mono ?_
     rintro e w1 ⟨rfl, hw⟩
     subst w1
     go_wp2_with fail
     refine NA.mono ?_
     rintro e w1 ⟨rfl, k1⟩
     go_wp2_with fail
     go_ret
     exact ⟨rfl, (fun n h => by cases h), Kpt.of k1⟩
   | some n =>
     rw [hn] at NA
     go_enter Tryz.func226, Tryz.ntmps226
     go_wp2_with fail
     refine (CP _).mono ?_
     rintro e w1 ⟨rfl, hw⟩
     subst w1
     go_wp2_with fail
     refine NA.mono ?_
     rintro e w1 ⟨rfl, k1⟩
     have B1 := zH (hB.step k1)
     have P1 := zH (hP.step k1)
     have q0 := (hS.step k1).2.1 0 _ rfl
     have K1 := zH k1
     clear k1
     go_wp2_with fail
     refine (setS_any n lb pb x w1 (uI B1) (uI P1)).mono ?_
     rintro e w2 ⟨rfl, hw2⟩
     subst w2
     go_wp2_with fail
     go_ret
     exact ⟨rfl, (fun m h => by cases h; exact (uI B1).set (j := 3) (by simp)), (Kpt.of (X := fun _ => False) (uI K1)).trans (Kpt.setCell (X := fun k => k = lb) _ _ rfl) (fun _ h => h.elim) (fun _ h _ => h)⟩
 · replace hp : Lib.hasPrefix s.data.toList [114] = false := by simpa using hp
   have hr : regA s.data.toList = none := by unfold regA; rw [if_neg (by simp [hp])]
   rw [hr]
   rw [hp] at CP
   generalize Lib.trimPrefix s.data.toList [114] = t at *
   go_enter Tryz.func226, Tryz.ntmps226
   go_wp2_with fail
   refine (CP _).mono ?_
   rintro e w1 ⟨rfl, hw⟩
   subst w1
   go_wp2_with fail
   go_ret
   exact ⟨rfl, (fun n h => by cases h), Kpt.refl _ _⟩
def immA (x : Ln) (s : List UInt8) : Option Ln :=
 match numA s 65535 with
 | some n => some ⟨x.lab, ⟨x.i.o, x.i.d, x.i.s, n⟩, x.ref⟩
 | none => if may x.i.o = true ∧ nm (ba s) = true then some ⟨x.lab, x.i, ba s⟩ else none
end Go.Proofs.YtlkoidkdeopgjaaGreatDoor
namespace Go.Proofs.YtlkoidkdeopgjaaGreatDoor
open Go.RowKit Go.Maps
set_option linter.unusedSimpArgs false
set_option linter.unusedVariables false
theorem ba_of (s : ByteArray) : ba s.data.toList = s := by cases s; simp [ba]
theorem immA_num {x : Ln} {s : List UInt8} {n : Int} (h : numA s 65535 = some n) : immA x s = some ⟨x.lab, ⟨x.i.o, x.i.d, x.i.s, n⟩, x.ref⟩ := by unfold immA; rw [h]
theorem immA_ref {x : Ln} {s : List UInt8} (h : numA s 65535 = none) (h2 : may x.i.o = true) (h3 : nm (ba s) = true) : immA x s = some ⟨x.lab, x.i, ba s⟩ := by unfold immA; rw [h]; dsimp only; rw [if_pos ⟨h2, h3⟩]
theorem immA_no {x : Ln} {s : List UInt8} (h : numA s 65535 = none) (h2 : ¬ (may x.i.o = true ∧ nm (ba s) = true)) : immA x s = none := by unfold immA; rw [h]; dsimp only; rw [if_neg h2]
theorem immR_any (s : ByteArray) (pb lb : Nat) (x : Ln) (w : World) (G : Gl w) (hB : LnBox w lb x) (hP : Box w pb [.pointer (some ⟨lb, 0, none⟩)]) (hs : s.size ≤ 1048576) :
   Calls Tryz.prog 229 #[.string s, .pointer (some ⟨pb, 0, none⟩)] w fun e w' => e = .returned (.bool (immA x s.data.toList).isSome) ∧ (∀ y, immA x s.data.toList = some y → LnBox w' lb y) ∧ Kpt (fun k => k = lb) w w' := by
 have NA := number_any s 65535 w G (by omega) (by omega)
 cases hn : numA s.data.toList 65535 with
 | some n =>
   rw [hn] at NA
   rw [immA_num hn]
   go_enter Tryz.func229, Tryz.ntmps229
   go_wp2_with fail
   refine NA.mono ?_
   rintro e w1 ⟨rfl, k1⟩
   have B1 := zH (hB.step k1)
   have q0 := (hP.step k1).2.1 0 _ rfl
   have c4 := (uI B1).2.1 4 _ rfl
   have f4 := (uI B1).2.2
   have K1 := zH k1
   clear k1
   go_wp2_with fail
   go_ret
   exact ⟨rfl, (fun m h => by cases h; exact (uI B1).set (j := 4) (by simp)), (Kpt.of (X := fun _ => False) (uI K1)).trans (Kpt.setCell (X := fun k => k = lb) _ _ rfl) (fun _ h => h.elim) (fun _ h _ => h)⟩
 | none =>
   rw [hn] at NA
   have MA := fun w => may_any x.i.o w
   have ND := fun w => named_any s w
   by_cases h2 : may x.i.o = true
   · by_cases h3 : nm s = true
     · rw [immA_ref hn h2 (by rw [ba_of]; exact h3), ba_of]
       rw [h2] at MA
       rw [h3] at ND
       have hsz := (nm_size h3).1
       have KE := fun w => kept_any s w (by omega)
       go_enter Tryz.func229, Tryz.ntmps229
       go_wp2_with fail
       refine NA.mono ?_
       rintro e w1 ⟨rfl, k1⟩
       have B1 := zH (hB.step k1)
       have P1 := zH (hP.step k1)
       have q0 := (uI P1).2.1 0 _ rfl
       have c1 := (uI B1).2.1 1 _ rfl
       have K1 := zH k1
       clear k1
       go_wp2_with fail
       refine (MA _).mono ?_
       rintro e w2 ⟨rfl, k2⟩
       have B2 := zH ((uI B1).step k2)
       have P2 := zH ((uI P1).step k2)
       have K2 := zH (bt (uI K1) k2)
       clear k2 q0 c1
       go_wp2_with fail
       refine (ND _).mono ?_
       rintro e w3 ⟨rfl, hw⟩
       subst w3
       have r0 := (uI P2).2.1 0 _ rfl
       have hpl := (uI P2).1
       go_wp2_with fail
       have D2 : Below w2.heap.size w2 w2.drew := ⟨rfl, rfl, rfl, Nat.le_refl _, fun _ _ => rfl⟩
       have r0d : w2.drew.cell? ⟨pb, 0, none⟩ = some (.pointer (some ⟨lb, 0, none⟩)) := r0
       refine reg_start (fun W => W.cell? ⟨pb, 0, none⟩ = some (.pointer (some ⟨lb, 0, none⟩))) (by kernel_rfl) ?_
       refine reg_seg 0 2 4 (by kernel_rfl) (by decide) (by kernel_rfl) (by kernel_rfl) (fun _ _ _ _ _ h => h) ?_
       simp only [List.take_succ_cons, List.take_zero, List.drop_succ_cons, List.drop_zero]
       repeat (refine wpSteady_step (fun K hK => ?_); go_simp; first | (refine steady_of ?_ (fun W hW => ?_) (hK _ ?_); rotate_left; (obtain hcW := hW; go_simp; first | done | rfl); clear hK K) | (refine hK _ ?_; clear hK K))
       refine wpSteady_nil ?_
       refine reg_one 2 3 (by kernel_rfl) (by kernel_rfl) r0d ?_
       simp only [List.take_succ_cons, List.take_zero, List.drop_succ_cons, List.drop_zero]
       go_wp2_with fail
       refine (KE _).mono ?_
       rintro e w4 ⟨rfl, k4⟩
       have k4' := bt D2 k4
       have B4 := zH ((uI B2).step k4')
       have r4 := cell_keep k4' hpl r0
       have K4 := zH (bt (uI K2) k4')
       clear k4 k4' D2
       go_wp2_with fail
       first | refine next_nil ?_ | refine next_go ?_
       refine reg_seg 3 2 1 (by kernel_rfl) (by decide) (by kernel_rfl) (by kernel_rfl) (fun _ _ _ _ _ h => h) ?_
       simp only [List.take_succ_cons, List.take_zero, List.drop_succ_cons, List.drop_zero]
       repeat (refine wpSteady_step (fun K hK => ?_); go_simp; first | (refine steady_of ?_ (fun W hW => ?_) (hK _ ?_); rotate_left; (obtain hcW := hW; go_simp; first | done | rfl); clear hK K) | (refine hK _ ?_; clear hK K))
       refine wpSteady_nil ?_
       have c5 := (uI B4).2.1 5 _ rfl
       have f5 := (uI B4).2.2
       have hpne : pb ≠ lb := by
         intro e
         have a1 := (uI P2).2.1 0 _ rfl
         have a2 := (uI B2).2.1 0 _ rfl
         rw [e, a2] at a1
         cases a1
       have KS : Kpt (fun k => k = lb) w4 (w4.setCell ⟨lb, 5, none⟩ (.string s)) := Kpt.setCell _ _ rfl
       have B5 := zH ((uI B4).set (j := 5) (u := .string s) (by simp))
       have r5 : (w4.setCell ⟨lb, 5, none⟩ (.string s)).cell? ⟨pb, 0, none⟩ = some (.pointer (some ⟨lb, 0, none⟩)) := by rw [KS.cell (cell_lt r4) hpne]; exact r4
       refine reg_one 5 0 (by kernel_rfl) (by kernel_rfl) r4 ?_
       simp only [List.take_succ_cons, List.take_zero, List.drop_succ_cons, List.drop_zero]
       go_wp2_with fail
       first | refine next_nil ?_ | refine next_go ?_
       refine reg_end (by kernel_rfl) r5 ?_
       go_wp2_with fail
       go_ret
       exact ⟨rfl, (fun y h => by cases h; exact uI B5), (Kpt.of (X := fun _ => False) (uI K4)).trans KS (fun _ h => h.elim) (fun _ h _ => h)⟩
     · replace h3 : nm s = false := by simpa using h3
       rw [immA_no hn (by rw [ba_of]; simp [h3])]
       rw [h2] at MA
       rw [h3] at ND
       go_enter Tryz.func229, Tryz.ntmps229
       go_wp2_with fail
       refine NA.mono ?_
       rintro e w1 ⟨rfl, k1⟩
       have B1 := zH (hB.step k1)
       have P1 := zH (hP.step k1)
       have q0 := (uI P1).2.1 0 _ rfl
       have c1 := (uI B1).2.1 1 _ rfl
       have K1 := zH k1
       clear k1
       go_wp2_with fail
       refine (MA _).mono ?_
       rintro e w2 ⟨rfl, k2⟩
       have K2 := zH (bt (uI K1) k2)
       clear k2 q0 c1
       go_wp2_with fail
       refine (ND _).mono ?_
       rintro e w3 ⟨rfl, hw⟩
       subst w3
       go_wp2_with fail
       go_ret
       exact ⟨rfl, (fun y h => by cases h), Kpt.of (uI K2)⟩
   · replace h2 : may x.i.o = false := by simpa using h2
     rw [immA_no hn (by simp [h2])]
     rw [h2] at MA
     go_enter Tryz.func229, Tryz.ntmps229
     go_wp2_with fail
     refine NA.mono ?_
     rintro e w1 ⟨rfl, k1⟩
     have B1 := zH (hB.step k1)
     have P1 := zH (hP.step k1)
     have q0 := (uI P1).2.1 0 _ rfl
     have c1 := (uI B1).2.1 1 _ rfl
     have K1 := zH k1
     clear k1
     go_wp2_with fail
     refine (MA _).mono ?_
     rintro e w2 ⟨rfl, k2⟩
     have K2 := zH (bt (uI K1) k2)
     clear k2 q0 c1
     go_wp2_with fail
     go_ret
     exact ⟨rfl, (fun y h => by cases h), Kpt.of (uI K2)⟩
end Go.Proofs.YtlkoidkdeopgjaaGreatDoor
