/-
  asm.kindsByWord: a map of words to kinds.
-/
import Derived.Test.YtodfjomglgmffaaGreatDoorRdG
import Derived.Test.YtodfjomglgmffaaGreatDoorAsP0
import Derived.Laws.Rows
namespace Go.Proofs.YtodfjomglgmffaaGreatDoor
open Go.RowKit Go.Maps
set_option linter.unusedSimpArgs false
set_option linter.unusedVariables false

theorem below_grownBy {w w' : World} {row : Option Nat} {B : Nat} (h : w.grownBy w' row) (hB : B ≤ w.heap.size) (hr : ∀ j, row = some j → B ≤ j) : Below B w w' := ⟨h.os, h.tape, h.output, h.size, fun k hk => h.block k (by omega) (fun e => by have := hr k e.symm; omega)⟩
def kdA : Nmd := kwL.zipIdx.map fun p => (p.1, (p.2 : Int))
theorem kd_len : kdA.length = 33 := by decide
theorem kd_new : ∀ k : Fin 33, hasA (kdA.take k.val) (kwL[k.val]'(by have := k.2; exact this)) = false := by decide
theorem kd_snoc : ∀ k : Fin 33, kdA.take (k.val + 1) = kdA.take k.val ++ [((kwL[k.val]'(by have := k.2; exact this)), (k.val : Int))] := by decide
theorem kd_short : ∀ k : Fin 33, (kwL[k.val]'(by have := k.2; exact this)).length ≤ 4 := by decide
theorem makeM33 (w : World) : (Instr.makeMap 67 (some (.int .i64 33))).run Tryz.prog w = .ok (.map (some w.heap.size)) (w.alloc (.map #[] 0)) := by kernel_rfl
theorem Tryz.sizeKW : (Tryz.prog.info? 97).map (·.size) = some 33 := by kernel_rfl
theorem Tryz.sizeStr : (Tryz.prog.info? 9).map (·.size) = some 1 := by kernel_rfl
theorem index_kw (AR : Array Value) (k : Nat) (hk : k < 33) (s : ByteArray) (h : AR[k]? = some (.string s)) (w : World) : (Instr.index 97 (.agg AR) (.int .i64 (k : Int))).run Tryz.prog w = .ok (.string s) w := by
  have h1 : 0 ≤ (k : Int) ∧ (k : Int) < 33 := by omega
  obtain ⟨i, hi, hs⟩ : ∃ i, Tryz.prog.info? 9 = some i ∧ i.size = 1 := by
    have := Tryz.sizeStr
    cases e : Tryz.prog.info? 9 with
    | none => rw [e] at this; cases this
    | some i => rw [e] at this; exact ⟨i, rfl, by simpa using this⟩
  simp [Instr.index, run_underlying Tryz.underlying97, asIntOf, hk, part, sizeOf, typeInfo, hi, hs, h, go_sem]
set_option maxRecDepth 100000 in
set_option maxHeartbeats 2000000 in
theorem kinds_any (w : World) (G : Gl w) : Calls Tryz.prog 18 #[] w fun e w' => ∃ b, e = .returned (.map (some b)) ∧ w.heap.size ≤ b ∧ Mp w' b kdA ∧ Below w.heap.size w w' := by
  have hmm := makeM33
  obtain ⟨tk, fr, hk⟩ := G.kw
  have hg : 1 < w.heap.size := (Array.getElem?_eq_some_iff.1 hk).1
  have hk2 : (w.alloc (.map #[] 0)).heap[1]? = some (.cells (kwL.map fun l => Value.string (ba l)).toArray tk fr) := by rw [(below_a w (.map #[] 0)).block _ hg]; exact hk
  have hAz : (kwL.map fun l => Value.string (ba l)).toArray.size = 33 := by decide
  have hAt : Hid (∀ k (h : k < 33), (kwL.map fun l => Value.string (ba l)).toArray[k]? = some (.string (ba (kwL[k]'h)))) := fun k h => by
    have h' : k < kwL.length := h
    rw [List.getElem?_toArray, List.getElem?_map, List.getElem?_eq_getElem h']; rfl
  have HSZ : (Tryz.prog.info? 97).map (·.size) = some (kwL.map fun l => Value.string (ba l)).toArray.size := by rw [hAz]; exact Tryz.sizeKW
  generalize (kwL.map fun l => Value.string (ba l)).toArray = AR at *
  clear hk
  go_enter Tryz.func18, Tryz.ntmps18
  go_wp2_with (refine wpList_load_row rfl 97 (.global 1) rfl 1 rfl _ AR fr _ hk2 Tryz.underlying97 rfl HSZ ?_)
  have M0 := hideI (Mp.made w)
  have K0 := hideI (below_a w (.map #[] 0))
  clear hmm hk2
  generalize w.alloc (.map #[] 0) = w1 at *
  generalize hmb : w.heap.size = mb at *
  go_loopg [6] 33 (fun g ii wr => ∃ (k : Nat), k ≤ 33 ∧ g = 33 - k ∧ ii = .int .i64 k ∧ Hid (Mp wr mb (kdA.take k)) ∧ Hid (Below mb w wr))
  case atStart => exact ⟨0, Nat.zero_le _, rfl, rfl, M0, K0⟩
  case round =>
    obtain ⟨k, hk, hg2, rfl, HM, HB⟩ := hrel
    clear M0 K0
    by_cases hlt : k < 33
    · have hak := (unhideI hAt) k hlt
      have hnew := kd_new ⟨k, hlt⟩
      have hsn := hideI (kd_snoc ⟨k, hlt⟩)
      have hsh := kd_short ⟨k, hlt⟩
      dsimp only at hnew hsh hsn
      generalize (kwL[k]'hlt) = wd at *
      have hwz : (ba wd).size ≤ maxLen := by rw [ba_size]; unfold maxLen; omega
      have hnew2 : hasA (kdA.take k) (ba wd).toList = false := by rw [ba_list]; exact hnew
      have hAl : (kdA.take k).length < maxLen := by rw [List.length_take]; unfold maxLen; omega
      have hk33 : (k : Int) < 33 := by omega
      have hzk : k < AR.size := by omega
      have hix := index_kw AR k hlt (ba wd) hak
      go_wp2_with (at_mapUpdate; refine wpList_put rfl (.tmp 10) (.tmp 11) (.tmp 12) rfl mb (kdA.take k) rfl (unhideI HM) hAl (ba wd) rfl hwz (k : Int) rfl (WalkArith.wf_i64 (by omega)) hnew2 ?_; intro w8 m8 r8; have M8 := hideI m8; have R8 := hideI r8; clear m8 r8)
      rw [ba_list, ← unhideI hsn] at M8
      have HB2 := hideI ((unhideI HB).trans (below_grownBy (unhideI R8) (by have := (unhideI HB).size; omega) (fun j hj => by cases hj; exact Nat.le_refl _)))
      go_roundg (33 - (k + 1))
      case measure => omega
      case rel => exact ⟨k + 1, by omega, rfl, by go_num, M8, HB2⟩
    · have hke : k = 33 := by omega
      subst hke
      have hfull : kdA.take 33 = kdA := List.take_of_length_le (by rw [kd_len]; omega)
      rw [hfull] at HM
      go_wp2_with fail
      go_ret
      exact ⟨mb, rfl, Nat.le_of_eq hmb, unhideI HM, by rw [hmb]; exact unhideI HB⟩
end Go.Proofs.YtodfjomglgmffaaGreatDoor
