/-
  The document's answer on lines: Word and Refers.
-/
import Derived.Test.YtoopgkbefhoeiaaDoorR4C
import Derived.Test.YtoopgkbefhoeiaaDoorRefB
namespace Go.Proofs.YtoopgkbefhoeiaaDoor
open Go.RowKit
set_option linter.unusedSimpArgs false
set_option linter.unusedVariables false

theorem words_eq : (#[.string ⟨#[104, 97, 108, 116]⟩, .string ⟨#[109, 111, 118]⟩, .string ⟨#[108, 100, 105]⟩, .string ⟨#[108, 100]⟩, .string ⟨#[115, 116]⟩, .string ⟨#[97, 100, 100]⟩, .string ⟨#[97, 100, 99]⟩, .string ⟨#[115, 117, 98]⟩, .string ⟨#[115, 98, 99]⟩, .string ⟨#[97, 110, 100]⟩, .string ⟨#[111, 114]⟩, .string ⟨#[120, 111, 114]⟩, .string ⟨#[99, 109, 112]⟩, .string ⟨#[99, 112, 99]⟩, .string ⟨#[115, 104, 108]⟩, .string ⟨#[114, 111, 108]⟩, .string ⟨#[115, 104, 114]⟩, .string ⟨#[115, 97, 114]⟩, .string ⟨#[114, 111, 114]⟩, .string ⟨#[106, 109, 112]⟩, .string ⟨#[106, 122]⟩, .string ⟨#[106, 110, 122]⟩, .string ⟨#[106, 99]⟩, .string ⟨#[106, 110, 99]⟩, .string ⟨#[106, 108, 116]⟩, .string ⟨#[106, 103, 101]⟩, .string ⟨#[99, 97, 108, 108]⟩, .string ⟨#[114, 101, 116]⟩, .string ⟨#[112, 117, 115, 104]⟩, .string ⟨#[112, 111, 112]⟩, .string ⟨#[111, 117, 116]⟩, .string ⟨#[105, 110]⟩, .string ⟨#[116, 114, 97, 112]⟩] : Array Value) = (kwL.map fun l => Value.string (ba l)).toArray := by kernel_rfl
theorem word_cell (w : World) (k : Nat) (hk : k < 33) : (w.alloc (.cells #[.string ⟨#[104, 97, 108, 116]⟩, .string ⟨#[109, 111, 118]⟩, .string ⟨#[108, 100, 105]⟩, .string ⟨#[108, 100]⟩, .string ⟨#[115, 116]⟩, .string ⟨#[97, 100, 100]⟩, .string ⟨#[97, 100, 99]⟩, .string ⟨#[115, 117, 98]⟩, .string ⟨#[115, 98, 99]⟩, .string ⟨#[97, 110, 100]⟩, .string ⟨#[111, 114]⟩, .string ⟨#[120, 111, 114]⟩, .string ⟨#[99, 109, 112]⟩, .string ⟨#[99, 112, 99]⟩, .string ⟨#[115, 104, 108]⟩, .string ⟨#[114, 111, 108]⟩, .string ⟨#[115, 104, 114]⟩, .string ⟨#[115, 97, 114]⟩, .string ⟨#[114, 111, 114]⟩, .string ⟨#[106, 109, 112]⟩, .string ⟨#[106, 122]⟩, .string ⟨#[106, 110, 122]⟩, .string ⟨#[106, 99]⟩, .string ⟨#[106, 110, 99]⟩, .string ⟨#[106, 108, 116]⟩, .string ⟨#[106, 103, 101]⟩, .string ⟨#[99, 97, 108, 108]⟩, .string ⟨#[114, 101, 116]⟩, .string ⟨#[112, 117, 115, 104]⟩, .string ⟨#[112, 111, 112]⟩, .string ⟨#[111, 117, 116]⟩, .string ⟨#[105, 110]⟩, .string ⟨#[116, 114, 97, 112]⟩] 9)).cell? ⟨w.heap.size, k, none⟩ = some (.string (ba (kwL[k]'hk))) := by
  rw [words_eq]
  have hh : ∀ o : Obj, (w.alloc o).heap[w.heap.size]? = some o := fun o => by
    show (w.heap.push o)[w.heap.size]? = _
    simp
  unfold World.cell?
  simp only [hh]
  have h1 : ((kwL.map fun l => Value.string (ba l)).toArray)[k]? = some (.string (ba (kwL[k]'hk))) := by
    have h' : k < kwL.length := hk
    rw [List.getElem?_toArray, List.getElem?_map, List.getElem?_eq_getElem h']; rfl
  simpa using h1
set_option maxRecDepth 100000 in
set_option maxHeartbeats 2000000 in
theorem word4_any (k : Nat) (hk : k < 33) (w : World) : Calls Tryd.prog 22 #[.int .i64 (k : Int)] w fun e w' => e = .returned (.string (ba (kwL[k]'hk))) ∧ Below w.heap.size w w' := by
  have hc := word_cell w k hk
  have hkb := below_a w (.cells #[.string ⟨#[104, 97, 108, 116]⟩, .string ⟨#[109, 111, 118]⟩, .string ⟨#[108, 100, 105]⟩, .string ⟨#[108, 100]⟩, .string ⟨#[115, 116]⟩, .string ⟨#[97, 100, 100]⟩, .string ⟨#[97, 100, 99]⟩, .string ⟨#[115, 117, 98]⟩, .string ⟨#[115, 98, 99]⟩, .string ⟨#[97, 110, 100]⟩, .string ⟨#[111, 114]⟩, .string ⟨#[120, 111, 114]⟩, .string ⟨#[99, 109, 112]⟩, .string ⟨#[99, 112, 99]⟩, .string ⟨#[115, 104, 108]⟩, .string ⟨#[114, 111, 108]⟩, .string ⟨#[115, 104, 114]⟩, .string ⟨#[115, 97, 114]⟩, .string ⟨#[114, 111, 114]⟩, .string ⟨#[106, 109, 112]⟩, .string ⟨#[106, 122]⟩, .string ⟨#[106, 110, 122]⟩, .string ⟨#[106, 99]⟩, .string ⟨#[106, 110, 99]⟩, .string ⟨#[106, 108, 116]⟩, .string ⟨#[106, 103, 101]⟩, .string ⟨#[99, 97, 108, 108]⟩, .string ⟨#[114, 101, 116]⟩, .string ⟨#[112, 117, 115, 104]⟩, .string ⟨#[112, 111, 112]⟩, .string ⟨#[111, 117, 116]⟩, .string ⟨#[105, 110]⟩, .string ⟨#[116, 114, 97, 112]⟩] 9)
  have hk2 : (k : Int) < 33 := by omega
  generalize ba (kwL[k]'hk) = S at *
  go_enter Tryd.func22, Tryd.ntmps22
  go_wp2_with fail
  go_ret
  exact ⟨rfl, hkb⟩
theorem refers4_any (o : Int) (w : World) : Calls Tryd.prog 18 #[.int .i64 o] w fun e w' => e = .returned (.bool (may o)) ∧ Below w.heap.size w w' := by
  have HI := hideI (has_i o)
  cases hi : hI o
  · rw [hi] at HI
    have e : may o = false := by unfold may; rw [hi]; rfl
    rw [e]
    go_enter Tryd.func18, Tryd.ntmps18
    go_wp2_with (go_at_call 23; refine (unhideI HI _).mono ?_; rintro e w1 ⟨rfl, k1⟩)
    go_ret
    exact ⟨rfl, k1⟩
  · rw [hi] at HI
    have e : may o = (o != 32) := by unfold may; rw [hi]; rfl
    rw [e]
    go_enter Tryd.func18, Tryd.ntmps18
    go_wp2_with (go_at_call 23; refine (unhideI HI _).mono ?_; rintro e w1 ⟨rfl, k1⟩)
    go_ret
    exact ⟨rfl, k1⟩
end Go.Proofs.YtoopgkbefhoeiaaDoor
