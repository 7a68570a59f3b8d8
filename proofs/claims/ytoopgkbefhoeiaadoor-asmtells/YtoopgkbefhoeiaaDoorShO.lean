/-
  What the row's list gives: what is wanted of package variables. (Where 9 is the document's Show.)
-/
import Derived.Test.YtoopgkbefhoeiaaDoorShG
import Derived.Test.YtoopgkbefhoeiaaDoorRows
import Derived.Lib.LaidTab
import Derived.Lib.LaidU8
import Derived.LaidSub
import Derived.MakeChecks
import Derived.OpenShut
namespace Go.Proofs.YtoopgkbefhoeiaaDoor
open Go.RowKit
set_option linter.unusedSimpArgs false
set_option linter.unusedVariables false

/-- An array of strings that reads as these texts holds them. -/
theorem cells_of_strs {H : Type} {enc : TypeId × Value → H} {P : Program} {w : World} {base : Nat} {sp : Nat → Bool} {held : Bool} {fuel : Nat} {t e : TypeId} {n : Nat} {cs : List Value} {ls : List (List UInt8)} {p : List MemPlace}
    (ht : P.underlying t = some (.array n e)) (he : P.underlying e = some .string) (hce : P.cellsOf e = 1) (hct : P.cellsOf t = n)
    (h : DataW.trod enc P w base sp held fuel t cs = some (.agg (ls.map fun l => .lit (.string l)), p)) : cs = ls.map fun l => Value.string (ba l) := by
  obtain ⟨xs, m, -, hx, hl, hxl, hat⟩ := DataW.trod_array ht h
  have hxs : xs.map (·.1) = ls.map fun l => (DataW.lit (.string l) : DataW H) := by
    have := congrArg Prod.fst hx
    simpa using this.symm
  have hll : ls.length = n := by
    have := congrArg List.length hxs
    simp at this; omega
  rw [hct] at hl
  apply List.ext_getElem?
  intro i
  by_cases hi : i < n
  · have h1 := hat i hi
    have hix : i < xs.length := by omega
    rw [List.getElem?_eq_getElem hix] at h1
    obtain ⟨s, hs, hv, -⟩ := DataW.trod_string he h1
    have h2 : cs[i]? = some (.string s) := by
      have := congrArg (·[0]?) hs
      simpa [hce, List.getElem?_take, List.getElem?_drop] using this
    have h3 : (xs.map (·.1))[i]? = some (DataW.lit (.string s.data.toList) : DataW H) := by
      rw [List.getElem?_map, List.getElem?_eq_getElem hix]; simp [hv]
    rw [hxs, List.getElem?_map, Option.map_eq_some_iff] at h3
    obtain ⟨l, hl1, hl2⟩ := h3
    simp only [DataW.lit.injEq, Lit.string.injEq] at hl2
    rw [h2, List.getElem?_map, hl1]
    simp [ba, hl2]
  · rw [List.getElem?_eq_none (by omega), List.getElem?_eq_none (by simp; omega)]
theorem heap_of_var {P : Program} {w : World} {n : String} {g : Nat} {cs : Array Value} (hg : P.globalNamed n = some g) (h : w.var? P n = some cs) : ∃ t fr, w.heap[g]? = some (.cells cs t fr) := by
  simp only [World.var?, hg, Option.bind_some] at h
  split at h
  · rename_i c t fr hh
    injection h with h
    subst h
    exact ⟨_, _, hh⟩
  · cases h
theorem gPow : Tryd.prog.globalNamed "internal/strconv.uint64pow10" = some 2 := by kernel_rfl
theorem gKw : Tryd.prog.globalNamed "pairlegal/asm.kindWords" = some 0 := by kernel_rfl
theorem tPow : (Tryd.prog.globals[2]?).map (·.type) = some 100 := by kernel_rfl
theorem tKw : (Tryd.prog.globals[0]?).map (·.type) = some 73 := by kernel_rfl
theorem cU : Tryd.prog.cellsOf 93 = 1 := by kernel_rfl
theorem cS : Tryd.prog.cellsOf 9 = 1 := by kernel_rfl
theorem cP : Tryd.prog.cellsOf 100 = 20 := by kernel_rfl
theorem cK : Tryd.prog.cellsOf 73 = 33 := by kernel_rfl
/-- What is wanted, out of a row's list. -/
theorem gl_of {L : List (String × DataW Unit)} {W : World} (hL : laidMet Tryd.prog L W)
    (m1 : ("internal/strconv.uint64pow10", Lib.tabData .u64 Lib.pow10Tab) ∈ L) (m4 : ("pairlegal/asm.kindWords", .agg (kwL.map fun l => .lit (.string l))) ∈ L) : Gl W := by
  obtain ⟨g, t, cs, fuel, p, a1, a2, a3, a4⟩ := Lib.laidMet.reads hL m1
  obtain rfl := Option.some.inj (gPow.symm.trans a1)
  obtain rfl := Option.some.inj (tPow.symm.trans a2)
  obtain ⟨g, t, cs4, fuel4, p4, e1, e2, e3, e4⟩ := Lib.laidMet.reads hL m4
  obtain rfl := Option.some.inj (gKw.symm.trans e1)
  obtain rfl := Option.some.inj (tKw.symm.trans e2)
  have h4 := cells_of_strs Tryd.underlying73 Tryd.underlying9 cS cK e4
  refine ⟨?_, ?_⟩
  · unfold Lib.TabIs
    rw [a3, ← Lib.cells_of_tab Tryd.underlying100 Tryd.underlying93 cU cP a4]
  · obtain ⟨tk, fr, hh⟩ := heap_of_var gKw e3
    exact ⟨tk, fr, by rw [hh, ← h4]⟩
end Go.Proofs.YtoopgkbefhoeiaaDoor
