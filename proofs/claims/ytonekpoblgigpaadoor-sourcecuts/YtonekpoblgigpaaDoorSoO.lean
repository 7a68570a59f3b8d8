/-
  Texts: what the row's list gives.
-/
import Derived.Test.YtonekpoblgigpaaDoorSoE
import Derived.Test.YtonekpoblgigpaaDoorRows
import Derived.Lib.LaidTab
import Derived.Lib.LaidU8
import Derived.LaidSub
import Derived.MakeChecks
import Derived.OpenShut
namespace Go.Proofs.YtonekpoblgigpaaDoor
open Go.RowKit
set_option linter.unusedSimpArgs false
set_option linter.unusedVariables false

/-- An array of strings that reads as these texts holds them. -/
theorem cells_of_strs {H : Type} {enc : TypeId × Value → H} {P : Program} {w : World} {base : Nat} {sp : Nat → Bool} {held : Bool} {fuel : Nat} {t e : TypeId} {n : Nat} {cs : List Value} {ls : List (List UInt8)} {p : List MemPlace}
    (ht : P.underlying t = some (.array n e)) (he : P.underlying e = some .string) (hce : P.cellsOf e = 1) (hct : P.cellsOf t = n)
    (h : DataW.trod enc P w base sp held fuel t cs = some (.agg (ls.map fun l => .lit (.string l)), p)) : cs = ls.map fun l => Value.string (ba l) := by
  obtain ⟨xs, m, -, hx, hl, hxl, hat⟩ := DataW.trod_array ht h
  have hxs : xs.map (·.1) = ls.map fun l => (DataW.lit (.string l) : DataW H) := by
    have := congrArg Prod.fst hx
    simpa using this.symm
  have hll : ls.length = n := by
    have := congrArg List.length hxs
    simp at this; omega
  rw [hct] at hl
  apply List.ext_getElem?
  intro i
  by_cases hi : i < n
  · have h1 := hat i hi
    have hix : i < xs.length := by omega
    rw [List.getElem?_eq_getElem hix] at h1
    obtain ⟨s, hs, hv, -⟩ := DataW.trod_string he h1
    have h2 : cs[i]? = some (.string s) := by
      have := congrArg (·[0]?) hs
      simpa [hce, List.getElem?_take, List.getElem?_drop] using this
    have h3 : (xs.map (·.1))[i]? = some (DataW.lit (.string s.data.toList) : DataW H) := by
      rw [List.getElem?_map, List.getElem?_eq_getElem hix]; simp [hv]
    rw [hxs, List.getElem?_map, Option.map_eq_some_iff] at h3
    obtain ⟨l, hl1, hl2⟩ := h3
    simp only [DataW.lit.injEq, Lit.string.injEq] at hl2
    rw [h2, List.getElem?_map, hl1]
    simp [ba, hl2]
  · rw [List.getElem?_eq_none (by omega), List.getElem?_eq_none (by simp; omega)]
theorem iface_of_trod {H : Type} {enc : TypeId × Value → H} {P : Program} {w : World} {base : Nat} {sp : Nat → Bool} {held : Bool} {fuel : Nat} {t : TypeId} {cs : List Value} {ms : Array (String × TypeId)} {nm : String} {d : DataW H} {p : List MemPlace}
    (ht : P.underlying t = some (.interface ms)) (h : DataW.trod enc P w base sp held fuel t cs = some (.iface nm d, p)) : ∃ te pe, cs = [.iface te pe] := by
  cases fuel with
  | zero => simp [DataW.trod] at h
  | succ m =>
    unfold DataW.trod at h
    rw [ht] at h
    split at h <;> simp_all
theorem heap_of_var {P : Program} {w : World} {n : String} {g : Nat} {cs : Array Value} (hg : P.globalNamed n = some g) (h : w.var? P n = some cs) : ∃ t fr, w.heap[g]? = some (.cells cs t fr) := by
  simp only [World.var?, hg, Option.bind_some] at h
  split at h
  · rename_i c t fr hh
    injection h with h
    subst h
    exact ⟨_, _, hh⟩
  · cases h
theorem gRng : Tryd.prog.globalNamed "strconv.ErrRange" = some 3 := by kernel_rfl
theorem gSgn : Tryd.prog.globalNamed "pairlegal/source.signs" = some 0 := by kernel_rfl
theorem tRng : (Tryd.prog.globals[3]?).map (·.type) = some 62 := by kernel_rfl
theorem tSgn : (Tryd.prog.globals[0]?).map (·.type) = some 53 := by kernel_rfl
theorem cS : Tryd.prog.cellsOf 9 = 1 := by kernel_rfl
theorem cG : Tryd.prog.cellsOf 53 = 29 := by kernel_rfl
/-- What the reader wants, out of a row's list. -/
theorem gs_of {L : List (String × DataW Unit)} {W : World} {n1 : String} {d1 : DataW Unit} (hL : laidMet Tryd.prog L W)
    (m2 : ("strconv.ErrRange", .iface n1 d1) ∈ L) (m4 : ("pairlegal/source.signs", .agg (sgP.map fun l => .lit (.string l))) ∈ L) : Gs W := by
  obtain ⟨g, t, cs2, fuel2, p2, b1, b2, b3, b4⟩ := Lib.laidMet.reads hL m2
  obtain rfl := Option.some.inj (gRng.symm.trans b1)
  obtain rfl := Option.some.inj (tRng.symm.trans b2)
  obtain ⟨g, t, cs4, fuel4, p4, e1, e2, e3, e4⟩ := Lib.laidMet.reads hL m4
  obtain rfl := Option.some.inj (gSgn.symm.trans e1)
  obtain rfl := Option.some.inj (tSgn.symm.trans e2)
  obtain ⟨te, pe, h2⟩ := iface_of_trod Tryd.underlying62 b4
  have h4 := cells_of_strs Tryd.underlying53 Tryd.underlying9 cS cG e4
  refine ⟨⟨te, pe, ?_⟩, ?_⟩
  · rw [World.var?_cell gRng b3 0, ← Array.getElem?_toList, h2]; rfl
  · obtain ⟨tk, fr, hh⟩ := heap_of_var gSgn e3
    exact ⟨tk, fr, by rw [hh, ← h4]⟩
end Go.Proofs.YtonekpoblgigpaaDoor
