/-
  What the row's list and the world's shape give: what the reader wants of package variables.
-/
import Derived.Test.YtodfjomglgmffaaGreatDoorRdG
import Derived.Test.YtodfjomglgmffaaGreatDoorRows
import Derived.Lib.LaidTab
import Derived.Lib.LaidU8
import Derived.LaidSub
import Derived.MakeChecks
import Derived.OpenShut
namespace Go.Proofs.YtodfjomglgmffaaGreatDoor
open Go.RowKit
set_option linter.unusedSimpArgs false
set_option linter.unusedVariables false

/-- An array of strings that reads as these texts holds them. -/
theorem cells_of_strs {H : Type} {enc : TypeId × Value → H} {P : Program} {w : World} {base : Nat} {sp : Nat → Bool} {held : Bool} {fuel : Nat} {t e : TypeId} {n : Nat} {cs : List Value} {ls : List (List UInt8)} {p : List MemPlace}
    (ht : P.underlying t = some (.array n e)) (he : P.underlying e = some .string) (hce : P.cellsOf e = 1) (hct : P.cellsOf t = n)
    (h : DataW.trod enc P w base sp held fuel t cs = some (.agg (ls.map fun l => .lit (.string l)), p)) : cs = ls.map fun l => Value.string (ba l) := by
  obtain ⟨xs, m, -, hx, hl, hxl, hat⟩ := DataW.trod_array ht h
  have hxs : xs.map (·.1) = ls.map fun l => (DataW.lit (.string l) : DataW H) := by
    have := congrArg Prod.fst hx
    simpa using this.symm
  have hll : ls.length = n := by
    have := congrArg List.length hxs
    simp at this; omega
  rw [hct] at hl
  apply List.ext_getElem?
  intro i
  by_cases hi : i < n
  · have h1 := hat i hi
    have hix : i < xs.length := by omega
    rw [List.getElem?_eq_getElem hix] at h1
    obtain ⟨s, hs, hv, -⟩ := DataW.trod_string he h1
    have h2 : cs[i]? = some (.string s) := by
      have := congrArg (·[0]?) hs
      simpa [hce, List.getElem?_take, List.getElem?_drop] using this
    have h3 : (xs.map (·.1))[i]? = some (DataW.lit (.string s.data.toList) : DataW H) := by
      rw [List.getElem?_map, List.getElem?_eq_getElem hix]; simp [hv]
    rw [hxs, List.getElem?_map, Option.map_eq_some_iff] at h3
    obtain ⟨l, hl1, hl2⟩ := h3
    simp only [DataW.lit.injEq, Lit.string.injEq] at hl2
    rw [h2, List.getElem?_map, hl1]
    simp [ba, hl2]
  · rw [List.getElem?_eq_none (by omega), List.getElem?_eq_none (by simp; omega)]
theorem iface_of_trod {H : Type} {enc : TypeId × Value → H} {P : Program} {w : World} {base : Nat} {sp : Nat → Bool} {held : Bool} {fuel : Nat} {t : TypeId} {cs : List Value} {ms : Array (String × TypeId)} {nm : String} {d : DataW H} {p : List MemPlace}
    (ht : P.underlying t = some (.interface ms)) (h : DataW.trod enc P w base sp held fuel t cs = some (.iface nm d, p)) : ∃ te pe, cs = [.iface te pe] := by
  cases fuel with
  | zero => simp [DataW.trod] at h
  | succ m =>
    unfold DataW.trod at h
    rw [ht] at h
    split at h <;> simp_all
theorem heap_of_var {P : Program} {w : World} {n : String} {g : Nat} {cs : Array Value} (hg : P.globalNamed n = some g) (h : w.var? P n = some cs) : ∃ t fr, w.heap[g]? = some (.cells cs t fr) := by
  simp only [World.var?, hg, Option.bind_some] at h
  split at h
  · rename_i c t fr hh
    injection h with h
    subst h
    exact ⟨_, _, hh⟩
  · cases h
theorem gMax : Tryz.prog.globalNamed "internal/bytealg.MaxLen" = some 2 := by kernel_rfl
theorem gPow : Tryz.prog.globalNamed "internal/strconv.uint64pow10" = some 3 := by kernel_rfl
theorem gRng : Tryz.prog.globalNamed "strconv.ErrRange" = some 9 := by kernel_rfl
theorem gSyn : Tryz.prog.globalNamed "strconv.ErrSyntax" = some 8 := by kernel_rfl
theorem gKw : Tryz.prog.globalNamed "pairlegal/asm.kindWords" = some 1 := by kernel_rfl
theorem tPow : (Tryz.prog.globals[3]?).map (·.type) = some 191 := by kernel_rfl
theorem tRng : (Tryz.prog.globals[9]?).map (·.type) = some 91 := by kernel_rfl
theorem tSyn : (Tryz.prog.globals[8]?).map (·.type) = some 91 := by kernel_rfl
theorem tKw : (Tryz.prog.globals[1]?).map (·.type) = some 97 := by kernel_rfl
theorem cU : Tryz.prog.cellsOf 130 = 1 := by kernel_rfl
theorem cS : Tryz.prog.cellsOf 9 = 1 := by kernel_rfl
theorem cP : Tryz.prog.cellsOf 191 = 20 := by kernel_rfl
theorem cK : Tryz.prog.cellsOf 97 = 33 := by kernel_rfl
theorem maxInt_open {W : World} (h : W.ShapedOpen Tryz.prog) : ∃ m, W.cell? ⟨2, 0, none⟩ = some (.int .i64 m) :=
  Go.Proofs.cell_of_shapedOpen_int (zero := #[.int .i64 0]) (t := 3) h (of_decide_eq_true (by kernel_rfl)) (by kernel_rfl) rfl (by kernel_rfl) (by kernel_rfl) Tryz.underlying3
/-- What the reader wants, out of a row's list and the world's shape. -/
theorem gl_of {L : List (String × DataW Unit)} {W : World} {n1 n2 : String} {d1 d2 : DataW Unit} (hL : laidMet Tryz.prog L W) (hsh : W.ShapedOpen Tryz.prog)
    (m1 : ("internal/strconv.uint64pow10", Lib.tabData .u64 Lib.pow10Tab) ∈ L) (m2 : ("strconv.ErrRange", .iface n1 d1) ∈ L) (m3 : ("strconv.ErrSyntax", .iface n2 d2) ∈ L) (m4 : ("pairlegal/asm.kindWords", .agg (kwL.map fun l => .lit (.string l))) ∈ L) : Gl W := by
  obtain ⟨g, t, cs, fuel, p, a1, a2, a3, a4⟩ := Lib.laidMet.reads hL m1
  obtain rfl := Option.some.inj (gPow.symm.trans a1)
  obtain rfl := Option.some.inj (tPow.symm.trans a2)
  obtain ⟨g, t, cs2, fuel2, p2, b1, b2, b3, b4⟩ := Lib.laidMet.reads hL m2
  obtain rfl := Option.some.inj (gRng.symm.trans b1)
  obtain rfl := Option.some.inj (tRng.symm.trans b2)
  obtain ⟨g, t, cs3, fuel3, p3, c1, c2, c3, c4⟩ := Lib.laidMet.reads hL m3
  obtain rfl := Option.some.inj (gSyn.symm.trans c1)
  obtain rfl := Option.some.inj (tSyn.symm.trans c2)
  obtain ⟨g, t, cs4, fuel4, p4, e1, e2, e3, e4⟩ := Lib.laidMet.reads hL m4
  obtain rfl := Option.some.inj (gKw.symm.trans e1)
  obtain rfl := Option.some.inj (tKw.symm.trans e2)
  obtain ⟨te, pe, h2⟩ := iface_of_trod Tryz.underlying91 b4
  obtain ⟨tf, pf, h3⟩ := iface_of_trod Tryz.underlying91 c4
  have h4 := cells_of_strs Tryz.underlying97 Tryz.underlying9 cS cK e4
  refine ⟨maxInt_open hsh, ⟨tf, pf, ?_⟩, ⟨te, pe, ?_⟩, ?_, ?_⟩
  · rw [World.var?_cell gSyn c3 0, ← Array.getElem?_toList, h3]; rfl
  · rw [World.var?_cell gRng b3 0, ← Array.getElem?_toList, h2]; rfl
  · unfold Lib.TabIs
    rw [a3, ← Lib.cells_of_tab Tryz.underlying191 Tryz.underlying130 cU cP a4]
  · obtain ⟨tk, fr, hh⟩ := heap_of_var gKw e3
    exact ⟨tk, fr, by rw [hh, ← h4]⟩
end Go.Proofs.YtodfjomglgmffaaGreatDoor
