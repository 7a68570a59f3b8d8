/-
  No cell of these rows narrows 'for every input' (looked for: loops, veiled, ifaces, maps, wideKeys, modest, calm, conditions, laid).
  DERIVED. THE GIVEN ROWS OF THIS SEAT. 5 by the template 'for every input the law returns true; each argument reads behind the call as it read before'; 0 by the template 'total and deterministic' (their statements: YtljccpgcfkgllabTotals.lean).
  GIVEN WITH THE SEED: the statements are not yours to turn. If you find one false, say at which input.
  Laid BY PROGRAM, IN A SANDBOX (cutbox-rows.mjs): the forced cells as the released guide's own fill.sh prints them over the translation 07d3a21ec94c13f6… (all of the seat's roots in one cut). By AI agents, Wed Nov 11 2026. No macro, syntax, notation, axiom, sorry.
-/
import Derived.Test.YtljccpgcfkgllabChecked
import GoSem.Claim
import GoSem.ClaimJoined
import GoSem.ClaimMapViews
import Derived.JoinedTies
import Derived.KernelRfl
namespace Go.Proofs.Ytljccpgcfkgllab
/- THE CELL 'sum', in the pinned program and in every row, IS THE sha256 OF THE DUMP (.gsa) THAT YtljccpgcfkgllabProg.lean LOADS. Nothing in Lean hashes anything: it is a label: what it is worth is what the hold of that sum in a sandbox is worth. -/
noncomputable def Try.pinned : Pinned := { name := "ytljccpgcfkgllab", sum := "07d3a21ec94c13f6a766497ea86c1b8fc22be710c359afd2c80ce0d30c88d8c4", checked := Try.checked }
namespace Rows
def none {H : Type} : Left H := { results := [], args := [] }

/-- 'pairlegallaw1.WordUp': WHATEVER THE INPUT: true; the input reads as it did. -/
def wordUpSpec : ChangeSpec := { name := "wordUp", fn := fun _ => fun
  | [d1, d2, d3, d4] => { results := [.lit (.bool true)], args := [d1, d2, d3, d4] }
  | _ => none }
def wordUpRow : OpenClaim := { program := "ytljccpgcfkgllab", sum := "07d3a21ec94c13f6a766497ea86c1b8fc22be710c359afd2c80ce0d30c88d8c4", func := "pairlegal/pairlegallaw1.WordUp", spec := "wordUp", unfollowed := true, recurses := true, apart := false }
def WordUpSaid : Prop := wordUpRow.holds Try.pinned (OpenSpec.ofChange wordUpSpec)

/-- ITS FALSE NEIGHBOUR: 'it returns false'. Refute it at one input. -/
def wordUpWrong : ChangeSpec := { name := "wordUp", fn := fun _ => fun
  | [d1, d2, d3, d4] => { results := [.lit (.bool false)], args := [d1, d2, d3, d4] }
  | _ => none }
def WordUpWrongFalsely : Prop := wordUpRow.holds Try.pinned (OpenSpec.ofChange wordUpWrong)

/-- 'pairlegallaw1.WordSplit': WHATEVER THE INPUT: true; the input reads as it did. -/
def wordSplitSpec : ChangeSpec := { name := "wordSplit", fn := fun _ => fun
  | [d1, d2] => { results := [.lit (.bool true)], args := [d1, d2] }
  | _ => none }
def wordSplitRow : OpenClaim := { program := "ytljccpgcfkgllab", sum := "07d3a21ec94c13f6a766497ea86c1b8fc22be710c359afd2c80ce0d30c88d8c4", func := "pairlegal/pairlegallaw1.WordSplit", spec := "wordSplit", unfollowed := true, recurses := true, apart := false }
def WordSplitSaid : Prop := wordSplitRow.holds Try.pinned (OpenSpec.ofChange wordSplitSpec)

/-- ITS FALSE NEIGHBOUR: 'it returns false'. Refute it at one input. -/
def wordSplitWrong : ChangeSpec := { name := "wordSplit", fn := fun _ => fun
  | [d1, d2] => { results := [.lit (.bool false)], args := [d1, d2] }
  | _ => none }
def WordSplitWrongFalsely : Prop := wordSplitRow.holds Try.pinned (OpenSpec.ofChange wordSplitWrong)

/-- 'pairlegallaw1.WordCarries': WHATEVER THE INPUT: true; the input reads as it did. -/
def wordCarriesSpec : ChangeSpec := { name := "wordCarries", fn := fun _ => fun
  | [d1, d2, d3] => { results := [.lit (.bool true)], args := [d1, d2, d3] }
  | _ => none }
def wordCarriesRow : OpenClaim := { program := "ytljccpgcfkgllab", sum := "07d3a21ec94c13f6a766497ea86c1b8fc22be710c359afd2c80ce0d30c88d8c4", func := "pairlegal/pairlegallaw1.WordCarries", spec := "wordCarries", unfollowed := true, recurses := true, apart := false }
def WordCarriesSaid : Prop := wordCarriesRow.holds Try.pinned (OpenSpec.ofChange wordCarriesSpec)

/-- ITS FALSE NEIGHBOUR: 'it returns false'. Refute it at one input. -/
def wordCarriesWrong : ChangeSpec := { name := "wordCarries", fn := fun _ => fun
  | [d1, d2, d3] => { results := [.lit (.bool false)], args := [d1, d2, d3] }
  | _ => none }
def WordCarriesWrongFalsely : Prop := wordCarriesRow.holds Try.pinned (OpenSpec.ofChange wordCarriesWrong)

/-- 'pairlegallaw1.WordFlags': WHATEVER THE INPUT: true; the input reads as it did. -/
def wordFlagsSpec : ChangeSpec := { name := "wordFlags", fn := fun _ => fun
  | [d1, d2, d3] => { results := [.lit (.bool true)], args := [d1, d2, d3] }
  | _ => none }
def wordFlagsRow : OpenClaim := { program := "ytljccpgcfkgllab", sum := "07d3a21ec94c13f6a766497ea86c1b8fc22be710c359afd2c80ce0d30c88d8c4", func := "pairlegal/pairlegallaw1.WordFlags", spec := "wordFlags", unfollowed := true, recurses := true, apart := false }
def WordFlagsSaid : Prop := wordFlagsRow.holds Try.pinned (OpenSpec.ofChange wordFlagsSpec)

/-- ITS FALSE NEIGHBOUR: 'it returns false'. Refute it at one input. -/
def wordFlagsWrong : ChangeSpec := { name := "wordFlags", fn := fun _ => fun
  | [d1, d2, d3] => { results := [.lit (.bool false)], args := [d1, d2, d3] }
  | _ => none }
def WordFlagsWrongFalsely : Prop := wordFlagsRow.holds Try.pinned (OpenSpec.ofChange wordFlagsWrong)

/-- 'pairlegallaw1.WordNarrow': WHATEVER THE INPUT: true; the input reads as it did. -/
def wordNarrowSpec : ChangeSpec := { name := "wordNarrow", fn := fun _ => fun
  | [d1, d2, d3, d4] => { results := [.lit (.bool true)], args := [d1, d2, d3, d4] }
  | _ => none }
def wordNarrowRow : OpenClaim := { program := "ytljccpgcfkgllab", sum := "07d3a21ec94c13f6a766497ea86c1b8fc22be710c359afd2c80ce0d30c88d8c4", func := "pairlegal/pairlegallaw1.WordNarrow", spec := "wordNarrow", unfollowed := true, recurses := true, apart := false }
def WordNarrowSaid : Prop := wordNarrowRow.holds Try.pinned (OpenSpec.ofChange wordNarrowSpec)

/-- ITS FALSE NEIGHBOUR: 'it returns false'. Refute it at one input. -/
def wordNarrowWrong : ChangeSpec := { name := "wordNarrow", fn := fun _ => fun
  | [d1, d2, d3, d4] => { results := [.lit (.bool false)], args := [d1, d2, d3, d4] }
  | _ => none }
def WordNarrowWrongFalsely : Prop := wordNarrowRow.holds Try.pinned (OpenSpec.ofChange wordNarrowWrong)

/- THE SECOND FORM. 'bulk': how many values and letters a reading holds, each counted each time it is reached (what is shared counts as often as it is met; a slice's spare places count too). A statement '..UptoSaid' is the law's where the arguments, and the package variables that the reading takes, are together of bulk at most 1048576: NARROWER than '..Said'. Prove '..Said' where nothing that the law and all that it calls make is longer than what came in: it says more and counts as full. Else prove '..UptoSaid'. A law counts once. -/
mutual
def uptoBulk {H : Type} : DataW H → Nat
  | .lit (.string bytes) => bytes.length + 1
  | .lit _ => 1
  | .nil => 1
  | .ptr d => uptoBulk d + 1
  | .slice elems spare => uptoBulkAll elems + uptoBulkAll spare + 1
  | .agg parts => uptoBulkAll parts + 1
  | .iface _ d => uptoBulk d + 1
  | .map entries => uptoBulkEntries entries + 1
  | .held _ => 1
def uptoBulkAll {H : Type} : List (DataW H) → Nat
  | [] => 0
  | d :: r => uptoBulk d + uptoBulkAll r
def uptoBulkEntries {H : Type} : List (Lit × DataW H) → Nat
  | [] => 0
  | x :: r => uptoBulkEntry x + uptoBulkEntries r
def uptoBulkEntry {H : Type} : Lit × DataW H → Nat
  | (.string bytes, d) => bytes.length + uptoBulk d + 1
  | (_, d) => uptoBulk d + 1
 end
def uptoSmall : (H : Type) → List (DataW H) → Bool := fun _ ds => decide (uptoBulkAll ds ≤ 1048576)
def OpenSpec.upto (s : _root_.Go.ChangeSpec) : _root_.Go.OpenSpec := { _root_.Go.OpenSpec.ofChange s with cond := some uptoSmall }

/-- 'pairlegallaw1.WordUp', WHERE WHAT IT READS IS OF BULK AT MOST 1048576: true; the input reads as it did. -/
def wordUpUptoRow : OpenClaim := { program := "ytljccpgcfkgllab", sum := "07d3a21ec94c13f6a766497ea86c1b8fc22be710c359afd2c80ce0d30c88d8c4", func := "pairlegal/pairlegallaw1.WordUp", spec := "wordUp", unfollowed := true, recurses := true, apart := false, narrowed := true }
def WordUpUptoSaid : Prop := wordUpUptoRow.holds Try.pinned (OpenSpec.upto wordUpSpec)

/-- 'pairlegallaw1.WordSplit', WHERE WHAT IT READS IS OF BULK AT MOST 1048576: true; the input reads as it did. -/
def wordSplitUptoRow : OpenClaim := { program := "ytljccpgcfkgllab", sum := "07d3a21ec94c13f6a766497ea86c1b8fc22be710c359afd2c80ce0d30c88d8c4", func := "pairlegal/pairlegallaw1.WordSplit", spec := "wordSplit", unfollowed := true, recurses := true, apart := false, narrowed := true }
def WordSplitUptoSaid : Prop := wordSplitUptoRow.holds Try.pinned (OpenSpec.upto wordSplitSpec)

/-- 'pairlegallaw1.WordCarries', WHERE WHAT IT READS IS OF BULK AT MOST 1048576: true; the input reads as it did. -/
def wordCarriesUptoRow : OpenClaim := { program := "ytljccpgcfkgllab", sum := "07d3a21ec94c13f6a766497ea86c1b8fc22be710c359afd2c80ce0d30c88d8c4", func := "pairlegal/pairlegallaw1.WordCarries", spec := "wordCarries", unfollowed := true, recurses := true, apart := false, narrowed := true }
def WordCarriesUptoSaid : Prop := wordCarriesUptoRow.holds Try.pinned (OpenSpec.upto wordCarriesSpec)

/-- 'pairlegallaw1.WordFlags', WHERE WHAT IT READS IS OF BULK AT MOST 1048576: true; the input reads as it did. -/
def wordFlagsUptoRow : OpenClaim := { program := "ytljccpgcfkgllab", sum := "07d3a21ec94c13f6a766497ea86c1b8fc22be710c359afd2c80ce0d30c88d8c4", func := "pairlegal/pairlegallaw1.WordFlags", spec := "wordFlags", unfollowed := true, recurses := true, apart := false, narrowed := true }
def WordFlagsUptoSaid : Prop := wordFlagsUptoRow.holds Try.pinned (OpenSpec.upto wordFlagsSpec)

/-- 'pairlegallaw1.WordNarrow', WHERE WHAT IT READS IS OF BULK AT MOST 1048576: true; the input reads as it did. -/
def wordNarrowUptoRow : OpenClaim := { program := "ytljccpgcfkgllab", sum := "07d3a21ec94c13f6a766497ea86c1b8fc22be710c359afd2c80ce0d30c88d8c4", func := "pairlegal/pairlegallaw1.WordNarrow", spec := "wordNarrow", unfollowed := true, recurses := true, apart := false, narrowed := true }
def WordNarrowUptoSaid : Prop := wordNarrowUptoRow.holds Try.pinned (OpenSpec.upto wordNarrowSpec)

end Rows
end Go.Proofs.Ytljccpgcfkgllab
