/-
  DERIVED. GIVEN WITH THE SEED: THE CARDS: each row of YtfkhbhjpnfajeaaDoorRows.lean that lists a variable, with what it lists TIED to the program's text (the seventh form; the later family's looks); each row that meets fmt, with fmt's text TOLD by the authors' own Lean function (tested against real Go, not proved from fmt's source: count such statements apart). THE CARD IS WHAT COUNTS. Prove the row's statement (the work); the ties are given (YtfkhbhjpnfajeaaDoorTie.lean); close each card by the builder's one call (the guide's Derived/Test/ToyasCard.lean, 'card_holds'). Laid BY PROGRAM, IN A SANDBOX (cutbox-door.mjs). By AI agents, Wed Nov 11 2026. No macro, syntax, notation, axiom, sorry.
-/
import Derived.Test.YtfkhbhjpnfajeaaDoorRows
import GoSem.ClaimSeven
namespace Go.Proofs.YtfkhbhjpnfajeaaDoor
namespace Rows

/-- THE TIED CARD OF 'pairlegallaw7.TypesTell'. -/
def typesTellCard : Claim7 := { stood := { row := typesTellRow, standIns := [], harness := (true, "86405ef734c840a6eb1236478447a8f7fd8b7bce09ca599ad48d4fa5f35f327c"), looks := false }, kinds := [], alts := [], laidByText := true, laidKinds := [.data, .data, .data], laidTests := true, laidLooks := .later }
def TypesTellCardSaid : Prop := Claim7.holds Tryd.pinned (.plain (OpenSpec.ofChange typesTellSpec)) typesTellCard

/-- THE TIED CARD OF 'pairlegallaw7.TypesMean'. -/
def typesMeanCard : Claim7 := { stood := { row := typesMeanRow, standIns := [], harness := (true, "86405ef734c840a6eb1236478447a8f7fd8b7bce09ca599ad48d4fa5f35f327c"), looks := false }, kinds := [], alts := [], laidByText := true, laidKinds := [.data, .data, .data], laidTests := true, laidLooks := .later }
def TypesMeanCardSaid : Prop := Claim7.holds Tryd.pinned (.plain (OpenSpec.ofChange typesMeanSpec)) typesMeanCard

/-- THE TIED CARD OF 'pairlegallaw7.TypesCommon'. -/
def typesCommonCard : Claim7 := { stood := { row := typesCommonRow, standIns := [], harness := (true, "86405ef734c840a6eb1236478447a8f7fd8b7bce09ca599ad48d4fa5f35f327c"), looks := false }, kinds := [], alts := [], laidByText := true, laidKinds := [.data, .data, .data], laidTests := true, laidLooks := .later }
def TypesCommonCardSaid : Prop := Claim7.holds Tryd.pinned (.plain (OpenSpec.ofChange typesCommonSpec)) typesCommonCard

/-- THE TIED CARD OF 'pairlegallaw7.TypesNarrow'. -/
def typesNarrowCard : Claim7 := { stood := { row := typesNarrowRow, standIns := [], harness := (true, "86405ef734c840a6eb1236478447a8f7fd8b7bce09ca599ad48d4fa5f35f327c"), looks := false }, kinds := [], alts := [], laidByText := true, laidKinds := [.data, .data, .data], laidTests := true, laidLooks := .later }
def TypesNarrowCardSaid : Prop := Claim7.holds Tryd.pinned (.plain (OpenSpec.ofChange typesNarrowSpec)) typesNarrowCard

/-- THE TIED CARD OF 'pairlegallaw7.TypesTurn'. -/
def typesTurnCard : Claim7 := { stood := { row := typesTurnRow, standIns := [], harness := (true, "86405ef734c840a6eb1236478447a8f7fd8b7bce09ca599ad48d4fa5f35f327c"), looks := false }, kinds := [], alts := [], laidByText := true, laidKinds := [.data, .data, .data], laidTests := true, laidLooks := .later }
def TypesTurnCardSaid : Prop := Claim7.holds Tryd.pinned (.plain (OpenSpec.ofChange typesTurnSpec)) typesTurnCard

/-- THE SECOND FORM's CARD OF 'pairlegallaw7.TypesTell'. -/
def typesTellUptoCard : Claim7 := { stood := { row := typesTellUptoRow, standIns := [], harness := (true, "86405ef734c840a6eb1236478447a8f7fd8b7bce09ca599ad48d4fa5f35f327c"), looks := false }, kinds := [], alts := [], laidByText := true, laidKinds := [.data, .data, .data], laidTests := true, laidLooks := .later }
def TypesTellUptoCardSaid : Prop := Claim7.holds Tryd.pinned (.plain (OpenSpec.upto typesTellSpec)) typesTellUptoCard

/-- THE SECOND FORM's CARD OF 'pairlegallaw7.TypesMean'. -/
def typesMeanUptoCard : Claim7 := { stood := { row := typesMeanUptoRow, standIns := [], harness := (true, "86405ef734c840a6eb1236478447a8f7fd8b7bce09ca599ad48d4fa5f35f327c"), looks := false }, kinds := [], alts := [], laidByText := true, laidKinds := [.data, .data, .data], laidTests := true, laidLooks := .later }
def TypesMeanUptoCardSaid : Prop := Claim7.holds Tryd.pinned (.plain (OpenSpec.upto typesMeanSpec)) typesMeanUptoCard

/-- THE SECOND FORM's CARD OF 'pairlegallaw7.TypesCommon'. -/
def typesCommonUptoCard : Claim7 := { stood := { row := typesCommonUptoRow, standIns := [], harness := (true, "86405ef734c840a6eb1236478447a8f7fd8b7bce09ca599ad48d4fa5f35f327c"), looks := false }, kinds := [], alts := [], laidByText := true, laidKinds := [.data, .data, .data], laidTests := true, laidLooks := .later }
def TypesCommonUptoCardSaid : Prop := Claim7.holds Tryd.pinned (.plain (OpenSpec.upto typesCommonSpec)) typesCommonUptoCard

/-- THE SECOND FORM's CARD OF 'pairlegallaw7.TypesNarrow'. -/
def typesNarrowUptoCard : Claim7 := { stood := { row := typesNarrowUptoRow, standIns := [], harness := (true, "86405ef734c840a6eb1236478447a8f7fd8b7bce09ca599ad48d4fa5f35f327c"), looks := false }, kinds := [], alts := [], laidByText := true, laidKinds := [.data, .data, .data], laidTests := true, laidLooks := .later }
def TypesNarrowUptoCardSaid : Prop := Claim7.holds Tryd.pinned (.plain (OpenSpec.upto typesNarrowSpec)) typesNarrowUptoCard

/-- THE SECOND FORM's CARD OF 'pairlegallaw7.TypesTurn'. -/
def typesTurnUptoCard : Claim7 := { stood := { row := typesTurnUptoRow, standIns := [], harness := (true, "86405ef734c840a6eb1236478447a8f7fd8b7bce09ca599ad48d4fa5f35f327c"), looks := false }, kinds := [], alts := [], laidByText := true, laidKinds := [.data, .data, .data], laidTests := true, laidLooks := .later }
def TypesTurnUptoCardSaid : Prop := Claim7.holds Tryd.pinned (.plain (OpenSpec.upto typesTurnSpec)) typesTurnUptoCard
end Rows
end Go.Proofs.YtfkhbhjpnfajeaaDoor
