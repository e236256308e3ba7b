/-
  DERIVED. GIVEN WITH THE SEED: THE CARDS: each row of YtlnogijlfompoaaDoorRows.lean that lists a variable, with what it lists TIED to the program's text (the seventh form; the later family's looks); each row that meets fmt, with fmt's text TOLD by the authors' own Lean function (tested against real Go, not proved from fmt's source: count such statements apart). THE CARD IS WHAT COUNTS. Prove the row's statement (the work); the ties are given (YtlnogijlfompoaaDoorTie.lean); close each card by the builder's one call (the guide's Derived/Test/ToyasCard.lean, 'card_holds'). Laid BY PROGRAM, IN A SANDBOX (cutbox-door.mjs). By AI agents, Wed Nov 11 2026. No macro, syntax, notation, axiom, sorry.
-/
import Derived.Test.YtlnogijlfompoaaDoorRows
import GoSem.ClaimSeven
namespace Go.Proofs.YtlnogijlfompoaaDoor
namespace Rows

/-- THE TIED CARD OF 'laws.FnExactInOf'. -/
def fnExactInOfCard : Claim7 := { stood := { row := fnExactInOfRow, standIns := [], harness := (true, "af51a4e3bb943953f7cd5cc576422d65dd80ed8dc7b464412f2fc62da1b182c2"), looks := true }, kinds := [], alts := [], laidByText := true, laidKinds := [.handle, .sentinel], laidTests := true, laidLooks := .later }
def FnExactInOfCardSaid : Prop := Claim7.holds Tryd.pinned (.plain (OpenSpec.ofChange fnExactInOfSpec)) fnExactInOfCard

/-- THE TIED CARD OF 'laws.FnExactAllOf'. -/
def fnExactAllOfCard : Claim7 := { stood := { row := fnExactAllOfRow, standIns := [], harness := (true, "af51a4e3bb943953f7cd5cc576422d65dd80ed8dc7b464412f2fc62da1b182c2"), looks := true }, kinds := [], alts := [], laidByText := true, laidKinds := [.handle, .sentinel], laidTests := true, laidLooks := .later }
def FnExactAllOfCardSaid : Prop := Claim7.holds Tryd.pinned (.plain (OpenSpec.ofChange fnExactAllOfSpec)) fnExactAllOfCard

/-- THE TIED CARD OF 'laws.FnExactInText'. -/
def fnExactInTextCard : Claim7 := { stood := { row := fnExactInTextRow, standIns := [], harness := (true, "af51a4e3bb943953f7cd5cc576422d65dd80ed8dc7b464412f2fc62da1b182c2"), looks := true }, kinds := [], alts := [], laidByText := true, laidKinds := [.data, .data, .data], laidTests := true, laidLooks := .later }
def FnExactInTextCardSaid : Prop := Claim7.holds Tryd.pinned (.plain (OpenSpec.ofChange fnExactInTextSpec)) fnExactInTextCard

/-- THE SECOND FORM's CARD OF 'laws.FnExactInOf'. -/
def fnExactInOfUptoCard : Claim7 := { stood := { row := fnExactInOfUptoRow, standIns := [], harness := (true, "af51a4e3bb943953f7cd5cc576422d65dd80ed8dc7b464412f2fc62da1b182c2"), looks := true }, kinds := [], alts := [], laidByText := true, laidKinds := [.handle, .sentinel], laidTests := true, laidLooks := .later }
def FnExactInOfUptoCardSaid : Prop := Claim7.holds Tryd.pinned (.plain (OpenSpec.upto fnExactInOfSpec)) fnExactInOfUptoCard

/-- THE SECOND FORM's CARD OF 'laws.FnExactAllOf'. -/
def fnExactAllOfUptoCard : Claim7 := { stood := { row := fnExactAllOfUptoRow, standIns := [], harness := (true, "af51a4e3bb943953f7cd5cc576422d65dd80ed8dc7b464412f2fc62da1b182c2"), looks := true }, kinds := [], alts := [], laidByText := true, laidKinds := [.handle, .sentinel], laidTests := true, laidLooks := .later }
def FnExactAllOfUptoCardSaid : Prop := Claim7.holds Tryd.pinned (.plain (OpenSpec.upto fnExactAllOfSpec)) fnExactAllOfUptoCard

/-- THE SECOND FORM's CARD OF 'laws.FnExactInText'. -/
def fnExactInTextUptoCard : Claim7 := { stood := { row := fnExactInTextUptoRow, standIns := [], harness := (true, "af51a4e3bb943953f7cd5cc576422d65dd80ed8dc7b464412f2fc62da1b182c2"), looks := true }, kinds := [], alts := [], laidByText := true, laidKinds := [.data, .data, .data], laidTests := true, laidLooks := .later }
def FnExactInTextUptoCardSaid : Prop := Claim7.holds Tryd.pinned (.plain (OpenSpec.upto fnExactInTextSpec)) fnExactInTextUptoCard
end Rows
end Go.Proofs.YtlnogijlfompoaaDoor
