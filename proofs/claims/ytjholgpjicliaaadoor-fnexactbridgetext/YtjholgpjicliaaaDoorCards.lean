/-
  DERIVED. GIVEN WITH THE SEED: THE CARDS: each row of YtjholgpjicliaaaDoorRows.lean that lists a variable, with what it lists TIED to the program's text (the seventh form; the later family's looks); each row that meets fmt, with fmt's text TOLD by the authors' own Lean function (tested against real Go, not proved from fmt's source: count such statements apart). THE CARD IS WHAT COUNTS. Prove the row's statement (the work); the ties are given (YtjholgpjicliaaaDoorTie.lean); close each card by the builder's one call (the guide's Derived/Test/ToyasCard.lean, 'card_holds'). Laid BY PROGRAM, IN A SANDBOX (cutbox-door.mjs). By AI agents, Wed Nov 11 2026. No macro, syntax, notation, axiom, sorry.
-/
import Derived.Test.YtjholgpjicliaaaDoorRows
import GoSem.ClaimSeven
namespace Go.Proofs.YtjholgpjicliaaaDoor
namespace Rows

/-- THE TIED CARD OF 'laws.FnExactInText'. -/
def fnExactInTextCard : Claim7 := { stood := { row := fnExactInTextRow, standIns := [], harness := (true, "1f4a9b75fe6747d1bab9070fc366cb0ad7fec5bed0d2ce5d55856eb043885367"), looks := true }, kinds := [], alts := [], laidByText := true, laidKinds := [.data, .data, .data], laidTests := true, laidLooks := .later }
def FnExactInTextCardSaid : Prop := Claim7.holds Tryd.pinned (.plain (OpenSpec.ofChange fnExactInTextSpec)) fnExactInTextCard

/-- THE TIED CARD OF 'laws.FnExactOutText'. -/
def fnExactOutTextCard : Claim7 := { stood := { row := fnExactOutTextRow, standIns := [], harness := (true, "1f4a9b75fe6747d1bab9070fc366cb0ad7fec5bed0d2ce5d55856eb043885367"), looks := true }, kinds := [], alts := [], laidByText := true, laidKinds := [.data, .data, .data], laidTests := true, laidLooks := .later }
def FnExactOutTextCardSaid : Prop := Claim7.holds Tryd.pinned (.plain (OpenSpec.ofChange fnExactOutTextSpec)) fnExactOutTextCard

/-- THE TIED CARD OF 'laws.FnExactPortText'. -/
def fnExactPortTextCard : Claim7 := { stood := { row := fnExactPortTextRow, standIns := [], harness := (true, "1f4a9b75fe6747d1bab9070fc366cb0ad7fec5bed0d2ce5d55856eb043885367"), looks := true }, kinds := [], alts := [], laidByText := true, laidKinds := [.data, .data, .data], laidTests := true, laidLooks := .later }
def FnExactPortTextCardSaid : Prop := Claim7.holds Tryd.pinned (.plain (OpenSpec.ofChange fnExactPortTextSpec)) fnExactPortTextCard

/-- THE TIED CARD OF 'laws.FnExactBridgeText'. -/
def fnExactBridgeTextCard : Claim7 := { stood := { row := fnExactBridgeTextRow, standIns := [], harness := (true, "1f4a9b75fe6747d1bab9070fc366cb0ad7fec5bed0d2ce5d55856eb043885367"), looks := true }, kinds := [], alts := [], laidByText := true, laidKinds := [.data, .data, .data], laidTests := true, laidLooks := .later }
def FnExactBridgeTextCardSaid : Prop := Claim7.holds Tryd.pinned (.plain (OpenSpec.ofChange fnExactBridgeTextSpec)) fnExactBridgeTextCard

/-- THE SECOND FORM's CARD OF 'laws.FnExactInText'. -/
def fnExactInTextUptoCard : Claim7 := { stood := { row := fnExactInTextUptoRow, standIns := [], harness := (true, "1f4a9b75fe6747d1bab9070fc366cb0ad7fec5bed0d2ce5d55856eb043885367"), looks := true }, kinds := [], alts := [], laidByText := true, laidKinds := [.data, .data, .data], laidTests := true, laidLooks := .later }
def FnExactInTextUptoCardSaid : Prop := Claim7.holds Tryd.pinned (.plain (OpenSpec.upto fnExactInTextSpec)) fnExactInTextUptoCard

/-- THE SECOND FORM's CARD OF 'laws.FnExactOutText'. -/
def fnExactOutTextUptoCard : Claim7 := { stood := { row := fnExactOutTextUptoRow, standIns := [], harness := (true, "1f4a9b75fe6747d1bab9070fc366cb0ad7fec5bed0d2ce5d55856eb043885367"), looks := true }, kinds := [], alts := [], laidByText := true, laidKinds := [.data, .data, .data], laidTests := true, laidLooks := .later }
def FnExactOutTextUptoCardSaid : Prop := Claim7.holds Tryd.pinned (.plain (OpenSpec.upto fnExactOutTextSpec)) fnExactOutTextUptoCard

/-- THE SECOND FORM's CARD OF 'laws.FnExactPortText'. -/
def fnExactPortTextUptoCard : Claim7 := { stood := { row := fnExactPortTextUptoRow, standIns := [], harness := (true, "1f4a9b75fe6747d1bab9070fc366cb0ad7fec5bed0d2ce5d55856eb043885367"), looks := true }, kinds := [], alts := [], laidByText := true, laidKinds := [.data, .data, .data], laidTests := true, laidLooks := .later }
def FnExactPortTextUptoCardSaid : Prop := Claim7.holds Tryd.pinned (.plain (OpenSpec.upto fnExactPortTextSpec)) fnExactPortTextUptoCard

/-- THE SECOND FORM's CARD OF 'laws.FnExactBridgeText'. -/
def fnExactBridgeTextUptoCard : Claim7 := { stood := { row := fnExactBridgeTextUptoRow, standIns := [], harness := (true, "1f4a9b75fe6747d1bab9070fc366cb0ad7fec5bed0d2ce5d55856eb043885367"), looks := true }, kinds := [], alts := [], laidByText := true, laidKinds := [.data, .data, .data], laidTests := true, laidLooks := .later }
def FnExactBridgeTextUptoCardSaid : Prop := Claim7.holds Tryd.pinned (.plain (OpenSpec.upto fnExactBridgeTextSpec)) fnExactBridgeTextUptoCard
end Rows
end Go.Proofs.YtjholgpjicliaaaDoor
