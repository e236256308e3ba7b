/-
  DERIVED. GIVEN WITH THE SEED: THE CARDS: each row of YtamnjaadmagdnaaDoorRows.lean that lists a variable, with what it lists TIED to the program's text (the seventh form; the later family's looks); each row that meets fmt, with fmt's text TOLD by the authors' own Lean function (tested against real Go, not proved from fmt's source: count such statements apart). THE CARD IS WHAT COUNTS. Prove the row's statement (the work); the ties are given (YtamnjaadmagdnaaDoorTie.lean); close each card by the builder's one call (the guide's Derived/Test/ToyasCard.lean, 'card_holds'). Laid BY PROGRAM, IN A SANDBOX (cutbox-door.mjs). By AI agents, Wed Nov 11 2026. No macro, syntax, notation, axiom, sorry.
-/
import Derived.Test.YtamnjaadmagdnaaDoorRows
import GoSem.ClaimSeven
namespace Go.Proofs.YtamnjaadmagdnaaDoor
namespace Rows

/-- THE TIED CARD OF 'laws.FnVecs'. -/
def fnVecsCard : Claim7 := { stood := { row := fnVecsRow, standIns := [], harness := (true, "bf8d902cb7268fa42738433f02163cbce3bc24b32b84dc3ea8186c6606ce4f46"), looks := false }, kinds := [], alts := [], laidByText := true, laidKinds := [.data, .data, .data], laidTests := true, laidLooks := .later }
def FnVecsCardSaid : Prop := Claim7.holds Tryd.pinned (.plain (OpenSpec.ofChange fnVecsSpec)) fnVecsCard

/-- THE TIED CARD OF 'laws.FnExactVecText'. -/
def fnExactVecTextCard : Claim7 := { stood := { row := fnExactVecTextRow, standIns := [], harness := (true, "bf8d902cb7268fa42738433f02163cbce3bc24b32b84dc3ea8186c6606ce4f46"), looks := false }, kinds := [], alts := [], laidByText := true, laidKinds := [.data, .data, .data], laidTests := true, laidLooks := .later }
def FnExactVecTextCardSaid : Prop := Claim7.holds Tryd.pinned (.plain (OpenSpec.ofChange fnExactVecTextSpec)) fnExactVecTextCard

/-- THE SECOND FORM's CARD OF 'laws.FnVecs'. -/
def fnVecsUptoCard : Claim7 := { stood := { row := fnVecsUptoRow, standIns := [], harness := (true, "bf8d902cb7268fa42738433f02163cbce3bc24b32b84dc3ea8186c6606ce4f46"), looks := false }, kinds := [], alts := [], laidByText := true, laidKinds := [.data, .data, .data], laidTests := true, laidLooks := .later }
def FnVecsUptoCardSaid : Prop := Claim7.holds Tryd.pinned (.plain (OpenSpec.upto fnVecsSpec)) fnVecsUptoCard

/-- THE SECOND FORM's CARD OF 'laws.FnExactVecText'. -/
def fnExactVecTextUptoCard : Claim7 := { stood := { row := fnExactVecTextUptoRow, standIns := [], harness := (true, "bf8d902cb7268fa42738433f02163cbce3bc24b32b84dc3ea8186c6606ce4f46"), looks := false }, kinds := [], alts := [], laidByText := true, laidKinds := [.data, .data, .data], laidTests := true, laidLooks := .later }
def FnExactVecTextUptoCardSaid : Prop := Claim7.holds Tryd.pinned (.plain (OpenSpec.upto fnExactVecTextSpec)) fnExactVecTextUptoCard
end Rows
end Go.Proofs.YtamnjaadmagdnaaDoor
