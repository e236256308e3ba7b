/-
  No cell of these rows narrows 'for every input' (looked for: loops, veiled, ifaces, maps, wideKeys, modest, calm, conditions, laid).
  DERIVED. THE GIVEN ROWS OF THIS SEAT. 5 by the template 'for every input the law returns true; each argument reads behind the call as it read before'; 0 by the template 'total and deterministic' (their statements: YtogabciiicjloaaTotals.lean).
  GIVEN WITH THE SEED: the statements are not yours to turn. If you find one false, say at which input.
  Laid BY PROGRAM, IN A SANDBOX (cutbox-rows.mjs): the forced cells as the released guide's own fill.sh prints them over the translation 2755671afbc9ccef… (all of the seat's roots in one cut). By AI agents, Wed Nov 11 2026. No macro, syntax, notation, axiom, sorry.
-/
import Derived.Test.YtogabciiicjloaaChecked
import GoSem.Claim
import GoSem.ClaimJoined
import GoSem.ClaimMapViews
import Derived.JoinedTies
import Derived.KernelRfl
namespace Go.Proofs.Ytogabciiicjloaa
/- THE CELL 'sum', in the pinned program and in every row, IS THE sha256 OF THE DUMP (.gsa) THAT YtogabciiicjloaaProg.lean LOADS. Nothing in Lean hashes anything: it is a label: what it is worth is what the hold of that sum in a sandbox is worth. -/
noncomputable def Try.pinned : Pinned := { name := "ytogabciiicjloaa", sum := "2755671afbc9ccef4481f79d679720b6ea611f76ab8c1b60b392a6d523cc4d99", checked := Try.checked }
namespace Rows
def none {H : Type} : Left H := { results := [], args := [] }

/-- 'laws.FnTables': WHATEVER THE INPUT: true; the input reads as it did. -/
def fnTablesSpec : ChangeSpec := { name := "fnTables", fn := fun _ => fun
  | [d] => { results := [.lit (.bool true)], args := [d] }
  | _ => none }
def fnTablesRow : OpenClaim := { program := "ytogabciiicjloaa", sum := "2755671afbc9ccef4481f79d679720b6ea611f76ab8c1b60b392a6d523cc4d99", func := "loop.example/g00470/laws.FnTables", spec := "fnTables", unfollowed := true, recurses := true, apart := false }
def FnTablesSaid : Prop := fnTablesRow.holds Try.pinned (OpenSpec.ofChange fnTablesSpec)

/-- ITS FALSE NEIGHBOUR: 'it returns false'. Refute it at one input. -/
def fnTablesWrong : ChangeSpec := { name := "fnTables", fn := fun _ => fun
  | [d] => { results := [.lit (.bool false)], args := [d] }
  | _ => none }
def FnTablesWrongFalsely : Prop := fnTablesRow.holds Try.pinned (OpenSpec.ofChange fnTablesWrong)

/-- 'laws.FnOldest': WHATEVER THE INPUT: true; the input reads as it did. -/
def fnOldestSpec : ChangeSpec := { name := "fnOldest", fn := fun _ => fun
  | [d] => { results := [.lit (.bool true)], args := [d] }
  | _ => none }
def fnOldestRow : OpenClaim := { program := "ytogabciiicjloaa", sum := "2755671afbc9ccef4481f79d679720b6ea611f76ab8c1b60b392a6d523cc4d99", func := "loop.example/g00470/laws.FnOldest", spec := "fnOldest", unfollowed := true, recurses := true, apart := false }
def FnOldestSaid : Prop := fnOldestRow.holds Try.pinned (OpenSpec.ofChange fnOldestSpec)

/-- ITS FALSE NEIGHBOUR: 'it returns false'. Refute it at one input. -/
def fnOldestWrong : ChangeSpec := { name := "fnOldest", fn := fun _ => fun
  | [d] => { results := [.lit (.bool false)], args := [d] }
  | _ => none }
def FnOldestWrongFalsely : Prop := fnOldestRow.holds Try.pinned (OpenSpec.ofChange fnOldestWrong)

/-- 'laws.FnExactTableOk': WHATEVER THE INPUT: true; the input reads as it did. -/
def fnExactTableOkSpec : ChangeSpec := { name := "fnExactTableOk", fn := fun _ => fun
  | [d] => { results := [.lit (.bool true)], args := [d] }
  | _ => none }
def fnExactTableOkRow : OpenClaim := { program := "ytogabciiicjloaa", sum := "2755671afbc9ccef4481f79d679720b6ea611f76ab8c1b60b392a6d523cc4d99", func := "loop.example/g00470/laws.FnExactTableOk", spec := "fnExactTableOk", apart := false }
def FnExactTableOkSaid : Prop := fnExactTableOkRow.holds Try.pinned (OpenSpec.ofChange fnExactTableOkSpec)

/-- ITS FALSE NEIGHBOUR: 'it returns false'. Refute it at one input. -/
def fnExactTableOkWrong : ChangeSpec := { name := "fnExactTableOk", fn := fun _ => fun
  | [d] => { results := [.lit (.bool false)], args := [d] }
  | _ => none }
def FnExactTableOkWrongFalsely : Prop := fnExactTableOkRow.holds Try.pinned (OpenSpec.ofChange fnExactTableOkWrong)

/-- 'laws.FnExactWhere': WHATEVER THE INPUT: true; the input reads as it did. -/
def fnExactWhereSpec : ChangeSpec := { name := "fnExactWhere", fn := fun _ => fun
  | [d1, d2, d3] => { results := [.lit (.bool true)], args := [d1, d2, d3] }
  | _ => none }
def fnExactWhereRow : OpenClaim := { program := "ytogabciiicjloaa", sum := "2755671afbc9ccef4481f79d679720b6ea611f76ab8c1b60b392a6d523cc4d99", func := "loop.example/g00470/laws.FnExactWhere", spec := "fnExactWhere", apart := false }
def FnExactWhereSaid : Prop := fnExactWhereRow.holds Try.pinned (OpenSpec.ofChange fnExactWhereSpec)

/-- ITS FALSE NEIGHBOUR: 'it returns false'. Refute it at one input. -/
def fnExactWhereWrong : ChangeSpec := { name := "fnExactWhere", fn := fun _ => fun
  | [d1, d2, d3] => { results := [.lit (.bool false)], args := [d1, d2, d3] }
  | _ => none }
def FnExactWhereWrongFalsely : Prop := fnExactWhereRow.holds Try.pinned (OpenSpec.ofChange fnExactWhereWrong)

/-- 'laws.FnExactAge': WHATEVER THE INPUT: true; the input reads as it did. -/
def fnExactAgeSpec : ChangeSpec := { name := "fnExactAge", fn := fun _ => fun
  | [d] => { results := [.lit (.bool true)], args := [d] }
  | _ => none }
def fnExactAgeRow : OpenClaim := { program := "ytogabciiicjloaa", sum := "2755671afbc9ccef4481f79d679720b6ea611f76ab8c1b60b392a6d523cc4d99", func := "loop.example/g00470/laws.FnExactAge", spec := "fnExactAge", unfollowed := true, recurses := true, apart := false }
def FnExactAgeSaid : Prop := fnExactAgeRow.holds Try.pinned (OpenSpec.ofChange fnExactAgeSpec)

/-- ITS FALSE NEIGHBOUR: 'it returns false'. Refute it at one input. -/
def fnExactAgeWrong : ChangeSpec := { name := "fnExactAge", fn := fun _ => fun
  | [d] => { results := [.lit (.bool false)], args := [d] }
  | _ => none }
def FnExactAgeWrongFalsely : Prop := fnExactAgeRow.holds Try.pinned (OpenSpec.ofChange fnExactAgeWrong)

/- THE SECOND FORM. 'bulk': how many values and letters a reading holds, each counted each time it is reached (what is shared counts as often as it is met; a slice's spare places count too). A statement '..UptoSaid' is the law's where the arguments, and the package variables that the reading takes, are together of bulk at most 1048576: NARROWER than '..Said'. Prove '..Said' where nothing that the law and all that it calls make is longer than what came in: it says more and counts as full. Else prove '..UptoSaid'. A law counts once. -/
mutual
def uptoBulk {H : Type} : DataW H → Nat
  | .lit (.string bytes) => bytes.length + 1
  | .lit _ => 1
  | .nil => 1
  | .ptr d => uptoBulk d + 1
  | .slice elems spare => uptoBulkAll elems + uptoBulkAll spare + 1
  | .agg parts => uptoBulkAll parts + 1
  | .iface _ d => uptoBulk d + 1
  | .map entries => uptoBulkEntries entries + 1
  | .held _ => 1
def uptoBulkAll {H : Type} : List (DataW H) → Nat
  | [] => 0
  | d :: r => uptoBulk d + uptoBulkAll r
def uptoBulkEntries {H : Type} : List (Lit × DataW H) → Nat
  | [] => 0
  | x :: r => uptoBulkEntry x + uptoBulkEntries r
def uptoBulkEntry {H : Type} : Lit × DataW H → Nat
  | (.string bytes, d) => bytes.length + uptoBulk d + 1
  | (_, d) => uptoBulk d + 1
 end
def uptoSmall : (H : Type) → List (DataW H) → Bool := fun _ ds => decide (uptoBulkAll ds ≤ 1048576)
def OpenSpec.upto (s : _root_.Go.ChangeSpec) : _root_.Go.OpenSpec := { _root_.Go.OpenSpec.ofChange s with cond := some uptoSmall }

/-- 'laws.FnTables', WHERE WHAT IT READS IS OF BULK AT MOST 1048576: true; the input reads as it did. -/
def fnTablesUptoRow : OpenClaim := { program := "ytogabciiicjloaa", sum := "2755671afbc9ccef4481f79d679720b6ea611f76ab8c1b60b392a6d523cc4d99", func := "loop.example/g00470/laws.FnTables", spec := "fnTables", unfollowed := true, recurses := true, apart := false, narrowed := true }
def FnTablesUptoSaid : Prop := fnTablesUptoRow.holds Try.pinned (OpenSpec.upto fnTablesSpec)

/-- 'laws.FnOldest', WHERE WHAT IT READS IS OF BULK AT MOST 1048576: true; the input reads as it did. -/
def fnOldestUptoRow : OpenClaim := { program := "ytogabciiicjloaa", sum := "2755671afbc9ccef4481f79d679720b6ea611f76ab8c1b60b392a6d523cc4d99", func := "loop.example/g00470/laws.FnOldest", spec := "fnOldest", unfollowed := true, recurses := true, apart := false, narrowed := true }
def FnOldestUptoSaid : Prop := fnOldestUptoRow.holds Try.pinned (OpenSpec.upto fnOldestSpec)

/-- 'laws.FnExactTableOk', WHERE WHAT IT READS IS OF BULK AT MOST 1048576: true; the input reads as it did. -/
def fnExactTableOkUptoRow : OpenClaim := { program := "ytogabciiicjloaa", sum := "2755671afbc9ccef4481f79d679720b6ea611f76ab8c1b60b392a6d523cc4d99", func := "loop.example/g00470/laws.FnExactTableOk", spec := "fnExactTableOk", apart := false, narrowed := true }
def FnExactTableOkUptoSaid : Prop := fnExactTableOkUptoRow.holds Try.pinned (OpenSpec.upto fnExactTableOkSpec)

/-- 'laws.FnExactWhere', WHERE WHAT IT READS IS OF BULK AT MOST 1048576: true; the input reads as it did. -/
def fnExactWhereUptoRow : OpenClaim := { program := "ytogabciiicjloaa", sum := "2755671afbc9ccef4481f79d679720b6ea611f76ab8c1b60b392a6d523cc4d99", func := "loop.example/g00470/laws.FnExactWhere", spec := "fnExactWhere", apart := false, narrowed := true }
def FnExactWhereUptoSaid : Prop := fnExactWhereUptoRow.holds Try.pinned (OpenSpec.upto fnExactWhereSpec)

/-- 'laws.FnExactAge', WHERE WHAT IT READS IS OF BULK AT MOST 1048576: true; the input reads as it did. -/
def fnExactAgeUptoRow : OpenClaim := { program := "ytogabciiicjloaa", sum := "2755671afbc9ccef4481f79d679720b6ea611f76ab8c1b60b392a6d523cc4d99", func := "loop.example/g00470/laws.FnExactAge", spec := "fnExactAge", unfollowed := true, recurses := true, apart := false, narrowed := true }
def FnExactAgeUptoSaid : Prop := fnExactAgeUptoRow.holds Try.pinned (OpenSpec.upto fnExactAgeSpec)

end Rows
end Go.Proofs.Ytogabciiicjloaa
