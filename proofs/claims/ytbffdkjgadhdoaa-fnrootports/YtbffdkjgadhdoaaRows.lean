/-
  No cell of these rows narrows 'for every input' (looked for: loops, veiled, ifaces, maps, wideKeys, modest, calm, conditions, laid).
  DERIVED. THE GIVEN ROWS OF THIS SEAT. 6 by the template 'for every input the law returns true; each argument reads behind the call as it read before'; 0 by the template 'total and deterministic' (their statements: YtbffdkjgadhdoaaTotals.lean).
  GIVEN WITH THE SEED: the statements are not yours to turn. If you find one false, say at which input.
  Laid BY PROGRAM, IN A SANDBOX (cutbox-rows.mjs): the forced cells as the released guide's own fill.sh prints them over the translation a5d3082b52b33772… (all of the seat's roots in one cut). By AI agents, Wed Nov 11 2026. No macro, syntax, notation, axiom, sorry.
-/
import Derived.Test.YtbffdkjgadhdoaaChecked
import GoSem.Claim
import GoSem.ClaimJoined
import GoSem.ClaimMapViews
import Derived.JoinedTies
import Derived.KernelRfl
namespace Go.Proofs.Ytbffdkjgadhdoaa
/- THE CELL 'sum', in the pinned program and in every row, IS THE sha256 OF THE DUMP (.gsa) THAT YtbffdkjgadhdoaaProg.lean LOADS. Nothing in Lean hashes anything: it is a label: what it is worth is what the hold of that sum in a sandbox is worth. -/
noncomputable def Try.pinned : Pinned := { name := "ytbffdkjgadhdoaa", sum := "a5d3082b52b337720c42ce14bb2091ddf4ceb22df9f37f27d912b8aa90a016a3", checked := Try.checked }
namespace Rows
def none {H : Type} : Left H := { results := [], args := [] }

/-- 'laws.FnRootPorts': WHATEVER THE INPUT: true; the input reads as it did. -/
def fnRootPortsSpec : ChangeSpec := { name := "fnRootPorts", fn := fun _ => fun
  | [d] => { results := [.lit (.bool true)], args := [d] }
  | _ => none }
def fnRootPortsRow : OpenClaim := { program := "ytbffdkjgadhdoaa", sum := "a5d3082b52b337720c42ce14bb2091ddf4ceb22df9f37f27d912b8aa90a016a3", func := "loop.example/g00470/laws.FnRootPorts", spec := "fnRootPorts", unfollowed := true, recurses := true, apart := false }
def FnRootPortsSaid : Prop := fnRootPortsRow.holds Try.pinned (OpenSpec.ofChange fnRootPortsSpec)

/-- ITS FALSE NEIGHBOUR: 'it returns false'. Refute it at one input. -/
def fnRootPortsWrong : ChangeSpec := { name := "fnRootPorts", fn := fun _ => fun
  | [d] => { results := [.lit (.bool false)], args := [d] }
  | _ => none }
def FnRootPortsWrongFalsely : Prop := fnRootPortsRow.holds Try.pinned (OpenSpec.ofChange fnRootPortsWrong)

/-- 'laws.FnFades': WHATEVER THE INPUT: true; the input reads as it did. -/
def fnFadesSpec : ChangeSpec := { name := "fnFades", fn := fun _ => fun
  | [d] => { results := [.lit (.bool true)], args := [d] }
  | _ => none }
def fnFadesRow : OpenClaim := { program := "ytbffdkjgadhdoaa", sum := "a5d3082b52b337720c42ce14bb2091ddf4ceb22df9f37f27d912b8aa90a016a3", func := "loop.example/g00470/laws.FnFades", spec := "fnFades", unfollowed := true, recurses := true, apart := false }
def FnFadesSaid : Prop := fnFadesRow.holds Try.pinned (OpenSpec.ofChange fnFadesSpec)

/-- ITS FALSE NEIGHBOUR: 'it returns false'. Refute it at one input. -/
def fnFadesWrong : ChangeSpec := { name := "fnFades", fn := fun _ => fun
  | [d] => { results := [.lit (.bool false)], args := [d] }
  | _ => none }
def FnFadesWrongFalsely : Prop := fnFadesRow.holds Try.pinned (OpenSpec.ofChange fnFadesWrong)

/-- 'laws.FnWaits': WHATEVER THE INPUT: true; the input reads as it did. -/
def fnWaitsSpec : ChangeSpec := { name := "fnWaits", fn := fun _ => fun
  | [d] => { results := [.lit (.bool true)], args := [d] }
  | _ => none }
def fnWaitsRow : OpenClaim := { program := "ytbffdkjgadhdoaa", sum := "a5d3082b52b337720c42ce14bb2091ddf4ceb22df9f37f27d912b8aa90a016a3", func := "loop.example/g00470/laws.FnWaits", spec := "fnWaits", unfollowed := true, recurses := true, apart := false }
def FnWaitsSaid : Prop := fnWaitsRow.holds Try.pinned (OpenSpec.ofChange fnWaitsSpec)

/-- ITS FALSE NEIGHBOUR: 'it returns false'. Refute it at one input. -/
def fnWaitsWrong : ChangeSpec := { name := "fnWaits", fn := fun _ => fun
  | [d] => { results := [.lit (.bool false)], args := [d] }
  | _ => none }
def FnWaitsWrongFalsely : Prop := fnWaitsRow.holds Try.pinned (OpenSpec.ofChange fnWaitsWrong)

/-- 'laws.FnExactBridgeOk': WHATEVER THE INPUT: true; the input reads as it did. -/
def fnExactBridgeOkSpec : ChangeSpec := { name := "fnExactBridgeOk", fn := fun _ => fun
  | [d] => { results := [.lit (.bool true)], args := [d] }
  | _ => none }
def fnExactBridgeOkRow : OpenClaim := { program := "ytbffdkjgadhdoaa", sum := "a5d3082b52b337720c42ce14bb2091ddf4ceb22df9f37f27d912b8aa90a016a3", func := "loop.example/g00470/laws.FnExactBridgeOk", spec := "fnExactBridgeOk", unfollowed := true, recurses := true, apart := false }
def FnExactBridgeOkSaid : Prop := fnExactBridgeOkRow.holds Try.pinned (OpenSpec.ofChange fnExactBridgeOkSpec)

/-- ITS FALSE NEIGHBOUR: 'it returns false'. Refute it at one input. -/
def fnExactBridgeOkWrong : ChangeSpec := { name := "fnExactBridgeOk", fn := fun _ => fun
  | [d] => { results := [.lit (.bool false)], args := [d] }
  | _ => none }
def FnExactBridgeOkWrongFalsely : Prop := fnExactBridgeOkRow.holds Try.pinned (OpenSpec.ofChange fnExactBridgeOkWrong)

/-- 'laws.FnExactBridgeNew': WHATEVER THE INPUT: true; the input reads as it did. -/
def fnExactBridgeNewSpec : ChangeSpec := { name := "fnExactBridgeNew", fn := fun _ => fun
  | [d1, d2] => { results := [.lit (.bool true)], args := [d1, d2] }
  | _ => none }
def fnExactBridgeNewRow : OpenClaim := { program := "ytbffdkjgadhdoaa", sum := "a5d3082b52b337720c42ce14bb2091ddf4ceb22df9f37f27d912b8aa90a016a3", func := "loop.example/g00470/laws.FnExactBridgeNew", spec := "fnExactBridgeNew", unfollowed := true, recurses := true, apart := false }
def FnExactBridgeNewSaid : Prop := fnExactBridgeNewRow.holds Try.pinned (OpenSpec.ofChange fnExactBridgeNewSpec)

/-- ITS FALSE NEIGHBOUR: 'it returns false'. Refute it at one input. -/
def fnExactBridgeNewWrong : ChangeSpec := { name := "fnExactBridgeNew", fn := fun _ => fun
  | [d1, d2] => { results := [.lit (.bool false)], args := [d1, d2] }
  | _ => none }
def FnExactBridgeNewWrongFalsely : Prop := fnExactBridgeNewRow.holds Try.pinned (OpenSpec.ofChange fnExactBridgeNewWrong)

/-- 'laws.FnExactRootPort': WHATEVER THE INPUT: true; the input reads as it did. -/
def fnExactRootPortSpec : ChangeSpec := { name := "fnExactRootPort", fn := fun _ => fun
  | [d] => { results := [.lit (.bool true)], args := [d] }
  | _ => none }
def fnExactRootPortRow : OpenClaim := { program := "ytbffdkjgadhdoaa", sum := "a5d3082b52b337720c42ce14bb2091ddf4ceb22df9f37f27d912b8aa90a016a3", func := "loop.example/g00470/laws.FnExactRootPort", spec := "fnExactRootPort", unfollowed := true, recurses := true, apart := false }
def FnExactRootPortSaid : Prop := fnExactRootPortRow.holds Try.pinned (OpenSpec.ofChange fnExactRootPortSpec)

/-- ITS FALSE NEIGHBOUR: 'it returns false'. Refute it at one input. -/
def fnExactRootPortWrong : ChangeSpec := { name := "fnExactRootPort", fn := fun _ => fun
  | [d] => { results := [.lit (.bool false)], args := [d] }
  | _ => none }
def FnExactRootPortWrongFalsely : Prop := fnExactRootPortRow.holds Try.pinned (OpenSpec.ofChange fnExactRootPortWrong)

/- THE SECOND FORM. 'bulk': how many values and letters a reading holds, each counted each time it is reached (what is shared counts as often as it is met; a slice's spare places count too). A statement '..UptoSaid' is the law's where the arguments, and the package variables that the reading takes, are together of bulk at most 1048576: NARROWER than '..Said'. Prove '..Said' where nothing that the law and all that it calls make is longer than what came in: it says more and counts as full. Else prove '..UptoSaid'. A law counts once. -/
mutual
def uptoBulk {H : Type} : DataW H → Nat
  | .lit (.string bytes) => bytes.length + 1
  | .lit _ => 1
  | .nil => 1
  | .ptr d => uptoBulk d + 1
  | .slice elems spare => uptoBulkAll elems + uptoBulkAll spare + 1
  | .agg parts => uptoBulkAll parts + 1
  | .iface _ d => uptoBulk d + 1
  | .map entries => uptoBulkEntries entries + 1
  | .held _ => 1
def uptoBulkAll {H : Type} : List (DataW H) → Nat
  | [] => 0
  | d :: r => uptoBulk d + uptoBulkAll r
def uptoBulkEntries {H : Type} : List (Lit × DataW H) → Nat
  | [] => 0
  | x :: r => uptoBulkEntry x + uptoBulkEntries r
def uptoBulkEntry {H : Type} : Lit × DataW H → Nat
  | (.string bytes, d) => bytes.length + uptoBulk d + 1
  | (_, d) => uptoBulk d + 1
 end
def uptoSmall : (H : Type) → List (DataW H) → Bool := fun _ ds => decide (uptoBulkAll ds ≤ 1048576)
def OpenSpec.upto (s : _root_.Go.ChangeSpec) : _root_.Go.OpenSpec := { _root_.Go.OpenSpec.ofChange s with cond := some uptoSmall }

/-- 'laws.FnRootPorts', WHERE WHAT IT READS IS OF BULK AT MOST 1048576: true; the input reads as it did. -/
def fnRootPortsUptoRow : OpenClaim := { program := "ytbffdkjgadhdoaa", sum := "a5d3082b52b337720c42ce14bb2091ddf4ceb22df9f37f27d912b8aa90a016a3", func := "loop.example/g00470/laws.FnRootPorts", spec := "fnRootPorts", unfollowed := true, recurses := true, apart := false, narrowed := true }
def FnRootPortsUptoSaid : Prop := fnRootPortsUptoRow.holds Try.pinned (OpenSpec.upto fnRootPortsSpec)

/-- 'laws.FnFades', WHERE WHAT IT READS IS OF BULK AT MOST 1048576: true; the input reads as it did. -/
def fnFadesUptoRow : OpenClaim := { program := "ytbffdkjgadhdoaa", sum := "a5d3082b52b337720c42ce14bb2091ddf4ceb22df9f37f27d912b8aa90a016a3", func := "loop.example/g00470/laws.FnFades", spec := "fnFades", unfollowed := true, recurses := true, apart := false, narrowed := true }
def FnFadesUptoSaid : Prop := fnFadesUptoRow.holds Try.pinned (OpenSpec.upto fnFadesSpec)

/-- 'laws.FnWaits', WHERE WHAT IT READS IS OF BULK AT MOST 1048576: true; the input reads as it did. -/
def fnWaitsUptoRow : OpenClaim := { program := "ytbffdkjgadhdoaa", sum := "a5d3082b52b337720c42ce14bb2091ddf4ceb22df9f37f27d912b8aa90a016a3", func := "loop.example/g00470/laws.FnWaits", spec := "fnWaits", unfollowed := true, recurses := true, apart := false, narrowed := true }
def FnWaitsUptoSaid : Prop := fnWaitsUptoRow.holds Try.pinned (OpenSpec.upto fnWaitsSpec)

/-- 'laws.FnExactBridgeOk', WHERE WHAT IT READS IS OF BULK AT MOST 1048576: true; the input reads as it did. -/
def fnExactBridgeOkUptoRow : OpenClaim := { program := "ytbffdkjgadhdoaa", sum := "a5d3082b52b337720c42ce14bb2091ddf4ceb22df9f37f27d912b8aa90a016a3", func := "loop.example/g00470/laws.FnExactBridgeOk", spec := "fnExactBridgeOk", unfollowed := true, recurses := true, apart := false, narrowed := true }
def FnExactBridgeOkUptoSaid : Prop := fnExactBridgeOkUptoRow.holds Try.pinned (OpenSpec.upto fnExactBridgeOkSpec)

/-- 'laws.FnExactBridgeNew', WHERE WHAT IT READS IS OF BULK AT MOST 1048576: true; the input reads as it did. -/
def fnExactBridgeNewUptoRow : OpenClaim := { program := "ytbffdkjgadhdoaa", sum := "a5d3082b52b337720c42ce14bb2091ddf4ceb22df9f37f27d912b8aa90a016a3", func := "loop.example/g00470/laws.FnExactBridgeNew", spec := "fnExactBridgeNew", unfollowed := true, recurses := true, apart := false, narrowed := true }
def FnExactBridgeNewUptoSaid : Prop := fnExactBridgeNewUptoRow.holds Try.pinned (OpenSpec.upto fnExactBridgeNewSpec)

/-- 'laws.FnExactRootPort', WHERE WHAT IT READS IS OF BULK AT MOST 1048576: true; the input reads as it did. -/
def fnExactRootPortUptoRow : OpenClaim := { program := "ytbffdkjgadhdoaa", sum := "a5d3082b52b337720c42ce14bb2091ddf4ceb22df9f37f27d912b8aa90a016a3", func := "loop.example/g00470/laws.FnExactRootPort", spec := "fnExactRootPort", unfollowed := true, recurses := true, apart := false, narrowed := true }
def FnExactRootPortUptoSaid : Prop := fnExactRootPortUptoRow.holds Try.pinned (OpenSpec.upto fnExactRootPortSpec)

end Rows
end Go.Proofs.Ytbffdkjgadhdoaa
