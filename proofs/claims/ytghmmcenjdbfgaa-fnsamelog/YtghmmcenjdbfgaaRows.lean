/-
  No cell of these rows narrows 'for every input' (looked for: loops, veiled, ifaces, maps, wideKeys, modest, calm, conditions, laid).
  DERIVED. THE GIVEN ROWS OF THIS SEAT. 6 by the template 'for every input the law returns true; each argument reads behind the call as it read before'; 0 by the template 'total and deterministic' (their statements: YtghmmcenjdbfgaaTotals.lean).
  GIVEN WITH THE SEED: the statements are not yours to turn. If you find one false, say at which input.
  Laid BY PROGRAM, IN A SANDBOX (cutbox-rows.mjs): the forced cells as the released guide's own fill.sh prints them over the translation 5091ae249a360928… (all of the seat's roots in one cut). By AI agents, Wed Nov 11 2026. No macro, syntax, notation, axiom, sorry.
-/
import Derived.Test.YtghmmcenjdbfgaaChecked
import GoSem.Claim
import GoSem.ClaimJoined
import GoSem.ClaimMapViews
import Derived.JoinedTies
import Derived.KernelRfl
namespace Go.Proofs.Ytghmmcenjdbfgaa
/- THE CELL 'sum', in the pinned program and in every row, IS THE sha256 OF THE DUMP (.gsa) THAT YtghmmcenjdbfgaaProg.lean LOADS. Nothing in Lean hashes anything: it is a label: what it is worth is what the hold of that sum in a sandbox is worth. -/
noncomputable def Try.pinned : Pinned := { name := "ytghmmcenjdbfgaa", sum := "5091ae249a36092833e91cb12b63cb4bb9ec119b9c792f9f3541b615b14b8171", checked := Try.checked }
namespace Rows
def none {H : Type} : Left H := { results := [], args := [] }

/-- 'laws.FnBridges': WHATEVER THE INPUT: true; the input reads as it did. -/
def fnBridgesSpec : ChangeSpec := { name := "fnBridges", fn := fun _ => fun
  | [d] => { results := [.lit (.bool true)], args := [d] }
  | _ => none }
def fnBridgesRow : OpenClaim := { program := "ytghmmcenjdbfgaa", sum := "5091ae249a36092833e91cb12b63cb4bb9ec119b9c792f9f3541b615b14b8171", func := "loop.example/g00470/laws.FnBridges", spec := "fnBridges", unfollowed := true, recurses := true, apart := false }
def FnBridgesSaid : Prop := fnBridgesRow.holds Try.pinned (OpenSpec.ofChange fnBridgesSpec)

/-- ITS FALSE NEIGHBOUR: 'it returns false'. Refute it at one input. -/
def fnBridgesWrong : ChangeSpec := { name := "fnBridges", fn := fun _ => fun
  | [d] => { results := [.lit (.bool false)], args := [d] }
  | _ => none }
def FnBridgesWrongFalsely : Prop := fnBridgesRow.holds Try.pinned (OpenSpec.ofChange fnBridgesWrong)

/-- 'laws.FnSameLog': WHATEVER THE INPUT: true; the input reads as it did. -/
def fnSameLogSpec : ChangeSpec := { name := "fnSameLog", fn := fun _ => fun
  | [d] => { results := [.lit (.bool true)], args := [d] }
  | _ => none }
def fnSameLogRow : OpenClaim := { program := "ytghmmcenjdbfgaa", sum := "5091ae249a36092833e91cb12b63cb4bb9ec119b9c792f9f3541b615b14b8171", func := "loop.example/g00470/laws.FnSameLog", spec := "fnSameLog", unfollowed := true, recurses := true, apart := false }
def FnSameLogSaid : Prop := fnSameLogRow.holds Try.pinned (OpenSpec.ofChange fnSameLogSpec)

/-- ITS FALSE NEIGHBOUR: 'it returns false'. Refute it at one input. -/
def fnSameLogWrong : ChangeSpec := { name := "fnSameLog", fn := fun _ => fun
  | [d] => { results := [.lit (.bool false)], args := [d] }
  | _ => none }
def FnSameLogWrongFalsely : Prop := fnSameLogRow.holds Try.pinned (OpenSpec.ofChange fnSameLogWrong)

/-- 'laws.FnMinders': WHATEVER THE INPUT: true; the input reads as it did. -/
def fnMindersSpec : ChangeSpec := { name := "fnMinders", fn := fun _ => fun
  | [d] => { results := [.lit (.bool true)], args := [d] }
  | _ => none }
def fnMindersRow : OpenClaim := { program := "ytghmmcenjdbfgaa", sum := "5091ae249a36092833e91cb12b63cb4bb9ec119b9c792f9f3541b615b14b8171", func := "loop.example/g00470/laws.FnMinders", spec := "fnMinders", unfollowed := true, recurses := true, apart := false }
def FnMindersSaid : Prop := fnMindersRow.holds Try.pinned (OpenSpec.ofChange fnMindersSpec)

/-- ITS FALSE NEIGHBOUR: 'it returns false'. Refute it at one input. -/
def fnMindersWrong : ChangeSpec := { name := "fnMinders", fn := fun _ => fun
  | [d] => { results := [.lit (.bool false)], args := [d] }
  | _ => none }
def FnMindersWrongFalsely : Prop := fnMindersRow.holds Try.pinned (OpenSpec.ofChange fnMindersWrong)

/-- 'laws.FnExactMinderOk': WHATEVER THE INPUT: true; the input reads as it did. -/
def fnExactMinderOkSpec : ChangeSpec := { name := "fnExactMinderOk", fn := fun _ => fun
  | [d] => { results := [.lit (.bool true)], args := [d] }
  | _ => none }
def fnExactMinderOkRow : OpenClaim := { program := "ytghmmcenjdbfgaa", sum := "5091ae249a36092833e91cb12b63cb4bb9ec119b9c792f9f3541b615b14b8171", func := "loop.example/g00470/laws.FnExactMinderOk", spec := "fnExactMinderOk", unfollowed := true, recurses := true, apart := false }
def FnExactMinderOkSaid : Prop := fnExactMinderOkRow.holds Try.pinned (OpenSpec.ofChange fnExactMinderOkSpec)

/-- ITS FALSE NEIGHBOUR: 'it returns false'. Refute it at one input. -/
def fnExactMinderOkWrong : ChangeSpec := { name := "fnExactMinderOk", fn := fun _ => fun
  | [d] => { results := [.lit (.bool false)], args := [d] }
  | _ => none }
def FnExactMinderOkWrongFalsely : Prop := fnExactMinderOkRow.holds Try.pinned (OpenSpec.ofChange fnExactMinderOkWrong)

/-- 'laws.FnExactBridgeOf': WHATEVER THE INPUT: true; the input reads as it did. -/
def fnExactBridgeOfSpec : ChangeSpec := { name := "fnExactBridgeOf", fn := fun _ => fun
  | [d1, d2, d3] => { results := [.lit (.bool true)], args := [d1, d2, d3] }
  | _ => none }
def fnExactBridgeOfRow : OpenClaim := { program := "ytghmmcenjdbfgaa", sum := "5091ae249a36092833e91cb12b63cb4bb9ec119b9c792f9f3541b615b14b8171", func := "loop.example/g00470/laws.FnExactBridgeOf", spec := "fnExactBridgeOf", unfollowed := true, recurses := true, apart := false }
def FnExactBridgeOfSaid : Prop := fnExactBridgeOfRow.holds Try.pinned (OpenSpec.ofChange fnExactBridgeOfSpec)

/-- ITS FALSE NEIGHBOUR: 'it returns false'. Refute it at one input. -/
def fnExactBridgeOfWrong : ChangeSpec := { name := "fnExactBridgeOf", fn := fun _ => fun
  | [d1, d2, d3] => { results := [.lit (.bool false)], args := [d1, d2, d3] }
  | _ => none }
def FnExactBridgeOfWrongFalsely : Prop := fnExactBridgeOfRow.holds Try.pinned (OpenSpec.ofChange fnExactBridgeOfWrong)

/-- 'laws.FnExactSaying': WHATEVER THE INPUT: true; the input reads as it did. -/
def fnExactSayingSpec : ChangeSpec := { name := "fnExactSaying", fn := fun _ => fun
  | [d1, d2, d3, d4] => { results := [.lit (.bool true)], args := [d1, d2, d3, d4] }
  | _ => none }
def fnExactSayingRow : OpenClaim := { program := "ytghmmcenjdbfgaa", sum := "5091ae249a36092833e91cb12b63cb4bb9ec119b9c792f9f3541b615b14b8171", func := "loop.example/g00470/laws.FnExactSaying", spec := "fnExactSaying", unfollowed := true, recurses := true, apart := false }
def FnExactSayingSaid : Prop := fnExactSayingRow.holds Try.pinned (OpenSpec.ofChange fnExactSayingSpec)

/-- ITS FALSE NEIGHBOUR: 'it returns false'. Refute it at one input. -/
def fnExactSayingWrong : ChangeSpec := { name := "fnExactSaying", fn := fun _ => fun
  | [d1, d2, d3, d4] => { results := [.lit (.bool false)], args := [d1, d2, d3, d4] }
  | _ => none }
def FnExactSayingWrongFalsely : Prop := fnExactSayingRow.holds Try.pinned (OpenSpec.ofChange fnExactSayingWrong)

/- THE SECOND FORM. 'bulk': how many values and letters a reading holds, each counted each time it is reached (what is shared counts as often as it is met; a slice's spare places count too). A statement '..UptoSaid' is the law's where the arguments, and the package variables that the reading takes, are together of bulk at most 1048576: NARROWER than '..Said'. Prove '..Said' where nothing that the law and all that it calls make is longer than what came in: it says more and counts as full. Else prove '..UptoSaid'. A law counts once. -/
mutual
def uptoBulk {H : Type} : DataW H → Nat
  | .lit (.string bytes) => bytes.length + 1
  | .lit _ => 1
  | .nil => 1
  | .ptr d => uptoBulk d + 1
  | .slice elems spare => uptoBulkAll elems + uptoBulkAll spare + 1
  | .agg parts => uptoBulkAll parts + 1
  | .iface _ d => uptoBulk d + 1
  | .map entries => uptoBulkEntries entries + 1
  | .held _ => 1
def uptoBulkAll {H : Type} : List (DataW H) → Nat
  | [] => 0
  | d :: r => uptoBulk d + uptoBulkAll r
def uptoBulkEntries {H : Type} : List (Lit × DataW H) → Nat
  | [] => 0
  | x :: r => uptoBulkEntry x + uptoBulkEntries r
def uptoBulkEntry {H : Type} : Lit × DataW H → Nat
  | (.string bytes, d) => bytes.length + uptoBulk d + 1
  | (_, d) => uptoBulk d + 1
 end
def uptoSmall : (H : Type) → List (DataW H) → Bool := fun _ ds => decide (uptoBulkAll ds ≤ 1048576)
def OpenSpec.upto (s : _root_.Go.ChangeSpec) : _root_.Go.OpenSpec := { _root_.Go.OpenSpec.ofChange s with cond := some uptoSmall }

/-- 'laws.FnBridges', WHERE WHAT IT READS IS OF BULK AT MOST 1048576: true; the input reads as it did. -/
def fnBridgesUptoRow : OpenClaim := { program := "ytghmmcenjdbfgaa", sum := "5091ae249a36092833e91cb12b63cb4bb9ec119b9c792f9f3541b615b14b8171", func := "loop.example/g00470/laws.FnBridges", spec := "fnBridges", unfollowed := true, recurses := true, apart := false, narrowed := true }
def FnBridgesUptoSaid : Prop := fnBridgesUptoRow.holds Try.pinned (OpenSpec.upto fnBridgesSpec)

/-- 'laws.FnSameLog', WHERE WHAT IT READS IS OF BULK AT MOST 1048576: true; the input reads as it did. -/
def fnSameLogUptoRow : OpenClaim := { program := "ytghmmcenjdbfgaa", sum := "5091ae249a36092833e91cb12b63cb4bb9ec119b9c792f9f3541b615b14b8171", func := "loop.example/g00470/laws.FnSameLog", spec := "fnSameLog", unfollowed := true, recurses := true, apart := false, narrowed := true }
def FnSameLogUptoSaid : Prop := fnSameLogUptoRow.holds Try.pinned (OpenSpec.upto fnSameLogSpec)

/-- 'laws.FnMinders', WHERE WHAT IT READS IS OF BULK AT MOST 1048576: true; the input reads as it did. -/
def fnMindersUptoRow : OpenClaim := { program := "ytghmmcenjdbfgaa", sum := "5091ae249a36092833e91cb12b63cb4bb9ec119b9c792f9f3541b615b14b8171", func := "loop.example/g00470/laws.FnMinders", spec := "fnMinders", unfollowed := true, recurses := true, apart := false, narrowed := true }
def FnMindersUptoSaid : Prop := fnMindersUptoRow.holds Try.pinned (OpenSpec.upto fnMindersSpec)

/-- 'laws.FnExactMinderOk', WHERE WHAT IT READS IS OF BULK AT MOST 1048576: true; the input reads as it did. -/
def fnExactMinderOkUptoRow : OpenClaim := { program := "ytghmmcenjdbfgaa", sum := "5091ae249a36092833e91cb12b63cb4bb9ec119b9c792f9f3541b615b14b8171", func := "loop.example/g00470/laws.FnExactMinderOk", spec := "fnExactMinderOk", unfollowed := true, recurses := true, apart := false, narrowed := true }
def FnExactMinderOkUptoSaid : Prop := fnExactMinderOkUptoRow.holds Try.pinned (OpenSpec.upto fnExactMinderOkSpec)

/-- 'laws.FnExactBridgeOf', WHERE WHAT IT READS IS OF BULK AT MOST 1048576: true; the input reads as it did. -/
def fnExactBridgeOfUptoRow : OpenClaim := { program := "ytghmmcenjdbfgaa", sum := "5091ae249a36092833e91cb12b63cb4bb9ec119b9c792f9f3541b615b14b8171", func := "loop.example/g00470/laws.FnExactBridgeOf", spec := "fnExactBridgeOf", unfollowed := true, recurses := true, apart := false, narrowed := true }
def FnExactBridgeOfUptoSaid : Prop := fnExactBridgeOfUptoRow.holds Try.pinned (OpenSpec.upto fnExactBridgeOfSpec)

/-- 'laws.FnExactSaying', WHERE WHAT IT READS IS OF BULK AT MOST 1048576: true; the input reads as it did. -/
def fnExactSayingUptoRow : OpenClaim := { program := "ytghmmcenjdbfgaa", sum := "5091ae249a36092833e91cb12b63cb4bb9ec119b9c792f9f3541b615b14b8171", func := "loop.example/g00470/laws.FnExactSaying", spec := "fnExactSaying", unfollowed := true, recurses := true, apart := false, narrowed := true }
def FnExactSayingUptoSaid : Prop := fnExactSayingUptoRow.holds Try.pinned (OpenSpec.upto fnExactSayingSpec)

end Rows
end Go.Proofs.Ytghmmcenjdbfgaa
