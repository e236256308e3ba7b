/-
  No cell of these rows narrows 'for every input' (looked for: loops, veiled, ifaces, maps, wideKeys, modest, calm, conditions, laid).
  DERIVED. THE GIVEN ROWS OF THIS SEAT. 6 by the template 'for every input the law returns true; each argument reads behind the call as it read before'; 0 by the template 'total and deterministic' (their statements: YtlgcjhebbmejaaaTotals.lean).
  GIVEN WITH THE SEED: the statements are not yours to turn. If you find one false, say at which input.
  Laid BY PROGRAM, IN A SANDBOX (cutbox-rows.mjs): the forced cells as the released guide's own fill.sh prints them over the translation a036ee6a2fcb22af… (all of the seat's roots in one cut). By AI agents, Wed Nov 11 2026. No macro, syntax, notation, axiom, sorry.
-/
import Derived.Test.YtlgcjhebbmejaaaChecked
import GoSem.Claim
import GoSem.ClaimJoined
import GoSem.ClaimMapViews
import Derived.JoinedTies
import Derived.KernelRfl
namespace Go.Proofs.Ytlgcjhebbmejaaa
/- THE CELL 'sum', in the pinned program and in every row, IS THE sha256 OF THE DUMP (.gsa) THAT YtlgcjhebbmejaaaProg.lean LOADS. Nothing in Lean hashes anything: it is a label: what it is worth is what the hold of that sum in a sandbox is worth. -/
noncomputable def Try.pinned : Pinned := { name := "ytlgcjhebbmejaaa", sum := "a036ee6a2fcb22af3d92c7eb8c4fdb70c63aee9d26f40587aac5c93f597c5a2d", checked := Try.checked }
namespace Rows
def none {H : Type} : Left H := { results := [], args := [] }

/-- 'laws.FnBpdus': WHATEVER THE INPUT: true; the input reads as it did. -/
def fnBpdusSpec : ChangeSpec := { name := "fnBpdus", fn := fun _ => fun
  | [d] => { results := [.lit (.bool true)], args := [d] }
  | _ => none }
def fnBpdusRow : OpenClaim := { program := "ytlgcjhebbmejaaa", sum := "a036ee6a2fcb22af3d92c7eb8c4fdb70c63aee9d26f40587aac5c93f597c5a2d", func := "loop.example/g00470/laws.FnBpdus", spec := "fnBpdus", unfollowed := true, recurses := true, apart := false }
def FnBpdusSaid : Prop := fnBpdusRow.holds Try.pinned (OpenSpec.ofChange fnBpdusSpec)

/-- ITS FALSE NEIGHBOUR: 'it returns false'. Refute it at one input. -/
def fnBpdusWrong : ChangeSpec := { name := "fnBpdus", fn := fun _ => fun
  | [d] => { results := [.lit (.bool false)], args := [d] }
  | _ => none }
def FnBpdusWrongFalsely : Prop := fnBpdusRow.holds Try.pinned (OpenSpec.ofChange fnBpdusWrong)

/-- 'laws.FnExactBpduOk': WHATEVER THE INPUT: true; the input reads as it did. -/
def fnExactBpduOkSpec : ChangeSpec := { name := "fnExactBpduOk", fn := fun _ => fun
  | [d] => { results := [.lit (.bool true)], args := [d] }
  | _ => none }
def fnExactBpduOkRow : OpenClaim := { program := "ytlgcjhebbmejaaa", sum := "a036ee6a2fcb22af3d92c7eb8c4fdb70c63aee9d26f40587aac5c93f597c5a2d", func := "loop.example/g00470/laws.FnExactBpduOk", spec := "fnExactBpduOk", apart := false }
def FnExactBpduOkSaid : Prop := fnExactBpduOkRow.holds Try.pinned (OpenSpec.ofChange fnExactBpduOkSpec)

/-- ITS FALSE NEIGHBOUR: 'it returns false'. Refute it at one input. -/
def fnExactBpduOkWrong : ChangeSpec := { name := "fnExactBpduOk", fn := fun _ => fun
  | [d] => { results := [.lit (.bool false)], args := [d] }
  | _ => none }
def FnExactBpduOkWrongFalsely : Prop := fnExactBpduOkRow.holds Try.pinned (OpenSpec.ofChange fnExactBpduOkWrong)

/-- 'laws.FnExactFlagsOf': WHATEVER THE INPUT: true; the input reads as it did. -/
def fnExactFlagsOfSpec : ChangeSpec := { name := "fnExactFlagsOf", fn := fun _ => fun
  | [d] => { results := [.lit (.bool true)], args := [d] }
  | _ => none }
def fnExactFlagsOfRow : OpenClaim := { program := "ytlgcjhebbmejaaa", sum := "a036ee6a2fcb22af3d92c7eb8c4fdb70c63aee9d26f40587aac5c93f597c5a2d", func := "loop.example/g00470/laws.FnExactFlagsOf", spec := "fnExactFlagsOf", unfollowed := true, recurses := true, apart := false }
def FnExactFlagsOfSaid : Prop := fnExactFlagsOfRow.holds Try.pinned (OpenSpec.ofChange fnExactFlagsOfSpec)

/-- ITS FALSE NEIGHBOUR: 'it returns false'. Refute it at one input. -/
def fnExactFlagsOfWrong : ChangeSpec := { name := "fnExactFlagsOf", fn := fun _ => fun
  | [d] => { results := [.lit (.bool false)], args := [d] }
  | _ => none }
def FnExactFlagsOfWrongFalsely : Prop := fnExactFlagsOfRow.holds Try.pinned (OpenSpec.ofChange fnExactFlagsOfWrong)

/-- 'laws.FnExactBpduBytes': WHATEVER THE INPUT: true; the input reads as it did. -/
def fnExactBpduBytesSpec : ChangeSpec := { name := "fnExactBpduBytes", fn := fun _ => fun
  | [d] => { results := [.lit (.bool true)], args := [d] }
  | _ => none }
def fnExactBpduBytesRow : OpenClaim := { program := "ytlgcjhebbmejaaa", sum := "a036ee6a2fcb22af3d92c7eb8c4fdb70c63aee9d26f40587aac5c93f597c5a2d", func := "loop.example/g00470/laws.FnExactBpduBytes", spec := "fnExactBpduBytes", unfollowed := true, recurses := true, apart := false }
def FnExactBpduBytesSaid : Prop := fnExactBpduBytesRow.holds Try.pinned (OpenSpec.ofChange fnExactBpduBytesSpec)

/-- ITS FALSE NEIGHBOUR: 'it returns false'. Refute it at one input. -/
def fnExactBpduBytesWrong : ChangeSpec := { name := "fnExactBpduBytes", fn := fun _ => fun
  | [d] => { results := [.lit (.bool false)], args := [d] }
  | _ => none }
def FnExactBpduBytesWrongFalsely : Prop := fnExactBpduBytesRow.holds Try.pinned (OpenSpec.ofChange fnExactBpduBytesWrong)

/-- 'laws.FnExactBpduOf': WHATEVER THE INPUT: true; the input reads as it did. -/
def fnExactBpduOfSpec : ChangeSpec := { name := "fnExactBpduOf", fn := fun _ => fun
  | [d] => { results := [.lit (.bool true)], args := [d] }
  | _ => none }
def fnExactBpduOfRow : OpenClaim := { program := "ytlgcjhebbmejaaa", sum := "a036ee6a2fcb22af3d92c7eb8c4fdb70c63aee9d26f40587aac5c93f597c5a2d", func := "loop.example/g00470/laws.FnExactBpduOf", spec := "fnExactBpduOf", unfollowed := true, recurses := true, apart := false }
def FnExactBpduOfSaid : Prop := fnExactBpduOfRow.holds Try.pinned (OpenSpec.ofChange fnExactBpduOfSpec)

/-- ITS FALSE NEIGHBOUR: 'it returns false'. Refute it at one input. -/
def fnExactBpduOfWrong : ChangeSpec := { name := "fnExactBpduOf", fn := fun _ => fun
  | [d] => { results := [.lit (.bool false)], args := [d] }
  | _ => none }
def FnExactBpduOfWrongFalsely : Prop := fnExactBpduOfRow.holds Try.pinned (OpenSpec.ofChange fnExactBpduOfWrong)

/-- 'laws.FnExactClaimIn': WHATEVER THE INPUT: true; the input reads as it did. -/
def fnExactClaimInSpec : ChangeSpec := { name := "fnExactClaimIn", fn := fun _ => fun
  | [d1, d2] => { results := [.lit (.bool true)], args := [d1, d2] }
  | _ => none }
def fnExactClaimInRow : OpenClaim := { program := "ytlgcjhebbmejaaa", sum := "a036ee6a2fcb22af3d92c7eb8c4fdb70c63aee9d26f40587aac5c93f597c5a2d", func := "loop.example/g00470/laws.FnExactClaimIn", spec := "fnExactClaimIn", unfollowed := true, recurses := true, apart := false }
def FnExactClaimInSaid : Prop := fnExactClaimInRow.holds Try.pinned (OpenSpec.ofChange fnExactClaimInSpec)

/-- ITS FALSE NEIGHBOUR: 'it returns false'. Refute it at one input. -/
def fnExactClaimInWrong : ChangeSpec := { name := "fnExactClaimIn", fn := fun _ => fun
  | [d1, d2] => { results := [.lit (.bool false)], args := [d1, d2] }
  | _ => none }
def FnExactClaimInWrongFalsely : Prop := fnExactClaimInRow.holds Try.pinned (OpenSpec.ofChange fnExactClaimInWrong)

/- THE SECOND FORM. 'bulk': how many values and letters a reading holds, each counted each time it is reached (what is shared counts as often as it is met; a slice's spare places count too). A statement '..UptoSaid' is the law's where the arguments, and the package variables that the reading takes, are together of bulk at most 1048576: NARROWER than '..Said'. Prove '..Said' where nothing that the law and all that it calls make is longer than what came in: it says more and counts as full. Else prove '..UptoSaid'. A law counts once. -/
mutual
def uptoBulk {H : Type} : DataW H → Nat
  | .lit (.string bytes) => bytes.length + 1
  | .lit _ => 1
  | .nil => 1
  | .ptr d => uptoBulk d + 1
  | .slice elems spare => uptoBulkAll elems + uptoBulkAll spare + 1
  | .agg parts => uptoBulkAll parts + 1
  | .iface _ d => uptoBulk d + 1
  | .map entries => uptoBulkEntries entries + 1
  | .held _ => 1
def uptoBulkAll {H : Type} : List (DataW H) → Nat
  | [] => 0
  | d :: r => uptoBulk d + uptoBulkAll r
def uptoBulkEntries {H : Type} : List (Lit × DataW H) → Nat
  | [] => 0
  | x :: r => uptoBulkEntry x + uptoBulkEntries r
def uptoBulkEntry {H : Type} : Lit × DataW H → Nat
  | (.string bytes, d) => bytes.length + uptoBulk d + 1
  | (_, d) => uptoBulk d + 1
 end
def uptoSmall : (H : Type) → List (DataW H) → Bool := fun _ ds => decide (uptoBulkAll ds ≤ 1048576)
def OpenSpec.upto (s : _root_.Go.ChangeSpec) : _root_.Go.OpenSpec := { _root_.Go.OpenSpec.ofChange s with cond := some uptoSmall }

/-- 'laws.FnBpdus', WHERE WHAT IT READS IS OF BULK AT MOST 1048576: true; the input reads as it did. -/
def fnBpdusUptoRow : OpenClaim := { program := "ytlgcjhebbmejaaa", sum := "a036ee6a2fcb22af3d92c7eb8c4fdb70c63aee9d26f40587aac5c93f597c5a2d", func := "loop.example/g00470/laws.FnBpdus", spec := "fnBpdus", unfollowed := true, recurses := true, apart := false, narrowed := true }
def FnBpdusUptoSaid : Prop := fnBpdusUptoRow.holds Try.pinned (OpenSpec.upto fnBpdusSpec)

/-- 'laws.FnExactBpduOk', WHERE WHAT IT READS IS OF BULK AT MOST 1048576: true; the input reads as it did. -/
def fnExactBpduOkUptoRow : OpenClaim := { program := "ytlgcjhebbmejaaa", sum := "a036ee6a2fcb22af3d92c7eb8c4fdb70c63aee9d26f40587aac5c93f597c5a2d", func := "loop.example/g00470/laws.FnExactBpduOk", spec := "fnExactBpduOk", apart := false, narrowed := true }
def FnExactBpduOkUptoSaid : Prop := fnExactBpduOkUptoRow.holds Try.pinned (OpenSpec.upto fnExactBpduOkSpec)

/-- 'laws.FnExactFlagsOf', WHERE WHAT IT READS IS OF BULK AT MOST 1048576: true; the input reads as it did. -/
def fnExactFlagsOfUptoRow : OpenClaim := { program := "ytlgcjhebbmejaaa", sum := "a036ee6a2fcb22af3d92c7eb8c4fdb70c63aee9d26f40587aac5c93f597c5a2d", func := "loop.example/g00470/laws.FnExactFlagsOf", spec := "fnExactFlagsOf", unfollowed := true, recurses := true, apart := false, narrowed := true }
def FnExactFlagsOfUptoSaid : Prop := fnExactFlagsOfUptoRow.holds Try.pinned (OpenSpec.upto fnExactFlagsOfSpec)

/-- 'laws.FnExactBpduBytes', WHERE WHAT IT READS IS OF BULK AT MOST 1048576: true; the input reads as it did. -/
def fnExactBpduBytesUptoRow : OpenClaim := { program := "ytlgcjhebbmejaaa", sum := "a036ee6a2fcb22af3d92c7eb8c4fdb70c63aee9d26f40587aac5c93f597c5a2d", func := "loop.example/g00470/laws.FnExactBpduBytes", spec := "fnExactBpduBytes", unfollowed := true, recurses := true, apart := false, narrowed := true }
def FnExactBpduBytesUptoSaid : Prop := fnExactBpduBytesUptoRow.holds Try.pinned (OpenSpec.upto fnExactBpduBytesSpec)

/-- 'laws.FnExactBpduOf', WHERE WHAT IT READS IS OF BULK AT MOST 1048576: true; the input reads as it did. -/
def fnExactBpduOfUptoRow : OpenClaim := { program := "ytlgcjhebbmejaaa", sum := "a036ee6a2fcb22af3d92c7eb8c4fdb70c63aee9d26f40587aac5c93f597c5a2d", func := "loop.example/g00470/laws.FnExactBpduOf", spec := "fnExactBpduOf", unfollowed := true, recurses := true, apart := false, narrowed := true }
def FnExactBpduOfUptoSaid : Prop := fnExactBpduOfUptoRow.holds Try.pinned (OpenSpec.upto fnExactBpduOfSpec)

/-- 'laws.FnExactClaimIn', WHERE WHAT IT READS IS OF BULK AT MOST 1048576: true; the input reads as it did. -/
def fnExactClaimInUptoRow : OpenClaim := { program := "ytlgcjhebbmejaaa", sum := "a036ee6a2fcb22af3d92c7eb8c4fdb70c63aee9d26f40587aac5c93f597c5a2d", func := "loop.example/g00470/laws.FnExactClaimIn", spec := "fnExactClaimIn", unfollowed := true, recurses := true, apart := false, narrowed := true }
def FnExactClaimInUptoSaid : Prop := fnExactClaimInUptoRow.holds Try.pinned (OpenSpec.upto fnExactClaimInSpec)

end Rows
end Go.Proofs.Ytlgcjhebbmejaaa
