import Derived.Test.YtjmnaeeknomiaaaGreatRKWBr5
namespace Go.Proofs.YtjmnaeeknomiaaaGreat
open Go.ChangeShapes Go.WideShapes Go.ChangeAt Go.RowKit
open Go.ChangeMaps (open_string shut_string)
set_option linter.unusedVariables false
set_option maxRecDepth 100000
set_option maxHeartbeats 32000000
set_option linter.unusedSimpArgs false
open Go.Proofs.Tryz
attribute [local go_sem] ji ja
structure Ek (w : World) (q : Nat) (r c b p : Int) : Prop where
 at_ : EC w q r c b p
 fr : ∀ i, w.frozen? (ja q i) = false
theorem Ek.lt {w : World} {q : Nat} {r c b p : Int} (h : Ek w q r c b p) : q < w.heap.size := World.block_lt_of_cell? w _ h.at_.1
theorem Ek.below {w w' : World} {q n : Nat} {r c b p : Int} (h : Ek w q r c b p) (k : Below n w w') (hq : q < n) : Ek w' q r c b p :=
 ⟨h.at_.below k hq, fun i => (World.frozen?_of_block (a := (ja q i)) (k.block q hq)).trans (h.fr i)⟩
end Go.Proofs.YtjmnaeeknomiaaaGreat
