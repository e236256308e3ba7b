/- Marks upon frames that may have no load. -/
import Derived.Test.YtpdlliehdmeboaaDoorRows
import Derived.WalkKit
import Derived.ProofKit
import Derived.OpenShut
import Derived.ShutString
import Derived.ChangeOld
import Derived.Below
import Derived.Deep.QuietTactic
import Derived.BigQuiet
import Derived.WalkSmall
import Derived.Laws.OwnMore
import Derived.WalkSpells
import Derived.WalkLawsBesides
import Derived.Test.YtpdlliehdmeboaaDoorFrame11
namespace Go.Proofs.YtpdlliehdmeboaaDoor
open Go.ChangeShapes Go.WideShapes Go.ChangeAt Go.RowKit
open Go.ChangeMaps (open_string shut_string)
set_option linter.unusedVariables false

/-- All blocks but that of 'ad' are as they were. -/
def Kept (ad : Option Addr) (w w' : World) : Prop := ∃ r, w.grownBy w' r ∧ ∀ g, r = some g → ∃ x, ad = some x ∧ x.block = g
theorem Kept.below {ad : Option Addr} {w w' : World} {B : Nat} (h : Kept ad w w') (hB : ∀ x, ad = some x → B ≤ x.block) (hs : B ≤ w.heap.size) : Below B w w' := by
  obtain ⟨r, g, hr⟩ := h
  refine ⟨g.os, g.tape, g.output, g.size, fun k hk => g.block k (by omega) ?_⟩
  intro e
  obtain ⟨x, hx, e2⟩ := hr k e.symm
  have := hB x hx
  omega
theorem Kept.block {ad : Option Addr} {w w' : World} {k : Nat} (h : Kept ad w w') (hk : k < w.heap.size) (hne : ∀ x, ad = some x → x.block ≠ k) : w'.heap[k]? = w.heap[k]? := by
  obtain ⟨r, g, hr⟩ := h
  refine g.block k hk ?_
  intro e
  obtain ⟨x, hx, e2⟩ := hr k e.symm
  exact hne x hx e2
theorem FrameAt.same {w w' : World} {p : Nat} {a b c : Int} {ad : Option Addr} {len cap : Nat} (h : FrameAt w p a b c ad len cap) (e : w'.heap[p]? = w.heap[p]?) : FrameAt w' p a b c ad len cap :=
  ⟨(World.cell?_of_block (a := ⟨p, 0, none⟩) e).trans h.1, (World.cell?_of_block (a := ⟨p, 1, none⟩) e).trans h.2.1, (World.cell?_of_block (a := ⟨p, 2, none⟩) e).trans h.2.2.1, (World.cell?_of_block (a := ⟨p, 3, none⟩) e).trans h.2.2.2⟩
theorem mark_kept {w w' : World} {ad : Option Addr} {len : Nat} (h : w' = w ∨ ∃ a, ad = some a ∧ 0 < len ∧ w.grownBy w' (some a.block)) : Kept ad w w' := by
  rcases h with rfl | ⟨a, e, _, hg⟩
  · exact ⟨none, ⟨rfl, rfl, rfl, Nat.le_refl _, fun _ _ _ => rfl⟩, fun g h => by cases h⟩
  · exact ⟨_, hg, fun g h => ⟨a, e, by simpa using h⟩⟩
theorem kept_after {ad : Option Addr} {w x w' : World} (b : Below w.heap.size w x) (h : Kept ad x w') : Kept ad w w' := by
  obtain ⟨r, g, hr⟩ := h
  exact ⟨r, ⟨g.os.trans b.os, g.tape.trans b.tape, g.output.trans b.output, Nat.le_trans b.size g.size, fun j hj hne => (g.block j (Nat.lt_of_lt_of_le hj b.size) hne).trans (b.block j hj)⟩, hr⟩
theorem Room.lt {w : World} {ad : Option Addr} {len : Nat} (h : Room w ad len) (x : Addr) (e : ad = some x) (hp : 0 < len) : x.block < w.heap.size := by
  obtain ⟨b, off, e', hc⟩ := h hp
  rw [e] at e'
  cases e'
  obtain ⟨u, hu⟩ := (hc 0 hp).1
  exact World.block_lt_of_cell? w _ hu
set_option maxHeartbeats 400000 in
theorem markF2 (a b c : Int) (ad : Option Addr) (len cap : Nat) (w : World) (hr : Room w ad len) (hl : len ≤ 1048576) :
    Calls Tryd.prog 21 #[.agg #[.int .i64 a, .int .i64 b, .int .i64 c, .slice ad len cap], .int .i64 1] w fun e w' => e = .returned (.int .i64 (1 + len)) ∧ Kept ad w w' ∧ View w' ad len (fun i => (1 + i) % 256) := by
  go_enter Tryd.func21, Tryd.ntmps21
  go_wp2_with fail
  go_at_call 20
  obtain ⟨x, hx⟩ : ∃ x, x = w.alloc (Obj.cells #[.int .i64 a, .int .i64 b, .int .i64 c, .slice ad len cap] 25) := ⟨_, rfl⟩
  have B0 : Below w.heap.size w x := by rw [hx]; exact below_box w _
  rw [← hx]
  clear hx
  refine (markBytes ad len cap 1 x (hr.carry (fun y h hp => B0.block _ (hr.lt y h hp))) hl (by omega) (by omega)).mono ?_
  rintro e w1 ⟨rfl, v1, _, h1⟩
  have h2 := kept_after B0 (mark_kept h1)
  go_wp2
  go_ret
  exact ⟨rfl, h2, v1⟩
set_option maxHeartbeats 400000 in
theorem heldF (a b c : Int) (ad : Option Addr) (len cap : Nat) (w : World) (hv : View w ad len (fun i => (1 + i) % 256)) (hl : len ≤ 1048576) :
    Calls Tryd.prog 22 #[.agg #[.int .i64 a, .int .i64 b, .int .i64 c, .slice ad len cap], .int .i64 1] w fun e w' => e = .returned (.int .i64 (1 + len)) ∧ Below w.heap.size w w' := by
  go_enter Tryd.func22, Tryd.ntmps22
  go_wp2_with fail
  go_at_call 38
  obtain ⟨x, hx⟩ : ∃ x, x = w.alloc (Obj.cells #[.int .i64 a, .int .i64 b, .int .i64 c, .slice ad len cap] 25) := ⟨_, rfl⟩
  have B0 : Below w.heap.size w x := by rw [hx]; exact below_box w _
  rw [← hx]
  clear hx
  refine (heldBytes ad len cap 1 x (hv.carry (fun y h hp => B0.block _ (hv.lt y h hp))) hl (by omega) (by omega)).mono ?_
  rintro e w1 ⟨rfl, h1⟩
  rw [h1]
  clear h1 w1
  have hk : 0 ≤ 1 + (len : Int) := by omega
  go_wp2
  go_ret
  exact ⟨rfl, B0⟩
theorem frameOf_len (L : List Int) : (frameOf L).M.length ≤ L.length := by
  rcases of_ways L with ⟨_, e⟩ | ⟨_, _, _, _, _, _, _, e⟩ | ⟨p, q, _, _, _, e⟩
  · rw [e]; exact Nat.zero_le _
  · rw [e]; exact Nat.zero_le _
  · rw [e]
    split
    · show ((L.drop p).take q).length ≤ _
      simp; omega
    · exact Nat.zero_le _

end Go.Proofs.YtpdlliehdmeboaaDoor
