/- Nets: how they come in. -/
import Derived.Test.YtdfjfodfnildiabRows
import Derived.WalkKit
import Derived.ProofKit
import Derived.OpenShut
import Derived.ShutString
import Derived.ChangeOld
import Derived.Below
import Derived.Deep.QuietTactic
import Derived.BigQuiet
import Derived.WalkSmall
import Derived.Laws.OwnMore
import Derived.WalkSpells
import Derived.WalkLawsBesides
import Derived.Lib.SmallJoins
import Derived.Test.YtdfjfodfnildiabNb1
import Derived.Test.YtdfjfodfnildiabLk1
namespace Go.Proofs.Ytdfjfodfnildiab
open Go.ChangeShapes Go.WideShapes Go.ChangeAt Go.RowKit
open Go.ChangeMaps (open_string shut_string)
set_option linter.unusedVariables false
set_option maxRecDepth 100000

/-- A box of two cells. -/
structure NeAt (w : World) (q : Nat) (v0 v1 : Value) : Prop where
  c0 : w.cell? ⟨q, 0, none⟩ = some v0
  c1 : w.cell? ⟨q, 1, none⟩ = some v1
theorem NeAt.keep {w w' : World} {q : Nat} {v0 v1 : Value} (h : NeAt w q v0 v1) (k : w'.heap[q]? = w.heap[q]?) : NeAt w' q v0 v1 :=
  ⟨(World.cell?_of_block (a := ⟨q, 0, none⟩) k).trans h.c0, (World.cell?_of_block (a := ⟨q, 1, none⟩) k).trans h.c1⟩
theorem NeAt.below {w w' : World} {q n : Nat} {v0 v1 : Value} (h : NeAt w q v0 v1) (k : Below n w w') (hq : q < n) : NeAt w' q v0 v1 := h.keep (k.block q hq)
theorem NeAt.lt {w : World} {q : Nat} {v0 v1 : Value} (h : NeAt w q v0 v1) : q < w.heap.size := World.block_lt_of_cell? w _ h.c0
theorem NeAt.new (w : World) (t : TypeId) {v0 v1 : Value} : NeAt (w.alloc (Obj.cells #[v0, v1] t)) w.heap.size v0 v1 := by
  refine ⟨?_, ?_⟩ <;> simp [go_sem]
/-- What is known of a net that comes in. -/
structure NetIn (w : World) (adB : Option Addr) (capB : Nat) (Bs : List Bd) (adK : Option Addr) (capK : Nat) (K : List Lk) : Prop where
  lb : Bs.length ≤ maxLen
  vb : NV w adB Bs
  ls : ∀ i, i < Bs.length → (Bs.getD i Bd.nil).L.length ≤ maxLen
  nb : adB = none → capB = 0
  lk : K.length ≤ maxLen
  vk : FView lkEnc w adK K
  nk : adK = none → capK = 0
set_option maxRecDepth 100000 in
theorem netIn_open {H : Type} {enc : TypeId × Value → H} {w : World} {r : Reach} {b0 : Nat} {v : Value} {d : DataW H} {p : List MemPlace} (hv : Value.okWide Try.prog w r b0 25 v) (h : DataW.Trod enc Try.prog w 0 (fun _ => true) true 25 v d p) :
    ∃ adB capB Bs adK capK K, v = .agg #[.slice adB (List.length Bs) capB, .slice adK (List.length K) capK] ∧ NetIn w adB capB Bs adK capK K := by
  obtain ⟨v0, v1, y0, y1, n, rfl, _, _, h0, h1⟩ := Go.Joins.open_agg2 Try.underlying25 (by kernel_rfl) (by kernel_rfl) hv h
  obtain ⟨adB, capB, Bs, rfl, m1, m2, m3, m4⟩ := bdRow_open h0
  obtain ⟨adK, capK, K, rfl, k1, k2, k3⟩ := lkRow_open h1
  exact ⟨adB, capB, Bs, adK, capK, K, rfl, m1, m2, m3, m4, k1, k2, k3⟩
set_option maxHeartbeats 1000000 in
theorem neSz (adB : Option Addr) (capB : Nat) (Bs : List Bd) (adK : Option Addr) (capK : Nat) (K : List Lk) (l : Int) (w : World) (I : NetIn w adB capB Bs adK capK K) (h0 : 0 ≤ l) (h1 : l ≤ 1048576) :
    Calls Try.prog 6 #[.agg #[.slice adB Bs.length capB, .slice adK K.length capK], .int .i64 l] w fun e w' => (∃ r : Int, e = .returned (.int .i64 r) ∧ r ≤ 1048576 ∧ (0 ≤ r → Bs.length ≤ 1048576 ∧ lTo Bs Bs.length ≤ 1048576 ∧ K.length ≤ 1048576)) ∧ Below w.heap.size w w' := by
  obtain ⟨lb, vb, ls, nb, lk, vk, nk⟩ := I
  obtain ⟨y, hy⟩ : ∃ y, y = w.alloc (Obj.cells #[.slice adB Bs.length capB, .slice adK K.length capK] 25) := ⟨_, rfl⟩
  have B0 : Below w.heap.size w y := by rw [hy]; exact below_new _
  have A0 : NeAt y w.heap.size (.slice adB Bs.length capB) (.slice adK K.length capK) := by rw [hy]; exact NeAt.new w _
  have l0 := A0.lt
  go_enter Try.func6, Try.ntmps6
  go_wp2_with fail
  go_at_call 19
  rw [← hy]
  clear hy
  refine (bdSz adB capB Bs l y (vb.below B0 (Nat.le_refl _)) h0 h1 lb ls).mono ?_
  rintro e w1 ⟨rfl, k1⟩
  have B1 := B0.trans (k1.mono B0.size)
  have A1 := A0.below k1 l0
  clear A0 B0 k1 vb nb nk
  by_cases hb : ((Bs.length + lTo Bs Bs.length : Nat) : Int) ≤ l
  rotate_left
  · rw [if_neg hb]
    go_wp2
    go_ret
    exact ⟨⟨-1, rfl, by omega, fun h => by omega⟩, B1⟩
  rw [if_pos hb]
  obtain ⟨x, hx⟩ : ∃ x, x = l - ((Bs.length + lTo Bs Bs.length : Nat) : Int) := ⟨_, rfl⟩
  have x0 : 0 ≤ x := by omega
  have x1 : x ≤ 1048576 := by omega
  have x2 : Hid (Bs.length ≤ 1048576 ∧ lTo Bs Bs.length ≤ 1048576) := ⟨by omega, by omega⟩
  rw [← hx]
  clear hx hb
  have xn : ¬ x < 0 := by omega
  obtain ⟨c0, c1⟩ := A1
  go_wp2_with fail
  go_at_call 20
  refine (lkSz adK K.length capK x w1 x0 x1 lk).mono ?_
  rintro e w2 ⟨rfl, rfl⟩
  by_cases hk : (K.length : Int) ≤ x
  · rw [if_pos hk]
    have hn : ¬ x - (K.length : Int) < 0 := by omega
    go_wp2
    go_ret
    exact ⟨⟨_, rfl, by omega, fun _ => ⟨x2.out.1, x2.out.2, by omega⟩⟩, B1⟩
  · rw [if_neg hk]
    go_wp2
    go_ret
    exact ⟨⟨-1, rfl, by omega, fun h => by omega⟩, B1⟩

end Go.Proofs.Ytdfjfodfnildiab
