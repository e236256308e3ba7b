/- What Gate answers. -/
import Derived.Test.YtifndemkkaelaaaRows
import Derived.WalkKit
import Derived.ProofKit
import Derived.OpenShut
import Derived.ShutString
import Derived.ChangeOld
import Derived.Below
import Derived.Deep.QuietTactic
import Derived.BigQuiet
import Derived.WalkSmall
import Derived.Laws.OwnMore
import Derived.WalkSpells
import Derived.WalkLawsBesides
import Derived.Laws.AppendOwnNone
import Derived.Laws.CopyOwn
import Derived.Test.YtifndemkkaelaaaCopy2
import Derived.Test.YtifndemkkaelaaaCard3
import Derived.Test.YtifndemkkaelaaaHeard13
namespace Go.Proofs.Ytifndemkkaelaaa
open Go.ChangeShapes Go.WideShapes Go.ChangeAt Go.RowKit
open Go.ChangeMaps (open_string shut_string)
set_option linter.unusedVariables false

theorem wf_bounds {n : Int} (h : (Lit.int .i64 n).wf = true) : -9223372036854775808 ≤ n ∧ n ≤ 9223372036854775807 := by
  have := bounds_i64 h
  exact this
theorem wrap_i64' {n : Int} (h0 : -9223372036854775808 ≤ n) (h1 : n ≤ 9223372036854775807) : IntKind.i64.wrap n = n := by
  rw [IntKind.wrap_i64]; omega
theorem CdW.wide {w : World} {lo hi lo' hi' : Nat} {adO : Option Addr} {O : List Bool} {adM : Option Addr} {D : DL} {adT : Option Addr} {T : List Hd} (h : CdW w lo hi adO O adM D adT T) (h1 : lo' ≤ lo) (h2 : hi ≤ hi') : CdW w lo' hi' adO O adM D adT T := by
  obtain ⟨Ms, fp, e, m, f, a1, a2⟩ := h.vM
  exact ⟨h.vO, h.rO, fun x q p => by have := h.iO x q p; omega, ⟨Ms, fp, e, m, fun x hx => by have := f x hx; omega, a1, a2⟩, h.vT, h.rT, fun x q p => by have := h.iT x q p; omega, h.apart⟩
/-- Where a card is a card, and has such a port that is not on as asked. -/
def gTurn (O : List Bool) (D : DL) (T : List Hd) (p : Int) (on : Bool) : Bool := cOk O D T && (decide (0 ≤ p ∧ p < (O.length : Int)) && (O.getD p.toNat false != on))
def gO (O : List Bool) (D : DL) (T : List Hd) (p : Int) (on : Bool) : List Bool := if gTurn O D T p on then O.set p.toNat on else O
def gT (O : List Bool) (D : DL) (T : List Hd) (p : Int) (on : Bool) : List Hd := if gTurn O D T p on then forgot p T else T
theorem gO_len (O : List Bool) (D : DL) (T : List Hd) (p : Int) (on : Bool) : (gO O D T p on).length = O.length := by
  unfold gO; split <;> simp
theorem gT_len (O : List Bool) (D : DL) (T : List Hd) (p : Int) (on : Bool) : (gT O D T p on).length ≤ T.length := by
  unfold gT; split
  · exact forgot_len p T
  · exact Nat.le_refl _
theorem OwnC.as {w w' : World} {O O' : List Bool} {D : DL} {T T' : List Hd} {e : Ending} (h : OwnC w O D T e w') (hO : O' = O) (hT : T' = T) : OwnC w O' D T' e w' := by rw [hO, hT]; exact h
/-- A card of which one flag is set, and the table is another one. -/
theorem CdW.turn {w z : World} {lo hi hi' : Nat} {adO : Option Addr} {O : List Bool} {adM : Option Addr} {D : DL} {adT : Option Addr} {T : List Hd} {adT' : Option Addr} {T' : List Hd} {b off i : Nat} {on : Bool} (h : CdW w lo hi adO O adM D adT T) (e : adO = some ⟨b, off, none⟩) (hi0 : i < O.length) (hh : hi ≤ hi')
    (z1 : ∀ j, lo ≤ j → j < hi → j ≠ b → z.heap[j]? = w.heap[j]?) (z2 : z.heap[b]? = (w.setCell ⟨b, off + i, none⟩ (.bool on)).heap[b]?) (vT : HView z adT' T') (rT : HRoom z adT' T'.length) (iT : ∀ x, adT' = some x → hi ≤ x.block ∧ x.block < hi') : CdW z lo hi' adO (O.set i on) adM D adT' T' := by
  obtain ⟨Ms, fp, eM, m, f, a1, _⟩ := h.vM
  subst e
  have hp : 0 < O.length := by omega
  have hb := h.iO ⟨b, off, none⟩ rfl hp
  have hb' : lo ≤ b ∧ b < hi := hb
  obtain ⟨b', off', eb, hc⟩ := h.vO hp
  cases eb
  obtain ⟨b', off', eb, hr⟩ := h.rO hp
  cases eb
  have nb : b ∉ fp := a1 ⟨b, off, none⟩ rfl hp
  have hl : (O.set i on).length = O.length := by simp
  refine ⟨fun _ => ⟨b, off, rfl, fun j hj => ?_⟩, fun _ => ⟨b, off, rfl, fun j hj => ?_⟩, fun x ex _ => by cases ex; exact ⟨hb'.1, by show b < hi'; omega⟩, ⟨Ms, fp, eM, m.keep (fun x hx => z1 x (f x hx).1 (f x hx).2 (fun q => nb (q ▸ hx))), fun x hx => ⟨(f x hx).1, by have := (f x hx).2; omega⟩, fun x ex _ => by cases ex; exact nb, fun x ex _ hx => by have := f _ hx; have := iT x ex; omega⟩, vT, rT, fun x ex _ => by have := iT x ex; omega, fun x y ex ey _ _ => by cases ex; have := iT y ey; show b ≠ _; omega⟩
  · rw [hl] at hj
    rw [World.cell?_of_block (a := ⟨b, off + j, none⟩) z2]
    by_cases q : j = i
    · subst q
      rw [cell_set_same ⟨_, hc j hj⟩]
      simp [List.getD, hj]
    · rw [cell_set_ne (by omega), hc j hj]
      have q' : i ≠ j := fun c => q c.symm
      simp [List.getD, q']
  · rw [hl] at hj
    rw [World.cell?_of_block (a := ⟨b, off + j, none⟩) z2, World.frozen?_of_block (a := ⟨b, off + j, none⟩) z2]
    exact ⟨cell?_setCell_some (hr j hj).1.choose_spec, by simpa using (hr j hj).2⟩
theorem hasP (adO : Option Addr) (cO : Nat) (O : List Bool) (adM : Option Addr) (cM : Nat) (D : DL) (adT : Option Addr) (cT : Nat) (T : List Hd) (P : Nat) (p : Int) (w : World) (A : CdAt w P adO O.length cO adM D.length cM adT T.length cT) (hl : O.length ≤ 1048576) :
    Calls Try.prog 28 #[.pointer (some ⟨P, 0, none⟩), .int .i64 p] w fun e w' => e = .returned (.bool (decide (0 ≤ p ∧ p < (O.length : Int)))) ∧ w' = w := by
  obtain ⟨C1, C2, C3⟩ := A
  by_cases h1 : 0 ≤ p
  rotate_left
  · have d1 : decide (0 ≤ p) = false := decide_eq_false h1
    have d2 : decide (0 ≤ p ∧ p < (O.length : Int)) = false := decide_eq_false (fun q => h1 q.1)
    rw [d2]
    clear h1 d2
    go_enter Try.func28, Try.ntmps28
    go_wp2
    go_ret
    exact ⟨rfl, rfl⟩
  · have d1 : decide (0 ≤ p) = true := decide_eq_true h1
    have d2 : decide (0 ≤ p ∧ p < (O.length : Int)) = decide (p < (O.length : Int)) := by
      by_cases q : p < (O.length : Int)
      · rw [decide_eq_true q, decide_eq_true ⟨h1, q⟩]
      · rw [decide_eq_false q, decide_eq_false (fun r => q r.2)]
    rw [d2]
    clear h1 d2
    go_enter Try.func28, Try.ntmps28
    go_wp2
    go_ret
    exact ⟨rfl, rfl⟩

end Go.Proofs.Ytifndemkkaelaaa
