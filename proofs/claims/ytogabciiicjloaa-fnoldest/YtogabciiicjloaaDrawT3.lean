/- spec.DrawAge, walked. -/
import Derived.Test.YtogabciiicjloaaRows
import Derived.WalkKit
import Derived.ProofKit
import Derived.OpenShut
import Derived.ShutString
import Derived.ChangeOld
import Derived.Below
import Derived.Deep.QuietTactic
import Derived.BigQuiet
import Derived.WalkSmall
import Derived.Laws.OwnMore
import Derived.WalkSpells
import Derived.Test.YtogabciiicjloaaDrawT2
namespace Go.Proofs.Ytogabciiicjloaa
open Go.ChangeShapes Go.WideShapes Go.ChangeAt Go.RowKit
open Go.ChangeMaps (open_string shut_string)
set_option linter.unusedVariables false

theorem hview_set0 {w : World} {b off : Nat} {h : Hd} {M : List Hd} (hv : HView w (some ⟨b, off, none⟩) (h :: M)) : HView (w.setCell ⟨b, off + 3, none⟩ (.int .i64 1)) (some ⟨b, off, none⟩) (⟨h.a, h.v, h.p, 1⟩ :: M) := by
  intro _
  obtain ⟨b', off', e, hc⟩ := hv (by simp)
  obtain ⟨rfl, rfl⟩ : b = b' ∧ off = off' := by simpa using e
  refine ⟨b, off, rfl, fun i hi => ?_⟩
  obtain ⟨q0, q1, q2, q3⟩ := hc i (by simpa using hi)
  cases i with
  | zero =>
    simp only [Nat.zero_mul, Nat.add_zero] at q0 q1 q2 q3 ⊢
    exact ⟨(cell_set_ne (by omega)).trans q0, (cell_set_ne (by omega)).trans q1, (cell_set_ne (by omega)).trans q2, cell_set_same ⟨_, q3⟩⟩
  | succ j =>
    exact ⟨(cell_set_ne (by omega)).trans q0, (cell_set_ne (by omega)).trans q1, (cell_set_ne (by omega)).trans q2, (cell_set_ne (by omega)).trans q3⟩
set_option maxHeartbeats 2000000 in
theorem drawA (ad : Option Addr) (len cap : Nat) (f : Nat → Int) (w : World) (h : Code0 w ad len f) :
    Calls Try.prog 11 #[.slice ad len cap] w fun e w' => ∃ ad' cap' M, e = .returned (.slice ad' M.length cap') ∧ HView w' ad' M ∧ M.length ≤ 20 ∧ HIs ad' M (· < w'.heap.size) ∧ Below w.heap.size w w' := by
  go_enter Try.func11, Try.ntmps11
  go_wp2_with fail
  go_at_call 31
  refine (drawNew ad len cap f w h.view h.lt h.small h.bytes).mono ?_
  rintro e x1 ⟨rfl, hs, hb, hz0⟩
  have t1 : w.heap.size < x1.heap.size := by omega
  clear hz0
  go_wp2_with fail
  go_at_call 32
  refine (drawT x1 hs t1 (fun q e hp => by have := h.lt q e hp; omega)).mono ?_
  rintro e x2 ⟨v2, M, rfl, o2, m2, D2⟩
  have B2 : Below w.heap.size w x2 := hb.grown D2.gr (by omega) (fun j e => by cases e; exact Nat.le_refl _)
  obtain ⟨adM, capM, rfl, vM, rM, lM⟩ := hown_view o2
  have hs2 := D2.src
  have z2 := D2.gr.size
  clear o2
  cases M with
  | nil =>
    go_wp2
    go_ret
    exact ⟨adM, capM, [], rfl, vM, by simp, fun a e hp => absurd hp (by simp), B2⟩
  | cons h0 M =>
    obtain ⟨b, off, rfl, hc⟩ := vM (by simp)
    have hbl := lM _ rfl
    have hb1 : x1.heap.size ≤ b := hbl.1
    have hb2 : b < x2.heap.size := hbl.2.1
    have hpos : (0 : Int) < ((M.length : Int) + 1) := by omega
    clear hc hbl lM
    go_wp2_with fail
    go_at_call 37
    refine (drawOnce hs2 2 (by omega) (by omega)).mono ?_
    rintro e x3 ⟨b3, rfl, s3, g3⟩
    have e3 : x3.heap[b]? = x2.heap[b]? := g3.block b hb2 (by simp; omega)
    have v3 : HView x3 (some ⟨b, off, none⟩) (h0 :: M) := vM.carry (fun a e _ => by cases e; exact e3)
    have r3 : HRoom x3 (some ⟨b, off, none⟩) (h0 :: M).length := rM.carry (fun a e _ => by cases e; exact e3)
    have B3 : Below w.heap.size w x3 := B2.grown g3 (by omega) (fun j e => by cases e; exact Nat.le_refl _)
    have z3 := g3.size
    clear vM rM g3 s3 e3
    cases b3 with
    | true =>
      obtain ⟨b', off', e', hr⟩ := r3 (by simp)
      obtain ⟨rfl, rfl⟩ : b = b' ∧ off = off' := by simpa using e'
      obtain ⟨u, hu⟩ := (hr 3 (by simp; omega)).1
      have hf := (hr 3 (by simp; omega)).2
      have v4 := hview_set0 v3
      have B4 : Below w.heap.size w (x3.setCell ⟨b, off + 3, none⟩ (.int .i64 1)) := B3.setCell (by show w.heap.size ≤ b; omega) _
      clear hr r3 e' v3
      go_wp2
      go_ret
      exact ⟨some ⟨b, off, none⟩, capM, _, by simp, v4, by simpa using m2, fun a e _ => (by cases e; show b < _; simp; omega), B4⟩
    | false =>
      go_wp2
      go_ret
      exact ⟨some ⟨b, off, none⟩, capM, _, by simp, v3, by simpa using m2, fun a e _ => (by cases e; show b < _; omega), B3⟩

end Go.Proofs.Ytogabciiicjloaa
