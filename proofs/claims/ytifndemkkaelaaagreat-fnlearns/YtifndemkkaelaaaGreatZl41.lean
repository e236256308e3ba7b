/- Cards that are the same. How a code comes in. Bytes as text; frames that are the same. cards0 -/
import Derived.Test.YtifndemkkaelaaaGreatRows
import Derived.WalkKit
import Derived.ProofKit
import Derived.OpenShut
import Derived.ShutString
import Derived.ChangeOld
import Derived.Below
import Derived.Deep.QuietTactic
import Derived.BigQuiet
import Derived.WalkSmall
import Derived.Laws.OwnMore
import Derived.WalkSpells
import Derived.WalkLawsBesides
import Derived.Laws.StructEq
import Derived.ChangeKeysEq
import Derived.Test.YtifndemkkaelaaaGreatZl7
import Derived.Test.YtifndemkkaelaaaGreatZl1
import Derived.Lib.BufferRead
import Derived.Laws.IdiomStrings
import Derived.Test.YtifndemkkaelaaaGreatZl4
import Derived.Test.YtifndemkkaelaaaGreatZl29
import Derived.Test.YtifndemkkaelaaaGreatZlGateI
import Derived.Test.YtifndemkkaelaaaGreatZl21
namespace Go.Proofs.YtifndemkkaelaaaGreat
open Go.ChangeShapes Go.WideShapes Go.ChangeAt Go.RowKit
open Go.ChangeMaps (open_string shut_string)
set_option linter.unusedVariables false
set_option maxRecDepth 100000

set_option maxHeartbeats 400000 in
theorem sameFl (ad ad' : Option Addr) (len cap cap' : Nat) (f : Nat → Bool) (w : World) (hv : ViewB w ad len f) (hv' : ViewB w ad' len f) (hl : len ≤ 1048576) :
    Calls Tryz.prog 51 #[.slice ad len cap, .slice ad' len cap'] w fun e w' => e = .returned (.bool true) ∧ ∃ n, w' = w.drewN n := by
  go_enter Tryz.func51, Tryz.ntmps51
  go_wp2
  go_loopw [5] (fun i wr => ∃ k n : Nat, k ≤ len ∧ i = .int .i64 k ∧ wr = w.drewN n) (fun i _ => len - (intOf i).toNat)
  case atStart => exact ⟨0, 0, Nat.zero_le _, rfl, rfl⟩
  case round =>
    obtain ⟨k, n, hk, rfl, rfl⟩ := hrel
    by_cases hlt : k < len
    · obtain ⟨b, off, rfl, hc⟩ := hv (by omega)
      obtain ⟨b', off', rfl, hc'⟩ := hv' (by omega)
      have hck := hc k hlt
      have hck' := hc' k hlt
      go_wp2
      go_quiet (fail)
      go_wp2
      go_roundw
      case rel => exact ⟨k + 1, _, by omega, by go_num, rfl⟩
      case measure => simp [intOf]; omega
    · obtain rfl : k = len := by omega
      go_wp2
      go_ret
      exact ⟨rfl, _, rfl⟩
set_option maxHeartbeats 400000 in
theorem sameIn (ad ad' : Option Addr) (len cap cap' : Nat) (f : Nat → Int) (w : World) (hv : ViewI w ad len f) (hv' : ViewI w ad' len f) (hl : len ≤ 1048576) :
    Calls Tryz.prog 53 #[.slice ad len cap, .slice ad' len cap'] w fun e w' => e = .returned (.bool true) ∧ ∃ n, w' = w.drewN n := by
  go_enter Tryz.func53, Tryz.ntmps53
  go_wp2
  go_loopw [5] (fun i wr => ∃ k n : Nat, k ≤ len ∧ i = .int .i64 k ∧ wr = w.drewN n) (fun i _ => len - (intOf i).toNat)
  case atStart => exact ⟨0, 0, Nat.zero_le _, rfl, rfl⟩
  case round =>
    obtain ⟨k, n, hk, rfl, rfl⟩ := hrel
    by_cases hlt : k < len
    · obtain ⟨b, off, rfl, hc⟩ := hv (by omega)
      obtain ⟨b', off', rfl, hc'⟩ := hv' (by omega)
      have hck := hc k hlt
      have hck' := hc' k hlt
      go_wp2
      go_quiet (fail)
      go_wp2
      go_roundw
      case rel => exact ⟨k + 1, _, by omega, by go_num, rfl⟩
      case measure => simp [intOf]; omega
    · obtain rfl : k = len := by omega
      go_wp2
      go_ret
      exact ⟨rfl, _, rfl⟩
theorem eqHdRun (w : World) (h : Hd) : (Op.equalIn 10000 97 (.agg #[.int .i64 h.a, .int .i64 h.v, .int .i64 h.p, .int .i64 h.l]) (.agg #[.int .i64 h.a, .int .i64 h.v, .int .i64 h.p, .int .i64 h.l])).run Tryz.prog w = .ok true w := by
  have hu : Tryz.prog.underlying 97 = some (.struct (Tryz.prog.fieldsOf 97)) := by kernel_rfl
  have hp : Tryz.prog.stoodInHeld 97 = false := by kernel_rfl
  have h3 : Tryz.prog.underlying 3 = some (.int .i64) := Tryz.underlying3
  have he : ∀ (d : Nat) (a : Int), (Op.equalIn (d + 1) 3 (.int .i64 a) (.int .i64 a)).run Tryz.prog w = .ok true w := fun d a => by
    rw [run_equalIn_int w d 3 .i64 .i64 a a h3]; simp
  have he' : ∀ (a : Int), (Op.equalIn 9999 3 (.int .i64 a) (.int .i64 a)).run Tryz.prog w = .ok true w := fun a => he 9998 a
  have hpk : Tryz.prog.plainKey 3 = true := by kernel_rfl
  have p0 : ∀ (x0 x1 x2 x3 : Value), (part 3 #[x0, x1, x2, x3] 0).run Tryz.prog w = .ok x0 w := fun x0 x1 x2 x3 => run_part_plain w hpk rfl
  have p1 : ∀ (x0 x1 x2 x3 : Value), (part 3 #[x0, x1, x2, x3] 1).run Tryz.prog w = .ok x1 w := fun x0 x1 x2 x3 => run_part_plain w hpk rfl
  have p2 : ∀ (x0 x1 x2 x3 : Value), (part 3 #[x0, x1, x2, x3] 2).run Tryz.prog w = .ok x2 w := fun x0 x1 x2 x3 => run_part_plain w hpk rfl
  have p3 : ∀ (x0 x1 x2 x3 : Value), (part 3 #[x0, x1, x2, x3] 3).run Tryz.prog w = .ok x3 w := fun x0 x1 x2 x3 => run_part_plain w hpk rfl
  rw [run_equalIn_struct w 9999 97 _ _ hu hp]
  simp only [Program.fieldsOf, Tryz.underlying97, Op.eqFields, Sem.run_bind, Sem.run_ite, p0, p1, p2, p3, he', Result.andThen_ok, Sem.run_pure]
  simp
set_option maxHeartbeats 1000000 in
theorem sameHd (ad ad' : Option Addr) (cap cap' : Nat) (L : List Hd) (w : World) (hv : HView w ad L) (hv' : HView w ad' L) (hl : L.length ≤ 1048576) :
    Calls Tryz.prog 52 #[.slice ad L.length cap, .slice ad' L.length cap'] w fun e w' => e = .returned (.bool true) ∧ ∃ n, w' = w.drewN n := by
  go_enter Tryz.func52, Tryz.ntmps52
  go_wp2
  go_loopw [5] (fun i wr => ∃ k n : Nat, k ≤ L.length ∧ i = .int .i64 k ∧ wr = w.drewN n) (fun i _ => L.length - (intOf i).toNat)
  case atStart => exact ⟨0, 0, Nat.zero_le _, rfl, rfl⟩
  case round =>
    obtain ⟨k, n, hk, rfl, rfl⟩ := hrel
    by_cases hlt : k < L.length
    · obtain ⟨b, off, rfl, hc⟩ := hv (by omega)
      obtain ⟨b', off', rfl, hc'⟩ := hv' (by omega)
      have hck := hc k hlt
      have hck' := hc' k hlt
      obtain ⟨h, hh⟩ : ∃ h, L.getD k Hd.nil = h := ⟨_, rfl⟩
      rw [hh] at hck hck'
      obtain ⟨c1, c2, c3, c4⟩ := hck
      obtain ⟨d1, d2, d3, d4⟩ := hck'
      have hEq := fun y => eqHdRun y h
      clear hc hc' hh hv hv'
      go_wp2
      go_quiet (fail)
      go_wp2
      go_roundw
      case rel => exact ⟨k + 1, _, by omega, by go_num, rfl⟩
      case measure => simp [intOf]; omega
    · obtain rfl : k = L.length := by omega
      go_wp2
      go_ret
      exact ⟨rfl, _, rfl⟩
set_option maxHeartbeats 4000000 in
theorem sameC (adO : Option Addr) (cO : Nat) (O : List Bool) (adM : Option Addr) (cM : Nat) (D : DL) (adT : Option Addr) (cT : Nat) (T : List Hd) (adO' : Option Addr) (cO' : Nat) (adM' : Option Addr) (cM' : Nat) (adT' : Option Addr) (cT' : Nat) (lo hi lo' hi' : Nat) (w : World) (I : CdV w lo hi adO O adM D adT T) (I' : CdV w lo' hi' adO' O adM' D adT' T) (hl : O.length + totD D + T.length ≤ 1048576) :
    Calls Tryz.prog 13 #[.agg #[.slice adO O.length cO, .slice adM D.length cM, .slice adT T.length cT], .agg #[.slice adO' O.length cO', .slice adM' D.length cM', .slice adT' T.length cT']] w fun e w' => e = .returned (.bool true) ∧ Below w.heap.size w w' := by
  obtain ⟨Ms, rfl, vM, iM, jM⟩ := I.vM
  obtain ⟨Ms', hd, vM', iM', jM'⟩ := I'.vM
  have hlen : Ms'.length = Ms.length := by have := congrArg List.length hd; simpa using this
  have hsame : ∀ i, (Ms'.getD i Mb.nil).o = (Ms.getD i Mb.nil).o ∧ (Ms'.getD i Mb.nil).L = (Ms.getD i Mb.nil).L := fun i => by
    have := congrArg (fun D => D.getD i (0, [])) hd
    simp only [d_get] at this
    simpa [Mb.d] using this
  rw [tot_siz, ← lTo_siz, List.length_map] at hl
  rw [List.length_map]
  have hMs : ∀ i, i < Ms.length → (Ms.getD i Mb.nil).L.length ≤ 1048576 := fun i hi => Nat.le_trans (getL_le Ms hi) (by omega)
  have lM : Ms.length ≤ 1048576 := by omega
  obtain ⟨x0, hx⟩ : ∃ x, x = (w.alloc (Obj.cells #[.slice adO O.length cO, .slice adM Ms.length cM, .slice adT T.length cT] 28)).alloc (Obj.cells #[.slice adO' O.length cO', .slice adM' Ms.length cM', .slice adT' T.length cT'] 28) := ⟨_, rfl⟩
  obtain ⟨P, hP⟩ : ∃ P, P = w.heap.size := ⟨_, rfl⟩
  have B0 : Below w.heap.size w x0 := by rw [hx]; exact ((Below.refl _ _).alloc (Nat.le_refl _) _).alloc (by simp) _
  have A0 : CdAt x0 P adO O.length cO adM Ms.length cM adT T.length cT := by rw [hx, hP]; refine ⟨?_, ?_, ?_⟩ <;> simp [go_sem]
  have A0' : CdAt x0 (P + 1) adO' O.length cO' adM' Ms.length cM' adT' T.length cT' := by rw [hx, hP]; refine ⟨?_, ?_, ?_⟩ <;> simp [go_sem]
  have T0 : P + 1 < x0.heap.size := A0'.lt
  have vO := I.vO.below B0 (Nat.le_refl _)
  have vO' := I'.vO.below B0 (Nat.le_refl _)
  have vT := I.vT.carry (w' := x0) (fun x e p => B0.block _ (by obtain ⟨b, off, q, hc⟩ := I.vT p; rw [e] at q; cases q; exact World.block_lt_of_cell? w _ (hc 0 p).1))
  have vT' := I'.vT.carry (w' := x0) (fun x e p => B0.block _ (by obtain ⟨b, off, q, hc⟩ := I'.vT p; rw [e] at q; cases q; exact World.block_lt_of_cell? w _ (hc 0 p).1))
  have vM := vM.below B0 (Nat.le_refl _)
  have vM' := vM'.below B0 (Nat.le_refl _)
  clear I I' iM iM' jM jM' hd
  go_enter Tryz.func13, Tryz.ntmps13
  go_wp2_with fail
  go_at_call 51
  rw [← hx, ← hP]
  clear hx hP
  refine (sameFl adO adO' O.length cO cO' (fun i => O.getD i false) x0 vO vO' (by omega)).mono ?_
  rintro e w1 ⟨rfl, n1, rfl⟩
  have A1 : CdAt (x0.drewN n1) P adO O.length cO adM Ms.length cM adT T.length cT := A0
  have A1' : CdAt (x0.drewN n1) (P + 1) adO' O.length cO' adM' Ms.length cM' adT' T.length cT' := A0'
  obtain ⟨X1, X2, X3⟩ := A1
  obtain ⟨Y1, Y2, Y3⟩ := A1'
  have hne : ((Ms.length : Int) != (Ms.length : Int)) = false := by simp
  go_wp2_with fail
  go_at_call 52
  refine (sameHd adT adT' cT cT' T (x0.drewN n1) vT vT' (by omega)).mono ?_
  rintro e w2 ⟨rfl, n2, rfl⟩
  clear X1 X2 X3 Y1 Y2 Y3
  have k2 : Below x0.heap.size x0 ((x0.drewN n1).drewN n2) := below_drewN' (below_drewN' (Below.refl _ _) n1) n2
  generalize hz : (x0.drewN n1).drewN n2 = z at *
  clear hz
  go_wp2
  go_loopw [5] (fun i wr => ∃ k : Nat, k ≤ Ms.length ∧ i = .int .i64 k ∧ Below x0.heap.size x0 wr) (fun i _ => Ms.length - (intOf i).toNat)
  case atStart => exact ⟨0, Nat.zero_le _, rfl, k2⟩
  case round =>
    obtain ⟨k, hk, rfl, hb⟩ := hrel
    clear k2
    have hA := A0.below hb (by omega)
    obtain ⟨X1, X2, X3⟩ := hA
    by_cases hlt : k < Ms.length
    · obtain ⟨b, off, rfl, hc0⟩ := vM.row (by omega)
      obtain ⟨b', off', rfl, hc0'⟩ := vM'.row (by omega)
      have hlk := hMs k hlt
      have hn : ∀ Y, Below x0.heap.size x0 Y → MbL Y (Ms.getD k Mb.nil) := fun Y hY => ViewI.below (vM.nest k hlt) hY (Nat.le_refl _)
      have hn' : ∀ Y, Below x0.heap.size x0 Y → MbL Y (Ms'.getD k Mb.nil) := fun Y hY => ViewI.below (vM'.nest k (by omega)) hY (Nat.le_refl _)
      have hc : ∀ Y, Below x0.heap.size x0 Y → MbAt Y b (off + k * 2) (Ms.getD k Mb.nil) := fun Y hY => (hc0 k hlt).same (hY.block _ (vM.lt ⟨b, off, none⟩ rfl (by omega)))
      have hc' : ∀ Y, Below x0.heap.size x0 Y → MbAt Y b' (off' + k * 2) (Ms'.getD k Mb.nil) := fun Y hY => (hc0' k (by omega)).same (hY.block _ (vM'.lt ⟨b', off', none⟩ rfl (by omega)))
      obtain ⟨e1, e2⟩ := hsame k
      obtain ⟨m, hh⟩ : ∃ m, Ms.getD k Mb.nil = m := ⟨_, rfl⟩
      obtain ⟨m', hh'⟩ : ∃ m, Ms'.getD k Mb.nil = m := ⟨_, rfl⟩
      rw [hh] at e1 e2 hlk
      rw [hh'] at e1 e2
      simp only [hh] at hn hc
      simp only [hh'] at hn' hc'
      unfold MbL at hn hn'
      unfold MbAt at hc hc'
      rw [e1, e2] at hc'
      rw [e2] at hn'
      clear hh hh' hc0 hc0' vM vM' hsame hMs hlen e1 e2 vO vO' vT vT'
      go_wp2_with fail
      clear X1 X2 X3
      refine wp_region_held (S := fun Y => Below x0.heap.size x0 Y) (by kernel_rfl) ?_
      change wpAnyH _ _ _ _ _ _ _ _ (World.drew _)
      have hb0 : Below x0.heap.size x0 wr.drew := hb.drew
      refine takeW 0 36 (.pointer (some ⟨P, 1, none⟩)) rfl rfl (by kernel_rfl) (by kernel_rfl) (by kernel_rfl) (fun _ _ _ h => h) (by kernel_rfl) (by (intro w hSw; go_simp)) (by assumption) ?_
      simp only [List.set_cons_zero, List.set_cons_succ]
      refine takeW 1 37 (.slice (some ⟨b, off, none⟩) Ms.length cM) rfl rfl (by kernel_rfl) (by kernel_rfl) (by kernel_rfl) (fun _ _ _ h => h) (by kernel_rfl) (by (intro Y hSw; obtain ⟨Z1, Z2, Z3⟩ := A0.below hSw (by omega); go_simp)) (by assumption) ?_
      simp only [List.set_cons_zero, List.set_cons_succ]
      refine takeW 2 38 (.int .i64 k) rfl rfl (by kernel_rfl) (by kernel_rfl) (by kernel_rfl) (fun _ _ _ h => h) (by kernel_rfl) (by (intro w hSw; go_simp)) (by assumption) ?_
      simp only [List.set_cons_zero, List.set_cons_succ]
      refine takeW 3 39 (.pointer (some ⟨b, off + k * 2, none⟩)) rfl rfl (by kernel_rfl) (by kernel_rfl) (by kernel_rfl) (fun _ _ _ h => h) (by kernel_rfl) (by (intro Y hSw; go_simp; try omega)) (by assumption) ?_
      simp only [List.set_cons_zero, List.set_cons_succ]
      refine takeW 4 40 (.pointer (some ⟨b, off + k * 2, none⟩)) rfl rfl (by kernel_rfl) (by kernel_rfl) (by kernel_rfl) (fun _ _ _ h => h) (by kernel_rfl) (by (intro w hSw; go_simp)) (by assumption) ?_
      simp only [List.set_cons_zero, List.set_cons_succ]
      refine takeW 5 41 (.int .i64 m.o) rfl rfl (by kernel_rfl) (by kernel_rfl) (by kernel_rfl) (fun _ _ _ h => h) (by kernel_rfl) (by (intro Y hSw; obtain ⟨Z1, Z2⟩ := hc Y hSw; go_simp)) (by assumption) ?_
      simp only [List.set_cons_zero, List.set_cons_succ]
      refine takeW 6 42 (.pointer (some ⟨P + 1, 1, none⟩)) rfl rfl (by kernel_rfl) (by kernel_rfl) (by kernel_rfl) (fun _ _ _ h => h) (by kernel_rfl) (by (intro w hSw; go_simp)) (by assumption) ?_
      simp only [List.set_cons_zero, List.set_cons_succ]
      refine takeW 7 43 (.slice (some ⟨b', off', none⟩) Ms.length cM') rfl rfl (by kernel_rfl) (by kernel_rfl) (by kernel_rfl) (fun _ _ _ h => h) (by kernel_rfl) (by (intro Y hSw; obtain ⟨Z1, Z2, Z3⟩ := A0'.below hSw (by omega); go_simp)) (by assumption) ?_
      simp only [List.set_cons_zero, List.set_cons_succ]
      refine takeW 8 44 (.int .i64 k) rfl rfl (by kernel_rfl) (by kernel_rfl) (by kernel_rfl) (fun _ _ _ h => h) (by kernel_rfl) (by (intro w hSw; go_simp)) (by assumption) ?_
      simp only [List.set_cons_zero, List.set_cons_succ]
      refine takeW 9 45 (.pointer (some ⟨b', off' + k * 2, none⟩)) rfl rfl (by kernel_rfl) (by kernel_rfl) (by kernel_rfl) (fun _ _ _ h => h) (by kernel_rfl) (by (intro Y hSw; go_simp; try omega)) (by assumption) ?_
      simp only [List.set_cons_zero, List.set_cons_succ]
      refine takeW 10 46 (.pointer (some ⟨b', off' + k * 2, none⟩)) rfl rfl (by kernel_rfl) (by kernel_rfl) (by kernel_rfl) (fun _ _ _ h => h) (by kernel_rfl) (by (intro w hSw; go_simp)) (by assumption) ?_
      simp only [List.set_cons_zero, List.set_cons_succ]
      refine takeW 11 47 (.int .i64 m.o) rfl rfl (by kernel_rfl) (by kernel_rfl) (by kernel_rfl) (fun _ _ _ h => h) (by kernel_rfl) (by (intro Y hSw; obtain ⟨Z1, Z2⟩ := hc' Y hSw; go_simp)) (by assumption) ?_
      simp only [List.set_cons_zero, List.set_cons_succ]
      refine takeW 12 48 (.bool false) rfl rfl (by kernel_rfl) (by kernel_rfl) (by kernel_rfl) (fun _ _ _ h => h) (by kernel_rfl) (by (intro Y hSw; go_simp)) (by assumption) ?_
      simp only [List.set_cons_zero, List.set_cons_succ]
      refine takeW 13 49 (.bool false) rfl rfl (by kernel_rfl) (by kernel_rfl) (by kernel_rfl) (fun _ _ _ h => h) (by kernel_rfl) (by (intro w hSw; go_simp)) (by assumption) ?_
      simp only [List.set_cons_zero, List.set_cons_succ]
      refine takeW 14 50 (.pointer (some ⟨P, 1, none⟩)) rfl rfl (by kernel_rfl) (by kernel_rfl) (by kernel_rfl) (fun _ _ _ h => h) (by kernel_rfl) (by (intro w hSw; go_simp)) (by assumption) ?_
      simp only [List.set_cons_zero, List.set_cons_succ]
      refine takeW 15 51 (.slice (some ⟨b, off, none⟩) Ms.length cM) rfl rfl (by kernel_rfl) (by kernel_rfl) (by kernel_rfl) (fun _ _ _ h => h) (by kernel_rfl) (by (intro Y hSw; obtain ⟨Z1, Z2, Z3⟩ := A0.below hSw (by omega); go_simp)) (by assumption) ?_
      simp only [List.set_cons_zero, List.set_cons_succ]
      refine takeW 16 52 (.int .i64 k) rfl rfl (by kernel_rfl) (by kernel_rfl) (by kernel_rfl) (fun _ _ _ h => h) (by kernel_rfl) (by (intro w hSw; go_simp)) (by assumption) ?_
      simp only [List.set_cons_zero, List.set_cons_succ]
      refine takeW 17 53 (.pointer (some ⟨b, off + k * 2, none⟩)) rfl rfl (by kernel_rfl) (by kernel_rfl) (by kernel_rfl) (fun _ _ _ h => h) (by kernel_rfl) (by (intro Y hSw; go_simp; try omega)) (by assumption) ?_
      simp only [List.set_cons_zero, List.set_cons_succ]
      refine takeW 18 54 (.pointer (some ⟨b, off + k * 2 + 1, none⟩)) rfl rfl (by kernel_rfl) (by kernel_rfl) (by kernel_rfl) (fun _ _ _ h => h) (by kernel_rfl) (by (intro w hSw; go_simp)) (by assumption) ?_
      simp only [List.set_cons_zero, List.set_cons_succ]
      refine takeW 19 55 (.slice m.ad m.L.length m.cap) rfl rfl (by kernel_rfl) (by kernel_rfl) (by kernel_rfl) (fun _ _ _ h => h) (by kernel_rfl) (by (intro Y hSw; obtain ⟨Z1, Z2⟩ := hc Y hSw; go_simp)) (by assumption) ?_
      simp only [List.set_cons_zero, List.set_cons_succ]
      refine takeW 20 56 (.pointer (some ⟨P + 1, 1, none⟩)) rfl rfl (by kernel_rfl) (by kernel_rfl) (by kernel_rfl) (fun _ _ _ h => h) (by kernel_rfl) (by (intro w hSw; go_simp)) (by assumption) ?_
      simp only [List.set_cons_zero, List.set_cons_succ]
      refine takeW 21 57 (.slice (some ⟨b', off', none⟩) Ms.length cM') rfl rfl (by kernel_rfl) (by kernel_rfl) (by kernel_rfl) (fun _ _ _ h => h) (by kernel_rfl) (by (intro Y hSw; obtain ⟨Z1, Z2, Z3⟩ := A0'.below hSw (by omega); go_simp)) (by assumption) ?_
      simp only [List.set_cons_zero, List.set_cons_succ]
      refine takeW 22 58 (.int .i64 k) rfl rfl (by kernel_rfl) (by kernel_rfl) (by kernel_rfl) (fun _ _ _ h => h) (by kernel_rfl) (by (intro w hSw; go_simp)) (by assumption) ?_
      simp only [List.set_cons_zero, List.set_cons_succ]
      refine takeW 23 59 (.pointer (some ⟨b', off' + k * 2, none⟩)) rfl rfl (by kernel_rfl) (by kernel_rfl) (by kernel_rfl) (fun _ _ _ h => h) (by kernel_rfl) (by (intro Y hSw; go_simp; try omega)) (by assumption) ?_
      simp only [List.set_cons_zero, List.set_cons_succ]
      refine takeW 24 60 (.pointer (some ⟨b', off' + k * 2 + 1, none⟩)) rfl rfl (by kernel_rfl) (by kernel_rfl) (by kernel_rfl) (fun _ _ _ h => h) (by kernel_rfl) (by (intro w hSw; go_simp)) (by assumption) ?_
      simp only [List.set_cons_zero, List.set_cons_succ]
      refine takeW 25 61 (.slice m'.ad m.L.length m'.cap) rfl rfl (by kernel_rfl) (by kernel_rfl) (by kernel_rfl) (fun _ _ _ h => h) (by kernel_rfl) (by (intro Y hSw; obtain ⟨Z1, Z2⟩ := hc' Y hSw; go_simp)) (by assumption) ?_
      simp only [List.set_cons_zero, List.set_cons_succ]
      refine wpAnyH_all (rs := [26]) (by kernel_rfl) (by simp) ?_
      intro i hi; obtain rfl : i = 26 := by simpa using hi
      refine wpOp_step rfl (fun K hK => ?_)
      rw [if_pos (by kernel_rfl)]
      go_simp
      go_at_call 53
      refine (sameIn m.ad m'.ad m.L.length m.cap m'.cap (fun i => m.L.getD i 0) wr.drew (hn _ hb0) (hn' _ hb0) hlk).mono ?_
      rintro e y1 ⟨rfl, n3, rfl⟩
      have hb1 : Below x0.heap.size x0 (wr.drew.drewN n3) := below_drewN' hb0 n3
      refine hK _ _ ⟨hb1, ?_⟩
      clear hK K hi
      refine takeW 27 63 (.bool false) rfl rfl (by kernel_rfl) (by kernel_rfl) (by kernel_rfl) (fun _ _ _ h => h) (by kernel_rfl) (by (intro w hSw; go_simp)) (by assumption) ?_
      simp only [List.set_cons_zero, List.set_cons_succ]
      refine takeW 28 64 (.bool false) rfl rfl (by kernel_rfl) (by kernel_rfl) (by kernel_rfl) (fun _ _ _ h => h) (by kernel_rfl) (by (intro w hSw; go_simp)) (by assumption) ?_
      simp only [List.set_cons_zero, List.set_cons_succ]
      refine wpAnyH_done (by kernel_rfl) ?_ _
      go_wp2
      go_roundw
      case rel => exact ⟨k + 1, by omega, by go_num, below_drewN' hb _⟩
      case measure => simp [intOf]; omega
    · obtain rfl : k = Ms.length := by omega
      go_wp2
      go_ret
      exact ⟨rfl, B0.trans (hb.mono B0.size)⟩

end Go.Proofs.YtifndemkkaelaaaGreat
namespace Go.Proofs.YtifndemkkaelaaaGreat
open Go.ChangeShapes Go.WideShapes Go.ChangeAt Go.RowKit
open Go.ChangeMaps (open_string shut_string)
set_option linter.unusedVariables false
set_option maxRecDepth 100000

structure CodeIn (w : World) (ad : Option Addr) (len : Nat) (f : Nat → Int) : Prop where
  lm : len ≤ maxLen
  view : View w ad len f
  lt : ∀ a, ad = some a → 0 < len → a.block < w.heap.size
  bytes : ∀ i, 0 ≤ f i ∧ f i ≤ 255
theorem codeIn_open {H : Type} {enc : TypeId × Value → H} {w : World} {r : Reach} {b0 : Nat} {v : Value} {d : DataW H} {p : List MemPlace} (hv : Value.okWide Tryz.prog w r b0 22 v) (h : DataW.Trod enc Tryz.prog w 0 (fun _ => true) true 22 v d p) :
    ∃ ad len cap f, v = .slice ad len cap ∧ CodeIn w ad len f := by
  obtain ⟨n, hn⟩ := h
  obtain ⟨a0, len0, cap0, rfl⟩ := okWide_slice (P := Tryz.prog) (t := 22) (e := 5) Tryz.underlying22 hv
  have hcell0 : ∀ x, (Value.slice a0 len0 cap0).cells.toList = [x] → Value.slice a0 len0 cap0 = x := fun x h => by simpa [Value.cells] using h
  rcases open_ints Tryz.underlying22 Tryz.underlying5 (by kernel_rfl) hn with ⟨hcs, _⟩ | ⟨x, l, cp, zs, hcs, _, hl, hm, hz, _, hcell, hwz⟩
  · exact ⟨none, 0, 0, fun _ => 0, hcell0 _ hcs, by unfold maxLen; omega, fun h => absurd h (by omega), fun a h => by simp at h, fun i => by simp⟩
  · simp at hz
    refine ⟨some x, l, cp, fun i => zs.getD i 0, hcell0 _ hcs, by omega, fun hp => ?_, fun a h hp => ?_, fun i => ?_⟩
    · obtain ⟨b, off, rfl, hc⟩ := ints_at hcell (by omega)
      exact ⟨b, off, rfl, fun i hi => hc i (by omega)⟩
    · obtain rfl : x = a := by simpa using h
      have hc := hcell 0 (by omega)
      simpa [Addr.add] using World.block_lt_of_cell? w _ hc
    · by_cases hi : i < zs.length
      · have := bounds_u8 (hwz (zs.getD i 0) (by simp [List.getD, hi]))
        exact this
      · simp [List.getD, List.getElem?_eq_none (by omega : zs.length ≤ i)]
theorem bigYes (ad : Option Addr) (len cap : Nat) (w : World) (h : (1048576 : Int) < (len : Int)) : Calls Tryz.prog 6 #[.slice ad len cap] w fun e w' => e = .returned (.bool true) ∧ w' = w := by
  go_enter Tryz.func6, Tryz.ntmps6
  go_wp2
  go_ret
  exact ⟨rfl, rfl⟩
theorem bigNo (ad : Option Addr) (len cap : Nat) (w : World) (h : len ≤ 1048576) : Calls Tryz.prog 6 #[.slice ad len cap] w fun e w' => e = .returned (.bool false) ∧ w' = w := by
  have h' : decide ((1048576 : Int) < (len : Int)) = false := decide_eq_false (by omega)
  go_enter Tryz.func6, Tryz.ntmps6
  go_wp2
  go_ret
  exact ⟨rfl, rfl⟩

end Go.Proofs.YtifndemkkaelaaaGreat
namespace Go.Proofs.YtifndemkkaelaaaGreat
open Go.ChangeShapes Go.WideShapes Go.ChangeAt Go.RowKit
open Go.ChangeMaps (open_string shut_string)
set_option linter.unusedVariables false
set_option maxRecDepth 100000

end Go.Proofs.YtifndemkkaelaaaGreat
namespace Go.Proofs.YtifndemkkaelaaaGreat
open Go.ChangeShapes Go.WideShapes Go.ChangeAt Go.RowKit
open Go.ChangeMaps (open_string shut_string)
set_option linter.unusedVariables false
set_option maxRecDepth 100000

theorem do_get' (Ns : List Ob) (i : Nat) (h : i < Ns.length) : (Ns.getD i Ob.nil).d ∈ Ns.map Ob.d := List.mem_map_of_mem (by simp [List.getD, List.getElem?_eq_getElem h])
theorem outD_ok {d : Int × List Int} {a b c : Int} {L : List Int} (h : (outD d a b c L).ok = true) : okF (outD d a b c L).a (outD d a b c L).b (outD d a b c L).c (outD d a b c L).M.length = true ∧ (outD d a b c L).M = L := by
  unfold outD outR at h ⊢
  split at h
  · rename_i q
    rw [if_pos q]
    refine ⟨?_, rfl⟩
    have q1 := q.1
    unfold okF at q1 ⊢
    simp only [decide_eq_true_eq] at q1 ⊢
    split <;> omega
  · cases h
def OutAt (O : List Bool) (p : Int) (M : List Int) (y : Int × Int × Int × Int × List Int) (i : Nat) : Prop := y.1 = (i : Int) ∧ (i : Int) ≠ p ∧ O.getD i false = true ∧ okF y.2.1 y.2.2.1 y.2.2.2.1 y.2.2.2.2.length = true ∧ y.2.2.2.2 = M
theorem goesAt_at {O : List Bool} {D : DL} {p : Int} {x : FR} {kn : Bool} {only : Int} {i : Nat} {y : Int × Int × Int × Int × List Int} (h : y ∈ goesAt O D p x kn only i) : OutAt O p x.M y i := by
  unfold goesAt at h
  split at h
  · cases h
  · split at h
    · cases h
    · split at h
      · cases h
      · split at h
        · rename_i h1 h2 h3 h4
          obtain rfl := List.mem_singleton.1 h
          obtain ⟨g1, g2⟩ := outD_ok h4
          exact ⟨rfl, h1, by simpa using h2, g1, g2⟩
        · cases h
theorem cOk_tab {O : List Bool} {D : DL} {T : List Hd} {p a b c : Int} {L : List Int} (h : cOk O D T = true) : cOk O D (pTab O D T p a b c L) = true := by
  unfold cOk at h ⊢
  simp only [Bool.and_eq_true] at h ⊢
  refine ⟨h.1, h.2.1, h.2.2.1, h.2.2.2.1, ?_⟩
  unfold pTab
  split
  · unfold hearR
    split
    · assumption
    · exact h.2.2.2.2
  · exact h.2.2.2.2
structure VwI (w : World) (hi : Nat) (ad : Option Addr) (len : Nat) (f : Nat → Int) : Prop where
  v : View w ad len f
  i : ∀ x, ad = some x → 0 < len → x.block < hi
theorem VwI.of {w : World} {ad : Option Addr} {len : Nat} {f : Nat → Int} (h : View w ad len f) : VwI w w.heap.size ad len f := ⟨h, fun x e p => h.lt x e p⟩
theorem VwI.below {w w' : World} {hi B : Nat} {ad : Option Addr} {len : Nat} {f : Nat → Int} (h : VwI w hi ad len f) (k : Below B w w') (hB : hi ≤ B) : VwI w' hi ad len f := ⟨h.v.carry (fun x e p => k.block _ (by have := h.i x e p; omega)), h.i⟩
end Go.Proofs.YtifndemkkaelaaaGreat
