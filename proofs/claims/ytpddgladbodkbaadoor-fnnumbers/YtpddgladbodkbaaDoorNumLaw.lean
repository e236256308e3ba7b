/- FnNumbers, walked. -/
import Derived.Test.YtpddgladbodkbaaDoorRows
import Derived.WalkKit
import Derived.ProofKit
import Derived.OpenShut
import Derived.ShutString
import Derived.ChangeOld
import Derived.Below
import Derived.Deep.QuietTactic
import Derived.BigQuiet
import Derived.WalkSmall
import Derived.Laws.OwnMore
import Derived.WalkSpells
import Derived.WalkLawsBesides
import Derived.Deep.RegionHeld
import Derived.ChangeAlike
import Derived.Lib.SmallJoins
import Derived.Test.YtpddgladbodkbaaDoorNumPre
import Derived.Test.YtpddgladbodkbaaDoorTakes
import Derived.Test.YtpddgladbodkbaaDoorGetPut
import Derived.Test.YtpddgladbodkbaaDoorJoin
import Derived.Lib.SlBytesRow
import Derived.Test.YtpddgladbodkbaaDoorDraws3
import Derived.Test.YtpddgladbodkbaaDoorConv
import Derived.Test.YtpddgladbodkbaaDoorNumImpl
import Derived.Test.YtpddgladbodkbaaDoorNumSpec
import Derived.Test.YtpddgladbodkbaaDoorGetImpl
import Derived.Test.YtpddgladbodkbaaDoorGetSpec
import Derived.Test.YtpddgladbodkbaaDoorSplitSpec
import Derived.Test.YtpddgladbodkbaaDoorStrs
namespace Go.Proofs.YtpddgladbodkbaaDoor
open Go.ChangeShapes Go.WideShapes Go.ChangeAt Go.RowKit
open Go.ChangeMaps (open_string shut_string)
set_option linter.unusedVariables false

theorem join_region {P : Program} {reg : Code} {K : Act → World → Prop} {Q : Exit → Act → World → Prop} {l : List Value} {ds : List Deferred} {W : World} (R : List Value → List Value → World → Prop) (h1 : ∀ l' W', R l l' W' → K ⟨l'.toArray, ds⟩ W') (h2 : ∀ K2 : Act → World → Prop, Hid (∀ l' W', R l l' W' → K2 ⟨l'.toArray, ds⟩ W') → Code.wp P reg (Exit.then K2 Q) ⟨l.toArray, ds⟩ W) : Code.wp P reg (Exit.then K Q) ⟨l.toArray, ds⟩ W := h2 K h1
set_option maxRecDepth 100000 in
set_option maxHeartbeats 64000000 in
theorem walkN (a0 : Option Addr) (len0 cap0 : Nat) (f : Nat → Int) (w : World) (h0 : Code0 w a0 len0 f) (htab : Lib.TabIs Tryd.prog w "internal/strconv.uint64pow10" .u64 Lib.pow10Tab) 
    (tp1 tp2 : TypeId) (p1 p2 : Value) (hv1 : w.var? Tryd.prog "strconv.ErrSyntax" = some #[.iface tp1 p1]) (hv2 : w.var? Tryd.prog "strconv.ErrRange" = some #[.iface tp2 p2])
    (tp : TypeId) (p : Value) (hE : w.cell? ⟨0, 0, none⟩ = some (.iface tp p)) (m : Int) (hm : w.cell? ⟨4, 0, none⟩ = some (.int .i64 m)) :
    Calls Tryd.prog 3 #[.slice a0 len0 cap0] w fun e w' => e = .returned (.bool true) ∧ Below w.heap.size w w' := by
  have hl := h0.small
  go_enter Tryd.func3, Tryd.ntmps3
  go_wp2_with fail
  go_at_call 8
  refine (bigNo a0 len0 cap0 w hl).mono ?_
  rintro e x0 ⟨rfl, hx0⟩
  rw [hx0]
  clear hx0 x0
  go_wp2_with fail
  go_at_call 9
  refine (drawPut h0).mono ?_
  rintro e x1 ⟨x, rfl, hx, b1⟩
  have c1 := h0.later b1 (Nat.le_refl _)
  go_wp2_with fail
  go_at_call 10
  refine (putImpl x x1 (wf64d hx)).mono ?_
  rintro e x2 ⟨vb, rfl, ob, b2⟩
  obtain ⟨_, adb, capb, rfl, vb, _, kb⟩ := own_view ob
  have c2 := c1.later b2 (Nat.le_refl _)
  clear ob
  go_wp2_with fail
  go_at_call 11
  refine (drawDig c2).mono ?_
  rintro e x3 ⟨d, rfl, hd, b3⟩
  have c3 := c2.later b3 (Nat.le_refl _)
  go_wp2_with fail
  go_at_call 12
  refine (drawNum c3).mono ?_
  rintro e x4 ⟨s, rfl, hs, b4⟩
  have c4 := c3.later b4 (Nat.le_refl _)
  have B1 := b1
  have B2 := B1.trans (b2.mono B1.size)
  have B3 := B2.trans (b3.mono B2.size)
  have B4 := B3.trans (b4.mono B3.size)
  have vb4 : View x4 adb (putZ x).length (fun i => (putZ x).getD i 0) := vb.carry (fun a h _ => (b4.block _ (by have := (kb a h).2; have := b3.size; omega)).trans (b3.block _ (kb a h).2))
  have hI4 := numImpl s x4 (by omega) (tab_later htab B4) tp1 tp2 p1 p2 (Joins.var_stays gSyn hv1 B4 (Nat.le_refl _)) (Joins.var_stays gRan hv2 B4 (Nat.le_refl _)) tp p (cell_keep B4 hE)
  have hS5 := fun w' => numSpec s w' (by omega)
  generalize hRn : numR s.data.toList = Rn at hI4 hS5
  clear vb
  go_wp2_with fail
  go_at_call 13
  refine hI4.mono ?_
  rintro e x5 ⟨rfl, b5⟩
  have B5 := B4.trans (b5.mono B4.size)
  have hS := hS5 x5
  clear hI4 hS5
  obtain ⟨nv, nb, hnt, hnw⟩ : ∃ (nv : Int) (nb : Bool), numRes Rn = .tuple #[.int .i64 nv, .bool nb] ∧ Hid ((Rn = none ∧ nv = 0 ∧ nb = false) ∨ ∃ n : Nat, Rn = some n ∧ nv = (n : Int) ∧ nb = true) := by
    cases Rn with
    | none => exact ⟨0, false, rfl, .inl ⟨rfl, rfl, rfl⟩⟩
    | some n => exact ⟨n, true, rfl, .inr ⟨n, rfl, rfl, rfl⟩⟩
  have hRnH : Hid (numR s.data.toList = Rn) := hRn
  clear hRn
  rw [hnt] at hS ⊢
  go_wp2_with fail
  go_at_call 14
  refine hS.mono ?_
  rintro e x6 ⟨rfl, b6⟩
  have B6 := B5.trans (b6.mono B5.size)
  have c6 := h0.later B6 (Nat.le_refl _)
  go_wp2_with fail
  go_at_call 15
  refine (drawSum c6).mono ?_
  rintro e x7 ⟨vh, Lh, rfl, Mh, hLh⟩
  obtain ⟨_, adh, caph, rfl, vh, _, kh⟩ := own_view Mh.own
  have B7 := B6.trans (Mh.bel.mono B6.size)
  have B47 : Below x4.heap.size x4 x7 := (b5.trans (b6.mono b5.size)).trans (Mh.bel.mono (Nat.le_trans b5.size b6.size))
  have s24 : x2.heap.size ≤ x4.heap.size := Nat.le_trans b3.size b4.size
  have hcvb : ∀ w', Below x7.heap.size x7 w' → (convert 22 9 (.slice adb (putZ x).length capb)).run Tryd.prog w' = .ok (.string (txt (putZ x))) w' := fun w' h =>
    conv_later vb4 (putZ_bytes x) (fun a e => Nat.lt_of_lt_of_le (kb a e).2 s24) (B47.trans (h.mono B47.size))
  have htab7 : ∀ w', Below x7.heap.size x7 w' → Lib.TabIs Tryd.prog w' "internal/strconv.uint64pow10" .u64 Lib.pow10Tab := fun w' h => tab_later htab (B7.trans (h.mono B7.size))
  have vh7 : ∀ w', Below x7.heap.size x7 w' → View w' adh Lh.length (fun i => Lh.getD i 0) := fun w' h => vh.carry (fun a e _ => h.block _ (kh a e).2)
  have hE7 : ∀ w', Below x7.heap.size x7 w' → w'.cell? ⟨0, 0, none⟩ = some (.iface tp p) := fun w' h => cell_keep (B7.trans (h.mono B7.size)) hE
  have hm7 : ∀ w', Below x7.heap.size x7 w' → w'.cell? ⟨4, 0, none⟩ = some (.int .i64 m) := fun w' h => cell_keep (B7.trans (h.mono B7.size)) hm
  have hc7 : ∀ w', Below x7.heap.size x7 w' → Code0 w' a0 len0 f := fun w' h => h0.later (B7.trans (h.mono B7.size)) (Nat.le_refl _)
  have vb7 : ∀ w', Below x7.heap.size x7 w' → View w' adb (putZ x).length (fun i => (putZ x).getD i 0) := fun w' h => vb4.carry (fun a e _ => (B47.trans (h.mono B47.size)).block _ (Nat.lt_of_lt_of_le (kb a e).2 s24))
  have kb7 : ∀ a, adb = some a → a.block < x7.heap.size := fun a e => Nat.lt_of_lt_of_le (Nat.lt_of_lt_of_le (kb a e).2 s24) B47.size
  have hLb : ∀ i, 0 ≤ Lh.getD i 0 ∧ Lh.getD i 0 ≤ 255 := getD_bytes Mh.bytes
  have hPd := getD_bytes (putZ_bytes x)
  have hPl := putZ_len x
  have hR1 := getput_any x
  have hPb := putZ_bytes x
  generalize hPx : putZ x = Px at *
  clear vb4 kb B47 s24 hv1 hv2 hE hm htab c1 c2 c3 c4 c6 h0 hl vh kh Mh hS
  go_wp2_with fail
  refine join_region (fun l l' W' => l' = l.take 50 ++ (l'.drop 50).take 39 ++ l.drop 89 ∧ l'.length = l.length ∧ Below x7.heap.size x7 W' ∧ l'[88]? = some (.bool false)) ?tl ?_
  rotate_left
  · intro K2 hT2
    rcases hnw.out with ⟨rfl, rfl, rfl⟩ | ⟨n, rfl, rfl, rfl⟩
    · clear hnw hRnH
      refine wp_region_held (S := fun W => Below x7.heap.size x7 W) (by kernel_rfl) ?_
      change wpAnyH _ _ _ _ _ _ _ _ (World.drew _)
      have hb0 : Below x7.heap.size x7 x7.drew := (Below.refl _ _).drew
      refine takeW 0 50 (.slice adb Px.length capb) rfl rfl (by kernel_rfl) (by kernel_rfl) (by kernel_rfl) (fun _ _ _ h => h) (by kernel_rfl) (by (intro w hSw; go_simp)) (by assumption) ?_
      simp only [List.set_cons_zero, List.set_cons_succ]
      refine takeW 1 51 (.string (txt Px)) rfl rfl (by kernel_rfl) (by kernel_rfl) (by kernel_rfl) (fun _ _ _ h => h) (by kernel_rfl) (by (intro w hSw; have hq := hcvb w hSw; go_simp)) (by assumption) ?_
      simp only [List.set_cons_zero, List.set_cons_succ]
      refine takeW 2 52 (.int .i64 x) rfl rfl (by kernel_rfl) (by kernel_rfl) (by kernel_rfl) (fun _ _ _ h => h) (by kernel_rfl) (by (intro w hSw; go_simp)) (by assumption) ?_
      simp only [List.set_cons_zero, List.set_cons_succ]
      refine wpAnyH_all (rs := [3]) (by kernel_rfl) (by simp) ?_
      intro i hi; obtain rfl : i = 3 := by simpa using hi
      refine wpOp_step rfl (fun K hK => ?_)
      rw [if_pos (by kernel_rfl)]
      go_simp
      go_at_call 16
      refine (putSpec x _ (wf64d hx)).mono ?_
      rintro e y1 ⟨v1, rfl, o1, c1⟩
      rw [hPx] at o1
      obtain ⟨_, ad1, cap1, rfl, v1, _, k1⟩ := own_view o1
      have hc1 := conv_view (cap := cap1) v1 hPb
      have hb1 : Below x7.heap.size x7 y1 := nextB c1 hb0
      clear o1 c1 v1 k1
      refine hK _ _ ⟨hb1, ?_⟩
      clear hK K hi
      refine wpAnyH_all (rs := [4]) (by kernel_rfl) (by simp) ?_
      intro i hi; obtain rfl : i = 4 := by simpa using hi
      refine wpOp_step rfl (fun K hK => ?_)
      rw [if_pos (by kernel_rfl)]
      go_simp
      refine hK _ _ ⟨hb1, ?_⟩
      clear hK K hi
      refine takeW 5 55 (.bool false) rfl rfl (by kernel_rfl) (by kernel_rfl) (by kernel_rfl) (fun _ _ _ h => h) (by kernel_rfl) (by (intro w hSw; go_simp)) (by assumption) ?_
      simp only [List.set_cons_zero, List.set_cons_succ]
      refine takeW 6 56 (.bool false) rfl rfl (by kernel_rfl) (by kernel_rfl) (by kernel_rfl) (fun _ _ _ h => h) (by kernel_rfl) (by (intro w hSw; go_simp)) (by assumption) ?_
      simp only [List.set_cons_zero, List.set_cons_succ]
      refine takeW 7 57 (.int .i64 d) rfl rfl (by kernel_rfl) (by kernel_rfl) (by kernel_rfl) (fun _ _ _ h => h) (by kernel_rfl) (by (intro w hSw; go_simp)) (by assumption) ?_
      simp only [List.set_cons_zero, List.set_cons_succ]
      refine takeW 9 59 (.int .i64 d) rfl rfl (by kernel_rfl) (by kernel_rfl) (by kernel_rfl) (fun _ _ _ h => h) (by kernel_rfl) (by (intro w hSw; go_simp)) (by assumption) ?_
      simp only [List.set_cons_zero, List.set_cons_succ]
      refine wpAnyH_all (rs := [8]) (by kernel_rfl) (by simp) ?_
      intro i hi; obtain rfl : i = 8 := by simpa using hi
      refine wpOp_step rfl (fun K hK => ?_)
      rw [if_pos (by kernel_rfl)]
      go_simp
      go_at_call 17
      refine (digitsImpl d _ hd.1 hd.2 (htab7 _ hb1)).mono ?_
      rintro e y2 ⟨rfl, c2⟩
      have hb2 : Below x7.heap.size x7 y2 := nextB c2 hb1
      clear c2 hc1 hb1
      refine hK _ _ ⟨hb2, ?_⟩
      clear hK K hi
      refine wpAnyH_all (rs := [10]) (by kernel_rfl) (by simp) ?_
      intro i hi; obtain rfl : i = 10 := by simpa using hi
      refine wpOp_step rfl (fun K hK => ?_)
      rw [if_pos (by kernel_rfl)]
      go_simp
      go_at_call 18
      refine (digitsSpec d _ hd.1 hd.2).mono ?_
      rintro e y3 ⟨rfl, c3⟩
      have hb3 : Below x7.heap.size x7 y3 := nextB c3 hb2
      clear c3 hb2
      refine hK _ _ ⟨hb3, ?_⟩
      clear hK K hi
      refine takeW 11 61 (.bool false) rfl rfl (by kernel_rfl) (by kernel_rfl) (by kernel_rfl) (fun _ _ _ h => h) (by kernel_rfl) (by (intro w hSw; go_simp)) (by assumption) ?_
      simp only [List.set_cons_zero, List.set_cons_succ]
      refine takeW 12 62 (.bool false) rfl rfl (by kernel_rfl) (by kernel_rfl) (by kernel_rfl) (fun _ _ _ h => h) (by kernel_rfl) (by (intro w hSw; go_simp)) (by assumption) ?_
      simp only [List.set_cons_zero, List.set_cons_succ]
      refine takeW 13 63 (.bool false) rfl rfl (by kernel_rfl) (by kernel_rfl) (by kernel_rfl) (fun _ _ _ h => h) (by kernel_rfl) (by (intro w hSw; go_simp)) (by assumption) ?_
      simp only [List.set_cons_zero, List.set_cons_succ]
      refine takeW 14 64 (.int .i64 0) rfl rfl (by kernel_rfl) (by kernel_rfl) (by kernel_rfl) (fun _ _ _ h => h) (by kernel_rfl) (by (intro w hSw; go_simp)) (by assumption) ?_
      simp only [List.set_cons_zero, List.set_cons_succ]
      refine takeW 15 65 (.int .i64 0) rfl rfl (by kernel_rfl) (by kernel_rfl) (by kernel_rfl) (fun _ _ _ h => h) (by kernel_rfl) (by (intro w hSw; go_simp)) (by assumption) ?_
      simp only [List.set_cons_zero, List.set_cons_succ]
      refine takeW 16 66 (.bool false) rfl rfl (by kernel_rfl) (by kernel_rfl) (by kernel_rfl) (fun _ _ _ h => h) (by kernel_rfl) (by (intro w hSw; go_simp)) (by assumption) ?_
      simp only [List.set_cons_zero, List.set_cons_succ]
      refine takeW 17 67 (.bool false) rfl rfl (by kernel_rfl) (by kernel_rfl) (by kernel_rfl) (fun _ _ _ h => h) (by kernel_rfl) (by (intro w hSw; go_simp)) (by assumption) ?_
      simp only [List.set_cons_zero, List.set_cons_succ]
      refine takeW 18 68 (.bool false) rfl rfl (by kernel_rfl) (by kernel_rfl) (by kernel_rfl) (fun _ _ _ h => h) (by kernel_rfl) (by (intro w hSw; go_simp)) (by assumption) ?_
      simp only [List.set_cons_zero, List.set_cons_succ]
      refine takeW 19 69 (.bool false) rfl rfl (by kernel_rfl) (by kernel_rfl) (by kernel_rfl) (fun _ _ _ h => h) (by kernel_rfl) (by (intro w hSw; go_simp)) (by assumption) ?_
      simp only [List.set_cons_zero, List.set_cons_succ]
      refine takeW 20 70 (.bool false) rfl rfl (by kernel_rfl) (by kernel_rfl) (by kernel_rfl) (fun _ _ _ h => h) (by kernel_rfl) (by (intro w hSw; go_simp)) (by assumption) ?_
      simp only [List.set_cons_zero, List.set_cons_succ]
      refine takeW 21 71 (.bool false) rfl rfl (by kernel_rfl) (by kernel_rfl) (by kernel_rfl) (fun _ _ _ h => h) (by kernel_rfl) (by (intro w hSw; go_simp)) (by assumption) ?_
      simp only [List.set_cons_zero, List.set_cons_succ]
      refine takeW 22 72 (.bool false) rfl rfl (by kernel_rfl) (by kernel_rfl) (by kernel_rfl) (fun _ _ _ h => h) (by kernel_rfl) (by (intro w hSw; go_simp)) (by assumption) ?_
      simp only [List.set_cons_zero, List.set_cons_succ]
      refine takeW 23 73 (.bool false) rfl rfl (by kernel_rfl) (by kernel_rfl) (by kernel_rfl) (fun _ _ _ h => h) (by kernel_rfl) (by (intro w hSw; go_simp)) (by assumption) ?_
      simp only [List.set_cons_zero, List.set_cons_succ]
      refine takeW 24 74 (.bool false) rfl rfl (by kernel_rfl) (by kernel_rfl) (by kernel_rfl) (fun _ _ _ h => h) (by kernel_rfl) (by (intro w hSw; go_simp)) (by assumption) ?_
      simp only [List.set_cons_zero, List.set_cons_succ]
      refine takeW 25 75 (.bool false) rfl rfl (by kernel_rfl) (by kernel_rfl) (by kernel_rfl) (fun _ _ _ h => h) (by kernel_rfl) (by (intro w hSw; go_simp)) (by assumption) ?_
      simp only [List.set_cons_zero, List.set_cons_succ]
      refine takeS 26 76 rfl rfl (by kernel_rfl) (by kernel_rfl) (by kernel_rfl) (fun _ _ _ h => h) (by kernel_rfl) (by assumption) ?_
      simp only [List.set_cons_zero, List.set_cons_succ]
      refine takeS 28 78 rfl rfl (by kernel_rfl) (by kernel_rfl) (by kernel_rfl) (fun _ _ _ h => h) (by kernel_rfl) (by assumption) ?_
      simp only [List.set_cons_zero, List.set_cons_succ]
      refine takeS 27 77 rfl rfl (by kernel_rfl) (by kernel_rfl) (by kernel_rfl) (fun _ _ _ h => h) (by kernel_rfl) (by assumption) ?_
      simp only [List.set_cons_zero, List.set_cons_succ]
      refine takeS 29 79 rfl rfl (by kernel_rfl) (by kernel_rfl) (by kernel_rfl) (fun _ _ _ h => h) (by kernel_rfl) (by assumption) ?_
      simp only [List.set_cons_zero, List.set_cons_succ]
      refine takeW 30 80 (.bool false) rfl rfl (by kernel_rfl) (by kernel_rfl) (by kernel_rfl) (fun _ _ _ h => h) (by kernel_rfl) (by (intro w hSw; go_simp)) (by assumption) ?_
      simp only [List.set_cons_zero, List.set_cons_succ]
      refine takeW 31 81 (.bool false) rfl rfl (by kernel_rfl) (by kernel_rfl) (by kernel_rfl) (fun _ _ _ h => h) (by kernel_rfl) (by (intro w hSw; go_simp)) (by assumption) ?_
      simp only [List.set_cons_zero, List.set_cons_succ]
      refine takeW 32 82 (.bool false) rfl rfl (by kernel_rfl) (by kernel_rfl) (by kernel_rfl) (fun _ _ _ h => h) (by kernel_rfl) (by (intro w hSw; go_simp)) (by assumption) ?_
      simp only [List.set_cons_zero, List.set_cons_succ]
      refine takeW 33 83 (.slice adh Lh.length caph) rfl rfl (by kernel_rfl) (by kernel_rfl) (by kernel_rfl) (fun _ _ _ h => h) (by kernel_rfl) (by (intro w hSw; go_simp)) (by assumption) ?_
      simp only [List.set_cons_zero, List.set_cons_succ]
      refine takeW 35 85 (.slice adh Lh.length caph) rfl rfl (by kernel_rfl) (by kernel_rfl) (by kernel_rfl) (fun _ _ _ h => h) (by kernel_rfl) (by (intro w hSw; go_simp)) (by assumption) ?_
      simp only [List.set_cons_zero, List.set_cons_succ]
      refine wpAnyH_all (rs := [34]) (by kernel_rfl) (by simp) ?_
      intro i hi; obtain rfl : i = 34 := by simpa using hi
      refine wpOp_step rfl (fun K hK => ?_)
      rw [if_pos (by kernel_rfl)]
      go_simp
      go_at_call 19
      refine (sumImpl adh Lh.length caph (fun i => Lh.getD i 0) _ (vh7 _ hb3) (by omega) hLb).mono ?_
      rintro e y5 ⟨rfl, rfl⟩
      refine hK _ _ ⟨hb3, ?_⟩
      clear hK K hi
      refine wpAnyH_all (rs := [36]) (by kernel_rfl) (by simp) ?_
      intro i hi; obtain rfl : i = 36 := by simpa using hi
      refine wpOp_step rfl (fun K hK => ?_)
      rw [if_pos (by kernel_rfl)]
      go_simp
      go_at_call 20
      refine (sumSpec adh Lh.length caph (fun i => Lh.getD i 0) _ (vh7 _ hb3) (by omega) hLb).mono ?_
      rintro e y5 ⟨rfl, rfl⟩
      refine hK _ _ ⟨hb3, ?_⟩
      clear hK K hi
      refine takeW 37 87 (.bool false) rfl rfl (by kernel_rfl) (by kernel_rfl) (by kernel_rfl) (fun _ _ _ h => h) (by kernel_rfl) (by (intro w hSw; go_simp)) (by assumption) ?_
      simp only [List.set_cons_zero, List.set_cons_succ]
      refine takeW 38 88 (.bool false) rfl rfl (by kernel_rfl) (by kernel_rfl) (by kernel_rfl) (fun _ _ _ h => h) (by kernel_rfl) (by (intro w hSw; go_simp)) (by assumption) ?_
      simp only [List.set_cons_zero, List.set_cons_succ]
      refine wpAnyH_done (by kernel_rfl) ?_ _
      exact hT2.out _ _ ⟨by kernel_rfl, by kernel_rfl, hb3, by kernel_rfl⟩
    · have hRn := hRnH.out
      have hns0 := atoiAll_of hRn
      have hn0 : -9223372036854775808 ≤ (n : Int) := by omega
      have hn1 : (n : Int) ≤ 9223372036854775807 := by have := hns0.2.1; omega
      have hns : (⟨(Lib.itoa (n : Int)).toArray⟩ : ByteArray) = s := ext_list (by simp [hns0.2.2])
      clear hns0
      clear hnw hRnH hRn
      refine wp_region_held (S := fun W => Below x7.heap.size x7 W) (by kernel_rfl) ?_
      change wpAnyH _ _ _ _ _ _ _ _ (World.drew _)
      have hb0 : Below x7.heap.size x7 x7.drew := (Below.refl _ _).drew
      refine takeW 0 50 (.slice adb Px.length capb) rfl rfl (by kernel_rfl) (by kernel_rfl) (by kernel_rfl) (fun _ _ _ h => h) (by kernel_rfl) (by (intro w hSw; go_simp)) (by assumption) ?_
      simp only [List.set_cons_zero, List.set_cons_succ]
      refine takeW 1 51 (.string (txt Px)) rfl rfl (by kernel_rfl) (by kernel_rfl) (by kernel_rfl) (fun _ _ _ h => h) (by kernel_rfl) (by (intro w hSw; have hq := hcvb w hSw; go_simp)) (by assumption) ?_
      simp only [List.set_cons_zero, List.set_cons_succ]
      refine takeW 2 52 (.int .i64 x) rfl rfl (by kernel_rfl) (by kernel_rfl) (by kernel_rfl) (fun _ _ _ h => h) (by kernel_rfl) (by (intro w hSw; go_simp)) (by assumption) ?_
      simp only [List.set_cons_zero, List.set_cons_succ]
      refine wpAnyH_all (rs := [3]) (by kernel_rfl) (by simp) ?_
      intro i hi; obtain rfl : i = 3 := by simpa using hi
      refine wpOp_step rfl (fun K hK => ?_)
      rw [if_pos (by kernel_rfl)]
      go_simp
      go_at_call 16
      refine (putSpec x _ (wf64d hx)).mono ?_
      rintro e y1 ⟨v1, rfl, o1, c1⟩
      rw [hPx] at o1
      obtain ⟨_, ad1, cap1, rfl, v1, _, k1⟩ := own_view o1
      have hc1 := conv_view (cap := cap1) v1 hPb
      have hb1 : Below x7.heap.size x7 y1 := nextB c1 hb0
      clear o1 c1 v1 k1
      refine hK _ _ ⟨hb1, ?_⟩
      clear hK K hi
      refine wpAnyH_all (rs := [4]) (by kernel_rfl) (by simp) ?_
      intro i hi; obtain rfl : i = 4 := by simpa using hi
      refine wpOp_step rfl (fun K hK => ?_)
      rw [if_pos (by kernel_rfl)]
      go_simp
      refine hK _ _ ⟨hb1, ?_⟩
      clear hK K hi
      refine takeW 5 55 (.bool false) rfl rfl (by kernel_rfl) (by kernel_rfl) (by kernel_rfl) (fun _ _ _ h => h) (by kernel_rfl) (by (intro w hSw; go_simp)) (by assumption) ?_
      simp only [List.set_cons_zero, List.set_cons_succ]
      refine takeW 6 56 (.bool false) rfl rfl (by kernel_rfl) (by kernel_rfl) (by kernel_rfl) (fun _ _ _ h => h) (by kernel_rfl) (by (intro w hSw; go_simp)) (by assumption) ?_
      simp only [List.set_cons_zero, List.set_cons_succ]
      refine takeW 7 57 (.int .i64 d) rfl rfl (by kernel_rfl) (by kernel_rfl) (by kernel_rfl) (fun _ _ _ h => h) (by kernel_rfl) (by (intro w hSw; go_simp)) (by assumption) ?_
      simp only [List.set_cons_zero, List.set_cons_succ]
      refine takeW 9 59 (.int .i64 d) rfl rfl (by kernel_rfl) (by kernel_rfl) (by kernel_rfl) (fun _ _ _ h => h) (by kernel_rfl) (by (intro w hSw; go_simp)) (by assumption) ?_
      simp only [List.set_cons_zero, List.set_cons_succ]
      refine wpAnyH_all (rs := [8]) (by kernel_rfl) (by simp) ?_
      intro i hi; obtain rfl : i = 8 := by simpa using hi
      refine wpOp_step rfl (fun K hK => ?_)
      rw [if_pos (by kernel_rfl)]
      go_simp
      go_at_call 17
      refine (digitsImpl d _ hd.1 hd.2 (htab7 _ hb1)).mono ?_
      rintro e y2 ⟨rfl, c2⟩
      have hb2 : Below x7.heap.size x7 y2 := nextB c2 hb1
      clear c2 hc1 hb1
      refine hK _ _ ⟨hb2, ?_⟩
      clear hK K hi
      refine wpAnyH_all (rs := [10]) (by kernel_rfl) (by simp) ?_
      intro i hi; obtain rfl : i = 10 := by simpa using hi
      refine wpOp_step rfl (fun K hK => ?_)
      rw [if_pos (by kernel_rfl)]
      go_simp
      go_at_call 18
      refine (digitsSpec d _ hd.1 hd.2).mono ?_
      rintro e y3 ⟨rfl, c3⟩
      have hb3 : Below x7.heap.size x7 y3 := nextB c3 hb2
      clear c3 hb2
      refine hK _ _ ⟨hb3, ?_⟩
      clear hK K hi
      refine takeW 11 61 (.bool false) rfl rfl (by kernel_rfl) (by kernel_rfl) (by kernel_rfl) (fun _ _ _ h => h) (by kernel_rfl) (by (intro w hSw; go_simp)) (by assumption) ?_
      simp only [List.set_cons_zero, List.set_cons_succ]
      refine takeW 12 62 (.bool false) rfl rfl (by kernel_rfl) (by kernel_rfl) (by kernel_rfl) (fun _ _ _ h => h) (by kernel_rfl) (by (intro w hSw; go_simp)) (by assumption) ?_
      simp only [List.set_cons_zero, List.set_cons_succ]
      refine takeW 13 63 (.bool false) rfl rfl (by kernel_rfl) (by kernel_rfl) (by kernel_rfl) (fun _ _ _ h => h) (by kernel_rfl) (by (intro w hSw; go_simp)) (by assumption) ?_
      simp only [List.set_cons_zero, List.set_cons_succ]
      refine takeW 14 64 (.int .i64 (n : Int)) rfl rfl (by kernel_rfl) (by kernel_rfl) (by kernel_rfl) (fun _ _ _ h => h) (by kernel_rfl) (by (intro w hSw; go_simp)) (by assumption) ?_
      simp only [List.set_cons_zero, List.set_cons_succ]
      refine takeW 15 65 (.int .i64 (n : Int)) rfl rfl (by kernel_rfl) (by kernel_rfl) (by kernel_rfl) (fun _ _ _ h => h) (by kernel_rfl) (by (intro w hSw; go_simp)) (by assumption) ?_
      simp only [List.set_cons_zero, List.set_cons_succ]
      refine takeW 16 66 (.bool false) rfl rfl (by kernel_rfl) (by kernel_rfl) (by kernel_rfl) (fun _ _ _ h => h) (by kernel_rfl) (by (intro w hSw; go_simp)) (by assumption) ?_
      simp only [List.set_cons_zero, List.set_cons_succ]
      refine takeW 17 67 (.bool false) rfl rfl (by kernel_rfl) (by kernel_rfl) (by kernel_rfl) (fun _ _ _ h => h) (by kernel_rfl) (by (intro w hSw; go_simp)) (by assumption) ?_
      simp only [List.set_cons_zero, List.set_cons_succ]
      refine takeW 18 68 (.bool false) rfl rfl (by kernel_rfl) (by kernel_rfl) (by kernel_rfl) (fun _ _ _ h => h) (by kernel_rfl) (by (intro w hSw; go_simp)) (by assumption) ?_
      simp only [List.set_cons_zero, List.set_cons_succ]
      refine takeW 19 69 (.bool true) rfl rfl (by kernel_rfl) (by kernel_rfl) (by kernel_rfl) (fun _ _ _ h => h) (by kernel_rfl) (by (intro w hSw; go_simp)) (by assumption) ?_
      simp only [List.set_cons_zero, List.set_cons_succ]
      refine takeW 20 70 (.bool true) rfl rfl (by kernel_rfl) (by kernel_rfl) (by kernel_rfl) (fun _ _ _ h => h) (by kernel_rfl) (by (intro w hSw; go_simp)) (by assumption) ?_
      simp only [List.set_cons_zero, List.set_cons_succ]
      refine takeW 21 71 (.bool false) rfl rfl (by kernel_rfl) (by kernel_rfl) (by kernel_rfl) (fun _ _ _ h => h) (by kernel_rfl) (by (intro w hSw; go_simp)) (by assumption) ?_
      simp only [List.set_cons_zero, List.set_cons_succ]
      refine takeW 22 72 (.bool false) rfl rfl (by kernel_rfl) (by kernel_rfl) (by kernel_rfl) (fun _ _ _ h => h) (by kernel_rfl) (by (intro w hSw; go_simp)) (by assumption) ?_
      simp only [List.set_cons_zero, List.set_cons_succ]
      refine takeW 23 73 (.bool false) rfl rfl (by kernel_rfl) (by kernel_rfl) (by kernel_rfl) (fun _ _ _ h => h) (by kernel_rfl) (by (intro w hSw; go_simp)) (by assumption) ?_
      simp only [List.set_cons_zero, List.set_cons_succ]
      refine takeW 24 74 (.bool true) rfl rfl (by kernel_rfl) (by kernel_rfl) (by kernel_rfl) (fun _ _ _ h => h) (by kernel_rfl) (by (intro w hSw; go_simp)) (by assumption) ?_
      simp only [List.set_cons_zero, List.set_cons_succ]
      refine takeW 25 75 (.bool true) rfl rfl (by kernel_rfl) (by kernel_rfl) (by kernel_rfl) (fun _ _ _ h => h) (by kernel_rfl) (by (intro w hSw; go_simp)) (by assumption) ?_
      simp only [List.set_cons_zero, List.set_cons_succ]
      refine takeW 26 76 (.int .i64 (n : Int)) rfl rfl (by kernel_rfl) (by kernel_rfl) (by kernel_rfl) (fun _ _ _ h => h) (by kernel_rfl) (by (intro w hSw; go_simp)) (by assumption) ?_
      simp only [List.set_cons_zero, List.set_cons_succ]
      refine takeW 28 78 (.string s) rfl rfl (by kernel_rfl) (by kernel_rfl) (by kernel_rfl) (fun _ _ _ h => h) (by kernel_rfl) (by (intro w hSw; go_simp)) (by assumption) ?_
      simp only [List.set_cons_zero, List.set_cons_succ]
      refine wpAnyH_all (rs := [27]) (by kernel_rfl) (by simp) ?_
      intro i hi; obtain rfl : i = 27 := by simpa using hi
      refine wpOp_step rfl (fun K hK => ?_)
      rw [if_pos (by kernel_rfl)]
      go_simp
      go_at_call 17
      refine (digitsImpl (n : Int) _ hn0 hn1 (htab7 _ hb3)).mono ?_
      rw [hns]
      rintro e y4 ⟨rfl, c4⟩
      have hb4 : Below x7.heap.size x7 y4 := nextB c4 hb3
      clear c4 hb3
      refine hK _ _ ⟨hb4, ?_⟩
      clear hK K hi
      refine takeW 29 79 (.bool false) rfl rfl (by kernel_rfl) (by kernel_rfl) (by kernel_rfl) (fun _ _ _ h => h) (by kernel_rfl) (by (intro w hSw; go_simp)) (by assumption) ?_
      simp only [List.set_cons_zero, List.set_cons_succ]
      refine takeW 30 80 (.bool false) rfl rfl (by kernel_rfl) (by kernel_rfl) (by kernel_rfl) (fun _ _ _ h => h) (by kernel_rfl) (by (intro w hSw; go_simp)) (by assumption) ?_
      simp only [List.set_cons_zero, List.set_cons_succ]
      refine takeW 31 81 (.bool false) rfl rfl (by kernel_rfl) (by kernel_rfl) (by kernel_rfl) (fun _ _ _ h => h) (by kernel_rfl) (by (intro w hSw; go_simp)) (by assumption) ?_
      simp only [List.set_cons_zero, List.set_cons_succ]
      refine takeW 32 82 (.bool false) rfl rfl (by kernel_rfl) (by kernel_rfl) (by kernel_rfl) (fun _ _ _ h => h) (by kernel_rfl) (by (intro w hSw; go_simp)) (by assumption) ?_
      simp only [List.set_cons_zero, List.set_cons_succ]
      refine takeW 33 83 (.slice adh Lh.length caph) rfl rfl (by kernel_rfl) (by kernel_rfl) (by kernel_rfl) (fun _ _ _ h => h) (by kernel_rfl) (by (intro w hSw; go_simp)) (by assumption) ?_
      simp only [List.set_cons_zero, List.set_cons_succ]
      refine takeW 35 85 (.slice adh Lh.length caph) rfl rfl (by kernel_rfl) (by kernel_rfl) (by kernel_rfl) (fun _ _ _ h => h) (by kernel_rfl) (by (intro w hSw; go_simp)) (by assumption) ?_
      simp only [List.set_cons_zero, List.set_cons_succ]
      refine wpAnyH_all (rs := [34]) (by kernel_rfl) (by simp) ?_
      intro i hi; obtain rfl : i = 34 := by simpa using hi
      refine wpOp_step rfl (fun K hK => ?_)
      rw [if_pos (by kernel_rfl)]
      go_simp
      go_at_call 19
      refine (sumImpl adh Lh.length caph (fun i => Lh.getD i 0) _ (vh7 _ hb4) (by omega) hLb).mono ?_
      rintro e y5 ⟨rfl, rfl⟩
      refine hK _ _ ⟨hb4, ?_⟩
      clear hK K hi
      refine wpAnyH_all (rs := [36]) (by kernel_rfl) (by simp) ?_
      intro i hi; obtain rfl : i = 36 := by simpa using hi
      refine wpOp_step rfl (fun K hK => ?_)
      rw [if_pos (by kernel_rfl)]
      go_simp
      go_at_call 20
      refine (sumSpec adh Lh.length caph (fun i => Lh.getD i 0) _ (vh7 _ hb4) (by omega) hLb).mono ?_
      rintro e y5 ⟨rfl, rfl⟩
      refine hK _ _ ⟨hb4, ?_⟩
      clear hK K hi
      refine takeW 37 87 (.bool false) rfl rfl (by kernel_rfl) (by kernel_rfl) (by kernel_rfl) (fun _ _ _ h => h) (by kernel_rfl) (by (intro w hSw; go_simp)) (by assumption) ?_
      simp only [List.set_cons_zero, List.set_cons_succ]
      refine takeW 38 88 (.bool false) rfl rfl (by kernel_rfl) (by kernel_rfl) (by kernel_rfl) (fun _ _ _ h => h) (by kernel_rfl) (by (intro w hSw; go_simp)) (by assumption) ?_
      simp only [List.set_cons_zero, List.set_cons_succ]
      refine wpAnyH_done (by kernel_rfl) ?_ _
      exact hT2.out _ _ ⟨by kernel_rfl, by kernel_rfl, hb4, by kernel_rfl⟩
  case tl =>
    rintro l' W' ⟨e1, e2, hbT, e4⟩
    obtain ⟨us, hus⟩ : ∃ us, (l'.drop 50).take 39 = us := ⟨_, rfl⟩
    have hul : us.length = 39 := by rw [← hus, List.length_take, List.length_drop, e2]; rfl
    rw [hus] at e1
    clear hus e2
    obtain ⟨u50, us, rfl⟩ : ∃ a b, us = a :: b := List.exists_cons_of_length_eq_add_one hul
    replace hul := Nat.succ.inj hul
    obtain ⟨u51, us, rfl⟩ : ∃ a b, us = a :: b := List.exists_cons_of_length_eq_add_one hul
    replace hul := Nat.succ.inj hul
    obtain ⟨u52, us, rfl⟩ : ∃ a b, us = a :: b := List.exists_cons_of_length_eq_add_one hul
    replace hul := Nat.succ.inj hul
    obtain ⟨u53, us, rfl⟩ : ∃ a b, us = a :: b := List.exists_cons_of_length_eq_add_one hul
    replace hul := Nat.succ.inj hul
    obtain ⟨u54, us, rfl⟩ : ∃ a b, us = a :: b := List.exists_cons_of_length_eq_add_one hul
    replace hul := Nat.succ.inj hul
    obtain ⟨u55, us, rfl⟩ : ∃ a b, us = a :: b := List.exists_cons_of_length_eq_add_one hul
    replace hul := Nat.succ.inj hul
    obtain ⟨u56, us, rfl⟩ : ∃ a b, us = a :: b := List.exists_cons_of_length_eq_add_one hul
    replace hul := Nat.succ.inj hul
    obtain ⟨u57, us, rfl⟩ : ∃ a b, us = a :: b := List.exists_cons_of_length_eq_add_one hul
    replace hul := Nat.succ.inj hul
    obtain ⟨u58, us, rfl⟩ : ∃ a b, us = a :: b := List.exists_cons_of_length_eq_add_one hul
    replace hul := Nat.succ.inj hul
    obtain ⟨u59, us, rfl⟩ : ∃ a b, us = a :: b := List.exists_cons_of_length_eq_add_one hul
    replace hul := Nat.succ.inj hul
    obtain ⟨u60, us, rfl⟩ : ∃ a b, us = a :: b := List.exists_cons_of_length_eq_add_one hul
    replace hul := Nat.succ.inj hul
    obtain ⟨u61, us, rfl⟩ : ∃ a b, us = a :: b := List.exists_cons_of_length_eq_add_one hul
    replace hul := Nat.succ.inj hul
    obtain ⟨u62, us, rfl⟩ : ∃ a b, us = a :: b := List.exists_cons_of_length_eq_add_one hul
    replace hul := Nat.succ.inj hul
    obtain ⟨u63, us, rfl⟩ : ∃ a b, us = a :: b := List.exists_cons_of_length_eq_add_one hul
    replace hul := Nat.succ.inj hul
    obtain ⟨u64, us, rfl⟩ : ∃ a b, us = a :: b := List.exists_cons_of_length_eq_add_one hul
    replace hul := Nat.succ.inj hul
    obtain ⟨u65, us, rfl⟩ : ∃ a b, us = a :: b := List.exists_cons_of_length_eq_add_one hul
    replace hul := Nat.succ.inj hul
    obtain ⟨u66, us, rfl⟩ : ∃ a b, us = a :: b := List.exists_cons_of_length_eq_add_one hul
    replace hul := Nat.succ.inj hul
    obtain ⟨u67, us, rfl⟩ : ∃ a b, us = a :: b := List.exists_cons_of_length_eq_add_one hul
    replace hul := Nat.succ.inj hul
    obtain ⟨u68, us, rfl⟩ : ∃ a b, us = a :: b := List.exists_cons_of_length_eq_add_one hul
    replace hul := Nat.succ.inj hul
    obtain ⟨u69, us, rfl⟩ : ∃ a b, us = a :: b := List.exists_cons_of_length_eq_add_one hul
    replace hul := Nat.succ.inj hul
    obtain ⟨u70, us, rfl⟩ : ∃ a b, us = a :: b := List.exists_cons_of_length_eq_add_one hul
    replace hul := Nat.succ.inj hul
    obtain ⟨u71, us, rfl⟩ : ∃ a b, us = a :: b := List.exists_cons_of_length_eq_add_one hul
    replace hul := Nat.succ.inj hul
    obtain ⟨u72, us, rfl⟩ : ∃ a b, us = a :: b := List.exists_cons_of_length_eq_add_one hul
    replace hul := Nat.succ.inj hul
    obtain ⟨u73, us, rfl⟩ : ∃ a b, us = a :: b := List.exists_cons_of_length_eq_add_one hul
    replace hul := Nat.succ.inj hul
    obtain ⟨u74, us, rfl⟩ : ∃ a b, us = a :: b := List.exists_cons_of_length_eq_add_one hul
    replace hul := Nat.succ.inj hul
    obtain ⟨u75, us, rfl⟩ : ∃ a b, us = a :: b := List.exists_cons_of_length_eq_add_one hul
    replace hul := Nat.succ.inj hul
    obtain ⟨u76, us, rfl⟩ : ∃ a b, us = a :: b := List.exists_cons_of_length_eq_add_one hul
    replace hul := Nat.succ.inj hul
    obtain ⟨u77, us, rfl⟩ : ∃ a b, us = a :: b := List.exists_cons_of_length_eq_add_one hul
    replace hul := Nat.succ.inj hul
    obtain ⟨u78, us, rfl⟩ : ∃ a b, us = a :: b := List.exists_cons_of_length_eq_add_one hul
    replace hul := Nat.succ.inj hul
    obtain ⟨u79, us, rfl⟩ : ∃ a b, us = a :: b := List.exists_cons_of_length_eq_add_one hul
    replace hul := Nat.succ.inj hul
    obtain ⟨u80, us, rfl⟩ : ∃ a b, us = a :: b := List.exists_cons_of_length_eq_add_one hul
    replace hul := Nat.succ.inj hul
    obtain ⟨u81, us, rfl⟩ : ∃ a b, us = a :: b := List.exists_cons_of_length_eq_add_one hul
    replace hul := Nat.succ.inj hul
    obtain ⟨u82, us, rfl⟩ : ∃ a b, us = a :: b := List.exists_cons_of_length_eq_add_one hul
    replace hul := Nat.succ.inj hul
    obtain ⟨u83, us, rfl⟩ : ∃ a b, us = a :: b := List.exists_cons_of_length_eq_add_one hul
    replace hul := Nat.succ.inj hul
    obtain ⟨u84, us, rfl⟩ : ∃ a b, us = a :: b := List.exists_cons_of_length_eq_add_one hul
    replace hul := Nat.succ.inj hul
    obtain ⟨u85, us, rfl⟩ : ∃ a b, us = a :: b := List.exists_cons_of_length_eq_add_one hul
    replace hul := Nat.succ.inj hul
    obtain ⟨u86, us, rfl⟩ : ∃ a b, us = a :: b := List.exists_cons_of_length_eq_add_one hul
    replace hul := Nat.succ.inj hul
    obtain ⟨u87, us, rfl⟩ : ∃ a b, us = a :: b := List.exists_cons_of_length_eq_add_one hul
    replace hul := Nat.succ.inj hul
    obtain ⟨u88, us, rfl⟩ : ∃ a b, us = a :: b := List.exists_cons_of_length_eq_add_one hul
    replace hul := Nat.succ.inj hul
    obtain rfl : us = [] := List.eq_nil_of_length_eq_zero hul
    subst e1
    simp only [List.take, List.drop, List.cons_append, List.nil_append] at e4 ⊢
    have e5 : some u88 = some (Value.bool false) := e4
    obtain rfl : u88 = Value.bool false := Option.some.inj e5
    clear e4 e5 hul hnw hRnH hnt
    go_wp2_with fail
    rcases hR1 with ⟨hr1, hp1⟩ | ⟨hr1, hp1⟩
    · go_at_call 21
      refine (getImplR adb Px.length capb (fun i => Px.getD i 0) 0 _ (vb7 _ hbT) (fun a e _ => Nat.lt_of_lt_of_le (kb7 a e) (hbT).size) (by omega) hPd (by omega) (by omega) _ _ (hE7 _ hbT) (some (x, (Px.length : Int))) hr1).mono ?_
      rintro e z1 ⟨rfl, d1⟩
      have g1 : Below x7.heap.size x7 z1 := nextB d1 hbT
      simp only [getRes]
      clear hr1
      go_wp2_with fail
      go_at_call 22
      refine (drawGet (hc7 _ g1)).mono ?_
      rintro e z2 ⟨vr, Lr, xk, rfl, or_, hrb, hrl, hxk, d2⟩
      have g2 := nextB d2 g1
      obtain ⟨_, adr, capr, rfl, vr, _, kr⟩ := own_view or_
      have hcap := own_cap or_
      have hRd := getD_bytes hrb
      clear or_ hrb
      obtain ⟨R2, hR2⟩ : ∃ R2, getFrom Lr.length xk (fun i => (fun i => Lr.getD i 0) (xk.toNat + i)) 5 0 = R2 := ⟨_, rfl⟩
      cases R2 with
      | none =>
        have hI2 := getImplR adr Lr.length capr (fun i => Lr.getD i 0) xk z2 vr (fun a e _ => (kr a e).2) (by omega) hRd hxk.1 hxk.2 _ _ (hE7 _ g2) none hR2
        simp only [getRes] at hI2
        go_wp2_with fail
        go_at_call 21
        refine hI2.mono ?_
        rintro e z3 ⟨rfl, d3⟩
        have g3 := nextB d3 g2
        have vr3 := vr.carry (w' := z3) (fun a e _ => d3.block _ (kr a e).2)
        have hS2 := getSpecR adr Lr.length capr (fun i => Lr.getD i 0) xk z3 vr3 (by omega) hRd hxk.1 hxk.2 none hR2
        simp only [getRes] at hS2
        clear hI2
        go_wp2_with fail
        go_at_call 23
        refine hS2.mono ?_
        rintro e z4 ⟨rfl, rfl⟩
        clear hS2
        have hdp : decide ((0 : Int) < (Px.length : Int)) = true := by simp; omega
        have hdp2 : decide (0 < Px.length) = true := by simp; omega
        go_wp2_with fail
        go_at_call 24
        refine (drawSpl (hc7 _ g3)).mono ?_
        rintro e z5 ⟨tx, c, rfl, htx, d5⟩
        have g5 := nextB d5 g3
        go_wp2_with fail
        go_at_call 25
        refine (splitImpl tx c _ (by omega) m (hm7 _ g5)).mono ?_
        rintro e z6 ⟨vp, rfl, op, d6⟩
        obtain ⟨_, adp, capp, rfl, vp, _, kp⟩ := own_sview op
        have g6 := nextB d6 g5
        have hJ := J_pieces c tx.size tx (Nat.le_refl _)
        have hpl := (pieces_len c tx.size tx (Nat.le_refl _)).2
        have BB : Below w.heap.size w z6 := B7.trans (g6.mono B7.size)
        generalize pieces c tx = Lp at *
        clear op hE7 hm7 hc7 vb7 hcvb htab7 vh7
        go_wp2
        go_loopw [26, 27] (fun s i wr => ∃ (k : Nat) (B : ByteArray), k ≤ Lp.length ∧ i = .int .i64 k ∧ s = .string B ∧ Hid (B.data.toList = J c (Lp.take k)) ∧ Below z6.heap.size z6 wr) (fun _ i _ => Lp.length - (intOf i).toNat)
        case atStart => exact ⟨0, ⟨#[]⟩, by omega, rfl, rfl, rfl, Below.refl _ _⟩
        case round =>
          obtain ⟨k, B, hk, rfl, rfl, hB, hbw⟩ := hrel
          have eB : B.data.toList.length = B.size := Array.length_toList
          have etx : tx.data.toList.length = tx.size := Array.length_toList
          have hBl : B.size ≤ 100 := by have := J_take_len c Lp k; rw [hJ, ← hB.out] at this; omega
          by_cases hlt : k < Lp.length
          · obtain ⟨bp, fp, rfl, hcp⟩ := vp (by omega)
            have hck : wr.cell? ⟨bp, fp + k, none⟩ = some (.string (Lp.getD k ByteArray.empty)) := (hbw.cell (p := ⟨bp, fp + k, none⟩) (kp _ rfl).2).trans (hcp k hlt)
            have hnx := J_next c Lp k hlt
            have hnl := J_take_len c Lp (k + 1)
            rw [hJ] at hnl
            obtain ⟨pc, hpc⟩ : ∃ pc, pc = Lp.getD k ByteArray.empty := ⟨_, rfl⟩
            rw [← hpc] at hck hnx
            have epc : pc.data.toList.length = pc.size := Array.length_toList
            by_cases h0 : k = 0
            · rw [if_pos h0] at hnx
              have hpl2 : pc.size ≤ 100 := by rw [hnx] at hnl; omega
              have hB1 : Hid ((B ++ pc).data.toList = J c (Lp.take (k + 1))) := by
                show _ = _
                have hB0 := hB.out
                rw [h0] at hB0
                rw [hnx, ByteArray.data_append, Array.toList_append, hB0]
                simp [J]
              have hdk : decide ((0 : Int) < (k : Int)) = false := by simp; omega
              have hdk2 : decide (0 < k) = false := by simp; omega
              have hsz : ¬ 9223372036854775807 < B.size + pc.size := by omega
              clear hnx hnl hpc hcp hB h0
              go_wp2
              go_roundw
              case rel => exact ⟨k + 1, _, by omega, by go_num, rfl, hB1, hbw⟩
              case measure => simp [intOf]; omega
            · rw [if_neg h0] at hnx
              have hpl2 : pc.size ≤ 100 := by rw [hnx, List.length_append, List.length_cons] at hnl; omega
              have hcc := byte_str wr (c.toNat : Int) (by omega) (by have := c.toNat_lt; omega)
              have hce : UInt8.ofNat (c.toNat : Int).toNat = c := by simp
              rw [hce] at hcc
              have hB1 : Hid ((B ++ ⟨#[c]⟩ ++ pc).data.toList = J c (Lp.take (k + 1))) := by
                show _ = _
                rw [hnx, ← hB.out, ByteArray.data_append, ByteArray.data_append]
                simp
              have hck2 : (wr.alloc (.cells #[.int .u8 (c.toNat : Int)] 5)).cell? ⟨bp, fp + k, none⟩ = some (.string pc) := (((Below.refl wr.heap.size wr).alloc (Nat.le_refl _) _).cell (p := ⟨bp, fp + k, none⟩) (World.block_lt_of_cell? wr _ hck)).trans hck
              have hbs := hbw.size
              have hdk : decide ((0 : Int) < (k : Int)) = true := by simp; omega
              have hdk2 : decide (0 < k) = true := by simp; omega
              have hsz1 : ¬ 9223372036854775807 < B.size + 1 := by omega
              have hsz2 : ¬ 9223372036854775807 < B.size + 1 + pc.size := by omega
              have es : (B ++ ⟨#[c]⟩ : ByteArray).size = B.size + 1 := by simp [ByteArray.size_append]; rfl
              clear hnx hnl hpc hcp hB hce
              go_wp2
              go_roundw
              case rel => exact ⟨k + 1, _, by omega, by go_num, rfl, hB1, hbw.alloc hbs _⟩
              case measure => simp [intOf]; omega
          · obtain rfl : k = Lp.length := by omega
            have hBt : B = tx := ext_list (by rw [hB.out, List.take_of_length_le (Nat.le_refl _), hJ])
            subst hBt
            clear hB hJ hk eB etx hBl
            go_wp2_with fail
            refine wp_region_held (S := fun W => Below z6.heap.size z6 W) (by kernel_rfl) ?_
            change wpAnyH _ _ _ _ _ _ _ _ (World.drew _)
            have hw0 : Below z6.heap.size z6 wr.drew := hbw.drew
            refine takeW 0 169 (.string B) rfl rfl (by kernel_rfl) (by kernel_rfl) (by kernel_rfl) (fun _ _ _ h => h) (by kernel_rfl) (by (intro w hSw; go_simp)) (by assumption) ?_
            simp only [List.set_cons_zero, List.set_cons_succ]
            refine takeW 1 170 (.string B) rfl rfl (by kernel_rfl) (by kernel_rfl) (by kernel_rfl) (fun _ _ _ h => h) (by kernel_rfl) (by (intro w hSw; go_simp)) (by assumption) ?_
            simp only [List.set_cons_zero, List.set_cons_succ]
            refine takeW 2 171 (.bool true) rfl rfl (by kernel_rfl) (by kernel_rfl) (by kernel_rfl) (fun _ _ _ h => h) (by kernel_rfl) (by (intro w hSw; go_simp)) (by assumption) ?_
            simp only [List.set_cons_zero, List.set_cons_succ]
            refine takeW 3 172 (.bool true) rfl rfl (by kernel_rfl) (by kernel_rfl) (by kernel_rfl) (fun _ _ _ h => h) (by kernel_rfl) (by (intro w hSw; go_simp)) (by assumption) ?_
            simp only [List.set_cons_zero, List.set_cons_succ]
            refine takeW 4 173 (.bool false) rfl rfl (by kernel_rfl) (by kernel_rfl) (by kernel_rfl) (fun _ _ _ h => h) (by kernel_rfl) (by (intro w hSw; go_simp)) (by assumption) ?_
            simp only [List.set_cons_zero, List.set_cons_succ]
            refine takeW 5 174 (.bool true) rfl rfl (by kernel_rfl) (by kernel_rfl) (by kernel_rfl) (fun _ _ _ h => h) (by kernel_rfl) (by (intro w hSw; go_simp)) (by assumption) ?_
            simp only [List.set_cons_zero, List.set_cons_succ]
            refine takeW 6 175 (.bool true) rfl rfl (by kernel_rfl) (by kernel_rfl) (by kernel_rfl) (fun _ _ _ h => h) (by kernel_rfl) (by (intro w hSw; go_simp)) (by assumption) ?_
            simp only [List.set_cons_zero, List.set_cons_succ]
            refine takeS 7 176 rfl rfl (by kernel_rfl) (by kernel_rfl) (by kernel_rfl) (fun _ _ _ h => h) (by kernel_rfl) (by assumption) ?_
            simp only [List.set_cons_zero, List.set_cons_succ]
            refine takeS 10 179 rfl rfl (by kernel_rfl) (by kernel_rfl) (by kernel_rfl) (fun _ _ _ h => h) (by kernel_rfl) (by assumption) ?_
            simp only [List.set_cons_zero, List.set_cons_succ]
            refine takeS 11 180 rfl rfl (by kernel_rfl) (by kernel_rfl) (by kernel_rfl) (fun _ _ _ h => h) (by kernel_rfl) (by assumption) ?_
            simp only [List.set_cons_zero, List.set_cons_succ]
            refine takeS 12 181 rfl rfl (by kernel_rfl) (by kernel_rfl) (by kernel_rfl) (fun _ _ _ h => h) (by kernel_rfl) (by assumption) ?_
            simp only [List.set_cons_zero, List.set_cons_succ]
            refine takeS 8 177 rfl rfl (by kernel_rfl) (by kernel_rfl) (by kernel_rfl) (fun _ _ _ h => h) (by kernel_rfl) (by assumption) ?_
            simp only [List.set_cons_zero, List.set_cons_succ]
            refine takeS 9 178 rfl rfl (by kernel_rfl) (by kernel_rfl) (by kernel_rfl) (fun _ _ _ h => h) (by kernel_rfl) (by assumption) ?_
            simp only [List.set_cons_zero, List.set_cons_succ]
            refine takeS 13 182 rfl rfl (by kernel_rfl) (by kernel_rfl) (by kernel_rfl) (fun _ _ _ h => h) (by kernel_rfl) (by assumption) ?_
            simp only [List.set_cons_zero, List.set_cons_succ]
            refine takeS 14 183 rfl rfl (by kernel_rfl) (by kernel_rfl) (by kernel_rfl) (fun _ _ _ h => h) (by kernel_rfl) (by assumption) ?_
            simp only [List.set_cons_zero, List.set_cons_succ]
            refine takeS 15 184 rfl rfl (by kernel_rfl) (by kernel_rfl) (by kernel_rfl) (fun _ _ _ h => h) (by kernel_rfl) (by assumption) ?_
            simp only [List.set_cons_zero, List.set_cons_succ]
            refine takeW 16 185 (.bool true) rfl rfl (by kernel_rfl) (by kernel_rfl) (by kernel_rfl) (fun _ _ _ h => h) (by kernel_rfl) (by (intro w hSw; go_simp)) (by assumption) ?_
            simp only [List.set_cons_zero, List.set_cons_succ]
            refine takeW 17 186 (.bool true) rfl rfl (by kernel_rfl) (by kernel_rfl) (by kernel_rfl) (fun _ _ _ h => h) (by kernel_rfl) (by (intro w hSw; go_simp)) (by assumption) ?_
            simp only [List.set_cons_zero, List.set_cons_succ]
            refine takeW 18 2 (.bool true) rfl rfl (by kernel_rfl) (by kernel_rfl) (by kernel_rfl) (fun _ _ _ h => h) (by kernel_rfl) (by (intro w hSw; go_simp)) (by assumption) ?_
            simp only [List.set_cons_zero, List.set_cons_succ]
            refine wpAnyH_done (by kernel_rfl) ?_ _
            go_wp2
            go_ret
            exact ⟨rfl, BB.trans ((hw0).mono BB.size)⟩
      | some r =>
        obtain ⟨z, stop⟩ := r
        obtain ⟨hzI, kk, hh, rfl, rfl, hkh, hhl, hpz⟩ := read_back hRd hR2
        obtain ⟨br, fr, rfl, hcr⟩ := vr (by omega)
        obtain ⟨Lz, hLz0⟩ : ∃ Lz, Lz = putZ z := ⟨_, rfl⟩
        have hLz : Hid (putZ z = Lz) := hLz0.symm
        have hLzl : Lz.length = hh - kk := by rw [hLz0, hpz]; simp
        have hLzb : ∀ y ∈ Lz, 0 ≤ y ∧ y ≤ 255 := by rw [hLz0]; exact putZ_bytes z
        have hvz : ∀ W, Below z2.heap.size z2 W → View W (some ⟨br, fr + kk, none⟩) Lz.length (fun i => Lz.getD i 0) := fun W hW => by
          have v0 := (vr.carry (w' := W) (fun a e _ => hW.block _ (kr a e).2)).cut (kk := kk) (n := hh - kk) (by omega)
          rw [hLzl]
          refine v0.congr (fun i hi => ?_)
          rw [hLz0, hpz, range_getD _ _ i hi]
        have Rlit : Hid (getFrom Lr.length (kk : Int) (fun i => (fun i => Lr.getD i 0) ((kk : Int).toNat + i)) 5 0 = some (z, (hh : Int))) := hR2
        have hsl : ∀ W, (Instr.slice 22 (.slice (some ⟨br, fr, none⟩) Lr.length capr) (some (.int .i64 (kk : Int))) (some (.int .i64 (hh : Int))) none).run Tryd.prog W = .ok (.slice (some ⟨br, fr + kk, none⟩) (hh - kk) (capr - kk)) W := fun W => Lib.run_slice_window W 22 5 Tryd.underlying22 (fun _ => by kernel_rfl) br fr Lr.length capr kk hh hkh (by omega)
        clear hcr hLz0 hpz
        have hI2 := getImplR (some ⟨br, fr, none⟩) Lr.length capr (fun i => Lr.getD i 0) (kk : Int) z2 vr (fun a e _ => (kr a e).2) (by omega) hRd hxk.1 hxk.2 _ _ (hE7 _ g2) (some (z, (hh : Int))) Rlit.out
        simp only [getRes] at hI2
        go_wp2_with fail
        go_at_call 21
        refine hI2.mono ?_
        rintro e z3 ⟨rfl, d3⟩
        have g3 := nextB d3 g2
        have vr3 := vr.carry (w' := z3) (fun a e _ => d3.block _ (kr a e).2)
        have hS2 := getSpecR (some ⟨br, fr, none⟩) Lr.length capr (fun i => Lr.getD i 0) (kk : Int) z3 vr3 (by omega) hRd hxk.1 hxk.2 (some (z, (hh : Int))) Rlit.out
        simp only [getRes] at hS2
        clear hI2
        go_wp2_with fail
        go_at_call 23
        refine hS2.mono ?_
        rintro e z4 ⟨rfl, rfl⟩
        clear hS2
        have hdp : decide ((0 : Int) < (Px.length : Int)) = true := by simp; omega
        have hdp2 : decide (0 < Px.length) = true := by simp; omega
        go_wp2_with fail
        go_at_call 24
        refine (drawSpl (hc7 _ g3)).mono ?_
        rintro e z5 ⟨tx, c, rfl, htx, d5⟩
        have g5 := nextB d5 g3
        go_wp2_with fail
        go_at_call 25
        refine (splitImpl tx c _ (by omega) m (hm7 _ g5)).mono ?_
        rintro e z6 ⟨vp, rfl, op, d6⟩
        obtain ⟨_, adp, capp, rfl, vp, _, kp⟩ := own_sview op
        have g6 := nextB d6 g5
        have hJ := J_pieces c tx.size tx (Nat.le_refl _)
        have hpl := (pieces_len c tx.size tx (Nat.le_refl _)).2
        have BB : Below w.heap.size w z6 := B7.trans (g6.mono B7.size)
        have D26 : Below z2.heap.size z2 z6 := nextB d6 (nextB d5 d3)
        have hcz : ∀ W, Below z6.heap.size z6 W → (convert 22 9 (.slice (some ⟨br, fr + kk, none⟩) (hh - kk) (capr - kk))).run Tryd.prog W = .ok (.string (txt Lz)) W := fun W hW => by
          rw [← hLzl]
          exact conv_view (hvz W (nextB hW D26)) hLzb
        clear hvz hLzl
        generalize pieces c tx = Lp at *
        clear op hE7 hm7 hc7 vb7 hcvb htab7 vh7
        go_wp2
        go_loopw [26, 27] (fun s i wr => ∃ (k : Nat) (B : ByteArray), k ≤ Lp.length ∧ i = .int .i64 k ∧ s = .string B ∧ Hid (B.data.toList = J c (Lp.take k)) ∧ Below z6.heap.size z6 wr) (fun _ i _ => Lp.length - (intOf i).toNat)
        case atStart => exact ⟨0, ⟨#[]⟩, by omega, rfl, rfl, rfl, Below.refl _ _⟩
        case round =>
          obtain ⟨k, B, hk, rfl, rfl, hB, hbw⟩ := hrel
          have eB : B.data.toList.length = B.size := Array.length_toList
          have etx : tx.data.toList.length = tx.size := Array.length_toList
          have hBl : B.size ≤ 100 := by have := J_take_len c Lp k; rw [hJ, ← hB.out] at this; omega
          by_cases hlt : k < Lp.length
          · obtain ⟨bp, fp, rfl, hcp⟩ := vp (by omega)
            have hck : wr.cell? ⟨bp, fp + k, none⟩ = some (.string (Lp.getD k ByteArray.empty)) := (hbw.cell (p := ⟨bp, fp + k, none⟩) (kp _ rfl).2).trans (hcp k hlt)
            have hnx := J_next c Lp k hlt
            have hnl := J_take_len c Lp (k + 1)
            rw [hJ] at hnl
            obtain ⟨pc, hpc⟩ : ∃ pc, pc = Lp.getD k ByteArray.empty := ⟨_, rfl⟩
            rw [← hpc] at hck hnx
            have epc : pc.data.toList.length = pc.size := Array.length_toList
            by_cases h0 : k = 0
            · rw [if_pos h0] at hnx
              have hpl2 : pc.size ≤ 100 := by rw [hnx] at hnl; omega
              have hB1 : Hid ((B ++ pc).data.toList = J c (Lp.take (k + 1))) := by
                show _ = _
                have hB0 := hB.out
                rw [h0] at hB0
                rw [hnx, ByteArray.data_append, Array.toList_append, hB0]
                simp [J]
              have hdk : decide ((0 : Int) < (k : Int)) = false := by simp; omega
              have hdk2 : decide (0 < k) = false := by simp; omega
              have hsz : ¬ 9223372036854775807 < B.size + pc.size := by omega
              clear hnx hnl hpc hcp hB h0
              go_wp2
              go_roundw
              case rel => exact ⟨k + 1, _, by omega, by go_num, rfl, hB1, hbw⟩
              case measure => simp [intOf]; omega
            · rw [if_neg h0] at hnx
              have hpl2 : pc.size ≤ 100 := by rw [hnx, List.length_append, List.length_cons] at hnl; omega
              have hcc := byte_str wr (c.toNat : Int) (by omega) (by have := c.toNat_lt; omega)
              have hce : UInt8.ofNat (c.toNat : Int).toNat = c := by simp
              rw [hce] at hcc
              have hB1 : Hid ((B ++ ⟨#[c]⟩ ++ pc).data.toList = J c (Lp.take (k + 1))) := by
                show _ = _
                rw [hnx, ← hB.out, ByteArray.data_append, ByteArray.data_append]
                simp
              have hck2 : (wr.alloc (.cells #[.int .u8 (c.toNat : Int)] 5)).cell? ⟨bp, fp + k, none⟩ = some (.string pc) := (((Below.refl wr.heap.size wr).alloc (Nat.le_refl _) _).cell (p := ⟨bp, fp + k, none⟩) (World.block_lt_of_cell? wr _ hck)).trans hck
              have hbs := hbw.size
              have hdk : decide ((0 : Int) < (k : Int)) = true := by simp; omega
              have hdk2 : decide (0 < k) = true := by simp; omega
              have hsz1 : ¬ 9223372036854775807 < B.size + 1 := by omega
              have hsz2 : ¬ 9223372036854775807 < B.size + 1 + pc.size := by omega
              have es : (B ++ ⟨#[c]⟩ : ByteArray).size = B.size + 1 := by simp [ByteArray.size_append]; rfl
              clear hnx hnl hpc hcp hB hce
              go_wp2
              go_roundw
              case rel => exact ⟨k + 1, _, by omega, by go_num, rfl, hB1, hbw.alloc hbs _⟩
              case measure => simp [intOf]; omega
          · obtain rfl : k = Lp.length := by omega
            have hBt : B = tx := ext_list (by rw [hB.out, List.take_of_length_le (Nat.le_refl _), hJ])
            subst hBt
            clear hB hJ hk eB etx hBl
            go_wp2_with fail
            refine wp_region_held (S := fun W => Below z6.heap.size z6 W) (by kernel_rfl) ?_
            change wpAnyH _ _ _ _ _ _ _ _ (World.drew _)
            have hw0 : Below z6.heap.size z6 wr.drew := hbw.drew
            refine takeW 0 169 (.string B) rfl rfl (by kernel_rfl) (by kernel_rfl) (by kernel_rfl) (fun _ _ _ h => h) (by kernel_rfl) (by (intro w hSw; go_simp)) (by assumption) ?_
            simp only [List.set_cons_zero, List.set_cons_succ]
            refine takeW 1 170 (.string B) rfl rfl (by kernel_rfl) (by kernel_rfl) (by kernel_rfl) (fun _ _ _ h => h) (by kernel_rfl) (by (intro w hSw; go_simp)) (by assumption) ?_
            simp only [List.set_cons_zero, List.set_cons_succ]
            refine takeW 2 171 (.bool true) rfl rfl (by kernel_rfl) (by kernel_rfl) (by kernel_rfl) (fun _ _ _ h => h) (by kernel_rfl) (by (intro w hSw; go_simp)) (by assumption) ?_
            simp only [List.set_cons_zero, List.set_cons_succ]
            refine takeW 3 172 (.bool true) rfl rfl (by kernel_rfl) (by kernel_rfl) (by kernel_rfl) (fun _ _ _ h => h) (by kernel_rfl) (by (intro w hSw; go_simp)) (by assumption) ?_
            simp only [List.set_cons_zero, List.set_cons_succ]
            refine takeW 4 173 (.bool true) rfl rfl (by kernel_rfl) (by kernel_rfl) (by kernel_rfl) (fun _ _ _ h => h) (by kernel_rfl) (by (intro w hSw; go_simp)) (by assumption) ?_
            simp only [List.set_cons_zero, List.set_cons_succ]
            refine takeW 5 174 (.bool false) rfl rfl (by kernel_rfl) (by kernel_rfl) (by kernel_rfl) (fun _ _ _ h => h) (by kernel_rfl) (by (intro w hSw; go_simp)) (by assumption) ?_
            simp only [List.set_cons_zero, List.set_cons_succ]
            refine takeW 6 175 (.bool false) rfl rfl (by kernel_rfl) (by kernel_rfl) (by kernel_rfl) (fun _ _ _ h => h) (by kernel_rfl) (by (intro w hSw; go_simp)) (by assumption) ?_
            simp only [List.set_cons_zero, List.set_cons_succ]
            refine takeW 7 176 (.int .i64 z) rfl rfl (by kernel_rfl) (by kernel_rfl) (by kernel_rfl) (fun _ _ _ h => h) (by kernel_rfl) (by (intro w hSw; go_simp)) (by assumption) ?_
            simp only [List.set_cons_zero, List.set_cons_succ]
            refine takeW 10 179 (.slice (some ⟨br, fr, none⟩) Lr.length capr) rfl rfl (by kernel_rfl) (by kernel_rfl) (by kernel_rfl) (fun _ _ _ h => h) (by kernel_rfl) (by (intro w hSw; go_simp)) (by assumption) ?_
            simp only [List.set_cons_zero, List.set_cons_succ]
            refine takeW 11 180 (.int .i64 (kk : Int)) rfl rfl (by kernel_rfl) (by kernel_rfl) (by kernel_rfl) (fun _ _ _ h => h) (by kernel_rfl) (by (intro w hSw; go_simp)) (by assumption) ?_
            simp only [List.set_cons_zero, List.set_cons_succ]
            refine takeW 12 181 (.int .i64 (hh : Int)) rfl rfl (by kernel_rfl) (by kernel_rfl) (by kernel_rfl) (fun _ _ _ h => h) (by kernel_rfl) (by (intro w hSw; go_simp)) (by assumption) ?_
            simp only [List.set_cons_zero, List.set_cons_succ]
            refine takeW 13 182 (.slice (some ⟨br, fr + kk, none⟩) (hh - kk) (capr - kk)) rfl rfl (by kernel_rfl) (by kernel_rfl) (by kernel_rfl) (fun _ _ _ h => h) (by kernel_rfl) (by (intro w hSw; have hq := hsl w; go_simp)) (by assumption) ?_
            simp only [List.set_cons_zero, List.set_cons_succ]
            refine takeW 14 183 (.string (txt Lz)) rfl rfl (by kernel_rfl) (by kernel_rfl) (by kernel_rfl) (fun _ _ _ h => h) (by kernel_rfl) (by (intro w hSw; have hq := hcz w hSw; go_simp)) (by assumption) ?_
            simp only [List.set_cons_zero, List.set_cons_succ]
            refine wpAnyH_all (rs := [8]) (by kernel_rfl) (by simp) ?_
            intro i hi; obtain rfl : i = 8 := by simpa using hi
            refine wpOp_step rfl (fun K hK => ?_)
            rw [if_pos (by kernel_rfl)]
            go_simp
            go_at_call 10
            refine (putImpl z _ (wf64d hzI)).mono ?_
            rintro e q1 ⟨v1, rfl, o1, e1⟩
            rw [hLz.out] at o1
            obtain ⟨_, ad1, cap1, rfl, v1, _, k1⟩ := own_view o1
            have hc1 := conv_view (cap := cap1) v1 hLzb
            have hw1 : Below z6.heap.size z6 q1 := nextB e1 hw0
            clear o1 e1 v1 k1
            refine hK _ _ ⟨hw1, ?_⟩
            clear hK K hi
            refine wpAnyH_all (rs := [9]) (by kernel_rfl) (by simp) ?_
            intro i hi; obtain rfl : i = 9 := by simpa using hi
            refine wpOp_step rfl (fun K hK => ?_)
            rw [if_pos (by kernel_rfl)]
            go_simp
            refine hK _ _ ⟨hw1, ?_⟩
            clear hK K hi
            refine takeW 15 184 (.bool true) rfl rfl (by kernel_rfl) (by kernel_rfl) (by kernel_rfl) (fun _ _ _ h => h) (by kernel_rfl) (by (intro w hSw; go_simp)) (by assumption) ?_
            simp only [List.set_cons_zero, List.set_cons_succ]
            refine takeW 16 185 (.bool true) rfl rfl (by kernel_rfl) (by kernel_rfl) (by kernel_rfl) (fun _ _ _ h => h) (by kernel_rfl) (by (intro w hSw; go_simp)) (by assumption) ?_
            simp only [List.set_cons_zero, List.set_cons_succ]
            refine takeW 17 186 (.bool true) rfl rfl (by kernel_rfl) (by kernel_rfl) (by kernel_rfl) (fun _ _ _ h => h) (by kernel_rfl) (by (intro w hSw; go_simp)) (by assumption) ?_
            simp only [List.set_cons_zero, List.set_cons_succ]
            refine takeW 18 2 (.bool true) rfl rfl (by kernel_rfl) (by kernel_rfl) (by kernel_rfl) (fun _ _ _ h => h) (by kernel_rfl) (by (intro w hSw; go_simp)) (by assumption) ?_
            simp only [List.set_cons_zero, List.set_cons_succ]
            refine wpAnyH_done (by kernel_rfl) ?_ _
            go_wp2
            go_ret
            exact ⟨rfl, BB.trans ((hw1).mono BB.size)⟩
    · go_at_call 21
      refine (getImplR adb Px.length capb (fun i => Px.getD i 0) 0 _ (vb7 _ hbT) (fun a e _ => Nat.lt_of_lt_of_le (kb7 a e) (hbT).size) (by omega) hPd (by omega) (by omega) _ _ (hE7 _ hbT) none hr1).mono ?_
      rintro e z1 ⟨rfl, d1⟩
      have g1 : Below x7.heap.size x7 z1 := nextB d1 hbT
      simp only [getRes]
      clear hr1
      go_wp2_with fail
      go_at_call 22
      refine (drawGet (hc7 _ g1)).mono ?_
      rintro e z2 ⟨vr, Lr, xk, rfl, or_, hrb, hrl, hxk, d2⟩
      have g2 := nextB d2 g1
      obtain ⟨_, adr, capr, rfl, vr, _, kr⟩ := own_view or_
      have hcap := own_cap or_
      have hRd := getD_bytes hrb
      clear or_ hrb
      obtain ⟨R2, hR2⟩ : ∃ R2, getFrom Lr.length xk (fun i => (fun i => Lr.getD i 0) (xk.toNat + i)) 5 0 = R2 := ⟨_, rfl⟩
      cases R2 with
      | none =>
        have hI2 := getImplR adr Lr.length capr (fun i => Lr.getD i 0) xk z2 vr (fun a e _ => (kr a e).2) (by omega) hRd hxk.1 hxk.2 _ _ (hE7 _ g2) none hR2
        simp only [getRes] at hI2
        go_wp2_with fail
        go_at_call 21
        refine hI2.mono ?_
        rintro e z3 ⟨rfl, d3⟩
        have g3 := nextB d3 g2
        have vr3 := vr.carry (w' := z3) (fun a e _ => d3.block _ (kr a e).2)
        have hS2 := getSpecR adr Lr.length capr (fun i => Lr.getD i 0) xk z3 vr3 (by omega) hRd hxk.1 hxk.2 none hR2
        simp only [getRes] at hS2
        clear hI2
        go_wp2_with fail
        go_at_call 23
        refine hS2.mono ?_
        rintro e z4 ⟨rfl, rfl⟩
        clear hS2
        have hdp : decide ((0 : Int) < (Px.length : Int)) = false := by first | (simp; omega) | simp [hp1]
        have hdp2 : decide (0 < Px.length) = false := by first | (simp; omega) | simp [hp1]
        go_wp2_with fail
        go_at_call 24
        refine (drawSpl (hc7 _ g3)).mono ?_
        rintro e z5 ⟨tx, c, rfl, htx, d5⟩
        have g5 := nextB d5 g3
        go_wp2_with fail
        go_at_call 25
        refine (splitImpl tx c _ (by omega) m (hm7 _ g5)).mono ?_
        rintro e z6 ⟨vp, rfl, op, d6⟩
        obtain ⟨_, adp, capp, rfl, vp, _, kp⟩ := own_sview op
        have g6 := nextB d6 g5
        have hJ := J_pieces c tx.size tx (Nat.le_refl _)
        have hpl := (pieces_len c tx.size tx (Nat.le_refl _)).2
        have BB : Below w.heap.size w z6 := B7.trans (g6.mono B7.size)
        generalize pieces c tx = Lp at *
        clear op hE7 hm7 hc7 vb7 hcvb htab7 vh7
        go_wp2
        go_loopw [26, 27] (fun s i wr => ∃ (k : Nat) (B : ByteArray), k ≤ Lp.length ∧ i = .int .i64 k ∧ s = .string B ∧ Hid (B.data.toList = J c (Lp.take k)) ∧ Below z6.heap.size z6 wr) (fun _ i _ => Lp.length - (intOf i).toNat)
        case atStart => exact ⟨0, ⟨#[]⟩, by omega, rfl, rfl, rfl, Below.refl _ _⟩
        case round =>
          obtain ⟨k, B, hk, rfl, rfl, hB, hbw⟩ := hrel
          have eB : B.data.toList.length = B.size := Array.length_toList
          have etx : tx.data.toList.length = tx.size := Array.length_toList
          have hBl : B.size ≤ 100 := by have := J_take_len c Lp k; rw [hJ, ← hB.out] at this; omega
          by_cases hlt : k < Lp.length
          · obtain ⟨bp, fp, rfl, hcp⟩ := vp (by omega)
            have hck : wr.cell? ⟨bp, fp + k, none⟩ = some (.string (Lp.getD k ByteArray.empty)) := (hbw.cell (p := ⟨bp, fp + k, none⟩) (kp _ rfl).2).trans (hcp k hlt)
            have hnx := J_next c Lp k hlt
            have hnl := J_take_len c Lp (k + 1)
            rw [hJ] at hnl
            obtain ⟨pc, hpc⟩ : ∃ pc, pc = Lp.getD k ByteArray.empty := ⟨_, rfl⟩
            rw [← hpc] at hck hnx
            have epc : pc.data.toList.length = pc.size := Array.length_toList
            by_cases h0 : k = 0
            · rw [if_pos h0] at hnx
              have hpl2 : pc.size ≤ 100 := by rw [hnx] at hnl; omega
              have hB1 : Hid ((B ++ pc).data.toList = J c (Lp.take (k + 1))) := by
                show _ = _
                have hB0 := hB.out
                rw [h0] at hB0
                rw [hnx, ByteArray.data_append, Array.toList_append, hB0]
                simp [J]
              have hdk : decide ((0 : Int) < (k : Int)) = false := by simp; omega
              have hdk2 : decide (0 < k) = false := by simp; omega
              have hsz : ¬ 9223372036854775807 < B.size + pc.size := by omega
              clear hnx hnl hpc hcp hB h0
              go_wp2
              go_roundw
              case rel => exact ⟨k + 1, _, by omega, by go_num, rfl, hB1, hbw⟩
              case measure => simp [intOf]; omega
            · rw [if_neg h0] at hnx
              have hpl2 : pc.size ≤ 100 := by rw [hnx, List.length_append, List.length_cons] at hnl; omega
              have hcc := byte_str wr (c.toNat : Int) (by omega) (by have := c.toNat_lt; omega)
              have hce : UInt8.ofNat (c.toNat : Int).toNat = c := by simp
              rw [hce] at hcc
              have hB1 : Hid ((B ++ ⟨#[c]⟩ ++ pc).data.toList = J c (Lp.take (k + 1))) := by
                show _ = _
                rw [hnx, ← hB.out, ByteArray.data_append, ByteArray.data_append]
                simp
              have hck2 : (wr.alloc (.cells #[.int .u8 (c.toNat : Int)] 5)).cell? ⟨bp, fp + k, none⟩ = some (.string pc) := (((Below.refl wr.heap.size wr).alloc (Nat.le_refl _) _).cell (p := ⟨bp, fp + k, none⟩) (World.block_lt_of_cell? wr _ hck)).trans hck
              have hbs := hbw.size
              have hdk : decide ((0 : Int) < (k : Int)) = true := by simp; omega
              have hdk2 : decide (0 < k) = true := by simp; omega
              have hsz1 : ¬ 9223372036854775807 < B.size + 1 := by omega
              have hsz2 : ¬ 9223372036854775807 < B.size + 1 + pc.size := by omega
              have es : (B ++ ⟨#[c]⟩ : ByteArray).size = B.size + 1 := by simp [ByteArray.size_append]; rfl
              clear hnx hnl hpc hcp hB hce
              go_wp2
              go_roundw
              case rel => exact ⟨k + 1, _, by omega, by go_num, rfl, hB1, hbw.alloc hbs _⟩
              case measure => simp [intOf]; omega
          · obtain rfl : k = Lp.length := by omega
            have hBt : B = tx := ext_list (by rw [hB.out, List.take_of_length_le (Nat.le_refl _), hJ])
            subst hBt
            clear hB hJ hk eB etx hBl
            go_wp2_with fail
            refine wp_region_held (S := fun W => Below z6.heap.size z6 W) (by kernel_rfl) ?_
            change wpAnyH _ _ _ _ _ _ _ _ (World.drew _)
            have hw0 : Below z6.heap.size z6 wr.drew := hbw.drew
            refine takeW 0 169 (.string B) rfl rfl (by kernel_rfl) (by kernel_rfl) (by kernel_rfl) (fun _ _ _ h => h) (by kernel_rfl) (by (intro w hSw; go_simp)) (by assumption) ?_
            simp only [List.set_cons_zero, List.set_cons_succ]
            refine takeW 1 170 (.string B) rfl rfl (by kernel_rfl) (by kernel_rfl) (by kernel_rfl) (fun _ _ _ h => h) (by kernel_rfl) (by (intro w hSw; go_simp)) (by assumption) ?_
            simp only [List.set_cons_zero, List.set_cons_succ]
            refine takeW 2 171 (.bool true) rfl rfl (by kernel_rfl) (by kernel_rfl) (by kernel_rfl) (fun _ _ _ h => h) (by kernel_rfl) (by (intro w hSw; go_simp)) (by assumption) ?_
            simp only [List.set_cons_zero, List.set_cons_succ]
            refine takeW 3 172 (.bool true) rfl rfl (by kernel_rfl) (by kernel_rfl) (by kernel_rfl) (fun _ _ _ h => h) (by kernel_rfl) (by (intro w hSw; go_simp)) (by assumption) ?_
            simp only [List.set_cons_zero, List.set_cons_succ]
            refine takeW 4 173 (.bool false) rfl rfl (by kernel_rfl) (by kernel_rfl) (by kernel_rfl) (fun _ _ _ h => h) (by kernel_rfl) (by (intro w hSw; go_simp)) (by assumption) ?_
            simp only [List.set_cons_zero, List.set_cons_succ]
            refine takeW 5 174 (.bool true) rfl rfl (by kernel_rfl) (by kernel_rfl) (by kernel_rfl) (fun _ _ _ h => h) (by kernel_rfl) (by (intro w hSw; go_simp)) (by assumption) ?_
            simp only [List.set_cons_zero, List.set_cons_succ]
            refine takeW 6 175 (.bool true) rfl rfl (by kernel_rfl) (by kernel_rfl) (by kernel_rfl) (fun _ _ _ h => h) (by kernel_rfl) (by (intro w hSw; go_simp)) (by assumption) ?_
            simp only [List.set_cons_zero, List.set_cons_succ]
            refine takeS 7 176 rfl rfl (by kernel_rfl) (by kernel_rfl) (by kernel_rfl) (fun _ _ _ h => h) (by kernel_rfl) (by assumption) ?_
            simp only [List.set_cons_zero, List.set_cons_succ]
            refine takeS 10 179 rfl rfl (by kernel_rfl) (by kernel_rfl) (by kernel_rfl) (fun _ _ _ h => h) (by kernel_rfl) (by assumption) ?_
            simp only [List.set_cons_zero, List.set_cons_succ]
            refine takeS 11 180 rfl rfl (by kernel_rfl) (by kernel_rfl) (by kernel_rfl) (fun _ _ _ h => h) (by kernel_rfl) (by assumption) ?_
            simp only [List.set_cons_zero, List.set_cons_succ]
            refine takeS 12 181 rfl rfl (by kernel_rfl) (by kernel_rfl) (by kernel_rfl) (fun _ _ _ h => h) (by kernel_rfl) (by assumption) ?_
            simp only [List.set_cons_zero, List.set_cons_succ]
            refine takeS 8 177 rfl rfl (by kernel_rfl) (by kernel_rfl) (by kernel_rfl) (fun _ _ _ h => h) (by kernel_rfl) (by assumption) ?_
            simp only [List.set_cons_zero, List.set_cons_succ]
            refine takeS 9 178 rfl rfl (by kernel_rfl) (by kernel_rfl) (by kernel_rfl) (fun _ _ _ h => h) (by kernel_rfl) (by assumption) ?_
            simp only [List.set_cons_zero, List.set_cons_succ]
            refine takeS 13 182 rfl rfl (by kernel_rfl) (by kernel_rfl) (by kernel_rfl) (fun _ _ _ h => h) (by kernel_rfl) (by assumption) ?_
            simp only [List.set_cons_zero, List.set_cons_succ]
            refine takeS 14 183 rfl rfl (by kernel_rfl) (by kernel_rfl) (by kernel_rfl) (fun _ _ _ h => h) (by kernel_rfl) (by assumption) ?_
            simp only [List.set_cons_zero, List.set_cons_succ]
            refine takeS 15 184 rfl rfl (by kernel_rfl) (by kernel_rfl) (by kernel_rfl) (fun _ _ _ h => h) (by kernel_rfl) (by assumption) ?_
            simp only [List.set_cons_zero, List.set_cons_succ]
            refine takeW 16 185 (.bool true) rfl rfl (by kernel_rfl) (by kernel_rfl) (by kernel_rfl) (fun _ _ _ h => h) (by kernel_rfl) (by (intro w hSw; go_simp)) (by assumption) ?_
            simp only [List.set_cons_zero, List.set_cons_succ]
            refine takeW 17 186 (.bool true) rfl rfl (by kernel_rfl) (by kernel_rfl) (by kernel_rfl) (fun _ _ _ h => h) (by kernel_rfl) (by (intro w hSw; go_simp)) (by assumption) ?_
            simp only [List.set_cons_zero, List.set_cons_succ]
            refine takeW 18 2 (.bool true) rfl rfl (by kernel_rfl) (by kernel_rfl) (by kernel_rfl) (fun _ _ _ h => h) (by kernel_rfl) (by (intro w hSw; go_simp)) (by assumption) ?_
            simp only [List.set_cons_zero, List.set_cons_succ]
            refine wpAnyH_done (by kernel_rfl) ?_ _
            go_wp2
            go_ret
            exact ⟨rfl, BB.trans ((hw0).mono BB.size)⟩
      | some r =>
        obtain ⟨z, stop⟩ := r
        obtain ⟨hzI, kk, hh, rfl, rfl, hkh, hhl, hpz⟩ := read_back hRd hR2
        obtain ⟨br, fr, rfl, hcr⟩ := vr (by omega)
        obtain ⟨Lz, hLz0⟩ : ∃ Lz, Lz = putZ z := ⟨_, rfl⟩
        have hLz : Hid (putZ z = Lz) := hLz0.symm
        have hLzl : Lz.length = hh - kk := by rw [hLz0, hpz]; simp
        have hLzb : ∀ y ∈ Lz, 0 ≤ y ∧ y ≤ 255 := by rw [hLz0]; exact putZ_bytes z
        have hvz : ∀ W, Below z2.heap.size z2 W → View W (some ⟨br, fr + kk, none⟩) Lz.length (fun i => Lz.getD i 0) := fun W hW => by
          have v0 := (vr.carry (w' := W) (fun a e _ => hW.block _ (kr a e).2)).cut (kk := kk) (n := hh - kk) (by omega)
          rw [hLzl]
          refine v0.congr (fun i hi => ?_)
          rw [hLz0, hpz, range_getD _ _ i hi]
        have Rlit : Hid (getFrom Lr.length (kk : Int) (fun i => (fun i => Lr.getD i 0) ((kk : Int).toNat + i)) 5 0 = some (z, (hh : Int))) := hR2
        have hsl : ∀ W, (Instr.slice 22 (.slice (some ⟨br, fr, none⟩) Lr.length capr) (some (.int .i64 (kk : Int))) (some (.int .i64 (hh : Int))) none).run Tryd.prog W = .ok (.slice (some ⟨br, fr + kk, none⟩) (hh - kk) (capr - kk)) W := fun W => Lib.run_slice_window W 22 5 Tryd.underlying22 (fun _ => by kernel_rfl) br fr Lr.length capr kk hh hkh (by omega)
        clear hcr hLz0 hpz
        have hI2 := getImplR (some ⟨br, fr, none⟩) Lr.length capr (fun i => Lr.getD i 0) (kk : Int) z2 vr (fun a e _ => (kr a e).2) (by omega) hRd hxk.1 hxk.2 _ _ (hE7 _ g2) (some (z, (hh : Int))) Rlit.out
        simp only [getRes] at hI2
        go_wp2_with fail
        go_at_call 21
        refine hI2.mono ?_
        rintro e z3 ⟨rfl, d3⟩
        have g3 := nextB d3 g2
        have vr3 := vr.carry (w' := z3) (fun a e _ => d3.block _ (kr a e).2)
        have hS2 := getSpecR (some ⟨br, fr, none⟩) Lr.length capr (fun i => Lr.getD i 0) (kk : Int) z3 vr3 (by omega) hRd hxk.1 hxk.2 (some (z, (hh : Int))) Rlit.out
        simp only [getRes] at hS2
        clear hI2
        go_wp2_with fail
        go_at_call 23
        refine hS2.mono ?_
        rintro e z4 ⟨rfl, rfl⟩
        clear hS2
        have hdp : decide ((0 : Int) < (Px.length : Int)) = false := by first | (simp; omega) | simp [hp1]
        have hdp2 : decide (0 < Px.length) = false := by first | (simp; omega) | simp [hp1]
        go_wp2_with fail
        go_at_call 24
        refine (drawSpl (hc7 _ g3)).mono ?_
        rintro e z5 ⟨tx, c, rfl, htx, d5⟩
        have g5 := nextB d5 g3
        go_wp2_with fail
        go_at_call 25
        refine (splitImpl tx c _ (by omega) m (hm7 _ g5)).mono ?_
        rintro e z6 ⟨vp, rfl, op, d6⟩
        obtain ⟨_, adp, capp, rfl, vp, _, kp⟩ := own_sview op
        have g6 := nextB d6 g5
        have hJ := J_pieces c tx.size tx (Nat.le_refl _)
        have hpl := (pieces_len c tx.size tx (Nat.le_refl _)).2
        have BB : Below w.heap.size w z6 := B7.trans (g6.mono B7.size)
        have D26 : Below z2.heap.size z2 z6 := nextB d6 (nextB d5 d3)
        have hcz : ∀ W, Below z6.heap.size z6 W → (convert 22 9 (.slice (some ⟨br, fr + kk, none⟩) (hh - kk) (capr - kk))).run Tryd.prog W = .ok (.string (txt Lz)) W := fun W hW => by
          rw [← hLzl]
          exact conv_view (hvz W (nextB hW D26)) hLzb
        clear hvz hLzl
        generalize pieces c tx = Lp at *
        clear op hE7 hm7 hc7 vb7 hcvb htab7 vh7
        go_wp2
        go_loopw [26, 27] (fun s i wr => ∃ (k : Nat) (B : ByteArray), k ≤ Lp.length ∧ i = .int .i64 k ∧ s = .string B ∧ Hid (B.data.toList = J c (Lp.take k)) ∧ Below z6.heap.size z6 wr) (fun _ i _ => Lp.length - (intOf i).toNat)
        case atStart => exact ⟨0, ⟨#[]⟩, by omega, rfl, rfl, rfl, Below.refl _ _⟩
        case round =>
          obtain ⟨k, B, hk, rfl, rfl, hB, hbw⟩ := hrel
          have eB : B.data.toList.length = B.size := Array.length_toList
          have etx : tx.data.toList.length = tx.size := Array.length_toList
          have hBl : B.size ≤ 100 := by have := J_take_len c Lp k; rw [hJ, ← hB.out] at this; omega
          by_cases hlt : k < Lp.length
          · obtain ⟨bp, fp, rfl, hcp⟩ := vp (by omega)
            have hck : wr.cell? ⟨bp, fp + k, none⟩ = some (.string (Lp.getD k ByteArray.empty)) := (hbw.cell (p := ⟨bp, fp + k, none⟩) (kp _ rfl).2).trans (hcp k hlt)
            have hnx := J_next c Lp k hlt
            have hnl := J_take_len c Lp (k + 1)
            rw [hJ] at hnl
            obtain ⟨pc, hpc⟩ : ∃ pc, pc = Lp.getD k ByteArray.empty := ⟨_, rfl⟩
            rw [← hpc] at hck hnx
            have epc : pc.data.toList.length = pc.size := Array.length_toList
            by_cases h0 : k = 0
            · rw [if_pos h0] at hnx
              have hpl2 : pc.size ≤ 100 := by rw [hnx] at hnl; omega
              have hB1 : Hid ((B ++ pc).data.toList = J c (Lp.take (k + 1))) := by
                show _ = _
                have hB0 := hB.out
                rw [h0] at hB0
                rw [hnx, ByteArray.data_append, Array.toList_append, hB0]
                simp [J]
              have hdk : decide ((0 : Int) < (k : Int)) = false := by simp; omega
              have hdk2 : decide (0 < k) = false := by simp; omega
              have hsz : ¬ 9223372036854775807 < B.size + pc.size := by omega
              clear hnx hnl hpc hcp hB h0
              go_wp2
              go_roundw
              case rel => exact ⟨k + 1, _, by omega, by go_num, rfl, hB1, hbw⟩
              case measure => simp [intOf]; omega
            · rw [if_neg h0] at hnx
              have hpl2 : pc.size ≤ 100 := by rw [hnx, List.length_append, List.length_cons] at hnl; omega
              have hcc := byte_str wr (c.toNat : Int) (by omega) (by have := c.toNat_lt; omega)
              have hce : UInt8.ofNat (c.toNat : Int).toNat = c := by simp
              rw [hce] at hcc
              have hB1 : Hid ((B ++ ⟨#[c]⟩ ++ pc).data.toList = J c (Lp.take (k + 1))) := by
                show _ = _
                rw [hnx, ← hB.out, ByteArray.data_append, ByteArray.data_append]
                simp
              have hck2 : (wr.alloc (.cells #[.int .u8 (c.toNat : Int)] 5)).cell? ⟨bp, fp + k, none⟩ = some (.string pc) := (((Below.refl wr.heap.size wr).alloc (Nat.le_refl _) _).cell (p := ⟨bp, fp + k, none⟩) (World.block_lt_of_cell? wr _ hck)).trans hck
              have hbs := hbw.size
              have hdk : decide ((0 : Int) < (k : Int)) = true := by simp; omega
              have hdk2 : decide (0 < k) = true := by simp; omega
              have hsz1 : ¬ 9223372036854775807 < B.size + 1 := by omega
              have hsz2 : ¬ 9223372036854775807 < B.size + 1 + pc.size := by omega
              have es : (B ++ ⟨#[c]⟩ : ByteArray).size = B.size + 1 := by simp [ByteArray.size_append]; rfl
              clear hnx hnl hpc hcp hB hce
              go_wp2
              go_roundw
              case rel => exact ⟨k + 1, _, by omega, by go_num, rfl, hB1, hbw.alloc hbs _⟩
              case measure => simp [intOf]; omega
          · obtain rfl : k = Lp.length := by omega
            have hBt : B = tx := ext_list (by rw [hB.out, List.take_of_length_le (Nat.le_refl _), hJ])
            subst hBt
            clear hB hJ hk eB etx hBl
            go_wp2_with fail
            refine wp_region_held (S := fun W => Below z6.heap.size z6 W) (by kernel_rfl) ?_
            change wpAnyH _ _ _ _ _ _ _ _ (World.drew _)
            have hw0 : Below z6.heap.size z6 wr.drew := hbw.drew
            refine takeW 0 169 (.string B) rfl rfl (by kernel_rfl) (by kernel_rfl) (by kernel_rfl) (fun _ _ _ h => h) (by kernel_rfl) (by (intro w hSw; go_simp)) (by assumption) ?_
            simp only [List.set_cons_zero, List.set_cons_succ]
            refine takeW 1 170 (.string B) rfl rfl (by kernel_rfl) (by kernel_rfl) (by kernel_rfl) (fun _ _ _ h => h) (by kernel_rfl) (by (intro w hSw; go_simp)) (by assumption) ?_
            simp only [List.set_cons_zero, List.set_cons_succ]
            refine takeW 2 171 (.bool true) rfl rfl (by kernel_rfl) (by kernel_rfl) (by kernel_rfl) (fun _ _ _ h => h) (by kernel_rfl) (by (intro w hSw; go_simp)) (by assumption) ?_
            simp only [List.set_cons_zero, List.set_cons_succ]
            refine takeW 3 172 (.bool true) rfl rfl (by kernel_rfl) (by kernel_rfl) (by kernel_rfl) (fun _ _ _ h => h) (by kernel_rfl) (by (intro w hSw; go_simp)) (by assumption) ?_
            simp only [List.set_cons_zero, List.set_cons_succ]
            refine takeW 4 173 (.bool true) rfl rfl (by kernel_rfl) (by kernel_rfl) (by kernel_rfl) (fun _ _ _ h => h) (by kernel_rfl) (by (intro w hSw; go_simp)) (by assumption) ?_
            simp only [List.set_cons_zero, List.set_cons_succ]
            refine takeW 5 174 (.bool false) rfl rfl (by kernel_rfl) (by kernel_rfl) (by kernel_rfl) (fun _ _ _ h => h) (by kernel_rfl) (by (intro w hSw; go_simp)) (by assumption) ?_
            simp only [List.set_cons_zero, List.set_cons_succ]
            refine takeW 6 175 (.bool false) rfl rfl (by kernel_rfl) (by kernel_rfl) (by kernel_rfl) (fun _ _ _ h => h) (by kernel_rfl) (by (intro w hSw; go_simp)) (by assumption) ?_
            simp only [List.set_cons_zero, List.set_cons_succ]
            refine takeW 7 176 (.int .i64 z) rfl rfl (by kernel_rfl) (by kernel_rfl) (by kernel_rfl) (fun _ _ _ h => h) (by kernel_rfl) (by (intro w hSw; go_simp)) (by assumption) ?_
            simp only [List.set_cons_zero, List.set_cons_succ]
            refine takeW 10 179 (.slice (some ⟨br, fr, none⟩) Lr.length capr) rfl rfl (by kernel_rfl) (by kernel_rfl) (by kernel_rfl) (fun _ _ _ h => h) (by kernel_rfl) (by (intro w hSw; go_simp)) (by assumption) ?_
            simp only [List.set_cons_zero, List.set_cons_succ]
            refine takeW 11 180 (.int .i64 (kk : Int)) rfl rfl (by kernel_rfl) (by kernel_rfl) (by kernel_rfl) (fun _ _ _ h => h) (by kernel_rfl) (by (intro w hSw; go_simp)) (by assumption) ?_
            simp only [List.set_cons_zero, List.set_cons_succ]
            refine takeW 12 181 (.int .i64 (hh : Int)) rfl rfl (by kernel_rfl) (by kernel_rfl) (by kernel_rfl) (fun _ _ _ h => h) (by kernel_rfl) (by (intro w hSw; go_simp)) (by assumption) ?_
            simp only [List.set_cons_zero, List.set_cons_succ]
            refine takeW 13 182 (.slice (some ⟨br, fr + kk, none⟩) (hh - kk) (capr - kk)) rfl rfl (by kernel_rfl) (by kernel_rfl) (by kernel_rfl) (fun _ _ _ h => h) (by kernel_rfl) (by (intro w hSw; have hq := hsl w; go_simp)) (by assumption) ?_
            simp only [List.set_cons_zero, List.set_cons_succ]
            refine takeW 14 183 (.string (txt Lz)) rfl rfl (by kernel_rfl) (by kernel_rfl) (by kernel_rfl) (fun _ _ _ h => h) (by kernel_rfl) (by (intro w hSw; have hq := hcz w hSw; go_simp)) (by assumption) ?_
            simp only [List.set_cons_zero, List.set_cons_succ]
            refine wpAnyH_all (rs := [8]) (by kernel_rfl) (by simp) ?_
            intro i hi; obtain rfl : i = 8 := by simpa using hi
            refine wpOp_step rfl (fun K hK => ?_)
            rw [if_pos (by kernel_rfl)]
            go_simp
            go_at_call 10
            refine (putImpl z _ (wf64d hzI)).mono ?_
            rintro e q1 ⟨v1, rfl, o1, e1⟩
            rw [hLz.out] at o1
            obtain ⟨_, ad1, cap1, rfl, v1, _, k1⟩ := own_view o1
            have hc1 := conv_view (cap := cap1) v1 hLzb
            have hw1 : Below z6.heap.size z6 q1 := nextB e1 hw0
            clear o1 e1 v1 k1
            refine hK _ _ ⟨hw1, ?_⟩
            clear hK K hi
            refine wpAnyH_all (rs := [9]) (by kernel_rfl) (by simp) ?_
            intro i hi; obtain rfl : i = 9 := by simpa using hi
            refine wpOp_step rfl (fun K hK => ?_)
            rw [if_pos (by kernel_rfl)]
            go_simp
            refine hK _ _ ⟨hw1, ?_⟩
            clear hK K hi
            refine takeW 15 184 (.bool true) rfl rfl (by kernel_rfl) (by kernel_rfl) (by kernel_rfl) (fun _ _ _ h => h) (by kernel_rfl) (by (intro w hSw; go_simp)) (by assumption) ?_
            simp only [List.set_cons_zero, List.set_cons_succ]
            refine takeW 16 185 (.bool true) rfl rfl (by kernel_rfl) (by kernel_rfl) (by kernel_rfl) (fun _ _ _ h => h) (by kernel_rfl) (by (intro w hSw; go_simp)) (by assumption) ?_
            simp only [List.set_cons_zero, List.set_cons_succ]
            refine takeW 17 186 (.bool true) rfl rfl (by kernel_rfl) (by kernel_rfl) (by kernel_rfl) (fun _ _ _ h => h) (by kernel_rfl) (by (intro w hSw; go_simp)) (by assumption) ?_
            simp only [List.set_cons_zero, List.set_cons_succ]
            refine takeW 18 2 (.bool true) rfl rfl (by kernel_rfl) (by kernel_rfl) (by kernel_rfl) (fun _ _ _ h => h) (by kernel_rfl) (by (intro w hSw; go_simp)) (by assumption) ?_
            simp only [List.set_cons_zero, List.set_cons_succ]
            refine wpAnyH_done (by kernel_rfl) ?_ _
            go_wp2
            go_ret
            exact ⟨rfl, BB.trans ((hw1).mono BB.size)⟩

end Go.Proofs.YtpddgladbodkbaaDoor
