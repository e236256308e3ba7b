/- impl.Number, walked. -/
import Derived.Test.YtpddgladbodkbaaDoorRows
import Derived.WalkKit
import Derived.ProofKit
import Derived.OpenShut
import Derived.ShutString
import Derived.ChangeOld
import Derived.Below
import Derived.Deep.QuietTactic
import Derived.BigQuiet
import Derived.WalkSmall
import Derived.Laws.OwnMore
import Derived.WalkSpells
import Derived.WalkLawsBesides
import Derived.Defers
import Derived.Recover
import Derived.Lib.SmallJoins
import Derived.Lib.LaidTab
import Derived.Test.YtpddgladbodkbaaDoorNumSpec
import Derived.Test.YtpddgladbodkbaaDoorShelfNum
namespace Go.Proofs.YtpddgladbodkbaaDoor
open Go.ChangeShapes Go.WideShapes Go.ChangeAt Go.RowKit
open Go.ChangeMaps (open_string shut_string)
set_option linter.unusedVariables false

theorem gTab : Tryd.prog.globalNamed "internal/strconv.uint64pow10" = some 3 := by kernel_rfl
theorem tab_later {w w' : World} (h : Lib.TabIs Tryd.prog w "internal/strconv.uint64pow10" .u64 Lib.pow10Tab) (hb : Below w.heap.size w w') : Lib.TabIs Tryd.prog w' "internal/strconv.uint64pow10" .u64 Lib.pow10Tab :=
  Joins.tab_stays gTab h hb (Nat.le_refl _)
theorem gSyn : Tryd.prog.globalNamed "strconv.ErrSyntax" = some 1 := by kernel_rfl
theorem gRan : Tryd.prog.globalNamed "strconv.ErrRange" = some 2 := by kernel_rfl

/-- What numberIn does: it hands back the number, or panics. -/
def InEnd (R : Option Nat) (tp : TypeId) (p : Value) (e : Ending) : Prop :=
  (∃ n : Nat, R = some n ∧ e = .returned (.int .i64 (n : Int))) ∨ (R = none ∧ e = .panicked [{ v := .iface tp p, recovered := false }])
theorem cell_keep {w w' : World} {g : Nat} {v : Value} (hb : Below w.heap.size w w') (h : w.cell? ⟨g, 0, none⟩ = some v) : w'.cell? ⟨g, 0, none⟩ = some v :=
  (hb.cell (p := ⟨g, 0, none⟩) (World.block_lt_of_cell? w _ h)).trans h

set_option maxHeartbeats 4000000 in
theorem numIn (s : ByteArray) (w : World) (hs : s.size ≤ 1048576) (htab : Lib.TabIs Tryd.prog w "internal/strconv.uint64pow10" .u64 Lib.pow10Tab)
    (tp1 tp2 : TypeId) (p1 p2 : Value) (hv1 : w.var? Tryd.prog "strconv.ErrSyntax" = some #[.iface tp1 p1]) (hv2 : w.var? Tryd.prog "strconv.ErrRange" = some #[.iface tp2 p2])
    (tp : TypeId) (p : Value) (hE : w.cell? ⟨0, 0, none⟩ = some (.iface tp p)) :
    Calls Tryd.prog 36 #[.string s] w fun e w' => InEnd (numR s.data.toList) tp p e ∧ Below w.heap.size w w' := by
  cases h : Lib.atoiAll s.data.toList with
  | range =>
    have hR : numR s.data.toList = none := by
      cases hr : numR s.data.toList with
      | none => rfl
      | some n => have := (atoiAll_of hr).1; rw [h] at this; cases this
    rw [hR]
    have hA := Tryd.strconv_Atoi_range_var s (by omega) h tp2 p2 w hv2
    clear h hR htab hv1 hv2
    go_enter Tryd.func36, Tryd.ntmps36
    go_wp2_with fail
    go_at_call 45
    refine hA.mono ?_
    rintro e w1 ⟨N, rfl, _, _, hb⟩
    have hE1 := cell_keep hb hE
    clear hA
    go_wp2
    exact ⟨rfl, .inr ⟨rfl, rfl⟩, hb⟩
  | ok v =>
    have hbd := Lib.atoiAll_bounds h
    have hA : Calls Tryd.prog 45 #[.string s] w fun e w' => e = .returned (.tuple #[.int .i64 v, .nilIface]) ∧ Below w.heap.size w w' := by
      refine (Tryd.strconv_Atoi_ok s (by omega) v h w).mono ?_
      rintro e w' ⟨rfl, rfl | ⟨t, rfl⟩⟩
      · exact ⟨rfl, Below.refl _ _⟩
      · exact ⟨rfl, Lib.bytesWorld_below _ _ _⟩
    by_cases hlo : v < 0
    · have hR : numR s.data.toList = none := by
        cases hr : numR s.data.toList with
        | none => rfl
        | some n => have := (atoiAll_of hr).1; rw [h] at this; cases this; omega
      rw [hR]
      have hd0 : decide (v < 0) = true := by simp; omega
      clear h hR htab hv1 hv2
      go_enter Tryd.func36, Tryd.ntmps36
      go_wp2_with fail
      go_at_call 45
      refine hA.mono ?_
      rintro e w1 ⟨rfl, hb⟩
      have hE1 := cell_keep hb hE
      clear hA
      go_wp2
      exact ⟨rfl, .inr ⟨rfl, rfl⟩, hb⟩
    have hd0 : decide (v < 0) = false := by simp; omega
    by_cases hhi : 999999 < v
    · have hR : numR s.data.toList = none := by
        cases hr : numR s.data.toList with
        | none => rfl
        | some n => have := atoiAll_of hr; rw [h] at this; obtain ⟨h1, h2, _⟩ := this; cases h1; omega
      rw [hR]
      have hd1 : decide (999999 < v) = true := by simp; omega
      clear h hR htab hv1 hv2
      go_enter Tryd.func36, Tryd.ntmps36
      go_wp2_with fail
      go_at_call 45
      refine hA.mono ?_
      rintro e w1 ⟨rfl, hb⟩
      have hE1 := cell_keep hb hE
      clear hA
      go_wp2
      exact ⟨rfl, .inr ⟨rfl, rfl⟩, hb⟩
    have hd1 : decide (999999 < v) = false := by simp; omega
    have hv64 : v ≤ 9223372036854775807 := by omega
    have hvm : -9223372036854775808 ≤ v := by omega
    by_cases heq : Lib.itoa v = s.data.toList
    · have hR := numR_of_atoi (by omega) (by omega) heq
      rw [hR]
      obtain ⟨n, rfl⟩ : ∃ n : Nat, v = n := ⟨v.toNat, by omega⟩
      clear h hR hv1 hv2
      go_enter Tryd.func36, Tryd.ntmps36
      go_wp2_with fail
      go_at_call 45
      refine hA.mono ?_
      rintro e w1 ⟨rfl, hb⟩
      have ht1 := tab_later htab hb
      clear hA htab
      go_wp2_with (go_at_call 17; refine (digitsImpl (n : Int) w1 hvm hv64 ht1).mono ?_; rintro e w2 ⟨rfl, hb2⟩)
      go_ret
      exact ⟨.inl ⟨_, rfl, rfl⟩, hb.trans (hb2.mono hb.size)⟩
    · have hR : numR s.data.toList = none := by
        cases hr : numR s.data.toList with
        | none => rfl
        | some n => have := atoiAll_of hr; rw [h] at this; obtain ⟨h1, _, h3⟩ := this; cases h1; exact absurd h3 heq
      rw [hR]
      have hq : (Lib.itoa v == s.toList) = false := by rw [beq_eq_false_iff_ne, ByteArray.toList_eq]; exact heq
      clear h hR hv1 hv2 heq
      go_enter Tryd.func36, Tryd.ntmps36
      go_wp2_with fail
      go_at_call 45
      refine hA.mono ?_
      rintro e w1 ⟨rfl, hb⟩
      have hE1 := cell_keep hb hE
      have ht1 := tab_later htab hb
      clear hA htab
      go_wp2_with (go_at_call 17; refine (digitsImpl v w1 hvm hv64 ht1).mono ?_; rintro e w2 ⟨rfl, hb2⟩; have hE2 := cell_keep hb2 hE1)
      exact ⟨rfl, .inr ⟨rfl, rfl⟩, hb.trans (hb2.mono hb.size)⟩
  | _ =>
    have hR : numR s.data.toList = none := by
      cases hr : numR s.data.toList with
      | none => rfl
      | some n => have := (atoiAll_of hr).1; rw [h] at this; cases this
    rw [hR]
    have hA : Calls Tryd.prog 45 #[.string s] w fun e w' => ∃ N, e = .returned (.tuple #[.int .i64 0, .iface 75 (.pointer (some ⟨N, 0, none⟩))]) ∧ w.heap.size ≤ N ∧ w'.heap[N]? = some (.cells #[.string ⟨#[65, 116, 111, 105]⟩, .string s, .iface tp1 p1] 91 (0, 0)) ∧ Below w.heap.size w w' := Any.strconv_Atoi_syntax_var Tryd.laysC172 s (by omega) h tp1 p1 w hv1
    clear h hR htab hv1 hv2
    go_enter Tryd.func36, Tryd.ntmps36
    go_wp2_with fail
    go_at_call 45
    refine hA.mono ?_
    rintro e w1 ⟨N, rfl, _, _, hb⟩
    have hE1 := cell_keep hb hE
    clear hA
    go_wp2
    exact ⟨rfl, .inr ⟨rfl, rfl⟩, hb⟩

theorem recPanicN (u : TypeId) (pv : Value) (older : List PanicEntry) (w : World) :
    CallsD Tryd.prog 35 #[] (.panicking ({ v := .iface u pv, recovered := false } :: older)) w fun e u' w' =>
      e = .returned (.tuple #[]) ∧ u' = .panicking ({ v := .iface u pv, recovered := true } :: older) ∧ w' = w := by
  refine callsD_of_wpS Tryd.func35 rfl fun c₀ cs hu => ?_
  apply wpS_region
  simp [wpOpsS, go_sem, recoverD, hu, Tryd.ntmps35, bodyPostS, results, Tryd.results35]
theorem recIdleN (w : World) :
    CallsD Tryd.prog 35 #[] .returning w fun e u' w' => e = .returned (.tuple #[]) ∧ u' = .returning ∧ w' = w := by
  refine callsD_of_wpS Tryd.func35 rfl fun c₀ cs hu => ?_
  apply wpS_region
  simp [wpOpsS, go_sem, recoverD, hu, Tryd.ntmps35, bodyPostS, results, Tryd.results35]
  cases c₀
  simp_all

theorem numImpl (s : ByteArray) (w : World) (hs : s.size ≤ 1048576) (htab : Lib.TabIs Tryd.prog w "internal/strconv.uint64pow10" .u64 Lib.pow10Tab)
    (tp1 tp2 : TypeId) (p1 p2 : Value) (hv1 : w.var? Tryd.prog "strconv.ErrSyntax" = some #[.iface tp1 p1]) (hv2 : w.var? Tryd.prog "strconv.ErrRange" = some #[.iface tp2 p2])
    (tp : TypeId) (p : Value) (hE : w.cell? ⟨0, 0, none⟩ = some (.iface tp p)) :
    Calls Tryd.prog 13 #[.string s] w fun e w' => e = .returned (numRes (numR s.data.toList)) ∧ Below w.heap.size w w' := by
  have hN := numIn s w hs htab tp1 tp2 p1 p2 hv1 hv2 tp p hE
  generalize numR s.data.toList = R at hN ⊢
  clear htab hv1 hv2 hE
  go_enter_defers Tryd.func13, Tryd.ntmps13
  go_wp2_with fail
  go_at_call 36
  refine hN.mono ?_
  rintro e w1 ⟨hE, hb⟩
  rcases hE with ⟨n, rfl, rfl⟩ | ⟨rfl, rfl⟩
  · go_wp2
    refine leaves_cons (f := 35) (args := #[]) (by simp) (by simp [go_sem]) ?_
    refine (recIdleN _).mono ?_
    rintro e u' w'' ⟨rfl, rfl, rfl⟩
    simp [Leaves, settle, results, Tryd.results13, go_sem, numRes, hb]
  · go_wp2
    refine leaves_cons (f := 35) (args := #[]) (by simp) (by simp [go_sem]) ?_
    refine (recPanicN _ _ _ _).mono ?_
    rintro e u' w'' ⟨rfl, rfl, rfl⟩
    simp [Leaves, settle, results, Tryd.results13, go_sem, numRes, hb]

end Go.Proofs.YtpddgladbodkbaaDoor
