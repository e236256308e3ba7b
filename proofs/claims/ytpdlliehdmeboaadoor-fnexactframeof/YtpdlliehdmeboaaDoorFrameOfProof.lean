/- For every slice of bytes the call of FnExactFrameOf returns true: impl.FrameOf answers as spec.FrameOf, writes into no argument, keeps nothing of one, and its answer owns its memory (a slice of more than 1048576 bytes is answered true at once). The variable errNoNumber holds what its text lays (the card ties it, over the pruned copy of the project). -/
import Derived.Test.YtpdlliehdmeboaaDoorRows
import Derived.Test.YtpdlliehdmeboaaDoorTie
import Derived.Test.YtpdlliehdmeboaaDoorCards
import Derived.SevenTiedAt
import Derived.LaidMore
import Derived.Stop.Joined
import Derived.Test.YtpdlliehdmeboaaDoorFrame12
import Derived.Lib.SmallJoins
import Derived.Stop.LaidErr
import Derived.WalkKit
import Derived.WalkSmall
import Derived.ProofKit
import Derived.OpenShut
import Derived.ShutString
import Derived.ChangeOld
import Derived.Below
namespace Go.Proofs.YtpdlliehdmeboaaDoor.fnExactFrameOf
open Go.ChangeShapes Go.WideShapes Go.ChangeAt Go.RowKit
open Go.ChangeMaps (open_string shut_string)
set_option linter.unusedVariables false

theorem own : ownKnob Tryd.prog.godebug = none := by kernel_rfl
theorem laidOut : laidOutB Tryd.prog = true := by kernel_rfl

def IsRow (k : IntKind) (w : World) (a : Option Addr) (len cap : Nat) (zs : List Int) : Prop :=
  (a = none ∧ len = 0 ∧ cap = 0 ∧ zs = []) ∨
  ∃ x, a = some x ∧ len ≤ cap ∧ cap ≤ maxLen ∧ zs.length = cap ∧ (∀ i, i < zs.length → w.cell? (x.add i) = some (.int k (zs.getD i 0))) ∧ ∀ n ∈ zs, (Lit.int k n).wf = true

set_option maxHeartbeats 8000000 in
theorem walk (a0 : Option Addr) (len0 cap0 : Nat) (z0 : List Int) (w : World) (w0 : IsRow .u8 w a0 len0 cap0 z0) (tp : TypeId) (pE : Value) (hE : w.cell? ⟨0, 0, none⟩ = some (.iface tp pE)) :
    Calls Tryd.prog 4 #[.slice a0 len0 cap0] w fun e w' => e = .returned (.bool true) ∧ Below w.heap.size w w' := by
  have key : View w a0 len0 (fun i => z0.getD i 0) ∧ (∀ a, a0 = some a → 0 < len0 → a.block < w.heap.size) ∧ ∀ i, 0 ≤ z0.getD i 0 ∧ z0.getD i 0 ≤ 255 := by
    rcases w0 with ⟨rfl, rfl, rfl, rfl⟩ | ⟨x, rfl, hl, hm, hz, hcell, hwz⟩
    · exact ⟨fun h => absurd h (by omega), fun a h => by simp at h, fun i => by simp⟩
    · refine ⟨fun hp => ?_, fun a h hp => ?_, fun i => ?_⟩
      · obtain ⟨b, off, rfl, hc⟩ := ints_at hcell (by omega)
        exact ⟨b, off, rfl, fun i hi => hc i (by omega)⟩
      · obtain rfl : x = a := by simpa using h
        have hc := hcell 0 (by omega)
        simpa [Addr.add] using World.block_lt_of_cell? w _ hc
      · by_cases hi : i < z0.length
        · have := bounds_u8 (hwz (z0.getD i 0) (by simp [List.getD, hi]))
          exact this
        · simp [List.getD, List.getElem?_eq_none (by omega : z0.length ≤ i)]
  obtain ⟨hv, hB, hf⟩ := key
  obtain ⟨f, hfe⟩ : ∃ f : Nat → Int, f = fun i => z0.getD i 0 := ⟨_, rfl⟩
  rw [← hfe] at hv
  have hf' : ∀ i, 0 ≤ f i ∧ f i ≤ 255 := fun i => by rw [hfe]; exact hf i
  clear hfe hf w0
  have hsb : 0 < w.heap.size := World.block_lt_of_cell? w _ hE
  by_cases hbig : 1048576 < len0
  · go_enter Tryd.func4, Tryd.ntmps4
    go_wp2
    go_ret
    exact ⟨rfl, Below.refl _ _⟩
  · have hl0 : len0 ≤ 1048576 := by omega
    obtain ⟨L, rfl, hv, hLb⟩ := view_list hv hf'
    clear hf' hbig
    have hl : L.length ≤ 1048576 := hl0
    have hmx : L.length ≤ maxLen := by unfold maxLen; omega
    have hrl := frameOf_len L
    obtain ⟨r, hr⟩ : ∃ r, Hid (frameOf L = r) := ⟨_, rfl⟩
    rw [hr.out] at hrl
    obtain ⟨ra, rb, rc, rM, rok⟩ := r
    simp only [] at hrl
    have hrm : rM.length ≤ 1048576 := by omega
    clear hl0
    go_enter Tryd.func4, Tryd.ntmps4
    go_wp2_with fail
    go_at_call 17
    refine (toBytesIn a0 L.length cap0 (fun i => L.getD i 0) w w hv hl hB (Below.refl _ _)).mono ?_
    rintro e x1 ⟨rfl, B1, k1, s1, v1⟩
    go_wp2_with fail
    go_at_call 10
    refine (ofSpec _ _ L x1 v1 hLb hl (Nat.le_refl _) hmx).mono ?_
    rintro e x2 ⟨⟨ad2, cap2, rfl, o2⟩, k2⟩
    rw [hr.out] at o2 ⊢
    simp only [] at o2 ⊢
    obtain ⟨q2, _, m2⟩ := own_view2 o2
    clear o2 v1
    have s2 := k2.size
    have B2 := B1.trans (k2.mono (by omega))
    obtain ⟨x3, hx3⟩ : ∃ y, y = x2.alloc (Obj.cells #[.int .i64 ra, .int .i64 rb, .int .i64 rc, .slice ad2 rM.length cap2] 25) := ⟨_, rfl⟩
    have F3 : FrameAt x3 x2.heap.size ra rb rc ad2 rM.length cap2 := by rw [hx3]; exact frameAt_box x2 _ _ _ _ _ _ _
    have jx3 : Below x2.heap.size x2 x3 := by rw [hx3]; exact below_box x2 _
    have tx3 : x2.heap.size < x3.heap.size := by rw [hx3]; exact size_box x2 _
    have B3 := B2.trans (jx3.mono (by omega))
    have hv3 := hv.carry (w' := x3) (fun x h hp => B3.block _ (hB x h hp))
    have q2 := q2.carry (w' := x3) (fun x h _ => jx3.block _ (m2 x h).2)
    have l2 : ∀ x, ad2 = some x → x.block < x2.heap.size := fun x h => (m2 x h).2
    clear m2
    go_wp2_with fail
    go_at_call 17
    rw [← hx3]
    clear hx3
    refine (toBytes a0 L.length cap0 (fun i => L.getD i 0) x3 hv3 hl (fun x h hp => by have := hB x h hp; omega)).mono ?_
    rintro e x4 ⟨rfl, k4, s4, _, f4, v4⟩
    have R4 : Room x4 (some ⟨x3.heap.size, 0, none⟩) L.length := fun _ => ⟨_, _, rfl, fun i hi => ⟨⟨_, by rw [Nat.zero_add]; exact v4 i hi⟩, by rw [Nat.zero_add]; exact f4 i hi⟩⟩
    have v4 : View x4 (some ⟨x3.heap.size, 0, none⟩) L.length (fun i => L.getD i 0) := View.mk0 v4
    have B4 := B3.trans (k4.mono (by omega))
    have F3 := F3.below k4 (by omega)
    have q2 := q2.carry (w' := x4) (fun x h _ => k4.block _ (by have := l2 x h; omega))
    clear f4 hv3
    go_wp2_with fail
    go_at_call 9
    refine (ofImpl _ _ L x4 v4 hLb hl (Nat.le_refl _) hmx _ _ ((B4.cell (p := ⟨0, 0, none⟩) hsb).trans hE)).mono ?_
    rintro e x5 ⟨⟨ad5, cap5, rfl, o5⟩, k5⟩
    rw [hr.out] at o5 ⊢
    simp only [] at o5 ⊢
    obtain ⟨q5, R5, m5⟩ := own_view2 o5
    clear o5
    have s5 := k5.size
    have B5 := B4.trans (k5.mono (by omega))
    have l5 : ∀ x, ad5 = some x → x.block < x5.heap.size := fun x h => (m5 x h).2
    have g5 : ∀ x, ad5 = some x → x4.heap.size ≤ x.block := fun x h => (m5 x h).1
    clear m5
    obtain ⟨x6, hx6⟩ : ∃ y, y = x5.alloc (Obj.cells #[.int .i64 ra, .int .i64 rb, .int .i64 rc, .slice ad5 rM.length cap5] 25) := ⟨_, rfl⟩
    have F6 : FrameAt x6 x5.heap.size ra rb rc ad5 rM.length cap5 := by rw [hx6]; exact frameAt_box x5 _ _ _ _ _ _ _
    have jx6 : Below x5.heap.size x5 x6 := by rw [hx6]; exact below_box x5 _
    have tx6 : x5.heap.size < x6.heap.size := by rw [hx6]; exact size_box x5 _
    have B6 := B5.trans (jx6.mono (by omega))
    have F3 := (F3.below k5 (by omega)).below jx6 (by omega)
    have q2 := (q2.carry (w' := x5) (fun x h _ => k5.block _ (by have := l2 x h; omega))).carry (w' := x6) (fun x h _ => jx6.block _ (by have := l2 x h; omega))
    have q5 := q5.carry (w' := x6) (fun x h _ => jx6.block _ (l5 x h))
    have R5 := R5.carry (w' := x6) (fun x h _ => jx6.block _ (l5 x h))
    have R4 := (R4.carry (w' := x5) (fun x h _ => by simp at h; subst h; exact k5.block _ s4)).carry (w' := x6) (fun x h _ => by simp at h; subst h; exact jx6.block _ (by show x3.heap.size < _; omega))
    have v4 := (v4.carry (w' := x5) (fun x h _ => by simp at h; subst h; exact k5.block _ s4)).carry (w' := x6) (fun x h _ => by simp at h; subst h; exact jx6.block _ (by show x3.heap.size < _; omega))
    obtain ⟨D1, D2, D3, D4⟩ : FrameAt x6 x2.heap.size ra rb rc ad2 rM.length cap2 := F3
    have F3 : FrameAt x6 x2.heap.size ra rb rc ad2 rM.length cap2 := ⟨D1, D2, D3, D4⟩
    rw [hx6] at D1 D2 D3 D4
    go_wp2_with fail
    go_at_call 18
    rw [← hx6]
    clear hx6 D1 D2 D3 D4
    refine (eqF ra rb rc ad5 ad2 rM.length cap5 cap2 (fun i => rM.getD i 0) x6 q5 q2 hrm (fun x h _ => by have := l5 x h; omega) (fun x h _ => by have := l2 x h; omega)).mono ?_
    rintro e x7 ⟨rfl, k7⟩
    have s7 := k7.size
    have B7 := B6.trans (k7.mono (by omega))
    have F3 := F3.below k7 (by omega)
    have F6 := F6.below k7 (by omega)
    have q2 := q2.carry (w' := x7) (fun x h _ => k7.block _ (by have := l2 x h; omega))
    have q5 := q5.carry (w' := x7) (fun x h _ => k7.block _ (by have := l5 x h; omega))
    have R5 := R5.carry (w' := x7) (fun x h _ => k7.block _ (by have := l5 x h; omega))
    have R4 := R4.carry (w' := x7) (fun x h _ => by simp at h; subst h; exact k7.block _ (by show x3.heap.size < _; omega))
    have v4 := v4.carry (w' := x7) (fun x h _ => by simp at h; subst h; exact k7.block _ (by show x3.heap.size < _; omega))
    go_wp2_with fail
    go_at_call 17
    refine (toBytes a0 L.length cap0 (fun i => L.getD i 0) x7 (hv.carry (fun x h hp => B7.block _ (hB x h hp))) hl (fun x h hp => by have := hB x h hp; omega)).mono ?_
    rintro e x8 ⟨rfl, k8, s8, _, _, v8⟩
    have v8 : View x8 (some ⟨x7.heap.size, 0, none⟩) L.length (fun i => L.getD i 0) := View.mk0 v8
    have B8 := B7.trans (k8.mono (by omega))
    have v4 := v4.carry (w' := x8) (fun x h _ => by simp at h; subst h; exact k8.block _ (by show x3.heap.size < _; omega))
    go_wp2_with fail
    go_at_call 19
    refine (eqBytes _ _ L.length _ _ (fun i => L.getD i 0) x8 v4 v8 hl).mono ?_
    rintro e x9 ⟨rfl, n9, h9⟩
    have k9 : Below x7.heap.size x7 x9 := by rw [h9]; exact below_drewN k8 _
    clear h9 v4 v8 k8 s8 B8
    have s9 := k9.size
    have B9 := B7.trans (k9.mono (by omega))
    have F3 := F3.below k9 (by omega)
    have F6 := F6.below k9 (by omega)
    have q2 := q2.carry (w' := x9) (fun x h _ => k9.block _ (by have := l2 x h; omega))
    have q5 := q5.carry (w' := x9) (fun x h _ => k9.block _ (by have := l5 x h; omega))
    have R5 := R5.carry (w' := x9) (fun x h _ => k9.block _ (by have := l5 x h; omega))
    have R4 := R4.carry (w' := x9) (fun x h _ => by simp at h; subst h; exact k9.block _ (by show x3.heap.size < _; omega))
    go_wp2_with fail
    go_at_call 20
    refine (markBytes _ L.length _ 1 x9 R4 hl (by omega) (by omega)).mono ?_
    rintro e x10 ⟨rfl, _, _, h10⟩
    have K10 := mark_kept h10
    clear h10 R4
    have k10 : Below x3.heap.size x9 x10 := K10.below (fun x h => by simp at h; subst h; exact Nat.le_refl _) (by omega)
    have s10 := k10.size
    have B10 := B9.trans (k10.mono (by omega))
    have F3 := F3.below k10 (by omega)
    have F6 := F6.same (K10.block (by omega) (fun x h => by simp at h; subst h; show x3.heap.size ≠ _; omega))
    have q2 := q2.carry (w' := x10) (fun x h _ => k10.block _ (by have := l2 x h; omega))
    have q5 := q5.carry (w' := x10) (fun x h _ => K10.block (by have := l5 x h; omega) (fun y hy => by simp at hy; subst hy; have := g5 x h; show x3.heap.size ≠ _; omega))
    have R5 := R5.carry (w' := x10) (fun x h _ => K10.block (by have := l5 x h; omega) (fun y hy => by simp at hy; subst hy; have := g5 x h; show x3.heap.size ≠ _; omega))
    have hk1 : 0 ≤ 1 + (L.length : Int) := by omega
    obtain ⟨D1, D2, D3, D4⟩ := F3
    have F3 : FrameAt x10 x2.heap.size ra rb rc ad2 rM.length cap2 := ⟨D1, D2, D3, D4⟩
    obtain ⟨E1, E2, E3, E4⟩ := F6
    have F6 : FrameAt x10 x5.heap.size ra rb rc ad5 rM.length cap5 := ⟨E1, E2, E3, E4⟩
    go_wp2_with fail
    go_at_call 18
    refine (eqF ra rb rc ad5 ad2 rM.length cap5 cap2 (fun i => rM.getD i 0) x10 q5 q2 hrm (fun x h _ => by have := l5 x h; omega) (fun x h _ => by have := l2 x h; omega)).mono ?_
    rintro e x11 ⟨rfl, k11⟩
    clear D1 D2 D3 D4 E1 E2 E3 E4
    have s11 := k11.size
    have B11 := B10.trans (k11.mono (by omega))
    have F3 := F3.below k11 (by omega)
    have F6 := F6.below k11 (by omega)
    have q2 := q2.carry (w' := x11) (fun x h _ => k11.block _ (by have := l2 x h; omega))
    have R5 := R5.carry (w' := x11) (fun x h _ => k11.block _ (by have := l5 x h; omega))
    clear q5
    obtain ⟨E1, E2, E3, E4⟩ := F6
    have F6 : FrameAt x11 x5.heap.size ra rb rc ad5 rM.length cap5 := ⟨E1, E2, E3, E4⟩
    go_wp2_with fail
    go_at_call 21
    refine (markF2 ra rb rc ad5 rM.length cap5 x11 R5 hrm).mono ?_
    rintro e x12 ⟨rfl, K12, v12⟩
    clear E1 E2 E3 E4 R5
    have k12 : Below x4.heap.size x11 x12 := K12.below g5 (by omega)
    have s12 := k12.size
    have B12 := B11.trans (k12.mono (by omega))
    have F3 := F3.below k12 (by omega)
    have F6 := F6.same (K12.block (by omega) (fun x h => by have := l5 x h; omega))
    have q2 := q2.carry (w' := x12) (fun x h _ => k12.block _ (by have := l2 x h; omega))
    obtain ⟨E1, E2, E3, E4⟩ := F6
    have F6 : FrameAt x12 x5.heap.size ra rb rc ad5 rM.length cap5 := ⟨E1, E2, E3, E4⟩
    have hk2 : 0 ≤ 1 + (rM.length : Int) := by omega
    go_wp2_with fail
    go_at_call 22
    refine (heldF ra rb rc ad5 rM.length cap5 x12 v12 hrm).mono ?_
    rintro e x13 ⟨rfl, k13⟩
    clear E1 E2 E3 E4
    have s13 := k13.size
    have B13 := B12.trans (k13.mono (by omega))
    have F3 := F3.below k13 (by omega)
    have F6 := F6.below k13 (by omega)
    have q2 := q2.carry (w' := x13) (fun x h _ => k13.block _ (by have := l2 x h; omega))
    have v13 := v12.carry (w' := x13) (fun x h _ => k13.block _ (by have := l5 x h; omega))
    clear v12
    go_wp2_with fail
    go_at_call 17
    refine (toBytes a0 L.length cap0 (fun i => L.getD i 0) x13 (hv.carry (fun x h hp => B13.block _ (hB x h hp))) hl (fun x h hp => by have := hB x h hp; omega)).mono ?_
    rintro e x14 ⟨rfl, k14, s14, _, _, v14⟩
    have v14 : View x14 (some ⟨x13.heap.size, 0, none⟩) L.length (fun i => L.getD i 0) := View.mk0 v14
    have B14 := B13.trans (k14.mono (by omega))
    go_wp2_with fail
    go_at_call 9
    refine (ofImpl _ _ L x14 v14 hLb hl (Nat.le_refl _) hmx _ _ ((B14.cell (p := ⟨0, 0, none⟩) hsb).trans hE)).mono ?_
    rintro e x15 ⟨⟨ad15, cap15, rfl, o15⟩, k15⟩
    rw [hr.out] at o15 ⊢
    simp only [] at o15 ⊢
    obtain ⟨q15, _, m15⟩ := own_view2 o15
    clear o15 v14
    have s15 := k15.size
    have B15 := B14.trans (k15.mono (by omega))
    have l15 : ∀ x, ad15 = some x → x.block < x15.heap.size := fun x h => (m15 x h).2
    clear m15
    obtain ⟨x16, hx16⟩ : ∃ y, y = x15.alloc (Obj.cells #[.int .i64 ra, .int .i64 rb, .int .i64 rc, .slice ad15 rM.length cap15] 25) := ⟨_, rfl⟩
    have F16 : FrameAt x16 x15.heap.size ra rb rc ad15 rM.length cap15 := by rw [hx16]; exact frameAt_box x15 _ _ _ _ _ _ _
    have jx16 : Below x15.heap.size x15 x16 := by rw [hx16]; exact below_box x15 _
    have tx16 : x15.heap.size < x16.heap.size := by rw [hx16]; exact size_box x15 _
    have B16 := B15.trans (jx16.mono (by omega))
    have F3 := ((F3.below k14 (by omega)).below k15 (by omega)).below jx16 (by omega)
    have F6 := ((F6.below k14 (by omega)).below k15 (by omega)).below jx16 (by omega)
    have q2 := ((q2.carry (w' := x14) (fun x h _ => k14.block _ (by have := l2 x h; omega))).carry (w' := x15) (fun x h _ => k15.block _ (by have := l2 x h; omega))).carry (w' := x16) (fun x h _ => jx16.block _ (by have := l2 x h; omega))
    have v16 := ((v13.carry (w' := x14) (fun x h _ => k14.block _ (by have := l5 x h; omega))).carry (w' := x15) (fun x h _ => k15.block _ (by have := l5 x h; omega))).carry (w' := x16) (fun x h _ => jx16.block _ (by have := l5 x h; omega))
    have q15 := q15.carry (w' := x16) (fun x h _ => jx16.block _ (l15 x h))
    clear v13
    obtain ⟨D1, D2, D3, D4⟩ := F3
    rw [hx16] at D1 D2 D3 D4
    go_wp2_with fail
    go_at_call 18
    rw [← hx16]
    clear hx16 D1 D2 D3 D4
    refine (eqF ra rb rc ad15 ad2 rM.length cap15 cap2 (fun i => rM.getD i 0) x16 q15 q2 hrm (fun x h _ => by have := l15 x h; omega) (fun x h _ => by have := l2 x h; omega)).mono ?_
    rintro e x17 ⟨rfl, k17⟩
    have s17 := k17.size
    have B17 := B16.trans (k17.mono (by omega))
    have F6 := F6.below k17 (by omega)
    have v17 := v16.carry (w' := x17) (fun x h _ => k17.block _ (by have := l5 x h; omega))
    obtain ⟨E1, E2, E3, E4⟩ := F6
    go_wp2_with fail
    go_at_call 22
    refine (heldF ra rb rc ad5 rM.length cap5 x17 v17 hrm).mono ?_
    rintro e x18 ⟨rfl, k18⟩
    clear E1 E2 E3 E4
    go_wp2
    go_ret
    exact ⟨rfl, B17.trans (k18.mono B17.size)⟩

theorem gErr : Tryd.prog.globalNamed "loop.example/g00470/impl.errNoNumber" = some 0 := by kernel_rfl
theorem gErrT : (Tryd.prog.globals[0]?).map (·.type) = some 64 := by kernel_rfl
theorem row65 (u : TypeId) (h : Tryd.prog.typeName? 3 u = some "*errors.errorString") : u = 65 := by
  have star : "*" ++ "errors.errorString" = "*errors.errorString" := by decide
  exact typeName_ptr_named (nm := "errors.errorString") (by rw [star]; kernel_rfl) (by kernel_rfl) (by decide) u (by rw [star]; exact h)
theorem sentinel_of_laid {W : World} (h : laidMetH Tryd.prog Rows.fnExactFrameOfRow.laid W) : ∃ a : Addr, W.var? Tryd.prog "loop.example/g00470/impl.errNoNumber" = some #[.iface 65 (.pointer (some a))] := by
  rw [MakeChecks.laidMetH_plain _ _ _ (by kernel_rfl)] at h
  obtain ⟨a0, s0, hv0, _⟩ := laid_sentinel (h) gErr gErrT Tryd.underlying64 row65 Tryd.underlying65 Tryd.underlying83 rfl rfl Tryd.underlying9 (by kernel_rfl) (by kernel_rfl)
  exact ⟨a0, hv0⟩

theorem door_met (os : Os) (args : Array Value) : laidMetH Tryd.prog Rows.fnExactFrameOfRow.laid ((World.doorLaid Tryd.prog 28 os).forCall (fun _ _ => 0) ⟨#[], args, []⟩).memory :=
  laidMetH_of_parts3 (fuel := 8) (laidMet_of_run' 8 (by kernel_rfl) (by kernel_rfl)) (by kernel_rfl) (by kernel_rfl)

set_option maxRecDepth 100000 in
theorem lifted (os : Os) (started : os.Started) (H : Type) (enc : TypeId × Value → H) :
    ReturnsInHanded {} Tryd.checked os 4 .any (fun w args => (Rows.fnExactFrameOfSpec.pre enc Tryd.prog Tryd.f4 [] false w args ∧ laidMetH Tryd.prog Rows.fnExactFrameOfRow.laid w) ∧ sizedMet enc Tryd.prog Tryd.f4 (OpenSpec.ofChange Rows.fnExactFrameOfSpec) false w args) (Rows.fnExactFrameOfSpec.post enc Tryd.prog Tryd.f4 false true false false) := by
  refine returnsInHanded_of_change_and (C := Tryd.checked) (X := fun w _ => laidMetH Tryd.prog Rows.fnExactFrameOfRow.laid w) (fun _ _ _ hh h => h.of_heap hh) own started (by kernel_rfl) Tryd.func4
    (ChangeSpec.witness_shaped (enc := enc) (C := Tryd.checked) (os := os) (X := fun w _ => laidMetH Tryd.prog Rows.fnExactFrameOfRow.laid w) false (World.doorLaid Tryd.prog 28 os) #[.slice none 0 0] 8 rfl (World.shaped_of_RefB (by kernel_rfl) (by kernel_rfl)) (by kernel_rfl) (by kernel_rfl) (by kernel_rfl) (door_met os _)) ?_
  intro W base args ds gs before hval0 hW _ hsz0 hL _
  have hval : ∀ (j : Nat) t v, Tryd.f4.params[j]? = some t → args[j]? = some v → Value.okWide Tryd.prog W .any base t v := hval0
  have hW' := hW
  obtain ⟨p, q, hA0, hV, rfl, hfz, hnd⟩ := hW
  have hA : DataW.TrodAll enc Tryd.prog W 0 (fun _ => true) true Tryd.f4.params.toList args.toList ds p := hA0
  rw [Tryd.params4] at hA hval
  obtain ⟨v0, vs0, d0, ds0, p0, q0, hargs, rfl, rfl, h0, r0⟩ := trodAll_cons hA
  obtain ⟨rfl, rfl, rfl⟩ := trodAll_nil r0
  obtain rfl : args = #[v0] := by cases args; simp_all
  have hV1 : DataW.TrodVars enc Tryd.prog W (fun _ => true) ["loop.example/g00470/impl.errNoNumber"] gs q := hV
  obtain ⟨sa, hvE⟩ := sentinel_of_laid hL
  obtain ⟨rfl, rfl⟩ := hV1.unique (vars_read1 enc gErr gErrT Tryd.underlying64 hvE trivial _)
  have hcE : W.cell? ⟨0, 0, none⟩ = some (.iface 65 (.pointer (some sa))) := by simpa using World.var?_cell gErr hvE 0
  obtain ⟨a0, len0, cap0, rfl⟩ := okWide_slice Tryd.underlying22 (hval 0 22 v0 rfl rfl)
  have k0 := h0
  have lt0 : ∀ x ∈ p0, x.block < W.heap.size := by obtain ⟨m, hm⟩ := k0; exact DataW.trod_lt m _ _ _ hm
  obtain ⟨z0, w0⟩ : ∃ zs, IsRow .u8 W a0 len0 cap0 zs := by
    obtain ⟨fuel, hf⟩ := h0
    rcases open_ints Tryd.underlying22 Tryd.underlying5 (by kernel_rfl) hf with ⟨hcs, _⟩ | ⟨x, l, c, zs, hcs, _, hl, hm, hz, _, hcell, hwz⟩
    · simp [Value.cells] at hcs
      obtain ⟨rfl, rfl, rfl⟩ := hcs
      exact ⟨[], .inl ⟨rfl, rfl, rfl, rfl⟩⟩
    · simp [Value.cells] at hcs
      obtain ⟨rfl, rfl, rfl⟩ := hcs
      exact ⟨zs, .inr ⟨_, rfl, hl, hm, by simpa using hz, hcell, hwz⟩⟩
  clear hA0 hval0
  refine (walk a0 len0 cap0 z0 W w0 _ _ hcE).mono fun e W' ⟨he, bel⟩ => ?_
  subst he
  exact ⟨_, rfl, _, _, _, [], _, [.cell 0 0], hW', trodAll_mk1 (shut_bool Tryd.underlying4 _), (trodAll_cons_mk (Below.trod laidOut (by kernel_rfl) (of_decide_eq_true (by kernel_rfl)) k0 bel lt0) trodAll_mk0), vars_read1 enc gErr gErrT Tryd.underlying64 (Joins.var_stays gErr hvE bel (Nat.le_refl _)) trivial _, bel.frame _, fun h => by cases h⟩

theorem over : Rows.fnExactFrameOfRow.holds Tryd.pinned (OpenSpec.ofChange Rows.fnExactFrameOfSpec) :=
  OpenClaim.holds_of_wide 4 Tryd.f4 rfl rfl rfl rfl rfl rfl rfl ⟨rfl, rfl, rfl, rfl, rfl⟩ rfl rfl rfl rfl rfl (by kernel_rfl) Tryd.func4 (by kernel_rfl)
    (of_decide_eq_true (by kernel_rfl)) (by unfold Func.isWrapper; first | (rw [if_pos (by decide +kernel)]; kernel_rfl) | (rw [if_neg (by decide +kernel)]; exact ⟨rfl, rfl⟩))
    (fun os started H enc _ => lifted os started H enc)

theorem proved : Rows.FnExactFrameOfSaid := over
end Go.Proofs.YtpdlliehdmeboaaDoor.fnExactFrameOf
namespace Go.Proofs.YtpdlliehdmeboaaDoor
theorem frameOf_holds : Rows.FnExactFrameOfCardSaid :=
  Claim7.holds_tied_plain_at .later [] [.sentinel] true (true, "2aba7f780a20155b4b225bb469134862786f285d35f4533ddca6d7f7c18c1941") false
    fnExactFrameOf.proved (fun _ h => by cases h) (by kernel_rfl) (fun _ h => by cases h) fnExactFrameOf_row_tie rfl ⟨rfl, rfl⟩ (by kernel_rfl) rfl
    (fun f fn hf hfn => by
      obtain rfl : f = 4 := Option.some.inj ((show Tryd.prog.funcNamed "loop.example/g00470/laws.FnExactFrameOf" = some 4 by kernel_rfl).symm.trans hf) |>.symm
      obtain rfl : fn = Tryd.f4 := (Option.some.inj (Tryd.func4.symm.trans hfn)).symm
      exact ⟨by kernel_rfl, fun j t ht => by
        rw [Tryd.params4] at ht
        have hm : t ∈ [22] := by simpa using Array.mem_of_getElem? ht
        have hall : ([22].all fun u => !Tryd.prog.wantsStandIn u) = true := by kernel_rfl
        exact (show Tryd.prog.wantsStandIn t = false by simpa using List.all_eq_true.1 hall t hm)⟩)
    (by kernel_rfl)
#print axioms frameOf_holds
end Go.Proofs.YtpdlliehdmeboaaDoor
