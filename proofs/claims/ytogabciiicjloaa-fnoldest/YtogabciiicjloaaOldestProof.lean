/- For every slice of bytes the call of FnOldest returns true: who is heard in a table that is drawn of it stays, and goes in his time, not sooner (a slice of more than 1048576 bytes is answered true at once). No condition. -/
import Derived.Test.YtogabciiicjloaaRows
import Derived.Test.YtogabciiicjloaaOldest
import Derived.WalkKit
import Derived.WalkSmall
import Derived.ProofKit
import Derived.OpenShut
import Derived.ShutString
import Derived.ChangeOld
import Derived.Below
namespace Go.Proofs.Ytogabciiicjloaa.fnOldest
open Go.ChangeShapes Go.WideShapes Go.ChangeAt Go.RowKit
open Go.ChangeMaps (open_string shut_string)
set_option linter.unusedVariables false

theorem own : ownKnob Try.prog.godebug = none := by kernel_rfl
theorem laidOut : laidOutB Try.prog = true := by kernel_rfl

/-- WHAT THE WALK IS TOLD OF A SLICE OF INTEGERS THAT CAME IN: it is nil; or it leads to a row of 'cap' cells, the numbers 'zs' (the first 'len' are its elements, the rest its spare room), each fitting its kind. -/
def IsRow (k : IntKind) (w : World) (a : Option Addr) (len cap : Nat) (zs : List Int) : Prop :=
  (a = none ∧ len = 0 ∧ cap = 0 ∧ zs = []) ∨
  ∃ x, a = some x ∧ len ≤ cap ∧ cap ≤ maxLen ∧ zs.length = cap ∧ (∀ i, i < zs.length → w.cell? (x.add i) = some (.int k (zs.getD i 0))) ∧ ∀ n ∈ zs, (Lit.int k n).wf = true

set_option maxHeartbeats 4000000 in
theorem walk (a0 : Option Addr) (len0 cap0 : Nat) (z0 : List Int) (w : World) (w0 : IsRow .u8 w a0 len0 cap0 z0) :
    Calls Try.prog 4 #[.slice a0 len0 cap0] w fun e w' => e = .returned (.bool true) ∧ Below w.heap.size w w' := by
  have key : View w a0 len0 (fun i => z0.getD i 0) ∧ (∀ a, a0 = some a → 0 < len0 → a.block < w.heap.size) ∧ ∀ i, 0 ≤ z0.getD i 0 ∧ z0.getD i 0 ≤ 255 := by
    rcases w0 with ⟨rfl, rfl, rfl, rfl⟩ | ⟨x, rfl, hl, hm, hz, hcell, hwz⟩
    · exact ⟨fun h => absurd h (by omega), fun a h => by simp at h, fun i => by simp⟩
    · refine ⟨fun hp => ?_, fun a h hp => ?_, fun i => ?_⟩
      · obtain ⟨b, off, rfl, hc⟩ := ints_at hcell (by omega)
        exact ⟨b, off, rfl, fun i hi => hc i (by omega)⟩
      · obtain rfl : x = a := by simpa using h
        have hc := hcell 0 (by omega)
        simpa [Addr.add] using World.block_lt_of_cell? w _ hc
      · by_cases hi : i < z0.length
        · have := bounds_u8 (hwz (z0.getD i 0) (by simp [List.getD, hi]))
          exact this
        · simp [List.getD, List.getElem?_eq_none (by omega : z0.length ≤ i)]
  obtain ⟨hv, hB, hf⟩ := key
  obtain ⟨f, hfe⟩ : ∃ f : Nat → Int, f = fun i => z0.getD i 0 := ⟨_, rfl⟩
  rw [← hfe] at hv
  have hf' : ∀ i, 0 ≤ f i ∧ f i ≤ 255 := fun i => by rw [hfe]; exact hf i
  clear hfe hf w0
  by_cases hbig : 1048576 < len0
  · have hbi : (1048576 : Int) < (len0 : Int) := by omega
    go_enter Try.func4, Try.ntmps4
    go_wp2_with fail
    go_at_call 8
    refine (bigYes a0 len0 cap0 w hbi).mono ?_
    rintro e w1 ⟨rfl, h1⟩
    rw [h1]
    clear h1 w1
    go_wp2
    go_ret
    exact ⟨rfl, Below.refl _ _⟩
  have hl0 : len0 ≤ 1048576 := by omega
  have hC : Code0 w a0 len0 f := ⟨hv, hB, hl0, hf'⟩
  clear hbig hv hB hf'
  go_enter Try.func4, Try.ntmps4
  go_wp2_with fail
  go_at_call 8
  refine (bigNo a0 len0 cap0 w hl0).mono ?_
  rintro e w1 ⟨rfl, h1⟩
  rw [h1]
  clear h1 w1
  go_wp2_with fail
  go_at_call 11
  refine (drawA a0 len0 cap0 f w hC).mono ?_
  rintro e x1 ⟨adl, capl, L, rfl, v0, hL20, l0, B1⟩
  have lm : L.length ≤ maxLen := by unfold maxLen; omega
  go_wp2_with fail
  go_at_call 23
  refine (okI adl capl L x1 v0 lm l0).mono ?_
  rintro e x2 ⟨rfl, k2⟩
  have B2 := B1.trans (k2.mono B1.size)
  have v1 := v0.below l0 k2
  have l1 := l0.le k2.size
  clear v0 l0 k2
  cases htk : tokB L with
  | false =>
    go_wp2_with fail
    go_at_call 23
    refine (okI adl capl L x2 v1 lm l1).mono ?_
    rintro e x3 ⟨rfl, k3⟩
    rw [htk]
    have l3 := l1.le k3.size
    have v3 := v1.below l1 k3
    have B3 := B2.trans (k3.mono B2.size)
    go_wp2_with fail
    go_at_call 24
    refine (okS adl capl L x3 v3 lm l3).mono ?_
    rintro e x4 ⟨rfl, k4⟩
    rw [htk]
    have B4 := B3.trans (k4.mono B3.size)
    go_wp2
    go_ret
    exact ⟨rfl, B4⟩
  | true =>
    have hT : Hid (TOk L) := show TOk L from tokB_of htk
    by_cases hz : L.length = 0
    · have hz' : ((L.length : Int) == 0) = true := by simp [hz]
      clear hz
      go_wp2_with fail
      go_at_call 23
      refine (okI adl capl L x2 v1 lm l1).mono ?_
      rintro e x3 ⟨rfl, k3⟩
      rw [htk]
      have l3 := l1.le k3.size
      have v3 := v1.below l1 k3
      have B3 := B2.trans (k3.mono B2.size)
      go_wp2_with fail
      go_at_call 24
      refine (okS adl capl L x3 v3 lm l3).mono ?_
      rintro e x4 ⟨rfl, k4⟩
      rw [htk]
      have B4 := B3.trans (k4.mono B3.size)
      go_wp2
      go_ret
      exact ⟨rfl, B4⟩
    · have hz' : ((L.length : Int) == 0) = false := by simp; exact fun q => hz (by rw [q]; rfl)
      have hz2 : ¬ (L.length : Int) = 0 := by omega
      have hC2 := hC.later B2 (Nat.le_refl _)
      clear htk hC
      go_wp2_with fail
      go_at_call 25
      refine (atIs a0 len0 cap0 f x2 hC2).mono ?_
      rintro e x3 ⟨n, rfl, n0, n1, h3⟩
      rw [h3]
      clear h3 x3 hC2
      obtain ⟨i, hi⟩ : ∃ i : Nat, n.tmod (L.length : Int) = (i : Int) := ⟨(n.tmod (L.length : Int)).toNat, by have := Int.tmod_nonneg (L.length : Int) n0; omega⟩
      have hiL : i < L.length := by
        have := Int.tmod_lt_of_pos n (show (0 : Int) < (L.length : Int) by omega)
        omega
      obtain ⟨x, hx⟩ : ∃ x, Hid (L.getD i Hd.nil = x) := ⟨_, rfl⟩
      have hxl : 1 ≤ x.l ∧ x.l ≤ 20 := tok_left hT.out x (by rw [← hx.out]; exact getD_mem hiL)
      obtain ⟨hx1, hx2⟩ := hxl
      obtain ⟨b, off, rfl, hc⟩ := v1 (by omega)
      have hck := hc i hiL
      rw [hx.out] at hck
      obtain ⟨c1, c2, c3, c4⟩ := hck
      clear hc
      obtain ⟨y, hy⟩ : ∃ y, y = x2.alloc (Obj.cells #[.int .i64 x.a, .int .i64 x.v, .int .i64 x.p, .int .i64 x.l] 40) := ⟨_, rfl⟩
      obtain ⟨X, hX⟩ : ∃ X, X = x2.heap.size := ⟨_, rfl⟩
      have S0 : S1 w X x y := by
        rw [hy, hX]
        refine ⟨?_, B2.trans ((below_box x2 _).mono B2.size), by simp⟩
        refine ⟨?_, ?_, ?_, ?_⟩ <;> simp [go_sem]
      have v2 : HView y (some ⟨b, off, none⟩) L := by rw [hy]; exact v1.below l1 (below_box x2 _)
      have l2 : HIs (some ⟨b, off, none⟩) L (· < y.heap.size) := by rw [hy]; exact l1.le (by simp)
      go_wp2_with fail
      rw [← hy, ← hX]
      clear hy hX v1 l1 B1 B2 c1 c2 c3 c4
      go_loopw [5, 6] (fun t q wr => ∃ (j : Nat) (adt : Option Addr) (capt : Nat), q = .int .i64 ((j : Int) + 1) ∧ (j : Int) + 1 ≤ x.l ∧ t = .slice adt (agedN j L).length capt ∧ HView wr adt (agedN j L) ∧ HIs adt (agedN j L) (· < wr.heap.size) ∧ S1 w X x wr) (fun _ q _ => 21 - (intOf q).toNat)
      case atStart => exact ⟨0, _, _, rfl, by omega, rfl, v2, l2, S0⟩
      case round =>
        obtain ⟨j, adt, capt, rfl, hj, rfl, vt, lt, S2⟩ := hrel
        clear v2 l2 S0
        have hal : (agedN j L).length ≤ 20 := by have := agedN_len j L; omega
        obtain ⟨X1, X2, X3, X4⟩ := S2.1
        simp only [Nat.zero_add] at X1 X2 X3 X4
        by_cases hlt : (j : Int) + 1 < x.l
        · go_wp2_with fail
          go_at_call 12
          refine (ageI adt capt (agedN j L) wr vt (by omega) lt).mono ?_
          rintro e w4 ⟨⟨adg, capg, rfl, vg, _, mg⟩, k4⟩
          have S4 := S2.below k4
          have lg : HIs adg (aged (agedN j L)) (· < w4.heap.size) := fun a e _ => (mg a e).2
          clear X1 X2 X3 X4 vt lt S2
          go_wp2
          go_roundw
          case rel => exact ⟨j + 1, adg, capg, by go_num, by omega, rfl, vg, lg, S4⟩
          case measure => simp [intOf]; omega
        · have hlt' : decide ((j : Int) + 1 < x.l) = false := decide_eq_false hlt
          have hst : Hid ((whereR (agedN j L) x.a x.v).2 = true) := still_there hT.out hiL hx.out (by omega)
          have hgn2 : Hid ((whereR (aged (agedN j L)) x.a x.v).2 = false) := gone_then hT.out hiL hx.out (n := j + 1) (by omega)
          go_wp2_with fail
          go_at_call 16
          refine (whereI adt capt (agedN j L) x.a x.v wr vt (by unfold maxLen; omega) lt).mono ?_
          rintro e y3 ⟨rfl, k3⟩
          rw [hst.out]
          generalize (whereR (agedN j L) x.a x.v).1 = g1
          have S3 := S2.below k3
          have v3 := vt.below lt k3
          have l3 := lt.le k3.size
          clear X1 X2 X3 X4 vt lt S2
          go_wp2_with fail
          refine wp_region_held (S := S1 w X x) (by kernel_rfl) ?_
          change wpAnyH _ _ _ _ _ _ _ _ (World.drew _)
          have hS0 : S1 w X x y3.drew := S3.drew
          refine takeW 0 55 (.slice adt (agedN j L).length capt) rfl rfl (by kernel_rfl) (by kernel_rfl) (by kernel_rfl) (fun _ _ _ h => h) (by kernel_rfl) (by (intro w hSw; go_simp)) (by assumption) ?_
          simp only [List.set_cons_zero, List.set_cons_succ]
          refine takeW 2 57 (.pointer (some ⟨X, 0, none⟩)) rfl rfl (by kernel_rfl) (by kernel_rfl) (by kernel_rfl) (fun _ _ _ h => h) (by kernel_rfl) (by (intro w hSw; go_simp)) (by assumption) ?_
          simp only [List.set_cons_zero, List.set_cons_succ]
          refine takeW 3 58 (.int .i64 x.a) rfl rfl (by kernel_rfl) (by kernel_rfl) (by kernel_rfl) (fun _ _ _ h => h) (by kernel_rfl) (by (intro Y hSw; obtain ⟨⟨X1, X2, X3, X4⟩, _⟩ := hSw; simp only [Nat.zero_add] at X1 X2 X3 X4; go_simp)) (by assumption) ?_
          simp only [List.set_cons_zero, List.set_cons_succ]
          refine takeW 4 59 (.pointer (some ⟨X, 1, none⟩)) rfl rfl (by kernel_rfl) (by kernel_rfl) (by kernel_rfl) (fun _ _ _ h => h) (by kernel_rfl) (by (intro w hSw; go_simp)) (by assumption) ?_
          simp only [List.set_cons_zero, List.set_cons_succ]
          refine takeW 5 60 (.int .i64 x.v) rfl rfl (by kernel_rfl) (by kernel_rfl) (by kernel_rfl) (fun _ _ _ h => h) (by kernel_rfl) (by (intro Y hSw; obtain ⟨⟨X1, X2, X3, X4⟩, _⟩ := hSw; simp only [Nat.zero_add] at X1 X2 X3 X4; go_simp)) (by assumption) ?_
          simp only [List.set_cons_zero, List.set_cons_succ]
          refine wpAnyH_all (rs := [1]) (by kernel_rfl) (by simp) ?_
          intro i hi; obtain rfl : i = 1 := by simpa using hi
          refine wpOp_step rfl (fun K hK => ?_)
          rw [if_pos (by kernel_rfl)]
          go_simp
          go_at_call 12
          refine (ageI adt capt (agedN j L) y3.drew v3 (by omega) l3).mono ?_
          rintro e y4 ⟨⟨adg, capg, rfl, vg, _, mg⟩, k4⟩
          have hS4 : S1 w X x y4 := hS0.below k4
          have lg : HIs adg (aged (agedN j L)) (· < y4.heap.size) := fun a e _ => (mg a e).2
          have hgl : (aged (agedN j L)).length ≤ 20 := by have := aged_len (agedN j L); omega
          refine hK _ _ ⟨hS4, ?_⟩
          clear hK K hi
          refine wpAnyH_all (rs := [6]) (by kernel_rfl) (by simp) ?_
          intro i hi; obtain rfl : i = 6 := by simpa using hi
          refine wpOp_step rfl (fun K hK => ?_)
          rw [if_pos (by kernel_rfl)]
          go_simp
          go_at_call 16
          refine (whereI adg capg (aged (agedN j L)) x.a x.v y4 vg (by unfold maxLen; omega) lg).mono ?_
          rintro e y5 ⟨rfl, k5⟩
          rw [hgn2.out]
          have hS5 : S1 w X x y5 := hS4.below k5
          generalize (whereR (aged (agedN j L)) x.a x.v).1 = g2
          refine hK _ _ ⟨hS5, ?_⟩
          clear hK K hi
          refine takeW 7 54 (.tuple #[.int .i64 g2, .bool false]) rfl rfl (by kernel_rfl) (by kernel_rfl) (by kernel_rfl) (fun _ _ _ h => h) (by kernel_rfl) (by (intro w hSw; go_simp)) (by assumption) ?_
          simp only [List.set_cons_zero, List.set_cons_succ]
          refine takeW 8 62 (.int .i64 g2) rfl rfl (by kernel_rfl) (by kernel_rfl) (by kernel_rfl) (fun _ _ _ h => h) (by kernel_rfl) (by (intro w hSw; go_simp)) (by assumption) ?_
          simp only [List.set_cons_zero, List.set_cons_succ]
          refine takeW 9 63 (.bool false) rfl rfl (by kernel_rfl) (by kernel_rfl) (by kernel_rfl) (fun _ _ _ h => h) (by kernel_rfl) (by (intro w hSw; go_simp)) (by assumption) ?_
          simp only [List.set_cons_zero, List.set_cons_succ]
          refine takeW 10 9 (.int .i64 g2) rfl rfl (by kernel_rfl) (by kernel_rfl) (by kernel_rfl) (fun _ _ _ h => h) (by kernel_rfl) (by (intro w hSw; go_simp)) (by assumption) ?_
          simp only [List.set_cons_zero, List.set_cons_succ]
          refine takeW 11 10 (.bool false) rfl rfl (by kernel_rfl) (by kernel_rfl) (by kernel_rfl) (fun _ _ _ h => h) (by kernel_rfl) (by (intro w hSw; go_simp)) (by assumption) ?_
          simp only [List.set_cons_zero, List.set_cons_succ]
          refine wpAnyH_done (by kernel_rfl) ?_ _
          go_wp2
          go_ret
          exact ⟨rfl, hS5.2.1⟩

set_option maxRecDepth 100000 in
theorem lifted (os : Os) (started : os.Started) (H : Type) (enc : TypeId × Value → H) :
    ReturnsInHanded {} Try.checked os 4 .any (Rows.fnOldestSpec.pre6 enc Try.prog Try.f4 Rows.fnOldestRow.domain false) (Rows.fnOldestSpec.post enc Try.prog Try.f4 false true false false) := by
  refine returnsInHanded_of_change (C := Try.checked) own started (by kernel_rfl) Try.func4
    (ChangeSpec.witness6 (enc := enc) (C := Try.checked) false ⟨#[], #[.slice none 0 0], []⟩ 8 (by kernel_rfl) (by kernel_rfl) (by kernel_rfl) (by kernel_rfl)) ?_
  intro W base args ds gs before hval0 hW hcnd _
  have hval : ∀ (j : Nat) t v, Try.f4.params[j]? = some t → args[j]? = some v → Value.okWide Try.prog W .any base t v := hval0
  have hW' := hW
  obtain ⟨p, q, hA0, hV, rfl, hfz, hnd⟩ := hW
  have hA : DataW.TrodAll enc Try.prog W 0 (fun _ => true) true Try.f4.params.toList args.toList ds p := hA0
  rw [Try.params4] at hA hval
  obtain ⟨v0, vs0, d0, ds0, p0, q0, hargs, rfl, rfl, h0, r0⟩ := trodAll_cons hA
  obtain ⟨rfl, rfl, rfl⟩ := trodAll_nil r0
  obtain rfl : args = #[v0] := by cases args; simp_all
  obtain ⟨rfl, rfl⟩ := trodVars_none hV
  obtain ⟨a0, len0, cap0, rfl⟩ := okWide_slice Try.underlying22 (hval 0 22 v0 rfl rfl)
  have k0 := h0
  have lt0 : ∀ x ∈ p0, x.block < W.heap.size := by obtain ⟨m, hm⟩ := k0; exact DataW.trod_lt m _ _ _ hm
  obtain ⟨z0, w0⟩ : ∃ zs, IsRow .u8 W a0 len0 cap0 zs := by
    obtain ⟨fuel, hf⟩ := h0
    rcases open_ints Try.underlying22 Try.underlying5 (by kernel_rfl) hf with ⟨hcs, _⟩ | ⟨x, l, c, zs, hcs, _, hl, hm, hz, _, hcell, hwz⟩
    · simp [Value.cells] at hcs
      obtain ⟨rfl, rfl, rfl⟩ := hcs
      exact ⟨[], .inl ⟨rfl, rfl, rfl, rfl⟩⟩
    · simp [Value.cells] at hcs
      obtain ⟨rfl, rfl, rfl⟩ := hcs
      exact ⟨zs, .inr ⟨_, rfl, hl, hm, by simpa using hz, hcell, hwz⟩⟩
  clear hA0 hval0
  refine (walk a0 len0 cap0 z0 W w0).mono fun e W' ⟨he, bel⟩ => ?_
  subst he
  exact ⟨_, rfl, _, _, _, [], _, [], hW', trodAll_mk1 (shut_bool Try.underlying4 _), (trodAll_cons_mk (Below.trod laidOut (by kernel_rfl) (of_decide_eq_true (by kernel_rfl)) k0 bel lt0) trodAll_mk0), rfl, bel.frame _, fun h => by cases h⟩

theorem over : Rows.fnOldestRow.holds Try.pinned (OpenSpec.ofChange Rows.fnOldestSpec) :=
  OpenClaim.holds_of_wide 4 Try.f4 rfl rfl rfl rfl rfl rfl rfl ⟨rfl, rfl, rfl, rfl, rfl⟩ rfl rfl rfl rfl rfl (by kernel_rfl) Try.func4 (by kernel_rfl)
    (of_decide_eq_true (by kernel_rfl)) (by unfold Func.isWrapper; first | (rw [if_pos (by decide +kernel)]; kernel_rfl) | (rw [if_neg (by decide +kernel)]; exact ⟨rfl, rfl⟩))
    (fun os started H enc _ => lifted os started H enc)

theorem proved : Rows.FnOldestSaid := over
end Go.Proofs.Ytogabciiicjloaa.fnOldest
namespace Go.Proofs.Ytogabciiicjloaa
theorem oldest_holds : Rows.FnOldestSaid := fnOldest.proved
#print axioms oldest_holds
end Go.Proofs.Ytogabciiicjloaa
