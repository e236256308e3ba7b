/- For every slice of bytes and every place the call of FnExactGetNum returns true: impl.GetNum answers as spec.GetNum and writes into no argument (a slice of more than 1048576 bytes is answered true at once). The variable errNoNumber holds what its text lays (the card ties it, over the pruned copy of the project). -/
import Derived.Test.YtpddgladbodkbaaDoorRows
import Derived.Test.YtpddgladbodkbaaDoorTie
import Derived.Test.YtpddgladbodkbaaDoorCards
import Derived.SevenTiedAt
import Derived.LaidMore
import Derived.Stop.Joined
import Derived.Test.YtpddgladbodkbaaDoorBytes
import Derived.Test.YtpddgladbodkbaaDoorGetSpec
import Derived.Test.YtpddgladbodkbaaDoorGetImpl
import Derived.Lib.SmallJoins
import Derived.Stop.LaidErr
import Derived.WalkKit
import Derived.WalkSmall
import Derived.ProofKit
import Derived.OpenShut
import Derived.ShutString
import Derived.ChangeOld
import Derived.Below
namespace Go.Proofs.YtpddgladbodkbaaDoor.fnExactGetNum
open Go.ChangeShapes Go.WideShapes Go.ChangeAt Go.RowKit
open Go.ChangeMaps (open_string shut_string)
set_option linter.unusedVariables false

theorem own : ownKnob Tryd.prog.godebug = none := by kernel_rfl
theorem laidOut : laidOutB Tryd.prog = true := by kernel_rfl

def IsRow (k : IntKind) (w : World) (a : Option Addr) (len cap : Nat) (zs : List Int) : Prop :=
  (a = none ∧ len = 0 ∧ cap = 0 ∧ zs = []) ∨
  ∃ x, a = some x ∧ len ≤ cap ∧ cap ≤ maxLen ∧ zs.length = cap ∧ (∀ i, i < zs.length → w.cell? (x.add i) = some (.int k (zs.getD i 0))) ∧ ∀ n ∈ zs, (Lit.int k n).wf = true

theorem walk (a0 : Option Addr) (len0 cap0 : Nat) (z0 : List Int) (a1 : Int) (w : World) (w0 : IsRow .u8 w a0 len0 cap0 z0) (w1 : (Lit.int .i64 a1).wf = true) (tp : TypeId) (pE : Value) (hE : w.cell? ⟨0, 0, none⟩ = some (.iface tp pE)) :
    Calls Tryd.prog 6 #[.slice a0 len0 cap0, .int .i64 a1] w fun e w' => e = .returned (.bool true) ∧ Below w.heap.size w w' := by
  have key : View w a0 len0 (fun i => z0.getD i 0) ∧ (∀ a, a0 = some a → 0 < len0 → a.block < w.heap.size) ∧ ∀ i, 0 ≤ z0.getD i 0 ∧ z0.getD i 0 ≤ 255 := by
    rcases w0 with ⟨rfl, rfl, rfl, rfl⟩ | ⟨x, rfl, hl, hm, hz, hcell, hwz⟩
    · exact ⟨fun h => absurd h (by omega), fun a h => by simp at h, fun i => by simp⟩
    · refine ⟨fun hp => ?_, fun a h hp => ?_, fun i => ?_⟩
      · obtain ⟨b, off, rfl, hc⟩ := ints_at hcell (by omega)
        exact ⟨b, off, rfl, fun i hi => hc i (by omega)⟩
      · obtain rfl : x = a := by simpa using h
        have hc := hcell 0 (by omega)
        simpa [Addr.add] using World.block_lt_of_cell? w _ hc
      · by_cases hi : i < z0.length
        · have := bounds_u8 (hwz (z0.getD i 0) (by simp [List.getD, hi]))
          exact this
        · simp [List.getD, List.getElem?_eq_none (by omega : z0.length ≤ i)]
  obtain ⟨hv, hB, hf⟩ := key
  obtain ⟨f, hfe⟩ : ∃ f : Nat → Int, f = fun i => z0.getD i 0 := ⟨_, rfl⟩
  rw [← hfe] at hv
  have hf' : ∀ i, 0 ≤ f i ∧ f i ≤ 255 := fun i => by rw [hfe]; exact hf i
  clear hfe hf w0
  have b1' := bounds_i64 w1
  have hsb : 0 < w.heap.size := World.block_lt_of_cell? w _ hE
  by_cases hbig : 1048576 < len0
  · go_enter Tryd.func6, Tryd.ntmps6
    go_wp2
    go_ret
    exact ⟨rfl, Below.refl _ _⟩
  · have hl : len0 ≤ 1048576 := by omega
    obtain ⟨R, hR⟩ : ∃ R, R = getFrom len0 a1 (fun i => f (a1.toNat + i)) 5 0 := ⟨_, rfl⟩
    go_enter Tryd.func6, Tryd.ntmps6
    go_wp2_with fail
    go_at_call 26
    refine (toBytesIn a0 len0 cap0 f w w hv hl hB (Below.refl _ _)).mono ?_
    rintro e x1 ⟨rfl, b1, c1, s1, v1⟩
    go_wp2_with fail
    go_at_call 23
    refine (getSpec _ _ _ f a1 x1 v1 hl hf' b1'.1 b1'.2).mono ?_
    rw [← hR]
    rintro e x1' ⟨rfl, rfl⟩
    cases R with
    | none =>
      simp only [getRes]
      go_wp2_with fail
      go_at_call 26
      refine (toBytesIn a0 len0 cap0 f w _ hv hl hB b1).mono ?_
      rintro e x2 ⟨rfl, b2, c2, s2, v2⟩
      have hE2 := (b2.cell (p := ⟨0, 0, none⟩) hsb).trans hE
      go_wp2_with fail
      go_at_call 21
      refine (getImpl _ _ _ f a1 x2 v2 (fun a h _ => by simp at h; subst h; exact s2) hl hf' b1'.1 b1'.2 _ _ hE2).mono ?_
      rw [← hR]
      rintro e x3 ⟨rfl, b3⟩
      simp only [getRes]
      have b3w := b2.trans (b3.mono b2.size)
      go_wp2_with fail
      go_at_call 26
      refine (toBytesIn a0 len0 cap0 f w _ hv hl hB b3w).mono ?_
      rintro e x4 ⟨rfl, b4, c4, s4, v4⟩
      have v2' : View x4 _ len0 f := v2.carry (fun a h _ => by simp at h; subst h; exact (c4.block _ (Nat.lt_of_lt_of_le s2 b3.size)).trans (b3.block _ s2))
      go_wp2_with fail
      go_at_call 27
      refine (eqBytes _ _ _ _ _ f x4 v2' v4 hl).mono ?_
      rintro e x5 ⟨rfl, m, rfl⟩
      go_wp2
      go_ret
      exact ⟨rfl, below_drewN b4 m⟩
    | some r =>
      obtain ⟨n, s⟩ := r
      simp only [getRes]
      go_wp2_with fail
      go_at_call 26
      refine (toBytesIn a0 len0 cap0 f w _ hv hl hB b1).mono ?_
      rintro e x2 ⟨rfl, b2, c2, s2, v2⟩
      have hE2 := (b2.cell (p := ⟨0, 0, none⟩) hsb).trans hE
      go_wp2_with fail
      go_at_call 21
      refine (getImpl _ _ _ f a1 x2 v2 (fun a h _ => by simp at h; subst h; exact s2) hl hf' b1'.1 b1'.2 _ _ hE2).mono ?_
      rw [← hR]
      rintro e x3 ⟨rfl, b3⟩
      simp only [getRes]
      have b3w := b2.trans (b3.mono b2.size)
      go_wp2_with fail
      go_at_call 26
      refine (toBytesIn a0 len0 cap0 f w _ hv hl hB b3w).mono ?_
      rintro e x4 ⟨rfl, b4, c4, s4, v4⟩
      have v2' : View x4 _ len0 f := v2.carry (fun a h _ => by simp at h; subst h; exact (c4.block _ (Nat.lt_of_lt_of_le s2 b3.size)).trans (b3.block _ s2))
      go_wp2_with fail
      go_at_call 27
      refine (eqBytes _ _ _ _ _ f x4 v2' v4 hl).mono ?_
      rintro e x5 ⟨rfl, m, rfl⟩
      go_wp2
      go_ret
      exact ⟨rfl, below_drewN b4 m⟩

theorem gErr : Tryd.prog.globalNamed "loop.example/g00470/impl.errNoNumber" = some 0 := by kernel_rfl
theorem gErrT : (Tryd.prog.globals[0]?).map (·.type) = some 61 := by kernel_rfl
theorem row101 (u : TypeId) (h : Tryd.prog.typeName? 3 u = some "*errors.errorString") : u = 101 := by
  have star : "*" ++ "errors.errorString" = "*errors.errorString" := by decide
  exact typeName_ptr_named (nm := "errors.errorString") (by rw [star]; kernel_rfl) (by kernel_rfl) (by decide) u (by rw [star]; exact h)
theorem sentinel_of_laid {W : World} (h : laidMetH Tryd.prog Rows.fnExactGetNumRow.laid W) : ∃ a : Addr, W.var? Tryd.prog "loop.example/g00470/impl.errNoNumber" = some #[.iface 101 (.pointer (some a))] := by
  rw [MakeChecks.laidMetH_plain _ _ _ (by kernel_rfl)] at h
  obtain ⟨a0, s0, hv0, _⟩ := laid_sentinel (h) gErr gErrT Tryd.underlying61 row101 Tryd.underlying101 Tryd.underlying103 rfl rfl Tryd.underlying9 (by kernel_rfl) (by kernel_rfl)
  exact ⟨a0, hv0⟩

theorem door_met (os : Os) (args : Array Value) : laidMetH Tryd.prog Rows.fnExactGetNumRow.laid ((World.doorLaid Tryd.prog 91 os).forCall (fun _ _ => 0) ⟨#[], args, []⟩).memory :=
  laidMetH_of_parts3 (fuel := 8) (laidMet_of_run' 8 (by kernel_rfl) (by kernel_rfl)) (by kernel_rfl) (by kernel_rfl)

set_option maxRecDepth 100000 in
theorem lifted (os : Os) (started : os.Started) (H : Type) (enc : TypeId × Value → H) :
    ReturnsInHanded {} Tryd.checked os 6 .any (fun w args => (Rows.fnExactGetNumSpec.pre enc Tryd.prog Tryd.f6 [] false w args ∧ laidMetH Tryd.prog Rows.fnExactGetNumRow.laid w) ∧ sizedMet enc Tryd.prog Tryd.f6 (OpenSpec.ofChange Rows.fnExactGetNumSpec) false w args) (Rows.fnExactGetNumSpec.post enc Tryd.prog Tryd.f6 false true false false) := by
  refine returnsInHanded_of_change_and (C := Tryd.checked) (X := fun w _ => laidMetH Tryd.prog Rows.fnExactGetNumRow.laid w) (fun _ _ _ hh h => h.of_heap hh) own started (by kernel_rfl) Tryd.func6
    (ChangeSpec.witness_shaped (enc := enc) (C := Tryd.checked) (os := os) (X := fun w _ => laidMetH Tryd.prog Rows.fnExactGetNumRow.laid w) false (World.doorLaid Tryd.prog 91 os) #[.slice none 0 0, .int .i64 0] 8 rfl (World.shaped_of_RefB (by kernel_rfl) (by kernel_rfl)) (by kernel_rfl) (by kernel_rfl) (by kernel_rfl) (door_met os _)) ?_
  intro W base args ds gs before hval0 hW _ hsz0 hL _
  have hval : ∀ (j : Nat) t v, Tryd.f6.params[j]? = some t → args[j]? = some v → Value.okWide Tryd.prog W .any base t v := hval0
  have hW' := hW
  obtain ⟨p, q, hA0, hV, rfl, hfz, hnd⟩ := hW
  have hA : DataW.TrodAll enc Tryd.prog W 0 (fun _ => true) true Tryd.f6.params.toList args.toList ds p := hA0
  rw [Tryd.params6] at hA hval
  obtain ⟨v0, vs0, d0, ds0, p0, q0, hargs, rfl, rfl, h0, r0⟩ := trodAll_cons hA
  obtain ⟨v1, vs1, d1, ds1, p1, q1, rfl, rfl, rfl, h1, r1⟩ := trodAll_cons r0
  obtain ⟨rfl, rfl, rfl⟩ := trodAll_nil r1
  obtain rfl : args = #[v0, v1] := by cases args; simp_all
  have hV1 : DataW.TrodVars enc Tryd.prog W (fun _ => true) ["loop.example/g00470/impl.errNoNumber"] gs q := hV
  obtain ⟨sa, hvE⟩ := sentinel_of_laid hL
  obtain ⟨rfl, rfl⟩ := hV1.unique (vars_read1 enc gErr gErrT Tryd.underlying61 hvE trivial _)
  have hcE : W.cell? ⟨0, 0, none⟩ = some (.iface 101 (.pointer (some sa))) := by simpa using World.var?_cell gErr hvE 0
  obtain ⟨a0, len0, cap0, rfl⟩ := okWide_slice Tryd.underlying22 (hval 0 22 v0 rfl rfl)
  have k0 := h0
  have lt0 : ∀ x ∈ p0, x.block < W.heap.size := by obtain ⟨m, hm⟩ := k0; exact DataW.trod_lt m _ _ _ hm
  obtain ⟨z0, w0⟩ : ∃ zs, IsRow .u8 W a0 len0 cap0 zs := by
    obtain ⟨fuel, hf⟩ := h0
    rcases open_ints Tryd.underlying22 Tryd.underlying5 (by kernel_rfl) hf with ⟨hcs, _⟩ | ⟨x, l, c, zs, hcs, _, hl, hm, hz, _, hcell, hwz⟩
    · simp [Value.cells] at hcs
      obtain ⟨rfl, rfl, rfl⟩ := hcs
      exact ⟨[], .inl ⟨rfl, rfl, rfl, rfl⟩⟩
    · simp [Value.cells] at hcs
      obtain ⟨rfl, rfl, rfl⟩ := hcs
      exact ⟨zs, .inr ⟨_, rfl, hl, hm, by simpa using hz, hcell, hwz⟩⟩
  obtain ⟨a1, rfl, rfl, rfl, w1⟩ := open_int Tryd.underlying3 (hval 1 3 v1 rfl rfl) h1
  clear hA0 hval0
  refine (walk a0 len0 cap0 z0 a1 W w0 w1 _ _ hcE).mono fun e W' ⟨he, bel⟩ => ?_
  subst he
  exact ⟨_, rfl, _, _, _, [], _, [.cell 0 0], hW', trodAll_mk1 (shut_bool Tryd.underlying4 _), (trodAll_cons_mk (Below.trod laidOut (by kernel_rfl) (of_decide_eq_true (by kernel_rfl)) k0 bel lt0) (trodAll_cons_mk (shut_int Tryd.underlying3 w1) trodAll_mk0)), vars_read1 enc gErr gErrT Tryd.underlying61 (Joins.var_stays gErr hvE bel (Nat.le_refl _)) trivial _, bel.frame _, fun h => by cases h⟩

theorem over : Rows.fnExactGetNumRow.holds Tryd.pinned (OpenSpec.ofChange Rows.fnExactGetNumSpec) :=
  OpenClaim.holds_of_wide 6 Tryd.f6 rfl rfl rfl rfl rfl rfl rfl ⟨rfl, rfl, rfl, rfl, rfl⟩ rfl rfl rfl rfl rfl (by kernel_rfl) Tryd.func6 (by kernel_rfl)
    (of_decide_eq_true (by kernel_rfl)) (by unfold Func.isWrapper; first | (rw [if_pos (by decide +kernel)]; kernel_rfl) | (rw [if_neg (by decide +kernel)]; exact ⟨rfl, rfl⟩))
    (fun os started H enc _ => lifted os started H enc)

theorem proved : Rows.FnExactGetNumSaid := over
end Go.Proofs.YtpddgladbodkbaaDoor.fnExactGetNum
namespace Go.Proofs.YtpddgladbodkbaaDoor
theorem getNum_holds : Rows.FnExactGetNumCardSaid :=
  Claim7.holds_tied_plain_at .later [] [.sentinel] true (true, "9bc20d50b0acc5e998ab3879f012aef63d6d03e679349059f7ab0d587bf6c482") true
    fnExactGetNum.proved (fun _ h => by cases h) (by kernel_rfl) (fun _ h => by cases h) fnExactGetNum_row_tie rfl ⟨rfl, rfl⟩ (by kernel_rfl) rfl
    (fun f fn hf hfn => by
      obtain rfl : f = 6 := Option.some.inj ((show Tryd.prog.funcNamed "loop.example/g00470/laws.FnExactGetNum" = some 6 by kernel_rfl).symm.trans hf) |>.symm
      obtain rfl : fn = Tryd.f6 := (Option.some.inj (Tryd.func6.symm.trans hfn)).symm
      exact ⟨by kernel_rfl, fun j t ht => by
        rw [Tryd.params6] at ht
        have hm : t ∈ [22, 3] := by simpa using Array.mem_of_getElem? ht
        have hall : ([22, 3].all fun u => !Tryd.prog.wantsStandIn u) = true := by kernel_rfl
        exact (show Tryd.prog.wantsStandIn t = false by simpa using List.all_eq_true.1 hall t hm)⟩)
    (by kernel_rfl)
#print axioms getNum_holds
end Go.Proofs.YtpddgladbodkbaaDoor
