/- For every string and every byte the call of FnExactSplit returns true: impl.Split (strings.Split) cuts as spec.Split cuts, its answer owns its memory, and a second call leaves it as it was (a string of more than 1048576 bytes is answered true at once). The tables of Go that the row lists hold what their text lays (the card ties them, over the pruned copy of the project). -/
import Derived.Test.YtpddgladbodkbaaDoorRows
import Derived.Test.YtpddgladbodkbaaDoorTie
import Derived.Test.YtpddgladbodkbaaDoorCards
import Derived.SevenTiedAt
import Derived.LaidMore
import Derived.Stop.Joined
import Derived.Test.YtpddgladbodkbaaDoorSplitSpec
import Derived.Test.YtpddgladbodkbaaDoorStrs
import Derived.Test.YtpddgladbodkbaaDoorShape
import Derived.Lib.SmallJoins
import Derived.Lay
import Derived.Shelf.Vars
import Derived.HandedShaped
import Derived.WalkKit
import Derived.WalkSmall
import Derived.ChangeOld
import Derived.Below
import Derived.ProofKit
import Derived.OpenShut
import Derived.ShutString
namespace Go.Proofs.YtpddgladbodkbaaDoor.fnExactSplit
open Go.ChangeShapes Go.WideShapes Go.ChangeAt Go.RowKit
open Go.ChangeMaps (open_string shut_string)
set_option linter.unusedVariables false

theorem own : ownKnob Tryd.prog.godebug = none := by kernel_rfl

theorem cell_keep {w w' : World} {g : Nat} {v : Value} (hb : Below w.heap.size w w') (h : w.cell? ⟨g, 0, none⟩ = some v) : w'.cell? ⟨g, 0, none⟩ = some v :=
  (hb.cell (p := ⟨g, 0, none⟩) (World.block_lt_of_cell? w _ h)).trans h
theorem smark_below {w w' : World} {ad : Option Addr} {len B : Nat} {n : Nat} (h : w' = w.drewN n ∨ ∃ a, ad = some a ∧ 0 < len ∧ (w.drewN n).grownBy w' (some a.block)) (hB : ∀ a, ad = some a → B ≤ a.block) (hs : B ≤ w.heap.size) : Below B w w' := by
  rcases h with rfl | ⟨a, e, _, hg⟩
  · exact below_drewN (Below.refl _ _) n
  · refine (below_drewN (Below.refl _ _) n).trans ⟨hg.os, hg.tape, hg.output, hg.size, fun k hk => ?_⟩
    exact hg.block k (Nat.lt_of_lt_of_le hk hs) (by have := hB a e; simp; omega)
set_option maxHeartbeats 1000000 in
theorem walk (a0 : ByteArray) (a1 : Int) (w0 : a0.size ≤ maxLen) (w1 : (Lit.int .u8 a1).wf = true) (w : World) (m : Int) (hm : w.cell? ⟨4, 0, none⟩ = some (.int .i64 m)) :
    Calls Tryd.prog 7 #[.string a0, .int .u8 a1] w fun e w' => e = .returned (.bool true) ∧ Below w.heap.size w w' := by
  have b1' := bounds_u8 w1
  obtain ⟨c, rfl⟩ : ∃ c : UInt8, a1 = (c.toNat : Int) := ⟨UInt8.ofNat a1.toNat, by simp; omega⟩
  by_cases hbig : 1048576 < a0.size
  · go_enter Tryd.func7, Tryd.ntmps7
    go_wp2
    go_ret
    exact ⟨rfl, Below.refl _ _⟩
  · have hl : a0.size ≤ 1048576 := by omega
    have hpl := (pieces_len c a0.size a0 (Nat.le_refl _)).2
    have hS := splitSpec a0 c w hl
    have hI := fun w' => splitImpl a0 c w' hl m
    generalize pieces c a0 = L at hpl hS hI
    have hL : L.length ≤ 2097152 := by omega
    go_enter Tryd.func7, Tryd.ntmps7
    go_wp2_with fail
    go_at_call 28
    refine hS.mono ?_
    rintro e x1 ⟨v, rfl, o1, b1⟩
    obtain ⟨_, ad1, cap1, rfl, v1, _, k1⟩ := own_sview o1
    have hm1 := cell_keep b1 hm
    have hI1 := hI x1 hm1
    clear o1 hS
    go_wp2_with fail
    go_at_call 25
    refine hI1.mono ?_
    rintro e x2 ⟨v, rfl, o2, b2⟩
    obtain ⟨_, ad2, cap2, rfl, v2, r2, k2⟩ := own_sview o2
    have hm2 := cell_keep b2 hm1
    have v1a : SView x2 ad1 L.length (fun i => L.getD i ByteArray.empty) := v1.carry (fun a h _ => b2.block _ (k1 a h).2)
    clear o2 hI1
    go_wp2_with fail
    go_at_call 29
    refine (eqStrs _ _ _ _ _ _ x2 v2 v1a hL).mono ?_
    rintro e x3 ⟨rfl, n, rfl⟩
    go_wp2_with fail
    go_at_call 30
    refine (markStrs ad2 L.length cap2 1 (x2.drewN n) (r2.carry (fun _ _ _ => rfl)) hL (by omega) (by omega)).mono ?_
    rintro e x4 ⟨rfl, v4, h4⟩
    have b4 : Below x1.heap.size x2 x4 := smark_below h4 (fun a h => (k2 a h).1) b2.size
    have s2 := b2.size
    have s4 := b4.size
    have hgm : 4 < x1.heap.size := World.block_lt_of_cell? x1 _ hm1
    have hm4 := (b4.cell (p := ⟨4, 0, none⟩) hgm).trans hm2
    have v1b : SView x4 ad1 L.length (fun i => L.getD i ByteArray.empty) := v1a.carry (fun a h _ => b4.block _ (k1 a h).2)
    clear h4
    go_wp2_with fail
    go_at_call 31
    refine (heldStrs _ _ _ 1 x4 v4 hL (by omega) (by omega)).mono ?_
    rintro e x5 ⟨rfl, b5⟩
    have s5 := b5.size
    have hm5 := cell_keep b5 hm4
    have v1c : SView x5 ad1 L.length (fun i => L.getD i ByteArray.empty) := v1b.carry (fun a h _ => b5.block _ (by have := (k1 a h).2; omega))
    have v4c : SView x5 ad2 L.length (fun i => mtext (1 + i)) := v4.carry (fun a h _ => b5.block _ (by have := (k2 a h).2; omega))
    have hI5 := hI x5 hm5
    clear hI
    go_wp2_with fail
    go_at_call 25
    refine hI5.mono ?_
    rintro e x6 ⟨v, rfl, o6, b6⟩
    obtain ⟨_, ad6, cap6, rfl, v6, _, k6⟩ := own_sview o6
    have v1d : SView x6 ad1 L.length (fun i => L.getD i ByteArray.empty) := v1c.carry (fun a h _ => b6.block _ (by have := (k1 a h).2; omega))
    have v4d : SView x6 ad2 L.length (fun i => mtext (1 + i)) := v4c.carry (fun a h _ => b6.block _ (by have := (k2 a h).2; omega))
    clear o6 hI5
    go_wp2_with fail
    go_at_call 29
    refine (eqStrs _ _ _ _ _ _ x6 v6 v1d hL).mono ?_
    rintro e x7 ⟨rfl, n', rfl⟩
    go_wp2_with fail
    go_at_call 31
    refine (heldStrs ad2 L.length cap2 1 (x6.drewN n') (v4d.carry (fun _ _ _ => rfl)) hL (by omega) (by omega)).mono ?_
    rintro e x8 ⟨rfl, b8⟩
    go_wp2
    go_ret
    have s1 := b1.size
    have s6 := b6.size
    have ball : Below w.heap.size w (x6.drewN n') := below_drewN ((((b1.trans (b2.mono s1)).trans (b4.mono s1)).trans (b5.mono (by omega))).trans (b6.mono (by omega))) n'
    exact ⟨rfl, ball.trans (b8.mono ball.size)⟩

set_option maxRecDepth 100000 in
theorem lifted (os : Os) (started : os.Started) (H : Type) (enc : TypeId × Value → H) :
    ReturnsInHanded {} Tryd.checked os 7 .any (fun w args => (Rows.fnExactSplitSpec.pre enc Tryd.prog Tryd.f7 [] false w args ∧ laidMetH Tryd.prog Rows.fnExactSplitRow.laid w) ∧ sizedMet enc Tryd.prog Tryd.f7 (OpenSpec.ofChange Rows.fnExactSplitSpec) false w args) (Rows.fnExactSplitSpec.post enc Tryd.prog Tryd.f7 false true false false) := by
  refine change_and_shaped (C := Tryd.checked) (X := fun w _ => laidMetH Tryd.prog Rows.fnExactSplitRow.laid w) (fun _ _ _ hh h => h.of_heap hh) own started (by kernel_rfl) Tryd.func7
    (ChangeSpec.witness_shaped (enc := enc) (C := Tryd.checked) (os := os) (X := fun w _ => laidMetH Tryd.prog Rows.fnExactSplitRow.laid w) false (World.laidAll Tryd.prog os Rows.fnExactSplitRow.laid) #[.string ByteArray.empty, .int .u8 0] 8 (World.laidAll_os _ _ _) (World.shaped_of_ZipB (by kernel_rfl) (by kernel_rfl)) (by kernel_rfl) (by kernel_rfl) (by kernel_rfl) (by rw [MakeChecks.laidMetH_plain _ _ _ (by kernel_rfl)]; exact laidMet_laidAll _ (by kernel_rfl) (by kernel_rfl))) ?_
  intro W base args ds gs before hval0 hW _ hsh hL _
  have hval : ∀ (j : Nat) t v, Tryd.f7.params[j]? = some t → args[j]? = some v → Value.okWide Tryd.prog W .any base t v := hval0
  have hW' := hW
  obtain ⟨p, q, hA0, hV, rfl, hfz, hnd⟩ := hW
  have hA : DataW.TrodAll enc Tryd.prog W 0 (fun _ => true) true Tryd.f7.params.toList args.toList ds p := hA0
  rw [Tryd.params7] at hA hval
  obtain ⟨v0, vs0, d0, ds0, p0, q0, hargs, rfl, rfl, h0, r0⟩ := trodAll_cons hA
  obtain ⟨v1, vs1, d1, ds1, p1, q1, rfl, rfl, rfl, h1, r1⟩ := trodAll_cons r0
  obtain ⟨rfl, rfl, rfl⟩ := trodAll_nil r1
  obtain rfl : args = #[v0, v1] := by cases args; simp_all
  obtain ⟨rfl, rfl⟩ := trodVars_none hV
  obtain ⟨a0, rfl, rfl, rfl, w0⟩ := open_string Tryd.underlying9 (hval 0 9 v0 rfl rfl) h0
  obtain ⟨a1, rfl, rfl, rfl, w1⟩ := open_int Tryd.underlying5 (hval 1 5 v1 rfl rfl) h1
  clear hA0 hval0
  obtain ⟨m, hm⟩ := cell_of_shapedOpen_int (g := 4) (t := 3) (zero := #[.int .i64 0]) (k := .i64) hsh (by decide +kernel) (by kernel_rfl) (by kernel_rfl) (by kernel_rfl) (by kernel_rfl) Tryd.underlying3
  refine (walk a0 a1 w0 w1 W m hm).mono fun e W' ⟨he, bel⟩ => ?_
  subst he
  exact ⟨_, rfl, _, _, _, [], _, [], hW', (trodAll_cons_mk (shut_bool Tryd.underlying4 _) trodAll_mk0), (trodAll_cons_mk (shut_string Tryd.underlying9 w0) (trodAll_cons_mk (shut_int Tryd.underlying5 w1) trodAll_mk0)), rfl, bel.frame _, fun h => by cases h⟩

theorem over : Rows.fnExactSplitRow.holds Tryd.pinned (OpenSpec.ofChange Rows.fnExactSplitSpec) :=
  OpenClaim.holds_of_wide 7 Tryd.f7 rfl rfl rfl rfl rfl rfl rfl ⟨rfl, rfl, rfl, rfl, rfl⟩ rfl rfl rfl rfl rfl (by kernel_rfl) Tryd.func7 (by kernel_rfl)
    (of_decide_eq_true (by kernel_rfl)) (by unfold Func.isWrapper; first | (rw [if_pos (by decide +kernel)]; kernel_rfl) | (rw [if_neg (by decide +kernel)]; exact ⟨rfl, rfl⟩))
    (fun os started H enc _ => lifted os started H enc)

theorem proved : Rows.FnExactSplitSaid :=
  over
end Go.Proofs.YtpddgladbodkbaaDoor.fnExactSplit
namespace Go.Proofs.YtpddgladbodkbaaDoor
theorem split_holds : Rows.FnExactSplitCardSaid :=
  Claim7.holds_tied_plain_at .later [] [.data, .pinned] true (true, "9bc20d50b0acc5e998ab3879f012aef63d6d03e679349059f7ab0d587bf6c482") true
    fnExactSplit.proved (fun _ h => by cases h) (by kernel_rfl) (fun _ h => by cases h) fnExactSplit_row_tie rfl ⟨rfl, rfl⟩ (by kernel_rfl) rfl
    (fun f fn hf hfn => by
      obtain rfl : f = 7 := Option.some.inj ((show Tryd.prog.funcNamed "loop.example/g00470/laws.FnExactSplit" = some 7 by kernel_rfl).symm.trans hf) |>.symm
      obtain rfl : fn = Tryd.f7 := (Option.some.inj (Tryd.func7.symm.trans hfn)).symm
      exact ⟨by kernel_rfl, fun j t ht => by
        rw [Tryd.params7] at ht
        have hm : t ∈ [9, 5] := by simpa using Array.mem_of_getElem? ht
        have hall : ([9, 5].all fun u => !Tryd.prog.wantsStandIn u) = true := by kernel_rfl
        exact (show Tryd.prog.wantsStandIn t = false by simpa using List.all_eq_true.1 hall t hm)⟩)
    (by kernel_rfl)
#print axioms split_holds
end Go.Proofs.YtpddgladbodkbaaDoor
