/- spec.l10Copy, walked. -/
import Derived.Test.YtdfjfodfnildiaaRows
import Derived.WalkKit
import Derived.ProofKit
import Derived.OpenShut
import Derived.ShutString
import Derived.ChangeOld
import Derived.Below
import Derived.Deep.QuietTactic
import Derived.BigQuiet
import Derived.WalkSmall
import Derived.Laws.OwnMore
import Derived.WalkSpells
import Derived.WalkLawsBesides
import Derived.Deep.Cut
import Derived.Laws.StructEq
import Derived.Maps.AppendAt
import Derived.Test.YtdfjfodfnildiaaQM10
import Derived.Test.YtdfjfodfnildiaaQM7
import Derived.Test.YtdfjfodfnildiaaQM12
namespace Go.Proofs.Ytdfjfodfnildiaa
open Go.ChangeShapes Go.WideShapes Go.ChangeAt Go.RowKit
open Go.ChangeMaps (open_string shut_string)
set_option linter.unusedVariables false
set_option maxRecDepth 100000

def CpRet (D : List Bg) (K : List Lk) (w : World) (e : Ending) (w' : World) : Prop :=
  ∃ adB cB Cs adL cL mid, e = .returned (.agg #[.slice adB (List.length Cs) cB, .slice adL K.length cL]) ∧ dB Cs = D ∧ NetOwn w.heap.size mid w'.heap.size w' (.slice adB Cs.length cB) Cs (.slice adL K.length cL) K ∧ Below w.heap.size w w'
set_option maxHeartbeats 16000000 in
theorem copyNS (adB : Option Addr) (capB : Nat) (Bs : List Bd) (adK : Option Addr) (capK : Nat) (K : List Lk) (w : World) (hN : NN w adB Bs adK K) (hcn : adK = none → capK = 0) :
    Calls Try.prog 105 #[.agg #[.slice adB Bs.length capB, .slice adK K.length capK]] w fun e w' => CpRet (dB Bs) K w e w' := by
  obtain ⟨i0, hi, hz0, hz1, hz2⟩ := info_parts brInfo2
  obtain ⟨j0, hj, hj0, hj1, hj2⟩ := info_parts lkInfo
  have hk := hN.hk
  have hBl := hN.hl
  obtain ⟨y0, hy0⟩ : ∃ y, y = w.alloc (Obj.cells #[.slice adB Bs.length capB, .slice adK K.length capK] 27) := ⟨_, rfl⟩
  have k0 : Below w.heap.size w y0 := by rw [hy0]; exact below_new _
  have A0 : NeAt y0 w.heap.size (.slice adB Bs.length capB) (.slice adK K.length capK) := by rw [hy0]; exact NeAt.new w _
  have hN0 := hN.later k0
  obtain ⟨R, hR⟩ : ∃ R, Hid (R = y0.heap.size) := ⟨_, rfl⟩
  have hRw : Hid (R = w.heap.size + 1) := by unfold Hid; rw [hR.out, hy0]; simp
  have hwR : w.heap.size < R := by have := hRw.out; omega
  obtain ⟨y, hy⟩ : ∃ y, y = y0.alloc (Obj.cells #[.slice none 0 0, .slice none 0 0] 27) := ⟨_, rfl⟩
  have B0 : Below y0.heap.size y0 y := by rw [hy]; exact below_new _
  have Rb : NeBox y R (.slice none 0 0) (.slice none 0 0) := by rw [hy, hR.out]; exact NeBox.new y0 _
  rw [hy0] at hy
  have hyR : R < y.heap.size := Rb.lt
  have ky : Below y.heap.size y (y.alloc (Obj.cells #[] 64)) := below_new _
  have OE : FOwn lkEnc 4 64 R (y.alloc (Obj.cells #[] 64)) (.slice (some ⟨y.heap.size, 0, none⟩) 0 0) ([] : List Lk) := (FOwn.empty y : FOwn lkEnc 4 64 _ _ _ _).base (by omega)
  have vky : FView lkEnc (y.alloc (Obj.cells #[] 64)) adK K := ((hN0.later B0).later ky).vk
  have Ay := (A0.below B0 A0.lt).below ky (Nat.lt_of_lt_of_le (A0.below B0 A0.lt).lt (Nat.le_refl _))
  obtain ⟨a0, a1⟩ := Ay
  go_enter Try.func105, Try.ntmps105
  go_upto_region 1 with fail
  rw [← hy]
  try rw [← hRw.out]
  clear hy hy0
  go_wp2_with (first | (at_builtin; refine fappL lkEnc_len lkEnc_ones rfl _ _ 25 rfl R 64 j0 (.agg #[.int .i64 0, .int .i64 0, .int .i64 0, .int .i64 0]) 32 Try.underlying25 hj hj0 hj1 hj2 rfl (by decide) (by decide) _ ([] : List Lk) rfl OE adK capK K rfl hcn vky ?z0 ?z1 ?_) | go_in)
  case z0 => simp; omega
  case z1 => simp; omega
  intro vZ wZ hownZ hgrowZ hvZ
  replace hownZ : FOwn lkEnc 4 64 R wZ vZ K := hownZ
  obtain ⟨adL, cL, rfl⟩ := hownZ.open_
  have hgz := hgrowZ.size
  have hKl : ∀ g, (Value.slice adL K.length cL).ownBlock = some g → R < g := fun g e => by
    rcases hvZ with q | q
    · rw [q] at e
      have : y.heap.size = g := by simpa [Value.ownBlock] using e
      omega
    · rw [q] at e
      have : y.heap.size + 1 = g := by simpa using e
      omega
  have hyb : ∀ g, (Value.slice (some ⟨y.heap.size, 0, none⟩) 0 0).ownBlock = some g → y.heap.size = g := fun g e => by simpa [Value.ownBlock] using e
  have BZ : Below R y0 wZ := by
    have hRy := hR.out
    rw [hR.out]
    exact (B0.trans (ky.mono (by omega))).grown hgrowZ (by simp; omega) (fun g e => by have := hyb g e; omega)
  have Rz : NeBox wZ R (.slice none 0 0) (.slice none 0 0) := (Rb.later ky).keep (hgrowZ.block _ (by simp; omega) (fun e => by have := hyb R e.symm; omega))
  obtain ⟨M, hM⟩ : ∃ M, M = wZ.heap.size := ⟨_, rfl⟩
  obtain ⟨x0, hx0⟩ : ∃ x, x = wZ.alloc (Obj.cells #[.slice none 0 0, (.slice adL K.length cL)] 27) := ⟨_, rfl⟩
  have kx : Below wZ.heap.size wZ x0 := by rw [hx0]; exact below_new _
  have hwZ : R < wZ.heap.size := Rz.lt
  have St : CpSt R M ((dB Bs).take 0) K adL cL y0 x0 none 0 [] := by
    refine ⟨Rz.later kx, ?_, NOwn.nil, rfl, hownZ.later kx, fun g e => by rw [hM]; exact (hownZ.lt g e).2, by omega, BZ.trans (kx.mono (by omega))⟩
    rw [hM, hx0]
    exact NeBox.new wZ _
  go_upto_region 2 with fail
  rw [← hx0, ← hM]
  clear hx0 kx B0 OE vky ky hownZ hgrowZ hvZ BZ hwZ hgz hj hj0 hj1 hj2 Rb Rz hyb a0 a1 hyR
  replace hM : Hid _ := hM
  go_wp2
  go_loopw [4] (fun q wr => ∃ (k : Nat) (adB : Option Addr) (cB : Nat) (Cs : List Bd), k ≤ Bs.length ∧ q = .int .i64 k ∧ CpSt R M ((dB Bs).take k) K adL cL y0 wr adB cB Cs) (fun q _ => Bs.length - (intOf q).toNat)
  case atStart => exact ⟨0, _, _, _, Nat.zero_le _, rfl, St⟩
  case round =>
    clear St
    obtain ⟨k, adC, cC, Cs, hk1, rfl, St⟩ := hrel
    have hA0 : NeAt wr w.heap.size (.slice adB Bs.length capB) (.slice adK K.length capK) := A0.keep (St.bel.block _ hwR)
    have hMw := St.nb.lt
    have hRM := St.rm
    by_cases hlt : k < Bs.length
    · obtain ⟨b, off, rfl⟩ := hN.vb.ad_ (by omega)
      have hNw : ∀ Y, Below R wr Y → NN Y (some ⟨b, off, none⟩) Bs adK K := fun Y hY => hN0.below (St.bel.trans hY) (by rw [← hR.out]; exact Nat.le_refl _)
      have hA : ∀ Y, Below R wr Y → NeAt Y w.heap.size (.slice (some ⟨b, off, none⟩) Bs.length capB) (.slice adK K.length capK) := fun Y hY => hA0.below hY hwR
      have hc : ∀ Y, Below R wr Y → BdAtO Y b (off + k * 2) (Bs.getD k Bd.nil) := fun Y hY => (hNw Y hY).vb.at_ hlt
      have hn : ∀ Y, Below wr.heap.size wr Y → FView ptEnc Y (Bs.getD k Bd.nil).ad (Bs.getD k Bd.nil).L := fun Y hY => (hNw Y (hY.mono (by omega))).vb.nest k hlt
      have hnil := hN.vb.nil0 k hlt
      have hlk := hN.hls k hlt
      have hnx : Hid ((dB Bs).take (k + 1) = (dB Bs).take k ++ [(Bs.getD k Bd.nil).d]) := by
        unfold Hid
        rw [take_one (dB Bs) Bg.nil (by simpa using hlt), bd_get]
      obtain ⟨⟨id, a1, c1, L1⟩, hh⟩ : ∃ q, Bs.getD k Bd.nil = q := ⟨_, rfl⟩
      rw [hh] at hlk hnil hnx
      simp only [hh] at hc hn
      dsimp only at hlk hnil hn
      have hCl : Hid (Cs.length ≤ Bs.length) := by
        have := congrArg List.length St.d
        rw [List.length_take] at this
        have h2 : Cs.length = min k (dB Bs).length := by simpa [dB] using this
        unfold Hid
        omega
      have hCm : Cs.length ≤ 1048576 := by have := hCl.out; omega
      clear hh hNw
      have cc := hA0
      obtain ⟨a0, a1_⟩ := cc
      go_upto_region 5 with fail
      clear a0 a1_
      refine wp_region_held (S := fun Y => Below R wr Y) (by kernel_rfl) ?_
      change wpAnyH _ _ _ _ _ _ _ _ (World.drew _)
      have hb0 : Below wr.heap.size wr wr.drew := (Below.refl _ _).drew
      obtain ⟨u0, hy0⟩ : ∃ y_, y_ = wr.drew := ⟨_, rfl⟩
      rw [← hy0] at hb0 ⊢
      clear hy0
      have hw0 : Below R wr u0 := hb0.mono (by omega)
      refine takeW 0 17 (.pointer (some ⟨M, 0, none⟩)) rfl rfl (by kernel_rfl) (by kernel_rfl) (by kernel_rfl) (fun _ _ _ h => h) (by kernel_rfl) (by (intro w hSw; go_simp)) (by assumption) ?_
      simp only [List.set_cons_zero, List.set_cons_succ]
      refine takeW 2 19 (.pointer (some ⟨w.heap.size, 0, none⟩)) rfl rfl (by kernel_rfl) (by kernel_rfl) (by kernel_rfl) (fun _ _ _ h => h) (by kernel_rfl) (by (intro w hSw; go_simp)) (by assumption) ?_
      simp only [List.set_cons_zero, List.set_cons_succ]
      refine takeW 3 20 (.slice (some ⟨b, off, none⟩) Bs.length capB) rfl rfl (by kernel_rfl) (by kernel_rfl) (by kernel_rfl) (fun _ _ _ h => h) (by kernel_rfl) (by (intro Y hSw; obtain ⟨X0, X1⟩ := hA Y hSw; go_simp)) (by assumption) ?_
      simp only [List.set_cons_zero, List.set_cons_succ]
      refine takeW 4 21 (.int .i64 (k : Int)) rfl rfl (by kernel_rfl) (by kernel_rfl) (by kernel_rfl) (fun _ _ _ h => h) (by kernel_rfl) (by (intro w hSw; go_simp)) (by assumption) ?_
      simp only [List.set_cons_zero, List.set_cons_succ]
      refine takeW 5 22 (.pointer (some ⟨b, off + k * 2, none⟩)) rfl rfl (by kernel_rfl) (by kernel_rfl) (by kernel_rfl) (fun _ _ _ h => h) (by kernel_rfl) (by (intro Y hSw; go_simp; try omega)) (by assumption) ?_
      simp only [List.set_cons_zero, List.set_cons_succ]
      refine takeW 6 23 (.agg #[.int .i64 id, .slice a1 L1.length c1]) rfl rfl (by kernel_rfl) (by kernel_rfl) (by kernel_rfl) (fun _ _ _ h => h) (by kernel_rfl) (by (intro Y hSw; obtain ⟨X0, X1⟩ := hc Y hSw; go_simp)) (by assumption) ?_
      simp only [List.set_cons_zero, List.set_cons_succ]
      refine wpAnyH_all (rs := [1, 7]) (by kernel_rfl) (by simp) ?_
      intro i_ hi_
      have hor : i_ = 1 ∨ i_ = 7 := by simpa using hi_
      rcases hor with rfl | rfl
      · refine wpOp_step rfl (fun Kz hKz => ?_)
        rw [if_pos (by kernel_rfl)]
        have nbu := (St.later hb0).nb
        obtain ⟨⟨X0, X1⟩, _⟩ := nbu
        go_simp
        refine hKz _ _ ⟨hw0, ?_⟩
        clear hKz Kz hi_ X0 X1
        refine wpAnyH_all (rs := [7]) (by kernel_rfl) (by simp) ?_
        intro i_ hi_; obtain rfl : i_ = 7 := by simpa using hi_
        refine wpOp_step rfl (fun Kz hKz => ?_)
        rw [if_pos (by kernel_rfl)]
        go_simp
        go_at_call 110
        refine (copS id a1 c1 L1 u0 (hn u0 hb0) hlk hnil).mono ?_
        rintro e u1 ⟨a2, c2, rfl, n2, kq⟩
        have hb1 : Below wr.heap.size wr u1 := hb0.trans (kq.mono hb0.size)
        have n2 : FOwn ptEnc 11 68 wr.heap.size u1 (.slice a2 L1.length c2) L1 := n2.base hb0.size
        have hw1 : Below R wr u1 := hb1.mono (by omega)
        clear kq
        refine hKz _ _ ⟨hw1, ?_⟩
        clear hKz Kz hi_
        refine wpAnyH_all (rs := [8]) (by kernel_rfl) (by simp) ?_
        intro i_ hi_; obtain rfl : i_ = 8 := by simpa using hi_
        refine wpOp_step rfl (fun Kz hKz => ?_)
        rw [if_pos (by kernel_rfl)]
        go_simp
        obtain ⟨u2, hu2⟩ : ∃ y_, y_ = u1.alloc (Obj.cells #[.int .i64 id, .slice a2 L1.length c2] 71) := ⟨_, rfl⟩
        have kq : Below u1.heap.size u1 u2 := by rw [hu2]; exact below_new _
        have V1 : FView bdEnc u2 (some ⟨u1.heap.size, 0, none⟩) [(⟨id, a2, c2, L1⟩ : Bd)] := by rw [hu2]; exact FView.oneB u1 71 ⟨id, a2, c2, L1⟩
        have hb2 : Below wr.heap.size wr u2 := hb1.trans (kq.mono hb1.size)
        have n3 := n2.later kq
        have hw2 : Below R wr u2 := hb2.mono (by omega)
        rw [← hu2]
        clear kq hu2
        generalize u1.heap.size = q9 at V1 ⊢
        refine hKz _ _ ⟨hw2, ?_⟩
        clear hKz Kz hi_
        refine wpAnyH_all (rs := [9]) (by kernel_rfl) (by simp) ?_
        intro i_ hi_; obtain rfl : i_ = 9 := by simpa using hi_
        refine wpOp_step rfl (fun Kz hKz => ?_)
        rw [if_pos (by kernel_rfl)]
        have Su := St.later hb2
        have hMu := Su.nb.lt
        refine fapp bdEnc_len bdEnc_ones 26 _ _ 24 rfl rfl (M + 1) 71 i0 (.agg #[.int .i64 0, .slice none 0 0]) 32 Try.underlying24 hi hz0 hz1 hz2 rfl (by decide) (by decide) (.slice adC Cs.length cC) Cs rfl Su.own.row (some ⟨q9, 0, none⟩) 1 [(⟨id, a2, c2, L1⟩ : Bd)] rfl (fun e => by cases e) V1 (by simp; omega) (by omega) ?_
        intro vZ wZ hownZ hgrowZ hvZ
        obtain ⟨adZ, cZ, rfl⟩ := hownZ.open_
        have StZ := St.push (x := ⟨id, a2, c2, L1⟩) hb2 n3 hownZ hgrowZ hvZ
        have hwZ : Below R wr wZ := hw2.grown hgrowZ (by omega) (fun g e => by have := (Su.own.row.lt g e).1; omega)
        have nbZ : NeBox wZ M (.slice adC Cs.length cC) (.slice adL K.length cL) := Su.nb.keep (hgrowZ.block M hMu (fun e => by have := (Su.own.row.lt M e.symm).1; omega))
        simp only [List.set_cons_zero, List.set_cons_succ]
        refine hKz _ _ ⟨hwZ, ?_⟩
        clear hKz Kz hi_ hownZ hgrowZ hvZ Su V1
        generalize Cs ++ [(⟨id, a2, c2, L1⟩ : Bd)] = Ds at StZ ⊢
        refine takeW 10 27 (.pointer (some ⟨M, 0, none⟩)) rfl rfl (by kernel_rfl) (by kernel_rfl) (by kernel_rfl) (fun _ _ _ h => h) (by kernel_rfl) (by (intro w hSw; go_simp)) (by assumption) ?_
        simp only [List.set_cons_zero, List.set_cons_succ]
        refine wpAnyH_all (rs := [11]) (by kernel_rfl) (by simp) ?_
        intro i_ hi_; obtain rfl : i_ = 11 := by simpa using hi_
        refine wpOp_step rfl (fun Kz hKz => ?_)
        rw [if_pos (by kernel_rfl)]
        obtain ⟨⟨p0, p1⟩, pf⟩ := nbZ
        have pf0 := pf 0
        go_simp
        refine hKz _ _ ⟨hwZ.setCell (by show R ≤ M; omega) _, ?_⟩
        clear hKz Kz hi_ p0 p1 pf pf0
        refine wpAnyH_done (by kernel_rfl) ?_ _
        go_wp2
        go_roundw
        case rel => exact ⟨k + 1, _, _, _, by omega, by go_num, by rw [hnx.out]; exact StZ⟩
        case measure => simp [intOf]; omega
      · refine wpOp_step rfl (fun Kz hKz => ?_)
        rw [if_pos (by kernel_rfl)]
        go_simp
        go_at_call 110
        refine (copS id a1 c1 L1 u0 (hn u0 hb0) hlk hnil).mono ?_
        rintro e u1 ⟨a2, c2, rfl, n2, kq⟩
        have hb1 : Below wr.heap.size wr u1 := hb0.trans (kq.mono hb0.size)
        have n2 : FOwn ptEnc 11 68 wr.heap.size u1 (.slice a2 L1.length c2) L1 := n2.base hb0.size
        have hw1 : Below R wr u1 := hb1.mono (by omega)
        clear kq
        refine hKz _ _ ⟨hw1, ?_⟩
        clear hKz Kz hi_
        refine wpAnyH_all (rs := [1, 8]) (by kernel_rfl) (by simp) ?_
        intro i_ hi_
        have hor : i_ = 1 ∨ i_ = 8 := by simpa using hi_
        rcases hor with rfl | rfl
        · refine wpOp_step rfl (fun Kz hKz => ?_)
          rw [if_pos (by kernel_rfl)]
          have nbu := (St.later hb1).nb
          obtain ⟨⟨X0, X1⟩, _⟩ := nbu
          go_simp
          refine hKz _ _ ⟨hw1, ?_⟩
          clear hKz Kz hi_ X0 X1
          refine wpAnyH_all (rs := [8]) (by kernel_rfl) (by simp) ?_
          intro i_ hi_; obtain rfl : i_ = 8 := by simpa using hi_
          refine wpOp_step rfl (fun Kz hKz => ?_)
          rw [if_pos (by kernel_rfl)]
          go_simp
          obtain ⟨u2, hu2⟩ : ∃ y_, y_ = u1.alloc (Obj.cells #[.int .i64 id, .slice a2 L1.length c2] 71) := ⟨_, rfl⟩
          have kq : Below u1.heap.size u1 u2 := by rw [hu2]; exact below_new _
          have V1 : FView bdEnc u2 (some ⟨u1.heap.size, 0, none⟩) [(⟨id, a2, c2, L1⟩ : Bd)] := by rw [hu2]; exact FView.oneB u1 71 ⟨id, a2, c2, L1⟩
          have hb2 : Below wr.heap.size wr u2 := hb1.trans (kq.mono hb1.size)
          have n3 := n2.later kq
          have hw2 : Below R wr u2 := hb2.mono (by omega)
          rw [← hu2]
          clear kq hu2
          generalize u1.heap.size = q9 at V1 ⊢
          refine hKz _ _ ⟨hw2, ?_⟩
          clear hKz Kz hi_
          refine wpAnyH_all (rs := [9]) (by kernel_rfl) (by simp) ?_
          intro i_ hi_; obtain rfl : i_ = 9 := by simpa using hi_
          refine wpOp_step rfl (fun Kz hKz => ?_)
          rw [if_pos (by kernel_rfl)]
          have Su := St.later hb2
          have hMu := Su.nb.lt
          refine fapp bdEnc_len bdEnc_ones 26 _ _ 24 rfl rfl (M + 1) 71 i0 (.agg #[.int .i64 0, .slice none 0 0]) 32 Try.underlying24 hi hz0 hz1 hz2 rfl (by decide) (by decide) (.slice adC Cs.length cC) Cs rfl Su.own.row (some ⟨q9, 0, none⟩) 1 [(⟨id, a2, c2, L1⟩ : Bd)] rfl (fun e => by cases e) V1 (by simp; omega) (by omega) ?_
          intro vZ wZ hownZ hgrowZ hvZ
          obtain ⟨adZ, cZ, rfl⟩ := hownZ.open_
          have StZ := St.push (x := ⟨id, a2, c2, L1⟩) hb2 n3 hownZ hgrowZ hvZ
          have hwZ : Below R wr wZ := hw2.grown hgrowZ (by omega) (fun g e => by have := (Su.own.row.lt g e).1; omega)
          have nbZ : NeBox wZ M (.slice adC Cs.length cC) (.slice adL K.length cL) := Su.nb.keep (hgrowZ.block M hMu (fun e => by have := (Su.own.row.lt M e.symm).1; omega))
          simp only [List.set_cons_zero, List.set_cons_succ]
          refine hKz _ _ ⟨hwZ, ?_⟩
          clear hKz Kz hi_ hownZ hgrowZ hvZ Su V1
          generalize Cs ++ [(⟨id, a2, c2, L1⟩ : Bd)] = Ds at StZ ⊢
          refine takeW 10 27 (.pointer (some ⟨M, 0, none⟩)) rfl rfl (by kernel_rfl) (by kernel_rfl) (by kernel_rfl) (fun _ _ _ h => h) (by kernel_rfl) (by (intro w hSw; go_simp)) (by assumption) ?_
          simp only [List.set_cons_zero, List.set_cons_succ]
          refine wpAnyH_all (rs := [11]) (by kernel_rfl) (by simp) ?_
          intro i_ hi_; obtain rfl : i_ = 11 := by simpa using hi_
          refine wpOp_step rfl (fun Kz hKz => ?_)
          rw [if_pos (by kernel_rfl)]
          obtain ⟨⟨p0, p1⟩, pf⟩ := nbZ
          have pf0 := pf 0
          go_simp
          refine hKz _ _ ⟨hwZ.setCell (by show R ≤ M; omega) _, ?_⟩
          clear hKz Kz hi_ p0 p1 pf pf0
          refine wpAnyH_done (by kernel_rfl) ?_ _
          go_wp2
          go_roundw
          case rel => exact ⟨k + 1, _, _, _, by omega, by go_num, by rw [hnx.out]; exact StZ⟩
          case measure => simp [intOf]; omega
        · refine wpOp_step rfl (fun Kz hKz => ?_)
          rw [if_pos (by kernel_rfl)]
          go_simp
          obtain ⟨u2, hu2⟩ : ∃ y_, y_ = u1.alloc (Obj.cells #[.int .i64 id, .slice a2 L1.length c2] 71) := ⟨_, rfl⟩
          have kq : Below u1.heap.size u1 u2 := by rw [hu2]; exact below_new _
          have V1 : FView bdEnc u2 (some ⟨u1.heap.size, 0, none⟩) [(⟨id, a2, c2, L1⟩ : Bd)] := by rw [hu2]; exact FView.oneB u1 71 ⟨id, a2, c2, L1⟩
          have hb2 : Below wr.heap.size wr u2 := hb1.trans (kq.mono hb1.size)
          have n3 := n2.later kq
          have hw2 : Below R wr u2 := hb2.mono (by omega)
          rw [← hu2]
          clear kq hu2
          generalize u1.heap.size = q9 at V1 ⊢
          refine hKz _ _ ⟨hw2, ?_⟩
          clear hKz Kz hi_
          refine wpAnyH_all (rs := [1]) (by kernel_rfl) (by simp) ?_
          intro i_ hi_; obtain rfl : i_ = 1 := by simpa using hi_
          refine wpOp_step rfl (fun Kz hKz => ?_)
          rw [if_pos (by kernel_rfl)]
          have nbu := (St.later hb2).nb
          obtain ⟨⟨X0, X1⟩, _⟩ := nbu
          go_simp
          refine hKz _ _ ⟨hw2, ?_⟩
          clear hKz Kz hi_ X0 X1
          refine wpAnyH_all (rs := [9]) (by kernel_rfl) (by simp) ?_
          intro i_ hi_; obtain rfl : i_ = 9 := by simpa using hi_
          refine wpOp_step rfl (fun Kz hKz => ?_)
          rw [if_pos (by kernel_rfl)]
          have Su := St.later hb2
          have hMu := Su.nb.lt
          refine fapp bdEnc_len bdEnc_ones 26 _ _ 24 rfl rfl (M + 1) 71 i0 (.agg #[.int .i64 0, .slice none 0 0]) 32 Try.underlying24 hi hz0 hz1 hz2 rfl (by decide) (by decide) (.slice adC Cs.length cC) Cs rfl Su.own.row (some ⟨q9, 0, none⟩) 1 [(⟨id, a2, c2, L1⟩ : Bd)] rfl (fun e => by cases e) V1 (by simp; omega) (by omega) ?_
          intro vZ wZ hownZ hgrowZ hvZ
          obtain ⟨adZ, cZ, rfl⟩ := hownZ.open_
          have StZ := St.push (x := ⟨id, a2, c2, L1⟩) hb2 n3 hownZ hgrowZ hvZ
          have hwZ : Below R wr wZ := hw2.grown hgrowZ (by omega) (fun g e => by have := (Su.own.row.lt g e).1; omega)
          have nbZ : NeBox wZ M (.slice adC Cs.length cC) (.slice adL K.length cL) := Su.nb.keep (hgrowZ.block M hMu (fun e => by have := (Su.own.row.lt M e.symm).1; omega))
          simp only [List.set_cons_zero, List.set_cons_succ]
          refine hKz _ _ ⟨hwZ, ?_⟩
          clear hKz Kz hi_ hownZ hgrowZ hvZ Su V1
          generalize Cs ++ [(⟨id, a2, c2, L1⟩ : Bd)] = Ds at StZ ⊢
          refine takeW 10 27 (.pointer (some ⟨M, 0, none⟩)) rfl rfl (by kernel_rfl) (by kernel_rfl) (by kernel_rfl) (fun _ _ _ h => h) (by kernel_rfl) (by (intro w hSw; go_simp)) (by assumption) ?_
          simp only [List.set_cons_zero, List.set_cons_succ]
          refine wpAnyH_all (rs := [11]) (by kernel_rfl) (by simp) ?_
          intro i_ hi_; obtain rfl : i_ = 11 := by simpa using hi_
          refine wpOp_step rfl (fun Kz hKz => ?_)
          rw [if_pos (by kernel_rfl)]
          obtain ⟨⟨p0, p1⟩, pf⟩ := nbZ
          have pf0 := pf 0
          go_simp
          refine hKz _ _ ⟨hwZ.setCell (by show R ≤ M; omega) _, ?_⟩
          clear hKz Kz hi_ p0 p1 pf pf0
          refine wpAnyH_done (by kernel_rfl) ?_ _
          go_wp2
          go_roundw
          case rel => exact ⟨k + 1, _, _, _, by omega, by go_num, by rw [hnx.out]; exact StZ⟩
          case measure => simp [intOf]; omega
    · obtain rfl : k = Bs.length := by omega
      have hD : Hid (dB Cs = dB Bs) := by
        unfold Hid
        rw [St.d]
        exact List.take_of_length_le (by simp)
      obtain ⟨a0, a1_⟩ := hA0
      have nb := St.nb
      obtain ⟨⟨m0, m1⟩, mf⟩ := nb
      have rb := St.rb
      obtain ⟨⟨r0, r1⟩, rf⟩ := rb
      have rf0 := rf 0
      have rf1 := rf 1
      have k0s := k0.size
      have B9 : Below w.heap.size w ((wr.setCell ⟨R, 0, none⟩ (.slice adC Cs.length cC)).setCell ⟨R, 1, none⟩ (.slice adL K.length cL)) := k0.trans (((St.bel.setCell (Nat.le_refl _) _).setCell (Nat.le_refl _) _).mono (by omega))
      have R9 := St.rb.put (.slice adC Cs.length cC) (.slice adL K.length cL)
      have sb : ∀ j, j ≠ R → ((wr.setCell ⟨R, 0, none⟩ (.slice adC Cs.length cC)).setCell ⟨R, 1, none⟩ (.slice adL K.length cL)).heap[j]? = wr.heap[j]? := fun j hj => by rw [Below.heap_setCell _ _ _ _ hj, Below.heap_setCell _ _ _ _ hj]
      have ss : ((wr.setCell ⟨R, 0, none⟩ (.slice adC Cs.length cC)).setCell ⟨R, 1, none⟩ (.slice adL K.length cL)).heap.size = wr.heap.size := by simp
      have N9 : NetOwn w.heap.size (M + 1) wr.heap.size ((wr.setCell ⟨R, 0, none⟩ (.slice adC Cs.length cC)).setCell ⟨R, 1, none⟩ (.slice adL K.length cL)) (.slice adC Cs.length cC) Cs (.slice adL K.length cL) K :=
        ⟨St.own.keep (fun g hg _ => sb g (by omega)), (St.kown.base (by omega)).keep (fun g e => sb g (by have := hKl g e; omega)), fun g e => by have := St.khi g e; omega, by omega, hMw, by rw [ss]; exact Nat.le_refl _⟩
      clear mf rf sb St
      go_wp2
      obtain ⟨⟨t0, t1⟩, _⟩ := R9
      refine bodyPost_ret (v := .agg #[.slice adC Cs.length cC, .slice adL K.length cL]) (by simp [results, Try.results105, go_sem, *]) rfl ?_
      rw [← ss] at N9
      exact ⟨adC, cC, Cs, adL, cL, M + 1, rfl, hD.out, N9, B9⟩

end Go.Proofs.Ytdfjfodfnildiaa
