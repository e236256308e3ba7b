/- spec.NetOk, walked. -/
import Derived.Test.YtdfjfodfnildiaaRows
import Derived.WalkKit
import Derived.ProofKit
import Derived.OpenShut
import Derived.ShutString
import Derived.ChangeOld
import Derived.Below
import Derived.Deep.QuietTactic
import Derived.BigQuiet
import Derived.WalkSmall
import Derived.Laws.OwnMore
import Derived.WalkSpells
import Derived.WalkLawsBesides
import Derived.Deep.Cut
import Derived.Laws.StructEq
import Derived.Test.YtdfjfodfnildiaaQM10
import Derived.Test.YtdfjfodfnildiaaQKNo3
namespace Go.Proofs.Ytdfjfodfnildiaa
open Go.ChangeShapes Go.WideShapes Go.ChangeAt Go.RowKit
open Go.ChangeMaps (open_string shut_string)
set_option linter.unusedVariables false
set_option maxRecDepth 100000

def LinkE (B : List Bg) (l : Lk) : Prop := l.a ≠ l.b ∧ EndP B l.a l.p ∧ EndP B l.b l.q
theorem netP_spec {B : List Bg} {K : List Lk} : NetP B K ↔ (1 ≤ B.length ∧ B.length ≤ 5) ∧ K.length ≤ 6 ∧ FitTo B B.length ∧ PortsTo B K B.length ∧ ∀ j, j < K.length → LinkE B (K.getD j Lk.nil) := by
  constructor
  · intro h
    refine ⟨h.many, h.few, ⟨h.ok, fun i k hi hk e => ?_⟩, h.once, fun j hj => ?_⟩
    · have := h.inj k i (by omega) hi e
      omega
    · have hm : K.getD j Lk.nil ∈ K := by
        rw [show K.getD j Lk.nil = K[j] by simp [List.getD, hj]]
        exact List.getElem_mem hj
      exact h.link _ hm
  · rintro ⟨h1, h4, ⟨h2, h3⟩, h6, h5⟩
    refine ⟨h1, h4, h2, unlike_inj h3, h6, fun l hl => ?_⟩
    obtain ⟨j, hj, rfl⟩ := List.getElem_of_mem hl
    have := h5 j hj
    rw [show K.getD j Lk.nil = K[j] by simp [List.getD, hj]] at this
    exact this
set_option maxHeartbeats 16000000 in
theorem netOkS (adB : Option Addr) (capB : Nat) (Bs : List Bd) (adK : Option Addr) (capK : Nat) (K : List Lk) (w : World) (hN : NN w adB Bs adK K) :
    Calls Try.prog 42 #[.agg #[.slice adB Bs.length capB, .slice adK K.length capK]] w fun e w' => YN e (NetP (dB Bs) K) ∧ Below w.heap.size w w' := by
  suffices H : ∀ Q : Prop, Hid (Q ↔ NetP (dB Bs) K) → Calls Try.prog 42 #[.agg #[.slice adB Bs.length capB, .slice adK K.length capK]] w fun e w' => YN e Q ∧ Below w.heap.size w w' from H _ Iff.rfl
  intro Q hQ0
  have hQ : Hid (Q ↔ (1 ≤ Bs.length ∧ Bs.length ≤ 5) ∧ K.length ≤ 6 ∧ FitTo (dB Bs) Bs.length ∧ PortsTo (dB Bs) K Bs.length ∧ ∀ j, j < K.length → LinkE (dB Bs) (K.getD j Lk.nil)) := by
    have := hQ0.out.trans netP_spec
    rw [dB_len] at this
    exact this
  clear hQ0
  have hl := hN.hl
  have hk := hN.hk
  obtain ⟨y, hy⟩ : ∃ y, y = w.alloc (Obj.cells #[.slice adB Bs.length capB, .slice adK K.length capK] 27) := ⟨_, rfl⟩
  have B0 : Below w.heap.size w y := by rw [hy]; exact below_new _
  have A0 : NeAt y w.heap.size (.slice adB Bs.length capB) (.slice adK K.length capK) := by rw [hy]; exact NeAt.new w _
  by_cases h1 : 1 ≤ (Bs.length : Int) ∧ (Bs.length : Int) ≤ 5
  rotate_left
  · replace hQ : Hid (¬ Q) := fun h => by have := (hQ.out.1 h).1; omega
    clear B0 A0 hy
    go_enter Try.func42, Try.ntmps42
    go_wp2_with (first | (go_at_call 43; refine (inYes _ _ _ _ (by omega)).mono ?_; rintro e w' ⟨rfl, rfl⟩) | (go_at_call 43; refine (inNo _ _ _ _ (by omega)).mono ?_; rintro e w' ⟨rfl, rfl⟩) | go_in)
    go_ret
    exact ⟨YN.no hQ.out, below_new _⟩
  by_cases h2 : (K.length : Int) ≤ 6
  rotate_left
  · replace hQ : Hid (¬ Q) := fun h => by have := (hQ.out.1 h).2.1; omega
    have d2 : decide ((6 : Int) < (K.length : Int)) = true := decide_eq_true (by omega)
    have d3 : (6 : Int) < (K.length : Int) := by omega
    clear B0 A0 hy
    go_enter Try.func42, Try.ntmps42
    go_wp2_with (first | (go_at_call 43; refine (inYes _ _ _ _ (by omega)).mono ?_; rintro e w' ⟨rfl, rfl⟩) | (go_at_call 43; refine (inNo _ _ _ _ (by omega)).mono ?_; rintro e w' ⟨rfl, rfl⟩) | go_in)
    go_ret
    exact ⟨YN.no hQ.out, below_new _⟩
  have d2 : decide ((6 : Int) < (K.length : Int)) = false := decide_eq_false (by omega)
  have d3 : ¬ (6 : Int) < (K.length : Int) := by omega
  replace hQ : Hid (Q ↔ FitTo (dB Bs) Bs.length ∧ PortsTo (dB Bs) K Bs.length ∧ ∀ j, j < K.length → LinkE (dB Bs) (K.getD j Lk.nil)) := hQ.out.trans ⟨fun h => h.2.2, fun h => ⟨by omega, by omega, h⟩⟩
  go_enter Try.func42, Try.ntmps42
  go_wp2_with (first | (go_at_call 43; refine (inYes _ _ _ _ (by omega)).mono ?_; rintro e w' ⟨rfl, rfl⟩) | (go_at_call 43; refine (inNo _ _ _ _ (by omega)).mono ?_; rintro e w' ⟨rfl, rfl⟩) | go_in)
  rw [← hy]
  clear hy d2 d3 h1 h2
  go_loopw [3] (fun q wr => ∃ i : Nat, i ≤ Bs.length ∧ q = .int .i64 i ∧ Hid (FitTo (dB Bs) i ∧ PortsTo (dB Bs) K i) ∧ Below w.heap.size w wr ∧ NeAt wr w.heap.size (.slice adB Bs.length capB) (.slice adK K.length capK)) (fun q _ => Bs.length - (intOf q).toNat)
  case atStart => exact ⟨0, Nat.zero_le _, rfl, ⟨⟨fun i hi => absurd hi (by omega), fun i k hi => absurd hi (by omega)⟩, fun i x hi => absurd hi (by omega)⟩, B0, A0⟩
  case round =>
    obtain ⟨i, hi, rfl, hF, hb, A⟩ := hrel
    clear B0 A0
    by_cases hlt : i < Bs.length
    · obtain ⟨b, off, rfl⟩ := hN.vb.ad_ (by omega)
      have hat : ∀ Y, Below w.heap.size w Y → BdAtO Y b (off + i * 2) (Bs.getD i Bd.nil) := fun Y hY => (hN.later hY).vb.at_ hlt
      have hll := hN.hls i hlt
      have hg : Hid ((dB Bs).getD i Bg.nil = (Bs.getD i Bd.nil).d) := bd_get Bs i
      have nest : ∀ Y, Below w.heap.size w Y → FView ptEnc Y (Bs.getD i Bd.nil).ad (Bs.getD i Bd.nil).L := fun Y hY => (hN.later hY).vb.nest i hlt
      obtain ⟨⟨id, a1, c1, L1⟩, hh⟩ : ∃ q, Bs.getD i Bd.nil = q := ⟨_, rfl⟩
      rw [hh] at hll hg
      simp only [hh] at hat nest
      dsimp only at hll nest
      clear hh
      have hck := hat _ hb
      obtain ⟨x1, x2⟩ := hck
      dsimp only at x1 x2
      have cc := A
      obtain ⟨a0, a1_⟩ := cc
      go_wp2_with fail
      go_at_call 66
      clear x1 x2 a0 a1_
      refine (bOkS id a1 c1 L1 wr (nest _ hb) hll).mono ?_
      rintro e w1 ⟨rfl, k1⟩
      have b1 := hb.trans (k1.mono hb.size)
      have A1 := A.below k1 A.lt
      clear k1
      by_cases hok : bOk id L1 = true
      rotate_left
      · have hok : bOk id L1 = false := by simpa using hok
        rw [hok]
        replace hok : Hid _ := hok
        go_wp2
        go_ret
        refine ⟨YN.no (fun h => ?_), b1⟩
        have := (hQ.out.1 h).1.1 i hlt
        rw [hg.out] at this
        exact absurd (hok.out.symm.trans this) (by decide)
      rw [hok]
      replace hok : Hid _ := hok
      clear A hb
      go_wp2
      go_loopw [4] (fun q wr => ∃ k : Nat, k ≤ i ∧ q = .int .i64 k ∧ Hid (∀ j, j < k → (Bs.getD j Bd.nil).id ≠ id) ∧ Below w.heap.size w wr ∧ NeAt wr w.heap.size (.slice (some ⟨b, off, none⟩) Bs.length capB) (.slice adK K.length capK)) (fun q _ => i - (intOf q).toNat)
      case atStart => exact ⟨0, Nat.zero_le _, rfl, fun j hj => absurd hj (by omega), b1, A1⟩
      case round =>
        obtain ⟨k, hk2, rfl, hG, hb, A⟩ := hrel
        by_cases hkt : k < i
        · have hatk : ∀ Y, Below w.heap.size w Y → BdAtO Y b (off + k * 2) (Bs.getD k Bd.nil) := fun Y hY => (hN.later hY).vb.at_ (by omega)
          obtain ⟨⟨ik, a3, c3, L3⟩, hh⟩ : ∃ q, Bs.getD k Bd.nil = q := ⟨_, rfl⟩
          simp only [hh] at hatk
          replace hh : Hid _ := hh
          have hA : ∀ Y, Below wr.heap.size wr Y → NeAt Y w.heap.size (.slice (some ⟨b, off, none⟩) Bs.length capB) (.slice adK K.length capK) := fun Y hY => A.below hY A.lt
          have hck : ∀ Y, Below wr.heap.size wr Y → BdAtO Y b (off + k * 2) ⟨ik, a3, c3, L3⟩ := fun Y hY => hatk Y (hb.trans (hY.mono hb.size))
          have hci : ∀ Y, Below wr.heap.size wr Y → BdAtO Y b (off + i * 2) ⟨id, a1, c1, L1⟩ := fun Y hY => hat Y (hb.trans (hY.mono hb.size))
          by_cases he : ik = id
          · have e1 : (ik == id) = true := by simp [he]
            have e2 : decide (ik = id) = true := decide_eq_true he
            replace he : Hid _ := he
            go_upto_region 11 with fail
            refine wp_region_held (S := fun Y => Below wr.heap.size wr Y) (by kernel_rfl) ?_
            change wpAnyH _ _ _ _ _ _ _ _ (World.drew _)
            have hb0 : Below wr.heap.size wr wr.drew := (Below.refl _ _).drew
            obtain ⟨u0, hy0⟩ : ∃ y_, y_ = wr.drew := ⟨_, rfl⟩
            rw [← hy0] at hb0 ⊢
            clear hy0
            refine takeW 0 38 (.pointer (some ⟨w.heap.size, 0, none⟩)) rfl rfl (by kernel_rfl) (by kernel_rfl) (by kernel_rfl) (fun _ _ _ h => h) (by kernel_rfl) (by (intro w hSw; go_simp)) (by assumption) ?_
            simp only [List.set_cons_zero, List.set_cons_succ]
            refine takeW 1 39 (.slice (some ⟨b, off, none⟩) Bs.length capB) rfl rfl (by kernel_rfl) (by kernel_rfl) (by kernel_rfl) (fun _ _ _ h => h) (by kernel_rfl) (by (intro Y hSw; obtain ⟨X0, X1⟩ := hA Y hSw; go_simp)) (by assumption) ?_
            simp only [List.set_cons_zero, List.set_cons_succ]
            refine takeW 2 40 (.int .i64 (k : Int)) rfl rfl (by kernel_rfl) (by kernel_rfl) (by kernel_rfl) (fun _ _ _ h => h) (by kernel_rfl) (by (intro w hSw; go_simp)) (by assumption) ?_
            simp only [List.set_cons_zero, List.set_cons_succ]
            refine takeW 3 41 (.pointer (some ⟨b, off + k * 2, none⟩)) rfl rfl (by kernel_rfl) (by kernel_rfl) (by kernel_rfl) (fun _ _ _ h => h) (by kernel_rfl) (by (intro Y hSw; go_simp; try omega)) (by assumption) ?_
            simp only [List.set_cons_zero, List.set_cons_succ]
            refine takeW 4 42 (.pointer (some ⟨b, off + k * 2, none⟩)) rfl rfl (by kernel_rfl) (by kernel_rfl) (by kernel_rfl) (fun _ _ _ h => h) (by kernel_rfl) (by (intro w hSw; go_simp)) (by assumption) ?_
            simp only [List.set_cons_zero, List.set_cons_succ]
            refine takeW 5 43 (.int .i64 ik) rfl rfl (by kernel_rfl) (by kernel_rfl) (by kernel_rfl) (fun _ _ _ h => h) (by kernel_rfl) (by (intro Y hSw; obtain ⟨X0, X1⟩ := hck Y hSw; go_simp)) (by assumption) ?_
            simp only [List.set_cons_zero, List.set_cons_succ]
            refine takeW 6 44 (.pointer (some ⟨w.heap.size, 0, none⟩)) rfl rfl (by kernel_rfl) (by kernel_rfl) (by kernel_rfl) (fun _ _ _ h => h) (by kernel_rfl) (by (intro w hSw; go_simp)) (by assumption) ?_
            simp only [List.set_cons_zero, List.set_cons_succ]
            refine takeW 7 45 (.slice (some ⟨b, off, none⟩) Bs.length capB) rfl rfl (by kernel_rfl) (by kernel_rfl) (by kernel_rfl) (fun _ _ _ h => h) (by kernel_rfl) (by (intro Y hSw; obtain ⟨X0, X1⟩ := hA Y hSw; go_simp)) (by assumption) ?_
            simp only [List.set_cons_zero, List.set_cons_succ]
            refine takeW 8 46 (.int .i64 (i : Int)) rfl rfl (by kernel_rfl) (by kernel_rfl) (by kernel_rfl) (fun _ _ _ h => h) (by kernel_rfl) (by (intro w hSw; go_simp)) (by assumption) ?_
            simp only [List.set_cons_zero, List.set_cons_succ]
            refine takeW 9 47 (.pointer (some ⟨b, off + i * 2, none⟩)) rfl rfl (by kernel_rfl) (by kernel_rfl) (by kernel_rfl) (fun _ _ _ h => h) (by kernel_rfl) (by (intro Y hSw; go_simp; try omega)) (by assumption) ?_
            simp only [List.set_cons_zero, List.set_cons_succ]
            refine takeW 10 48 (.pointer (some ⟨b, off + i * 2, none⟩)) rfl rfl (by kernel_rfl) (by kernel_rfl) (by kernel_rfl) (fun _ _ _ h => h) (by kernel_rfl) (by (intro w hSw; go_simp)) (by assumption) ?_
            simp only [List.set_cons_zero, List.set_cons_succ]
            refine takeW 11 49 (.int .i64 id) rfl rfl (by kernel_rfl) (by kernel_rfl) (by kernel_rfl) (fun _ _ _ h => h) (by kernel_rfl) (by (intro Y hSw; obtain ⟨X0, X1⟩ := hci Y hSw; go_simp)) (by assumption) ?_
            simp only [List.set_cons_zero, List.set_cons_succ]
            refine takeW 12 50 (.bool true) rfl rfl (by kernel_rfl) (by kernel_rfl) (by kernel_rfl) (fun _ _ _ h => h) (by kernel_rfl) (by (intro w hSw; go_simp)) (by assumption) ?_
            simp only [List.set_cons_zero, List.set_cons_succ]
            refine wpAnyH_done (by kernel_rfl) ?_ _
            go_wp2
            go_ret
            refine ⟨YN.no (fun h => ?_), hb.trans (hb0.mono hb.size)⟩
            have := (hQ.out.1 h).1.2 i k hlt hkt
            rw [hg.out, bd_get, hh.out] at this
            exact this he.out
          · have e1 : (ik == id) = false := by simp [he]
            have e2 : decide (ik = id) = false := decide_eq_false he
            replace he : Hid _ := he
            go_upto_region 11 with fail
            refine wp_region_held (S := fun Y => Below wr.heap.size wr Y) (by kernel_rfl) ?_
            change wpAnyH _ _ _ _ _ _ _ _ (World.drew _)
            have hb0 : Below wr.heap.size wr wr.drew := (Below.refl _ _).drew
            obtain ⟨u0, hy0⟩ : ∃ y_, y_ = wr.drew := ⟨_, rfl⟩
            rw [← hy0] at hb0 ⊢
            clear hy0
            refine takeW 0 38 (.pointer (some ⟨w.heap.size, 0, none⟩)) rfl rfl (by kernel_rfl) (by kernel_rfl) (by kernel_rfl) (fun _ _ _ h => h) (by kernel_rfl) (by (intro w hSw; go_simp)) (by assumption) ?_
            simp only [List.set_cons_zero, List.set_cons_succ]
            refine takeW 1 39 (.slice (some ⟨b, off, none⟩) Bs.length capB) rfl rfl (by kernel_rfl) (by kernel_rfl) (by kernel_rfl) (fun _ _ _ h => h) (by kernel_rfl) (by (intro Y hSw; obtain ⟨X0, X1⟩ := hA Y hSw; go_simp)) (by assumption) ?_
            simp only [List.set_cons_zero, List.set_cons_succ]
            refine takeW 2 40 (.int .i64 (k : Int)) rfl rfl (by kernel_rfl) (by kernel_rfl) (by kernel_rfl) (fun _ _ _ h => h) (by kernel_rfl) (by (intro w hSw; go_simp)) (by assumption) ?_
            simp only [List.set_cons_zero, List.set_cons_succ]
            refine takeW 3 41 (.pointer (some ⟨b, off + k * 2, none⟩)) rfl rfl (by kernel_rfl) (by kernel_rfl) (by kernel_rfl) (fun _ _ _ h => h) (by kernel_rfl) (by (intro Y hSw; go_simp; try omega)) (by assumption) ?_
            simp only [List.set_cons_zero, List.set_cons_succ]
            refine takeW 4 42 (.pointer (some ⟨b, off + k * 2, none⟩)) rfl rfl (by kernel_rfl) (by kernel_rfl) (by kernel_rfl) (fun _ _ _ h => h) (by kernel_rfl) (by (intro w hSw; go_simp)) (by assumption) ?_
            simp only [List.set_cons_zero, List.set_cons_succ]
            refine takeW 5 43 (.int .i64 ik) rfl rfl (by kernel_rfl) (by kernel_rfl) (by kernel_rfl) (fun _ _ _ h => h) (by kernel_rfl) (by (intro Y hSw; obtain ⟨X0, X1⟩ := hck Y hSw; go_simp)) (by assumption) ?_
            simp only [List.set_cons_zero, List.set_cons_succ]
            refine takeW 6 44 (.pointer (some ⟨w.heap.size, 0, none⟩)) rfl rfl (by kernel_rfl) (by kernel_rfl) (by kernel_rfl) (fun _ _ _ h => h) (by kernel_rfl) (by (intro w hSw; go_simp)) (by assumption) ?_
            simp only [List.set_cons_zero, List.set_cons_succ]
            refine takeW 7 45 (.slice (some ⟨b, off, none⟩) Bs.length capB) rfl rfl (by kernel_rfl) (by kernel_rfl) (by kernel_rfl) (fun _ _ _ h => h) (by kernel_rfl) (by (intro Y hSw; obtain ⟨X0, X1⟩ := hA Y hSw; go_simp)) (by assumption) ?_
            simp only [List.set_cons_zero, List.set_cons_succ]
            refine takeW 8 46 (.int .i64 (i : Int)) rfl rfl (by kernel_rfl) (by kernel_rfl) (by kernel_rfl) (fun _ _ _ h => h) (by kernel_rfl) (by (intro w hSw; go_simp)) (by assumption) ?_
            simp only [List.set_cons_zero, List.set_cons_succ]
            refine takeW 9 47 (.pointer (some ⟨b, off + i * 2, none⟩)) rfl rfl (by kernel_rfl) (by kernel_rfl) (by kernel_rfl) (fun _ _ _ h => h) (by kernel_rfl) (by (intro Y hSw; go_simp; try omega)) (by assumption) ?_
            simp only [List.set_cons_zero, List.set_cons_succ]
            refine takeW 10 48 (.pointer (some ⟨b, off + i * 2, none⟩)) rfl rfl (by kernel_rfl) (by kernel_rfl) (by kernel_rfl) (fun _ _ _ h => h) (by kernel_rfl) (by (intro w hSw; go_simp)) (by assumption) ?_
            simp only [List.set_cons_zero, List.set_cons_succ]
            refine takeW 11 49 (.int .i64 id) rfl rfl (by kernel_rfl) (by kernel_rfl) (by kernel_rfl) (fun _ _ _ h => h) (by kernel_rfl) (by (intro Y hSw; obtain ⟨X0, X1⟩ := hci Y hSw; go_simp)) (by assumption) ?_
            simp only [List.set_cons_zero, List.set_cons_succ]
            refine takeW 12 50 (.bool false) rfl rfl (by kernel_rfl) (by kernel_rfl) (by kernel_rfl) (fun _ _ _ h => h) (by kernel_rfl) (by (intro w hSw; go_simp)) (by assumption) ?_
            simp only [List.set_cons_zero, List.set_cons_succ]
            refine wpAnyH_done (by kernel_rfl) ?_ _
            go_wp2
            go_roundw
            case rel =>
              refine ⟨k + 1, by omega, by go_num, fun j hj => ?_, hb.trans (hb0.mono hb.size), hA _ hb0⟩
              by_cases ej : j = k
              · rw [ej, hh.out]; exact he.out
              · exact hG.out j (by omega)
            case measure => simp [intOf]; omega
        · obtain rfl : k = i := by omega
          clear b1 A1
          go_wp2
          go_loopw [5] (fun q wr => ∃ p : Nat, p ≤ L1.length ∧ q = .int .i64 p ∧ Hid (∀ x, x < p → onceL K k x = if (L1.getD x Pt.nil).up then 1 else 0) ∧ Below w.heap.size w wr ∧ NeAt wr w.heap.size (.slice (some ⟨b, off, none⟩) Bs.length capB) (.slice adK K.length capK)) (fun q _ => L1.length - (intOf q).toNat)
          case atStart => exact ⟨0, Nat.zero_le _, rfl, fun x hx => absurd hx (by omega), hb, A⟩
          case round =>
            clear hb A
            obtain ⟨p, hp2, rfl, hP, hb, A⟩ := hrel
            have hA : ∀ Y, Below wr.heap.size wr Y → NeAt Y w.heap.size (.slice (some ⟨b, off, none⟩) Bs.length capB) (.slice adK K.length capK) := fun Y hY => A.below hY A.lt
            have hci : ∀ Y, Below wr.heap.size wr Y → BdAtO Y b (off + k * 2) ⟨id, a1, c1, L1⟩ := fun Y hY => hat Y (hb.trans (hY.mono hb.size))
            by_cases hpt : p < L1.length
            · obtain ⟨b2, off2, rfl, _⟩ := nest _ hb (by omega)
              have hp : ∀ Y, Below wr.heap.size wr Y → Y.cell? ⟨b2, off2 + p * 11, none⟩ = some (.bool (L1.getD p Pt.nil).up) := fun Y hY => (ptAtO_of ((nest Y (hb.trans (hY.mono hb.size))).at_ ptEnc_len Pt.nil hpt)).c0
              obtain ⟨up, hup⟩ : ∃ q, (L1.getD p Pt.nil).up = q := ⟨_, rfl⟩
              simp only [hup] at hp
              replace hup : Hid _ := hup
              obtain ⟨o, ho⟩ : ∃ o, Hid (onceL K k p = o) := ⟨_, rfl⟩
              obtain ⟨m, hm⟩ : ∃ m, Hid ((if up = true then (1 : Int) else 0) = m) := ⟨_, rfl⟩
              have hNr := hN.later hb
              have hcq := hci wr (Below.refl _ _)
              obtain ⟨x1, x2⟩ := hcq
              dsimp only at x1 x2
              have cc := A
              obtain ⟨a0, a1_⟩ := cc
              by_cases hom : o = m
              · have e1 : (o != m) = false := by simp [hom]
                have e2 : decide (o = m) = true := decide_eq_true hom
                replace hom : Hid _ := hom
                go_upto_region 16 with fail
                clear x1 x2 a0 a1_
                refine wp_region_held (S := fun Y => Below wr.heap.size wr Y) (by kernel_rfl) ?_
                change wpAnyH _ _ _ _ _ _ _ _ (World.drew _)
                have hb0 : Below wr.heap.size wr wr.drew := (Below.refl _ _).drew
                obtain ⟨u0, hy0⟩ : ∃ y_, y_ = wr.drew := ⟨_, rfl⟩
                rw [← hy0] at hb0 ⊢
                clear hy0
                refine takeW 0 62 (.agg #[.slice (some ⟨b, off, none⟩) Bs.length capB, .slice adK K.length capK]) rfl rfl (by kernel_rfl) (by kernel_rfl) (by kernel_rfl) (fun _ _ _ h => h) (by kernel_rfl) (by (intro Y hSw; obtain ⟨X0, X1⟩ := hA Y hSw; go_simp)) (by assumption) ?_
                simp only [List.set_cons_zero, List.set_cons_succ]
                refine takeW 1 63 (.int .i64 (k : Int)) rfl rfl (by kernel_rfl) (by kernel_rfl) (by kernel_rfl) (fun _ _ _ h => h) (by kernel_rfl) (by (intro w hSw; go_simp)) (by assumption) ?_
                simp only [List.set_cons_zero, List.set_cons_succ]
                refine takeW 2 64 (.int .i64 (p : Int)) rfl rfl (by kernel_rfl) (by kernel_rfl) (by kernel_rfl) (fun _ _ _ h => h) (by kernel_rfl) (by (intro w hSw; go_simp)) (by assumption) ?_
                simp only [List.set_cons_zero, List.set_cons_succ]
                refine takeW 4 66 (.pointer (some ⟨w.heap.size, 0, none⟩)) rfl rfl (by kernel_rfl) (by kernel_rfl) (by kernel_rfl) (fun _ _ _ h => h) (by kernel_rfl) (by (intro w hSw; go_simp)) (by assumption) ?_
                simp only [List.set_cons_zero, List.set_cons_succ]
                refine takeW 5 67 (.slice (some ⟨b, off, none⟩) Bs.length capB) rfl rfl (by kernel_rfl) (by kernel_rfl) (by kernel_rfl) (fun _ _ _ h => h) (by kernel_rfl) (by (intro Y hSw; obtain ⟨X0, X1⟩ := hA Y hSw; go_simp)) (by assumption) ?_
                simp only [List.set_cons_zero, List.set_cons_succ]
                refine takeW 6 68 (.int .i64 (k : Int)) rfl rfl (by kernel_rfl) (by kernel_rfl) (by kernel_rfl) (fun _ _ _ h => h) (by kernel_rfl) (by (intro w hSw; go_simp)) (by assumption) ?_
                simp only [List.set_cons_zero, List.set_cons_succ]
                refine takeW 7 69 (.pointer (some ⟨b, off + k * 2, none⟩)) rfl rfl (by kernel_rfl) (by kernel_rfl) (by kernel_rfl) (fun _ _ _ h => h) (by kernel_rfl) (by (intro Y hSw; go_simp; try omega)) (by assumption) ?_
                simp only [List.set_cons_zero, List.set_cons_succ]
                refine takeW 8 70 (.pointer (some ⟨b, off + k * 2 + 1, none⟩)) rfl rfl (by kernel_rfl) (by kernel_rfl) (by kernel_rfl) (fun _ _ _ h => h) (by kernel_rfl) (by (intro w hSw; go_simp)) (by assumption) ?_
                simp only [List.set_cons_zero, List.set_cons_succ]
                refine takeW 9 71 (.slice (some ⟨b2, off2, none⟩) L1.length c1) rfl rfl (by kernel_rfl) (by kernel_rfl) (by kernel_rfl) (fun _ _ _ h => h) (by kernel_rfl) (by (intro Y hSw; obtain ⟨X0, X1⟩ := hci Y hSw; go_simp)) (by assumption) ?_
                simp only [List.set_cons_zero, List.set_cons_succ]
                refine takeW 10 72 (.int .i64 (p : Int)) rfl rfl (by kernel_rfl) (by kernel_rfl) (by kernel_rfl) (fun _ _ _ h => h) (by kernel_rfl) (by (intro w hSw; go_simp)) (by assumption) ?_
                simp only [List.set_cons_zero, List.set_cons_succ]
                refine takeW 11 73 (.pointer (some ⟨b2, off2 + p * 11, none⟩)) rfl rfl (by kernel_rfl) (by kernel_rfl) (by kernel_rfl) (fun _ _ _ h => h) (by kernel_rfl) (by (intro Y hSw; go_simp; try omega)) (by assumption) ?_
                simp only [List.set_cons_zero, List.set_cons_succ]
                refine takeW 12 74 (.pointer (some ⟨b2, off2 + p * 11, none⟩)) rfl rfl (by kernel_rfl) (by kernel_rfl) (by kernel_rfl) (fun _ _ _ h => h) (by kernel_rfl) (by (intro w hSw; go_simp)) (by assumption) ?_
                simp only [List.set_cons_zero, List.set_cons_succ]
                refine takeW 13 75 (.bool up) rfl rfl (by kernel_rfl) (by kernel_rfl) (by kernel_rfl) (fun _ _ _ h => h) (by kernel_rfl) (by (intro Y hSw; have X0 := hp Y hSw; go_simp)) (by assumption) ?_
                simp only [List.set_cons_zero, List.set_cons_succ]
                refine wpAnyH_all (rs := [3]) (by kernel_rfl) (by simp) ?_
                intro i hi; obtain rfl : i = 3 := by simpa using hi
                refine wpOp_step rfl (fun Kz hKz => ?_)
                rw [if_pos (by kernel_rfl)]
                go_simp
                go_at_call 67
                refine (onceS (some ⟨b, off, none⟩) capB Bs adK capK K k p u0 (hNr.later hb0)).mono ?_
                rintro e u1 ⟨rfl, kq⟩
                have hb1 : Below wr.heap.size wr u1 := hb0.trans (kq.mono hb0.size)
                clear kq
                rw [ho.out]
                refine hKz _ _ ⟨hb1, ?_⟩
                clear hKz Kz hi
                refine wpAnyH_all (rs := [14]) (by kernel_rfl) (by simp) ?_
                intro i hi; obtain rfl : i = 14 := by simpa using hi
                refine wpOp_step rfl (fun Kz hKz => ?_)
                rw [if_pos (by kernel_rfl)]
                go_simp
                go_at_call 68
                refine (l1BitS up m hm.out _).mono ?_
                rintro e u2 ⟨rfl, rfl⟩
                refine hKz _ _ ⟨hb1, ?_⟩
                clear hKz Kz hi
                refine takeW 15 77 (.bool false) rfl rfl (by kernel_rfl) (by kernel_rfl) (by kernel_rfl) (fun _ _ _ h => h) (by kernel_rfl) (by (intro w hSw; go_simp)) (by assumption) ?_
                simp only [List.set_cons_zero, List.set_cons_succ]
                refine wpAnyH_done (by kernel_rfl) ?_ _
                go_wp2
                go_roundw
                case rel =>
                  refine ⟨p + 1, by omega, by go_num, fun x hx => ?_, hb.trans (hb1.mono hb.size), hA _ hb1⟩
                  by_cases ex : x = p
                  · rw [ex, ho.out, hup.out, hom.out]; exact hm.out.symm
                  · exact hP.out x (by omega)
                case measure => simp [intOf]; omega
              · have e1 : (o != m) = true := by simp [hom]
                have e2 : decide (o = m) = false := decide_eq_false hom
                replace hom : Hid _ := hom
                go_upto_region 16 with fail
                clear x1 x2 a0 a1_
                refine wp_region_held (S := fun Y => Below wr.heap.size wr Y) (by kernel_rfl) ?_
                change wpAnyH _ _ _ _ _ _ _ _ (World.drew _)
                have hb0 : Below wr.heap.size wr wr.drew := (Below.refl _ _).drew
                obtain ⟨u0, hy0⟩ : ∃ y_, y_ = wr.drew := ⟨_, rfl⟩
                rw [← hy0] at hb0 ⊢
                clear hy0
                refine takeW 0 62 (.agg #[.slice (some ⟨b, off, none⟩) Bs.length capB, .slice adK K.length capK]) rfl rfl (by kernel_rfl) (by kernel_rfl) (by kernel_rfl) (fun _ _ _ h => h) (by kernel_rfl) (by (intro Y hSw; obtain ⟨X0, X1⟩ := hA Y hSw; go_simp)) (by assumption) ?_
                simp only [List.set_cons_zero, List.set_cons_succ]
                refine takeW 1 63 (.int .i64 (k : Int)) rfl rfl (by kernel_rfl) (by kernel_rfl) (by kernel_rfl) (fun _ _ _ h => h) (by kernel_rfl) (by (intro w hSw; go_simp)) (by assumption) ?_
                simp only [List.set_cons_zero, List.set_cons_succ]
                refine takeW 2 64 (.int .i64 (p : Int)) rfl rfl (by kernel_rfl) (by kernel_rfl) (by kernel_rfl) (fun _ _ _ h => h) (by kernel_rfl) (by (intro w hSw; go_simp)) (by assumption) ?_
                simp only [List.set_cons_zero, List.set_cons_succ]
                refine takeW 4 66 (.pointer (some ⟨w.heap.size, 0, none⟩)) rfl rfl (by kernel_rfl) (by kernel_rfl) (by kernel_rfl) (fun _ _ _ h => h) (by kernel_rfl) (by (intro w hSw; go_simp)) (by assumption) ?_
                simp only [List.set_cons_zero, List.set_cons_succ]
                refine takeW 5 67 (.slice (some ⟨b, off, none⟩) Bs.length capB) rfl rfl (by kernel_rfl) (by kernel_rfl) (by kernel_rfl) (fun _ _ _ h => h) (by kernel_rfl) (by (intro Y hSw; obtain ⟨X0, X1⟩ := hA Y hSw; go_simp)) (by assumption) ?_
                simp only [List.set_cons_zero, List.set_cons_succ]
                refine takeW 6 68 (.int .i64 (k : Int)) rfl rfl (by kernel_rfl) (by kernel_rfl) (by kernel_rfl) (fun _ _ _ h => h) (by kernel_rfl) (by (intro w hSw; go_simp)) (by assumption) ?_
                simp only [List.set_cons_zero, List.set_cons_succ]
                refine takeW 7 69 (.pointer (some ⟨b, off + k * 2, none⟩)) rfl rfl (by kernel_rfl) (by kernel_rfl) (by kernel_rfl) (fun _ _ _ h => h) (by kernel_rfl) (by (intro Y hSw; go_simp; try omega)) (by assumption) ?_
                simp only [List.set_cons_zero, List.set_cons_succ]
                refine takeW 8 70 (.pointer (some ⟨b, off + k * 2 + 1, none⟩)) rfl rfl (by kernel_rfl) (by kernel_rfl) (by kernel_rfl) (fun _ _ _ h => h) (by kernel_rfl) (by (intro w hSw; go_simp)) (by assumption) ?_
                simp only [List.set_cons_zero, List.set_cons_succ]
                refine takeW 9 71 (.slice (some ⟨b2, off2, none⟩) L1.length c1) rfl rfl (by kernel_rfl) (by kernel_rfl) (by kernel_rfl) (fun _ _ _ h => h) (by kernel_rfl) (by (intro Y hSw; obtain ⟨X0, X1⟩ := hci Y hSw; go_simp)) (by assumption) ?_
                simp only [List.set_cons_zero, List.set_cons_succ]
                refine takeW 10 72 (.int .i64 (p : Int)) rfl rfl (by kernel_rfl) (by kernel_rfl) (by kernel_rfl) (fun _ _ _ h => h) (by kernel_rfl) (by (intro w hSw; go_simp)) (by assumption) ?_
                simp only [List.set_cons_zero, List.set_cons_succ]
                refine takeW 11 73 (.pointer (some ⟨b2, off2 + p * 11, none⟩)) rfl rfl (by kernel_rfl) (by kernel_rfl) (by kernel_rfl) (fun _ _ _ h => h) (by kernel_rfl) (by (intro Y hSw; go_simp; try omega)) (by assumption) ?_
                simp only [List.set_cons_zero, List.set_cons_succ]
                refine takeW 12 74 (.pointer (some ⟨b2, off2 + p * 11, none⟩)) rfl rfl (by kernel_rfl) (by kernel_rfl) (by kernel_rfl) (fun _ _ _ h => h) (by kernel_rfl) (by (intro w hSw; go_simp)) (by assumption) ?_
                simp only [List.set_cons_zero, List.set_cons_succ]
                refine takeW 13 75 (.bool up) rfl rfl (by kernel_rfl) (by kernel_rfl) (by kernel_rfl) (fun _ _ _ h => h) (by kernel_rfl) (by (intro Y hSw; have X0 := hp Y hSw; go_simp)) (by assumption) ?_
                simp only [List.set_cons_zero, List.set_cons_succ]
                refine wpAnyH_all (rs := [3]) (by kernel_rfl) (by simp) ?_
                intro i hi; obtain rfl : i = 3 := by simpa using hi
                refine wpOp_step rfl (fun Kz hKz => ?_)
                rw [if_pos (by kernel_rfl)]
                go_simp
                go_at_call 67
                refine (onceS (some ⟨b, off, none⟩) capB Bs adK capK K k p u0 (hNr.later hb0)).mono ?_
                rintro e u1 ⟨rfl, kq⟩
                have hb1 : Below wr.heap.size wr u1 := hb0.trans (kq.mono hb0.size)
                clear kq
                rw [ho.out]
                refine hKz _ _ ⟨hb1, ?_⟩
                clear hKz Kz hi
                refine wpAnyH_all (rs := [14]) (by kernel_rfl) (by simp) ?_
                intro i hi; obtain rfl : i = 14 := by simpa using hi
                refine wpOp_step rfl (fun Kz hKz => ?_)
                rw [if_pos (by kernel_rfl)]
                go_simp
                go_at_call 68
                refine (l1BitS up m hm.out _).mono ?_
                rintro e u2 ⟨rfl, rfl⟩
                refine hKz _ _ ⟨hb1, ?_⟩
                clear hKz Kz hi
                refine takeW 15 77 (.bool true) rfl rfl (by kernel_rfl) (by kernel_rfl) (by kernel_rfl) (fun _ _ _ h => h) (by kernel_rfl) (by (intro w hSw; go_simp)) (by assumption) ?_
                simp only [List.set_cons_zero, List.set_cons_succ]
                refine wpAnyH_done (by kernel_rfl) ?_ _
                go_wp2
                go_ret
                refine ⟨YN.no (fun h => ?_), hb.trans (hb1.mono hb.size)⟩
                have := (hQ.out.1 h).2.1 k p hlt (by rw [hg.out]; exact hpt)
                unfold pt at this
                rw [hg.out] at this
                have e := congrArg (fun q : Bool => if q = true then (1 : Int) else 0) hup.out
                exact hom.out (ho.out.symm.trans (this.trans (e.trans hm.out)))
            · obtain rfl : p = L1.length := by omega
              have hcq := hci wr (Below.refl _ _)
              obtain ⟨x1, x2⟩ := hcq
              dsimp only at x1 x2
              have cc := A
              obtain ⟨a0, a1_⟩ := cc
              go_wp2
              go_roundw
              case rel =>
                refine ⟨k + 1, by omega, by go_num, ⟨⟨fun x hx => ?_, fun x j hx hj => ?_⟩, fun x q hx hq => ?_⟩, hb, A⟩
                · by_cases ex : x = k
                  · rw [ex, hg.out]; exact hok.out
                  · exact hF.out.1.1 x (by omega)
                · by_cases ex : x = k
                  · subst ex
                    rw [hg.out, bd_get]
                    exact hG.out j hj
                  · exact hF.out.1.2 x j (by omega) hj
                · by_cases ex : x = k
                  · subst ex
                    unfold pt
                    rw [hg.out] at hq ⊢
                    exact hP.out q hq
                  · exact hF.out.2 x q (by omega) hq
              case measure => simp [intOf]; omega
    · obtain rfl : i = Bs.length := by omega
      have cc := A
      obtain ⟨a0, a1_⟩ := cc
      go_wp2
      clear a0 a1_
      go_loopw [6] (fun q wr => ∃ k : Nat, k ≤ K.length ∧ q = .int .i64 k ∧ Hid (∀ j, j < k → LinkE (dB Bs) (K.getD j Lk.nil)) ∧ Below w.heap.size w wr ∧ NeAt wr w.heap.size (.slice adB Bs.length capB) (.slice adK K.length capK)) (fun q _ => K.length - (intOf q).toNat)
      case atStart => exact ⟨0, Nat.zero_le _, rfl, fun j hj => absurd hj (by omega), hb, A⟩
      case round =>
        clear hb A
        obtain ⟨k, hk2, rfl, hG, hb, A⟩ := hrel
        have cc := A
        obtain ⟨a0, a1_⟩ := cc
        by_cases hlt2 : k < K.length
        · obtain ⟨b, off, rfl, _⟩ := hN.vk (by omega)
          obtain ⟨x, hh⟩ : ∃ h, K.getD k Lk.nil = h := ⟨_, rfl⟩
          have hck : LkAtO wr b (off + k * 4) x := by
            rw [← hh]
            exact lkAtO_of ((hN.later hb).vk.at_ lkEnc_len Lk.nil hlt2)
          replace hh : Hid _ := hh
          obtain ⟨c0, c1, c2, c3⟩ := hck
          obtain ⟨u, hu⟩ : ∃ u, u = wr.alloc (Obj.cells #[.int .i64 x.a, .int .i64 x.p, .int .i64 x.b, .int .i64 x.q] 64) := ⟨_, rfl⟩
          have bu : Below w.heap.size w u := by rw [hu]; exact hb.alloc hb.size _
          have Au : NeAt u w.heap.size (.slice adB Bs.length capB) (.slice (some ⟨b, off, none⟩) K.length capK) := by rw [hu]; exact A.below (below_new _) A.lt
          have Xu : LkAtO u wr.heap.size 0 x := by rw [hu]; constructor <;> simp [go_sem]
          have xl : wr.heap.size < u.heap.size := World.block_lt_of_cell? u _ Xu.c0
          by_cases h1 : x.a = x.b
          · have e1 : (x.a == x.b) = true := by simp [h1]
            have e2 : decide (x.a = x.b) = true := decide_eq_true h1
            replace h1 : Hid _ := h1
            go_upto_region 22 with fail
            rw [← hu]
            clear hu c0 c1 c2 c3 a0 a1_
            obtain ⟨q0, q1, q2, q3⟩ := Xu
            simp only [Nat.zero_add] at q0 q1 q2 q3
            go_wp2
            go_ret
            refine ⟨YN.no (fun h => ?_), bu⟩
            have := (hQ.out.1 h).2.2 k hlt2
            rw [hh.out] at this
            exact this.1 h1.out
          have e1 : (x.a == x.b) = false := by simp [h1]
          have e2 : decide (x.a = x.b) = false := decide_eq_false h1
          replace h1 : Hid _ := h1
          go_upto_region 22 with fail
          rw [← hu]
          clear hu c0 c1 c2 c3 a0 a1_
          have dd := Xu
          obtain ⟨q0, q1, q2, q3⟩ := dd
          simp only [Nat.zero_add] at q0 q1 q2 q3
          have cc := Au
          obtain ⟨a0, a1_⟩ := cc
          go_wp2_with fail
          go_at_call 69
          clear q0 q1 q2 q3 a0 a1_
          refine (endS adB capB Bs (some ⟨b, off, none⟩) capK K x.a x.p u (hN.later bu)).mono ?_
          rintro e u1 ⟨⟨R1, rfl, hR1⟩, k1⟩
          have b1 := bu.trans (k1.mono bu.size)
          have Au := Au.below k1 Au.lt
          have Xu := Xu.below k1 xl
          clear k1 bu
          by_cases h2 : EndP (dB Bs) x.a x.p
          rotate_left
          · obtain rfl := bool_no hR1 h2
            clear hR1
            replace h2 : Hid _ := h2
            go_wp2
            go_ret
            refine ⟨YN.no (fun h => ?_), b1⟩
            have := (hQ.out.1 h).2.2 k hlt2
            rw [hh.out] at this
            exact h2.out this.2.1
          obtain rfl : R1 = true := hR1.2 h2
          clear hR1
          replace h2 : Hid _ := h2
          obtain ⟨q0, q1, q2, q3⟩ := Xu
          simp only [Nat.zero_add] at q0 q1 q2 q3
          have cc := Au
          obtain ⟨a0, a1_⟩ := cc
          go_wp2_with fail
          go_at_call 69
          clear q0 q1 q2 q3 a0 a1_
          refine (endS adB capB Bs (some ⟨b, off, none⟩) capK K x.b x.q u1 (hN.later b1)).mono ?_
          rintro e u2 ⟨⟨R2, rfl, hR2⟩, k2⟩
          have b2 := b1.trans (k2.mono b1.size)
          have Au := Au.below k2 Au.lt
          clear k2 b1
          by_cases h3 : EndP (dB Bs) x.b x.q
          rotate_left
          · obtain rfl := bool_no hR2 h3
            clear hR2
            replace h3 : Hid _ := h3
            go_wp2
            go_ret
            refine ⟨YN.no (fun h => ?_), b2⟩
            have := (hQ.out.1 h).2.2 k hlt2
            rw [hh.out] at this
            exact h3.out this.2.2
          obtain rfl : R2 = true := hR2.2 h3
          clear hR2
          replace h3 : Hid _ := h3
          go_wp2
          go_roundw
          case rel =>
            refine ⟨k + 1, by omega, by go_num, fun j hj => ?_, b2, Au⟩
            by_cases ej : j = k
            · rw [ej, hh.out]; exact ⟨h1.out, h2.out, h3.out⟩
            · exact hG.out j (by omega)
          case measure => simp [intOf]; omega
        · obtain rfl : k = K.length := by omega
          go_wp2
          go_ret
          exact ⟨YN.yes (hQ.out.2 ⟨hF.out.1, hF.out.2, hG.out⟩), hb⟩

end Go.Proofs.Ytdfjfodfnildiaa
