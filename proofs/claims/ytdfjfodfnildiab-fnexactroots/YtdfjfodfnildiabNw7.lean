/- Nets, marked. -/
import Derived.Test.YtdfjfodfnildiabRows
import Derived.WalkKit
import Derived.ProofKit
import Derived.OpenShut
import Derived.ShutString
import Derived.ChangeOld
import Derived.Below
import Derived.Deep.QuietTactic
import Derived.BigQuiet
import Derived.WalkSmall
import Derived.Laws.OwnMore
import Derived.WalkSpells
import Derived.WalkLawsBesides
import Derived.Deep.Cut
import Derived.Test.YtdfjfodfnildiabNw3
import Derived.Test.YtdfjfodfnildiabNw6
import Derived.Test.YtdfjfodfnildiabLk4
namespace Go.Proofs.Ytdfjfodfnildiab
open Go.ChangeShapes Go.WideShapes Go.ChangeAt Go.RowKit
open Go.ChangeMaps (open_string shut_string)
set_option linter.unusedVariables false
set_option maxRecDepth 100000

theorem NewOut.small {ids : List Int} {K : List Lk} {ok : Bool} {Cs : List Bd} {KL : List Lk} (h : NewOut ids K ok Cs KL) : Cs.length ≤ 5 ∧ (∀ i, i < Cs.length → (Cs.getD i Bd.nil).L.length ≤ 4) ∧ KL.length ≤ K.length := by
  cases ok with
  | true =>
    obtain ⟨d, rfl⟩ := h.yes rfl
    have hl : Cs.length = ids.length := by
      have := congrArg List.length d
      rw [netN_len] at this
      simpa [dB] using this
    refine ⟨by rw [hl]; exact (h.yn.1 rfl).1, fun i hi => ?_, Nat.le_refl _⟩
    have := congrArg (fun D => D.getD i Bg.nil) d
    simp only [bd_get] at this
    rw [netN_get _ _ (by omega)] at this
    have e : (Cs.getD i Bd.nil).L = (newBg (ids.getD i 0) (ofK KL i)).L := congrArg Bg.L this
    rw [e]
    exact newBg_len _ _
  | false =>
    obtain ⟨rfl, rfl⟩ := h.no rfl
    exact ⟨by simp, fun i hi => absurd hi (by simp), by simp⟩
theorem NewOut.same {ids : List Int} {K : List Lk} {ok ok' : Bool} {Cs Cs' : List Bd} {KL KL' : List Lk} (h : NewOut ids K ok Cs KL) (h' : NewOut ids K ok' Cs' KL') : ok' = ok ∧ Cs'.map Bd.d = Cs.map Bd.d ∧ KL' = KL := by
  have e : ok' = ok := Bool.eq_iff_iff.2 (h'.yn.trans h.yn.symm)
  subst e
  cases ok' with
  | true => exact ⟨rfl, (h'.yes rfl).1.trans (h.yes rfl).1.symm, (h'.yes rfl).2.trans (h.yes rfl).2.symm⟩
  | false => exact ⟨rfl, by rw [(h'.no rfl).1, (h.no rfl).1], (h'.no rfl).2.trans (h.no rfl).2.symm⟩
set_option maxHeartbeats 2000000 in
theorem netMark (adB : Option Addr) (cB : Nat) (Cs : List Bd) (adL : Option Addr) (cL : Nat) (K : List Lk) (k0 : Int) (lo mid hi : Nat) (w : World) (h : NetOwn lo mid hi w (.slice adB Cs.length cB) Cs (.slice adL K.length cL) K) (hl : Cs.length ≤ 100) (hls : ∀ i, i < Cs.length → (Cs.getD i Bd.nil).L.length ≤ 100) (hk : K.length ≤ 1048576) (hk0 : 0 ≤ k0) (hk1 : k0 ≤ 100000000) :
    Calls Try.prog 14 #[.agg #[.slice adB Cs.length cB, .slice adL K.length cL], .int .i64 k0] w fun e w' => e = .returned (.int .i64 (k0 + (kTo Cs Cs.length : Int) + 4 * (K.length : Int))) ∧ NetOwn lo mid hi w' (.slice adB Cs.length cB) (marksN Cs k0 Cs.length) (.slice adL K.length cL) ((List.range K.length).map (lkMk (k0 + (kTo Cs Cs.length : Int)))) ∧ KeptR lo hi w w' := by
  have hkb : (kTo Cs Cs.length : Int) ≤ 200000 := by
    have h1 : ∀ i, i ≤ Cs.length → lTo Cs i ≤ 100 * i := by
      intro i
      induction i with
      | zero => intro _; exact Nat.le_refl _
      | succ i ih =>
        intro hi
        have := ih (by omega)
        have := hls i (by omega)
        show lTo Cs i + _ ≤ _
        omega
    have := h1 Cs.length (Nat.le_refl _)
    rw [kTo_lTo]
    omega
  obtain ⟨y, hy⟩ : ∃ y, y = w.alloc (Obj.cells #[.slice adB Cs.length cB, .slice adL K.length cL] 31) := ⟨_, rfl⟩
  have k0y : Below w.heap.size w y := by rw [hy]; exact below_new _
  have A0 : NeAt y w.heap.size (.slice adB Cs.length cB) (.slice adL K.length cL) := by rw [hy]; exact NeAt.new w _
  have hy' := h.later k0y
  have hhs := h.hs
  have hlm := h.lm
  have hmh := h.mh
  obtain ⟨s, hs⟩ : ∃ s, s = k0 + (kTo Cs Cs.length : Int) := ⟨_, rfl⟩
  rw [← hs]
  have s0 : 0 ≤ s := by omega
  have s1 : s ≤ 100200000 := by omega
  replace hs : Hid _ := hs
  go_enter Try.func14, Try.ntmps14
  go_wp2_with fail
  go_at_call 32
  rw [← hy]
  clear hy
  refine (bdMark adB cB Cs k0 mid hi y hy'.own hy'.hs hl hls hk0 hk1).mono ?_
  rintro e w1 ⟨rfl, o1, kr1⟩
  rw [← hs.out]
  have A1 := A0.keep (kr1.block _ A0.lt (.inr (by omega)))
  have o2 : FOwn lkEnc 4 70 lo w1 (.slice adL K.length cL) K := hy'.own2.keep (fun g e => kr1.block g (hy'.own2.lt g e).2 (.inl (h.khi g e)))
  have hz1 := kr1.size
  have hz0 := k0y.size
  clear A0
  obtain ⟨a0, a1⟩ := A1
  go_wp2_with fail
  go_at_call 33
  refine (lkMark adL cL s lo K w1 o2 hk s0 (by omega)).mono ?_
  rintro e w2 ⟨rfl, o3, gr⟩
  have hkl : ∀ g, (Value.slice adL K.length cL).ownBlock = some g → lo ≤ g ∧ g < mid := fun g e => ⟨(o2.lt g e).1, h.khi g e⟩
  have hz2 := gr.size
  have N2 : NetOwn lo mid hi w2 (.slice adB Cs.length cB) (marksN Cs k0 Cs.length) (.slice adL K.length cL) ((List.range K.length).map (lkMk s)) :=
    ⟨o1.keep (fun g h1 h2 => gr.block g (by omega) (fun e => by have := hkl g e.symm; omega)), o3, h.khi, hlm, hmh, by omega⟩
  have KR : KeptR lo hi w w2 := ((KeptR.of_below k0y).trans (kr1.wide hlm (Nat.le_refl _))).trans (KeptR.of_grown gr (fun k e => by have := hkl k e; omega))
  clear gr o3 o1 kr1 o2
  go_wp2
  go_ret
  exact ⟨rfl, N2, KR⟩
end Go.Proofs.Ytdfjfodfnildiab
