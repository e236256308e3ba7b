/- impl.Same, walked. -/
import Derived.Test.YtemibefbkjpnaabRows
import Derived.WalkKit
import Derived.ProofKit
import Derived.OpenShut
import Derived.ShutString
import Derived.ChangeOld
import Derived.Below
import Derived.Deep.QuietTactic
import Derived.BigQuiet
import Derived.WalkSmall
import Derived.Laws.OwnMore
import Derived.WalkSpells
import Derived.WalkLawsBesides
import Derived.Deep.Cut
import Derived.Laws.StructEq
import Derived.Test.YtemibefbkjpnaabSm2
import Derived.Test.YtemibefbkjpnaabNe3
namespace Go.Proofs.Ytemibefbkjpnaab
open Go.ChangeShapes Go.WideShapes Go.ChangeAt Go.RowKit
open Go.ChangeMaps (open_string shut_string)
set_option linter.unusedVariables false
set_option maxRecDepth 100000

theorem dB_eq {Bs Bs' : List Bd} (hl : Bs'.length = Bs.length) : dB Bs = dB Bs' ↔ ∀ j, j < Bs.length → (Bs.getD j Bd.nil).id = (Bs'.getD j Bd.nil).id ∧ (Bs.getD j Bd.nil).L = (Bs'.getD j Bd.nil).L := by
  constructor
  · intro h j hj
    have := congrArg (fun D => D.getD j Bg.nil) h
    simp only [bd_get] at this
    exact ⟨congrArg Bg.id this, congrArg Bg.L this⟩
  · intro h
    refine List.ext_getElem (by simp [dB, hl]) fun i h1 h2 => ?_
    have hi : i < Bs.length := by simpa [dB] using h1
    have hi' : i < Bs'.length := by omega
    obtain ⟨e1, e2⟩ := h i hi
    simp only [dB, List.getElem_map, Bd.d, Bg.mk.injEq]
    simp only [List.getD, List.getElem?_eq_getElem hi, List.getElem?_eq_getElem hi', Option.getD_some] at e1 e2
    exact ⟨e1, e2⟩
theorem dB_ne {Bs Bs' : List Bd} (hl : Bs'.length ≠ Bs.length) : dB Bs ≠ dB Bs' := fun h => hl (by have := congrArg List.length h; simpa [dB] using this.symm)
set_option maxHeartbeats 8000000 in
theorem eqFuncI (adB adB' : Option Addr) (capB capB' : Nat) (Bs Bs' : List Bd) (w : World) (hv : NV w adB Bs) (hv' : NV w adB' Bs') (hl : Bs.length ≤ 1048576) (hl' : Bs'.length ≤ 1048576) (hls : ∀ i, i < Bs.length → (Bs.getD i Bd.nil).L.length ≤ 1048576) (hls' : ∀ i, i < Bs'.length → (Bs'.getD i Bd.nil).L.length ≤ 1048576) :
    Calls Try.prog 14 #[.slice adB Bs.length capB, .slice adB' Bs'.length capB', .func (Fn.func 15) #[] #[]] w fun e w' => YN e (dB Bs = dB Bs') ∧ Below w.heap.size w w' := by
  suffices H : ∀ Q : Prop, Hid (Q ↔ dB Bs = dB Bs') → Calls Try.prog 14 #[.slice adB Bs.length capB, .slice adB' Bs'.length capB', .func (Fn.func 15) #[] #[]] w fun e w' => YN e Q ∧ Below w.heap.size w w' from H _ Iff.rfl
  intro Q hQ
  by_cases hle : (Bs.length : Int) = (Bs'.length : Int)
  rotate_left
  · have d1 : ((Bs.length : Int) != (Bs'.length : Int)) = true := by simp; omega
    have d2 : decide ((Bs.length : Int) = (Bs'.length : Int)) = false := decide_eq_false hle
    replace hQ : Hid (¬ Q) := fun h => dB_ne (by omega) (hQ.out.1 h)
    replace hle : Hid _ := hle
    go_enter Try.func14, Try.ntmps14
    go_wp2
    go_ret
    exact ⟨YN.no hQ.out, Below.refl _ _⟩
  have hll : Hid (Bs'.length = Bs.length) := by unfold Hid; omega
  replace hQ : Hid (Q ↔ ∀ j, j < Bs.length → (Bs.getD j Bd.nil).id = (Bs'.getD j Bd.nil).id ∧ (Bs.getD j Bd.nil).L = (Bs'.getD j Bd.nil).L) := hQ.out.trans (dB_eq hll.out)
  rw [hll.out]
  clear hle
  go_enter Try.func14, Try.ntmps14
  go_wp2
  go_loopw [17] (fun i wr => ∃ k : Nat, k ≤ Bs.length ∧ i = .int .i64 k ∧ Hid (∀ j, j < k → (Bs.getD j Bd.nil).id = (Bs'.getD j Bd.nil).id ∧ (Bs.getD j Bd.nil).L = (Bs'.getD j Bd.nil).L) ∧ Below w.heap.size w wr) (fun i _ => Bs.length - (intOf i).toNat)
  case atStart => exact ⟨0, Nat.zero_le _, rfl, fun j hj => absurd hj (by omega), Below.refl _ _⟩
  case round =>
    obtain ⟨k, hk, rfl, hF, hb⟩ := hrel
    by_cases hlt : k < Bs.length
    · have hlt' : k < Bs'.length := by have := hll.out; omega
      obtain ⟨b, off, rfl⟩ := hv.ad_ (by omega)
      obtain ⟨b', off', rfl⟩ := hv'.ad_ (by omega)
      have hc := (hv.below hb (Nat.le_refl _)).at_ hlt
      have hc' := (hv'.below hb (Nat.le_refl _)).at_ hlt'
      have hn : ∀ Y, Below w.heap.size w Y → FView ptEnc Y (Bs.getD k Bd.nil).ad (Bs.getD k Bd.nil).L := fun Y hY => (hv.below hY (Nat.le_refl _)).nest k hlt
      have hn' : ∀ Y, Below w.heap.size w Y → FView ptEnc Y (Bs'.getD k Bd.nil).ad (Bs'.getD k Bd.nil).L := fun Y hY => (hv'.below hY (Nat.le_refl _)).nest k hlt'
      have hlk := hls k hlt
      have hlk' := hls' k hlt'
      obtain ⟨⟨id, a1, c1, L1⟩, hh⟩ : ∃ m, Bs.getD k Bd.nil = m := ⟨_, rfl⟩
      obtain ⟨⟨id', a2, c2, L2⟩, hh'⟩ : ∃ m, Bs'.getD k Bd.nil = m := ⟨_, rfl⟩
      rw [hh] at hc hlk
      rw [hh'] at hc' hlk'
      simp only [hh] at hn
      simp only [hh'] at hn'
      dsimp only at hlk hlk' hn hn'
      obtain ⟨x1, x2⟩ := hc
      obtain ⟨y1, y2⟩ := hc'
      dsimp only at x1 x2 y1 y2
      replace hh : Hid _ := hh
      replace hh' : Hid _ := hh'
      have hkb' : (k : Int) < (Bs.length : Int) := by omega
      have hbl := (hv.row.lt bdEnc_len (by omega) ⟨b, off, none⟩ rfl (by omega))
      have hbl' := (hv'.row.lt bdEnc_len (by omega) ⟨b', off', none⟩ rfl (by omega))
      have hsz := hb.size
      obtain ⟨u, hu⟩ : ∃ u, u = (wr.alloc (Obj.cells #[.int .i64 id, .slice a1 L1.length c1] 39)).alloc (Obj.cells #[.int .i64 id', .slice a2 L2.length c2] 39) := ⟨_, rfl⟩
      have bu : Below w.heap.size w u := by rw [hu]; exact (hb.alloc hb.size _).alloc (hb.alloc hb.size _).size _
      clear hv hv' hls hls'
      dsimp only at hbl hbl'
      have hbl2 : b' < wr.heap.size := by omega
      go_wp2_with fail
      go_at_call 15
      rw [← hu]
      clear hu x1 x2 y1 y2
      refine (alikeI id id' a1 a2 c1 c2 L1 L2 u (hn u bu) (hn' u bu) hlk hlk').mono ?_
      rintro e w1 ⟨⟨R, rfl, hR⟩, k1⟩
      have b1 := bu.trans (k1.mono bu.size)
      clear k1 bu hb
      by_cases he : id = id' ∧ L1 = L2
      · obtain rfl : R = true := hR.2 he
        clear hR
        replace he : Hid _ := he
        go_wp2
        go_roundw
        case rel =>
          refine ⟨k + 1, by omega, by go_num, fun j hj => ?_, b1⟩
          by_cases ej : j = k
          · rw [ej, hh.out, hh'.out]; exact he.out
          · exact hF.out j (by omega)
        case measure => simp [intOf]; omega
      · obtain rfl : R = false := by
          rcases Bool.eq_false_or_eq_true R with q | q
          · exact absurd (hR.1 q) he
          · exact q
        clear hR
        replace he : Hid _ := he
        go_wp2
        go_ret
        refine ⟨YN.no (fun q => ?_), b1⟩
        have := hQ.out.1 q k hlt
        rw [hh.out, hh'.out] at this
        exact he.out this
    · obtain rfl : k = Bs.length := by omega
      go_wp2
      go_ret
      exact ⟨YN.yes (hQ.out.2 hF.out), hb⟩
set_option maxHeartbeats 4000000 in
theorem sameI (adB adB' : Option Addr) (capB capB' : Nat) (Bs Bs' : List Bd) (adK adK' : Option Addr) (capK capK' : Nat) (K K' : List Lk) (w : World) (hN : NN w adB Bs adK K) (hN' : NN w adB' Bs' adK' K') :
    Calls Try.prog 7 #[.agg #[.slice adB Bs.length capB, .slice adK K.length capK], .agg #[.slice adB' Bs'.length capB', .slice adK' K'.length capK']] w fun e w' => YN e (dB Bs = dB Bs' ∧ K = K') ∧ Below w.heap.size w w' := by
  suffices H : ∀ Q : Prop, Hid (Q ↔ dB Bs = dB Bs' ∧ K = K') → Calls Try.prog 7 #[.agg #[.slice adB Bs.length capB, .slice adK K.length capK], .agg #[.slice adB' Bs'.length capB', .slice adK' K'.length capK']] w fun e w' => YN e Q ∧ Below w.heap.size w w' from H _ Iff.rfl
  intro Q hQ
  obtain ⟨y, hy⟩ : ∃ y, y = (w.alloc (Obj.cells #[.slice adB Bs.length capB, .slice adK K.length capK] 31)).alloc (Obj.cells #[.slice adB' Bs'.length capB', .slice adK' K'.length capK'] 31) := ⟨_, rfl⟩
  have B0 : Below w.heap.size w y := by rw [hy]; exact ((Below.refl _ _).alloc (Nat.le_refl _) _).alloc (by simp) _
  have A0 : NeAt y w.heap.size (.slice adB Bs.length capB) (.slice adK K.length capK) := by rw [hy]; constructor <;> simp [go_sem]
  have A1 : NeAt y (w.heap.size + 1) (.slice adB' Bs'.length capB') (.slice adK' K'.length capK') := by rw [hy]; constructor <;> simp [go_sem]
  go_enter Try.func7, Try.ntmps7
  go_wp2_with fail
  go_at_call 14
  rw [← hy]
  clear hy
  have N0 := hN.later B0
  have N0' := hN'.later B0
  refine (eqFuncI adB adB' capB capB' Bs Bs' y N0.vb N0'.vb hN.hl hN'.hl hN.hls hN'.hls).mono ?_
  rintro e w1 ⟨⟨R, rfl, hR⟩, k1⟩
  have B1 := B0.trans (k1.mono B0.size)
  obtain ⟨a0, a1⟩ := A0.below k1 A0.lt
  obtain ⟨c0, c1⟩ := A1.below k1 A1.lt
  clear k1 B0 A0 A1 N0 N0'
  by_cases h1 : dB Bs = dB Bs'
  rotate_left
  · obtain rfl : R = false := by
      rcases Bool.eq_false_or_eq_true R with q | q
      · exact absurd (hR.1 q) h1
      · exact q
    clear hR
    replace hQ : Hid (¬ Q) := fun h => h1 (hQ.out.1 h).1
    clear h1
    go_wp2
    go_ret
    exact ⟨YN.no hQ.out, B1⟩
  obtain rfl : R = true := hR.2 h1
  clear hR
  replace hQ : Hid (Q ↔ K = K') := hQ.out.trans ⟨fun h => h.2, fun h => ⟨h1, h⟩⟩
  clear h1
  go_wp2_with fail
  go_at_call 16
  refine (lkEql adK adK' capK capK' K K' w1 (hN.later B1).vk (hN'.later B1).vk hN.hk hN'.hk).mono ?_
  rintro e w2 ⟨⟨R2, rfl, hR2⟩, k2⟩
  have B2 := B1.trans (k2.mono B1.size)
  replace hR2 : Hid _ := hR2
  clear k2 B1
  go_wp2
  go_ret
  exact ⟨YN.is (hR2.out.trans hQ.out.symm), B2⟩

end Go.Proofs.Ytemibefbkjpnaab
