/- spec.Gates, walked. -/
import Derived.Test.YtghmmcenjdbfgabRows
import Derived.WalkKit
import Derived.ProofKit
import Derived.OpenShut
import Derived.ShutString
import Derived.ChangeOld
import Derived.Below
import Derived.Deep.QuietTactic
import Derived.BigQuiet
import Derived.WalkSmall
import Derived.Laws.OwnMore
import Derived.WalkSpells
import Derived.WalkLawsBesides
import Derived.Deep.Cut
import Derived.Maps.AppendAt
import Derived.Test.YtghmmcenjdbfgabGa1
import Derived.Test.YtghmmcenjdbfgabBr1
namespace Go.Proofs.Ytghmmcenjdbfgab
open Go.ChangeShapes Go.WideShapes Go.ChangeAt Go.RowKit
open Go.ChangeMaps (open_string shut_string)
set_option linter.unusedVariables false
set_option maxRecDepth 100000

set_option maxHeartbeats 4000000 in
theorem gatesS12r (id : Int) (ad : Option Addr) (cap : Nat) (L : List Pt) (w : World) (hv : FView ptEnc w ad L) (hl : L.length ≤ 1048576) :
    Calls Try.prog 7 #[.agg #[.int .i64 id, .slice ad L.length cap]] w fun e w' => ∃ a c, e = .returned (.slice a L.length c) ∧ FOwn boEnc 1 4 w.heap.size w' (.slice a L.length c) (gatesR L) ∧ Below w.heap.size w w' := by
  obtain ⟨j0, hj, hj0, hj1, hj2⟩ := info_parts boInfo
  obtain ⟨y, hy⟩ : ∃ y, y = w.alloc (Obj.cells #[.int .i64 id, .slice ad L.length cap] 30) := ⟨_, rfl⟩
  have B0 : Below w.heap.size w y := by rw [hy]; exact below_new _
  have A : BrAt y w.heap.size id (.slice ad L.length cap) := by rw [hy]; exact BrAt.new w _ _ _
  have hB := hv.lt ptEnc_len (by omega)
  have hV := hv.below B0 hB
  have hB := hV.lt ptEnc_len (by omega)
  have S0 := A.lt
  clear hv
  obtain ⟨y2, hy2⟩ : ∃ y2, y2 = y.alloc (Obj.cells #[] 4) := ⟨_, rfl⟩
  have O0 : FOwn boEnc 1 4 y.heap.size y2 (.slice (some ⟨y.heap.size, 0, none⟩) 0 0) (gatesR (L.take 0)) := by
    rw [hy2]; exact FOwn.empty y
  have B1 : Below y.heap.size y y2 := by rw [hy2]; exact below_new _
  go_enter Try.func7, Try.ntmps7
  go_upto_region 1 with fail
  rw [← hy]
  clear hy
  go_upto_region 2 with fail
  rw [← hy2]
  clear hy2
  go_wp2
  go_loopw [3, 4] (fun v q wr => ∃ k : Nat, k ≤ L.length ∧ q = .int .i64 (k : Int) ∧ FOwn boEnc 1 4 y.heap.size wr v (gatesR (L.take k)) ∧ Below y.heap.size y wr) (fun _ q _ => L.length - (intOf q).toNat)
  case atStart => exact ⟨0, Nat.zero_le _, rfl, O0, B1⟩
  case round =>
    obtain ⟨k, hk1, rfl, O, kb⟩ := hrel
    clear O0 B1
    have hA := A.below kb S0
    obtain ⟨x1, x2⟩ := hA
    by_cases hlt : k < L.length
    · have hst := gatesR_take L hlt
      obtain ⟨b, off, rfl, _⟩ := hV (by omega)
      obtain ⟨h, hh⟩ : ∃ h, L.getD k Pt.nil = h := ⟨_, rfl⟩
      have hck : PtAtO wr b (off + k * 11) h := by
        rw [← hh]
        exact ptAtO_of ((hV.below kb hB).at_ ptEnc_len Pt.nil hlt)
      rw [hh] at hst
      have hop := hck.c10
      clear hck hh
      obtain ⟨M, hM⟩ : ∃ M, gatesR (L.take k) = M := ⟨_, rfl⟩
      have hMl : M.length ≤ k := by rw [← hM, gatesR_len]; simp; omega
      rw [hM] at O hst
      clear hM
      obtain ⟨ak, ck2, rfl⟩ := O.open_
      replace hst : Hid _ := hst
      have V1 := FView.oneB wr 4 h.op
      have kx : Below wr.heap.size wr (wr.alloc (Obj.cells #[.bool h.op] 4)) := below_new _
      have O4 := O.later kx
      have b4 := kb.trans (kx.mono kb.size)
      have s4 := b4.size
      clear kx
      go_wp2_with (first | (at_builtin; refine fappL boEnc_len boEnc_ones rfl _ _ 26 rfl y.heap.size 4 j0 (.bool false) 1 Try.underlying26 hj hj0 hj1 hj2 rfl (by decide) (by decide) (.slice ak M.length ck2) M rfl O4 (some ⟨wr.heap.size, 0, none⟩) 1 [h.op] rfl (fun e => by cases e) V1 ?z0 ?z1 ?_) | go_in)
      case z0 => first | omega | (simp; omega)
      case z1 => first | omega | (simp; omega)
      intro vZ wZ hownZ hgrowZ _
      have hob : ∀ q, (Value.slice ak M.length ck2).ownBlock = some q → y.heap.size ≤ q := fun q e => (O4.lt q e).1
      have bZ : Below y.heap.size y wZ := b4.grown hgrowZ (by exact s4) hob
      clear hgrowZ V1 O4 hob O b4
      go_wp2
      go_roundw
      case rel => exact ⟨k + 1, by omega, by go_num, by rw [hst.out]; exact hownZ, bZ⟩
      case measure => simp [intOf]; omega
    · obtain rfl : k = L.length := by omega
      rw [List.take_length] at O
      obtain ⟨ak, ck2, rfl⟩ := O.open_
      have OZ := O.base B0.size
      rw [gatesR_len] at OZ ⊢
      have bZ := B0.trans (kb.mono B0.size)
      go_wp2
      go_ret
      exact ⟨_, _, rfl, OZ, bZ⟩
theorem gatesS12 (id : Int) (ad : Option Addr) (cap : Nat) (L : List Pt) (w : World) (hv : FView ptEnc w ad L) (hl : L.length ≤ 1048576) :
    Calls Try.prog 7 #[.agg #[.int .i64 id, .slice ad L.length cap]] w fun e w' => ∃ a c, e = .returned (.slice a (gatesR L).length c) ∧ FOwn boEnc 1 4 w.heap.size w' (.slice a (gatesR L).length c) (gatesR L) ∧ Below w.heap.size w w' := by
  rw [gatesR_len]
  exact gatesS12r id ad cap L w hv hl

end Go.Proofs.Ytghmmcenjdbfgab
