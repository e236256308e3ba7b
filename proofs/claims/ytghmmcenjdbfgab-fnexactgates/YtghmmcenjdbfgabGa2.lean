/- impl.Gates, walked. -/
import Derived.Test.YtghmmcenjdbfgabRows
import Derived.WalkKit
import Derived.ProofKit
import Derived.OpenShut
import Derived.ShutString
import Derived.ChangeOld
import Derived.Below
import Derived.Deep.QuietTactic
import Derived.BigQuiet
import Derived.WalkSmall
import Derived.Laws.OwnMore
import Derived.WalkSpells
import Derived.WalkLawsBesides
import Derived.Deep.Cut
import Derived.Test.YtghmmcenjdbfgabGa1
import Derived.Test.YtghmmcenjdbfgabBr1
namespace Go.Proofs.Ytghmmcenjdbfgab
open Go.ChangeShapes Go.WideShapes Go.ChangeAt Go.RowKit
open Go.ChangeMaps (open_string shut_string)
set_option linter.unusedVariables false
set_option maxRecDepth 100000

set_option maxHeartbeats 4000000 in
theorem gatesI12r (id : Int) (ad : Option Addr) (cap : Nat) (L : List Pt) (w : World) (hv : FView ptEnc w ad L) (hl : L.length ≤ 1048576) :
    Calls Try.prog 9 #[.agg #[.int .i64 id, .slice ad L.length cap]] w fun e w' => ∃ a c, e = .returned (.slice a L.length c) ∧ FOwn boEnc 1 4 w.heap.size w' (.slice a L.length c) (gatesR L) ∧ Below w.heap.size w w' := by
  obtain ⟨i0, hi, hz0, hz1, hz2⟩ := info_parts boInfo
  obtain ⟨y, hy⟩ : ∃ y, y = w.alloc (Obj.cells #[.int .i64 id, .slice ad L.length cap] 30) := ⟨_, rfl⟩
  have B0 : Below w.heap.size w y := by rw [hy]; exact below_new _
  have A : BrAt y w.heap.size id (.slice ad L.length cap) := by rw [hy]; exact BrAt.new w _ _ _
  have hB := hv.lt ptEnc_len (by omega)
  have hV := hv.below B0 hB
  have hB := hV.lt ptEnc_len (by omega)
  have S0 := A.lt
  clear hv
  go_enter Try.func9, Try.ntmps9
  go_upto_region 1 with fail
  rw [← hy]
  clear hy
  have cc := A
  obtain ⟨a0, a1'⟩ := cc
  go_wp2_with (first | (refine wpList_make_full _ rfl _ _ 26 rfl y.heap.size 4 i0 (.bool false) 1 Try.underlying26 hi hz0 hz1 .i64 .i64 _ _ L.length rfl rfl rfl rfl ?c1 ?c2 ?c3 ?_))
  case c1 => rw [hz2]; omega
  case c2 => unfold maxLen; omega
  case c3 => exact Nat.le_refl _
  intro w1 hown hgrow
  have hgl : (gatesR L).length = L.length := gatesR_len L
  have F0 : FFill boEnc 1 4 y.heap.size w1 y.heap.size (gatesR L) 0 := FFill.start (by rw [hgl]; exact hown)
  have B1 : Below y.heap.size y w1 := (Below.refl _ _).grown hgrow (Nat.le_refl _) (by simp)
  clear hown hgrow a0 a1'
  have A1 := A.below B1 S0
  have cc := A1
  obtain ⟨a0, a1'⟩ := cc
  go_wp2
  clear a0 a1'
  go_loopw [13] (fun i wr => ∃ k : Nat, k ≤ L.length ∧ i = .int .i64 k ∧ FFill boEnc 1 4 y.heap.size wr y.heap.size (gatesR L) k ∧ Below y.heap.size y wr) (fun i _ => L.length - (intOf i).toNat)
  case atStart => exact ⟨0, Nat.zero_le _, rfl, F0, B1⟩
  case round =>
    obtain ⟨k, hk, rfl, F, B⟩ := hrel
    clear F0 B1 A1
    by_cases hlt : k < L.length
    · obtain ⟨b, off, rfl, _⟩ := hV (by omega)
      obtain ⟨h, hh⟩ : ∃ h, L.getD k Pt.nil = h := ⟨_, rfl⟩
      have hck : PtAtO wr b (off + k * 11) h := by
        rw [← hh]
        exact ptAtO_of ((hV.below B hB).at_ ptEnc_len Pt.nil hlt)
      obtain ⟨c0, c1, c2, c3, c4, c5, c6, c7, c8, c9, c10⟩ := hck
      have hsz := F.lt
      obtain ⟨u, hu⟩ : ∃ u, u = wr.alloc (Obj.cells #[.bool h.up, .bool h.has, .int .i64 h.r, .int .i64 h.c, .int .i64 h.b, .int .i64 h.p, .int .i64 h.h, .int .i64 h.l, .int .i64 h.ro, .int .i64 h.wa, .bool h.op] 62) := ⟨_, rfl⟩
      have ku : Below wr.heap.size wr u := by rw [hu]; exact below_new _
      have G := F.keep (ku.block _ hsz.2)
      have B2 := B.trans (ku.mono (Nat.le_of_lt hsz.2))
      have U : PtAt u wr.heap.size h := by rw [hu]; exact ptAt_box wr _ _
      obtain ⟨v0, hv0⟩ := G.cell (k * 1) (by rw [hgl]; omega)
      have f0 := G.frozen (k * 1)
      rw [Nat.mul_one] at hv0 f0
      have G1 := G.step boEnc_len false (by rw [hgl]; exact hlt)
      have B3 := below_putAll (Nat.le_refl _) (boEnc h.op) (k * 1) B2
      rw [gatesR_at L hlt, hh] at G1
      simp only [boEnc, putAll, Nat.mul_one] at G1 B3
      clear F G B B2 hh hsz ku
      go_upto_region 5 with fail
      rw [← hu]
      clear hu c0 c1 c2 c3 c4 c5 c6 c7 c8 c9 c10
      obtain ⟨c0, c1, c2, c3, c4, c5, c6, c7, c8, c9, c10⟩ := U
      go_wp2
      go_roundw
      case rel => exact ⟨k + 1, by omega, by go_num, G1, B3⟩
      case measure => simp [intOf]; omega
    · obtain rfl : k = L.length := by omega
      have OZ : FOwn boEnc 1 4 w.heap.size wr (.slice (some ⟨y.heap.size, 0, none⟩) L.length L.length) (gatesR L) := by
        have := FFill.done boEnc_len (L := gatesR L) (by rw [hgl]; exact F)
        rw [hgl] at this
        exact this.base B0.size
      have bZ := B0.trans (B.mono B0.size)
      go_wp2
      go_ret
      exact ⟨_, _, rfl, OZ, bZ⟩
theorem gatesI12 (id : Int) (ad : Option Addr) (cap : Nat) (L : List Pt) (w : World) (hv : FView ptEnc w ad L) (hl : L.length ≤ 1048576) :
    Calls Try.prog 9 #[.agg #[.int .i64 id, .slice ad L.length cap]] w fun e w' => ∃ a c, e = .returned (.slice a (gatesR L).length c) ∧ FOwn boEnc 1 4 w.heap.size w' (.slice a (gatesR L).length c) (gatesR L) ∧ Below w.heap.size w w' := by
  rw [gatesR_len]
  exact gatesI12r id ad cap L w hv hl

end Go.Proofs.Ytghmmcenjdbfgab
