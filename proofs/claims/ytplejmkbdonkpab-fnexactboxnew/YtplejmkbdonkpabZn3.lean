/- What a new box is. impl.Gates, walked. impl.BoxNew, walked. Lists of minders: copied. laws.toBox, walked. spec.Gates, walked. spec.BridgeNew, walked. spec.l14Minds, spec.l15Who, walked. spec.BoxOk, walked. spec.BoxNew, walked. -/
import Derived.Test.YtplejmkbdonkpabZn2
import Derived.Test.YtplejmkbdonkpabRows
import Derived.WalkKit
import Derived.ProofKit
import Derived.OpenShut
import Derived.ShutString
import Derived.ChangeOld
import Derived.Below
import Derived.Deep.QuietTactic
import Derived.BigQuiet
import Derived.WalkSmall
import Derived.Laws.OwnMore
import Derived.WalkSpells
import Derived.WalkLawsBesides
import Derived.Deep.Cut
import Derived.Test.YtplejmkbdonkpabBr9
import Derived.Test.YtplejmkbdonkpabGa1
import Derived.Test.YtplejmkbdonkpabBr1
import Derived.Test.YtplejmkbdonkpabMd0
import Derived.Test.YtplejmkbdonkpabMi2
import Derived.Test.YtplejmkbdonkpabZn1
import Derived.Maps.AppendAt
import Derived.Test.YtplejmkbdonkpabBxd1
import Derived.Test.YtplejmkbdonkpabTakes
namespace Go.Proofs.Ytplejmkbdonkpab
open Go.ChangeShapes Go.WideShapes Go.ChangeAt Go.RowKit
open Go.ChangeMaps (open_string shut_string)
set_option linter.unusedVariables false
set_option maxRecDepth 100000

def twoD : List MiD := [⟨⟨true, 1, 1, [], 0, 0, 0⟩, none, 0⟩, ⟨⟨true, 2, 0, [], 0, 0, 0⟩, none, 0⟩]
theorem FOwn.nilM {X : Type} {enc : X → List Value} {n : Nat} {T : TypeId} {base : Nat} {w : World} : FOwn enc n T base w (.slice none 0 0) ([] : List X) := ⟨by simp [fcells], .inl ⟨rfl, rfl⟩⟩
theorem twoOwn (w : World) : MOwn w.heap.size (w.heap.size + 1) (w.alloc (Obj.cells #[.bool true, .int .i64 1, .int .i64 1, .slice none 0 0, .int .i64 0, .int .i64 0, .int .i64 0, .bool true, .int .i64 2, .int .i64 0, .slice none 0 0, .int .i64 0, .int .i64 0, .int .i64 0] 61)) (.slice (some ⟨w.heap.size, 0, none⟩) 2 2) twoD := by
  have hn : ∀ i, i < twoD.length → (twoD.getD i MiD.nil).v = .slice none 0 0 ∧ (twoD.getD i MiD.nil).m.lg = [] := fun i hi => by
    match i, hi with
    | 0, _ => exact ⟨rfl, rfl⟩
    | 1, _ => exact ⟨rfl, rfl⟩
  have hb : ∀ i, i < twoD.length → ∀ g, (twoD.getD i MiD.nil).v.ownBlock ≠ some g := fun i hi g e => by
    rw [(hn i hi).1] at e
    cases e
  refine ⟨⟨rfl, .inr ⟨w.heap.size, 2, #[.bool true, .int .i64 1, .int .i64 1, .slice none 0 0, .int .i64 0, .int .i64 0, .int .i64 0, .bool true, .int .i64 2, .int .i64 0, .slice none 0 0, .int .i64 0, .int .i64 0, .int .i64 0], rfl, Nat.le_refl _, heap_newF w _, Nat.le_refl _, by unfold maxLen; omega, rfl, rfl⟩⟩, fun i hi => ?_, fun g e => ?_, fun i hi g e => absurd e (hb i hi g), fun i hi g h _ e => absurd e (hb i hi h), fun i j _ hj g h _ e => absurd e (hb j hj h)⟩
  · rw [(hn i hi).1, (hn i hi).2]
    exact FOwn.nilM
  · obtain rfl : w.heap.size = g := by simpa [Value.ownBlock] using e
    omega
theorem newL_le (id po : Int) : (newL id po).length ≤ 4 := by
  unfold newL
  split
  · next h =>
    unfold nOk at h
    simp at h ⊢
    omega
  · simp
theorem newBx_okB (id po : Int) : bxOk (newBx id po) = nOk id po := by
  cases h : nOk id po
  · unfold bxOk newBx
    simp [h]
  · exact newBx_ok h
/-- What BoxNew answers. -/
def newX (id po : Int) : Bx := if nOk id po then newBx id po else BxD.zero.p
theorem newX_p (id po : Int) (q : Nat) (a : Option Addr) (c : Nat) : BxD.p ⟨id, po, ⟨1, 0, 0⟩, twoD, some ⟨q, 0, none⟩, 2, [], none, 0, gatesR (newL id po), a, c, [], none, 0, [], none, 0⟩ = newBx id po := rfl
theorem newX_sm (id po : Int) (q : Nat) (a : Option Addr) (c : Nat) : BxSm ⟨id, po, ⟨1, 0, 0⟩, twoD, some ⟨q, 0, none⟩, 2, [], none, 0, gatesR (newL id po), a, c, [], none, 0, [], none, 0⟩ := by
  have h := newL_le id po
  have hg : (gatesR (newL id po)).length ≤ 4 := by rw [gatesR_len]; exact h
  refine ⟨?_, ?_, Nat.zero_le _, ?_, Nat.zero_le _, Nat.zero_le _⟩
  · show (2 : Nat) ≤ _; omega
  · show (0 : Nat) ≤ _; omega
  · show (gatesR (newL id po)).length ≤ _; omega
theorem zero_sm : BxSm BxD.zero := ⟨Nat.zero_le _, Nat.zero_le _, Nat.zero_le _, Nat.zero_le _, Nat.zero_le _, Nat.zero_le _⟩
theorem zeroN {lo hi : Nat} {w : World} (h : lo ≤ hi) : BxN lo lo hi w BxD.zero := by
  refine ⟨⟨FOwn.nilM, fun i hi => absurd hi (Nat.not_lt_zero _), fun g e => (by cases e), fun i hi => absurd hi (Nat.not_lt_zero _), fun i hi => absurd hi (Nat.not_lt_zero _), fun i j _ hj => absurd hj (Nat.not_lt_zero _)⟩, FOwn.nilM, FOwn.nilM, FOwn.nilM, FOwn.nilM, fun b e => (by cases e), fun b e => (by cases e), fun b e => (by cases e), fun b e => (by cases e), Nat.le_refl _, h⟩

end Go.Proofs.Ytplejmkbdonkpab
namespace Go.Proofs.Ytplejmkbdonkpab
open Go.ChangeShapes Go.WideShapes Go.ChangeAt Go.RowKit
open Go.ChangeMaps (open_string shut_string)
set_option linter.unusedVariables false
set_option maxRecDepth 100000

set_option maxHeartbeats 4000000 in
theorem gatesI12r (id : Int) (ad : Option Addr) (cap : Nat) (L : List Pt) (w : World) (hv : FView ptEnc w ad L) (hl : L.length ≤ 1048576) :
    Calls Try.prog 48 #[.agg #[.int .i64 id, .slice ad L.length cap]] w fun e w' => ∃ a c, e = .returned (.slice a L.length c) ∧ FOwn boEnc 1 4 w.heap.size w' (.slice a L.length c) (gatesR L) ∧ Below w.heap.size w w' := by
  obtain ⟨i0, hi, hz0, hz1, hz2⟩ := info_parts boInfo
  obtain ⟨y, hy⟩ : ∃ y, y = w.alloc (Obj.cells #[.int .i64 id, .slice ad L.length cap] 55) := ⟨_, rfl⟩
  have B0 : Below w.heap.size w y := by rw [hy]; exact below_new _
  have A : BrAt y w.heap.size id (.slice ad L.length cap) := by rw [hy]; exact BrAt.new w _ _ _
  have hB := hv.lt ptEnc_len (by omega)
  have hV := hv.below B0 hB
  have hB := hV.lt ptEnc_len (by omega)
  have S0 := A.lt
  clear hv
  go_enter Try.func48, Try.ntmps48
  go_upto_region 1 with fail
  rw [← hy]
  clear hy
  have cc := A
  obtain ⟨a0, a1'⟩ := cc
  go_wp2_with (first | (refine wpList_make_full _ rfl _ _ 26 rfl y.heap.size 4 i0 (.bool false) 1 Try.underlying26 hi hz0 hz1 .i64 .i64 _ _ L.length rfl rfl rfl rfl ?c1 ?c2 ?c3 ?_))
  case c1 => rw [hz2]; omega
  case c2 => unfold maxLen; omega
  case c3 => exact Nat.le_refl _
  intro w1 hown hgrow
  have hgl : (gatesR L).length = L.length := gatesR_len L
  have F0 : FFill boEnc 1 4 y.heap.size w1 y.heap.size (gatesR L) 0 := FFill.start (by rw [hgl]; exact hown)
  have B1 : Below y.heap.size y w1 := (Below.refl _ _).grown hgrow (Nat.le_refl _) (by simp)
  clear hown hgrow a0 a1'
  have A1 := A.below B1 S0
  have cc := A1
  obtain ⟨a0, a1'⟩ := cc
  go_wp2
  clear a0 a1'
  go_loopw [13] (fun i wr => ∃ k : Nat, k ≤ L.length ∧ i = .int .i64 k ∧ FFill boEnc 1 4 y.heap.size wr y.heap.size (gatesR L) k ∧ Below y.heap.size y wr) (fun i _ => L.length - (intOf i).toNat)
  case atStart => exact ⟨0, Nat.zero_le _, rfl, F0, B1⟩
  case round =>
    obtain ⟨k, hk, rfl, F, B⟩ := hrel
    clear F0 B1 A1
    by_cases hlt : k < L.length
    · obtain ⟨b, off, rfl, _⟩ := hV (by omega)
      obtain ⟨h, hh⟩ : ∃ h, L.getD k Pt.nil = h := ⟨_, rfl⟩
      have hck : PtAtO wr b (off + k * 11) h := by
        rw [← hh]
        exact ptAtO_of ((hV.below B hB).at_ ptEnc_len Pt.nil hlt)
      obtain ⟨c0, c1, c2, c3, c4, c5, c6, c7, c8, c9, c10⟩ := hck
      have hsz := F.lt
      obtain ⟨u, hu⟩ : ∃ u, u = wr.alloc (Obj.cells #[.bool h.up, .bool h.has, .int .i64 h.r, .int .i64 h.c, .int .i64 h.b, .int .i64 h.p, .int .i64 h.h, .int .i64 h.l, .int .i64 h.ro, .int .i64 h.wa, .bool h.op] 96) := ⟨_, rfl⟩
      have ku : Below wr.heap.size wr u := by rw [hu]; exact below_new _
      have G := F.keep (ku.block _ hsz.2)
      have B2 := B.trans (ku.mono (Nat.le_of_lt hsz.2))
      have U : PtAt u wr.heap.size h := by rw [hu]; exact ptAt_box wr _ _
      obtain ⟨v0, hv0⟩ := G.cell (k * 1) (by rw [hgl]; omega)
      have f0 := G.frozen (k * 1)
      rw [Nat.mul_one] at hv0 f0
      have G1 := G.step boEnc_len false (by rw [hgl]; exact hlt)
      have B3 := below_putAll (Nat.le_refl _) (boEnc h.op) (k * 1) B2
      rw [gatesR_at L hlt, hh] at G1
      simp only [boEnc, putAll, Nat.mul_one] at G1 B3
      clear F G B B2 hh hsz ku
      go_upto_region 5 with fail
      rw [← hu]
      clear hu c0 c1 c2 c3 c4 c5 c6 c7 c8 c9 c10
      obtain ⟨c0, c1, c2, c3, c4, c5, c6, c7, c8, c9, c10⟩ := U
      go_wp2
      go_roundw
      case rel => exact ⟨k + 1, by omega, by go_num, G1, B3⟩
      case measure => simp [intOf]; omega
    · obtain rfl : k = L.length := by omega
      have OZ : FOwn boEnc 1 4 w.heap.size wr (.slice (some ⟨y.heap.size, 0, none⟩) L.length L.length) (gatesR L) := by
        have := FFill.done boEnc_len (L := gatesR L) (by rw [hgl]; exact F)
        rw [hgl] at this
        exact this.base B0.size
      have bZ := B0.trans (B.mono B0.size)
      go_wp2
      go_ret
      exact ⟨_, _, rfl, OZ, bZ⟩
theorem gatesI12 (id : Int) (ad : Option Addr) (cap : Nat) (L : List Pt) (w : World) (hv : FView ptEnc w ad L) (hl : L.length ≤ 1048576) :
    Calls Try.prog 48 #[.agg #[.int .i64 id, .slice ad L.length cap]] w fun e w' => ∃ a c, e = .returned (.slice a (gatesR L).length c) ∧ FOwn boEnc 1 4 w.heap.size w' (.slice a (gatesR L).length c) (gatesR L) ∧ Below w.heap.size w w' := by
  rw [gatesR_len]
  exact gatesI12r id ad cap L w hv hl

end Go.Proofs.Ytplejmkbdonkpab
namespace Go.Proofs.Ytplejmkbdonkpab
open Go.ChangeShapes Go.WideShapes Go.ChangeAt Go.RowKit
open Go.ChangeMaps (open_string shut_string)
set_option linter.unusedVariables false
set_option maxRecDepth 100000

set_option maxHeartbeats 4000000 in
theorem newXI (id po : Int) (w : World) :
    Calls Try.prog 12 #[.int .i64 id, .int .i64 po] w fun e w' => ∃ x2 : BxD, (e = .returned (.tuple #[.agg #[.int .i64 x2.id, .int .i64 x2.po, .int .i64 x2.rg.ep, .int .i64 x2.rg.ow, .int .i64 x2.rg.pa, .slice x2.aT x2.two.length x2.cT, .slice x2.aN x2.net.length x2.cN, .slice x2.aG x2.ga.length x2.cG, .slice x2.aL x2.ln.length x2.cL, .slice x2.aS x2.sd.length x2.cS], .bool (nOk id po)]) ∧ x2.p = newX id po ∧ BxSm x2) ∧ (∃ mid, BxN w.heap.size mid w'.heap.size w' x2) ∧ Below w.heap.size w w' := by
  obtain ⟨y, hy⟩ : ∃ y, y = w.alloc (Obj.cells #[.int .i64 0, .int .i64 0, .int .i64 0, .int .i64 0, .int .i64 0, .slice none 0 0, .slice none 0 0, .slice none 0 0, .slice none 0 0, .slice none 0 0] 39) := ⟨_, rfl⟩
  have B0 : Below w.heap.size w y := by rw [hy]; exact below_new _
  have Z : BxB y w.heap.size BxD.zero := by rw [hy]; refine ⟨?_, fun i => ?_⟩; constructor <;> simp [go_sem, BxD.zero]; simp [go_sem]
  go_enter Try.func12, Try.ntmps12
  go_wp2_with fail
  go_at_call 33
  rw [← hy]
  clear hy
  refine (newBI id po y).mono ?_
  rintro e u0 ⟨ad', cap', rfl, O', k0⟩
  have Z := Z.below k0 Z.lt
  have B1 := B0.trans (k0.mono B0.size)
  have s0 := k0.size
  have zl := Z.lt
  clear k0 B0
  obtain ⟨u1, hu1⟩ : ∃ y_, y_ = u0.alloc (Obj.cells #[.int .i64 (newI id po), .slice ad' (newL id po).length cap'] 55) := ⟨_, rfl⟩
  have kk : Below u0.heap.size u0 u1 := by rw [hu1]; exact below_new _
  have BB : BrAt u1 u0.heap.size (newI id po) (.slice ad' (newL id po).length cap') := by rw [hu1]; exact BrAt.new u0 _ _ _
  have Z := Z.below kk Z.lt
  have O' := O'.later kk
  have B2 := B1.trans (kk.mono B1.size)
  have s1 := BB.lt
  clear kk B1
  go_upto_region 2 with fail
  rw [← hu1]
  clear hu1
  obtain ⟨qb, hqb⟩ : ∃ q, q = u0.heap.size := ⟨_, rfl⟩
  rw [← hqb] at BB s1 ⊢
  replace hqb := Nat.le_of_eq hqb.symm
  cases h1 : nOk id po
  · have hX : Hid (newX id po = BxD.zero.p) := by unfold Hid newX; rw [h1]; rfl
    replace h1 : Hid _ := h1
    obtain ⟨W9, hW9⟩ : ∃ y_, y_ = ((((((((((u1.setCell ⟨w.heap.size, 0, none⟩ (.int .i64 0)).setCell ⟨w.heap.size, 1, none⟩ (.int .i64 0)).setCell ⟨w.heap.size, 2, none⟩ (.int .i64 0)).setCell ⟨w.heap.size, 3, none⟩ (.int .i64 0)).setCell ⟨w.heap.size, 4, none⟩ (.int .i64 0)).setCell ⟨w.heap.size, 5, none⟩ (.slice none 0 0)).setCell ⟨w.heap.size, 6, none⟩ (.slice none 0 0)).setCell ⟨w.heap.size, 7, none⟩ (.slice none 0 0)).setCell ⟨w.heap.size, 8, none⟩ (.slice none 0 0)).setCell ⟨w.heap.size, 9, none⟩ (.slice none 0 0)) := ⟨_, rfl⟩
    have ZZ : BxB W9 w.heap.size BxD.zero := by rw [hW9]; exact Z.put BxD.zero
    have kp : ∀ k, k ≠ w.heap.size → W9.heap[k]? = u1.heap[k]? := fun k hk => by rw [hW9, Below.heap_setCell _ _ _ _ hk, Below.heap_setCell _ _ _ _ hk, Below.heap_setCell _ _ _ _ hk, Below.heap_setCell _ _ _ _ hk, Below.heap_setCell _ _ _ _ hk, Below.heap_setCell _ _ _ _ hk, Below.heap_setCell _ _ _ _ hk, Below.heap_setCell _ _ _ _ hk, Below.heap_setCell _ _ _ _ hk, Below.heap_setCell _ _ _ _ hk]
    have B9 : Below w.heap.size w W9 := by rw [hW9]; exact ((((((((((B2.setCell (p := ⟨w.heap.size, 0, none⟩) (Nat.le_refl _) _).setCell (p := ⟨w.heap.size, 1, none⟩) (Nat.le_refl _) _).setCell (p := ⟨w.heap.size, 2, none⟩) (Nat.le_refl _) _).setCell (p := ⟨w.heap.size, 3, none⟩) (Nat.le_refl _) _).setCell (p := ⟨w.heap.size, 4, none⟩) (Nat.le_refl _) _).setCell (p := ⟨w.heap.size, 5, none⟩) (Nat.le_refl _) _).setCell (p := ⟨w.heap.size, 6, none⟩) (Nat.le_refl _) _).setCell (p := ⟨w.heap.size, 7, none⟩) (Nat.le_refl _) _).setCell (p := ⟨w.heap.size, 8, none⟩) (Nat.le_refl _) _).setCell (p := ⟨w.heap.size, 9, none⟩) (Nat.le_refl _) _)
    have s9 : W9.heap.size = u1.heap.size := by rw [hW9]; simp
    have hM : ∃ mid, BxN w.heap.size mid W9.heap.size W9 BxD.zero := ⟨_, zeroN B9.size⟩
    obtain ⟨⟨t0, t1, t2, t3, t4, t5, t6, t7, t8, t9⟩, tf⟩ := ZZ
    clear tf
    try dsimp only [BxD.zero] at t0 t1 t2 t3 t4 t5 t6 t7 t8 t9
    have cc := Z
    obtain ⟨⟨z0, z1, z2, z3, z4, z5, z6, z7, z8, z9⟩, zf⟩ := cc
    have e0 := zf 0
    have e1 := zf 1
    have e2 := zf 2
    have e3 := zf 3
    have e4 := zf 4
    have e5 := zf 5
    have e6 := zf 6
    have e7 := zf 7
    have e8 := zf 8
    have e9 := zf 9
    clear zf
    go_wp2
    refine bodyPost_ret (v := .tuple #[.agg #[.int .i64 0, .int .i64 0, .int .i64 0, .int .i64 0, .int .i64 0, .slice none 0 0, .slice none 0 0, .slice none 0 0, .slice none 0 0, .slice none 0 0], .bool false]) (by simp [results, Try.results12, go_sem, *]) rfl ⟨BxD.zero, ⟨by rw [h1.out]; rfl, hX.out.symm, zero_sm⟩, ?_, ?_⟩
    · rw [← hW9]; exact hM
    · rw [← hW9]; exact B9
  · have hX : Hid (newX id po = newBx id po) := by unfold Hid newX; rw [h1]; rfl
    replace h1 : Hid _ := h1
    have cc := BB
    obtain ⟨bb0, bb1⟩ := cc
    obtain ⟨u2, hu2⟩ : ∃ y_, y_ = u1.alloc (Obj.cells #[.bool true, .int .i64 1, .int .i64 1, .slice none 0 0, .int .i64 0, .int .i64 0, .int .i64 0, .bool true, .int .i64 2, .int .i64 0, .slice none 0 0, .int .i64 0, .int .i64 0, .int .i64 0] 61) := ⟨_, rfl⟩
    have OT : MOwn u1.heap.size (u1.heap.size + 1) u2 (.slice (some ⟨u1.heap.size, 0, none⟩) 2 2) twoD := by rw [hu2]; exact twoOwn u1
    have kk : Below u1.heap.size u1 u2 := by rw [hu2]; exact below_new _
    have Z := Z.below kk Z.lt
    have BB := BB.below kk BB.lt
    have O' := O'.later kk
    have B3 := B2.trans (kk.mono B2.size)
    have s2 : u1.heap.size < u2.heap.size := by rw [hu2]; simp
    clear kk B2
    go_wp2_with fail
    go_at_call 48
    rw [← hu2]
    clear hu2 bb0 bb1
    obtain ⟨q2, hq2⟩ : ∃ q, q = u1.heap.size := ⟨_, rfl⟩
    rw [← hq2] at OT s2 ⊢
    replace hq2 := Nat.le_of_eq hq2.symm
    refine (gatesI12 (newI id po) ad' cap' (newL id po) u2 O'.view.2 (Nat.le_trans (newL_le id po) (by omega))).mono ?_
    rintro e u3 ⟨aG, cG, rfl, OG, k3⟩
    have Z := Z.below k3 Z.lt
    have OT := OT.below k3 (by omega)
    have B4 := B3.trans (k3.mono B3.size)
    have s3 := k3.size
    clear k3 B3
    obtain ⟨W9, hW9⟩ : ∃ y_, y_ = ((((((((((u3.setCell ⟨w.heap.size, 0, none⟩ (.int .i64 id)).setCell ⟨w.heap.size, 1, none⟩ (.int .i64 po)).setCell ⟨w.heap.size, 2, none⟩ (.int .i64 1)).setCell ⟨w.heap.size, 3, none⟩ (.int .i64 0)).setCell ⟨w.heap.size, 4, none⟩ (.int .i64 0)).setCell ⟨w.heap.size, 5, none⟩ (.slice (some ⟨q2, 0, none⟩) 2 2)).setCell ⟨w.heap.size, 6, none⟩ (.slice none 0 0)).setCell ⟨w.heap.size, 7, none⟩ (.slice aG (gatesR (newL id po)).length cG)).setCell ⟨w.heap.size, 8, none⟩ (.slice none 0 0)).setCell ⟨w.heap.size, 9, none⟩ (.slice none 0 0)) := ⟨_, rfl⟩
    have ZZ : BxB W9 w.heap.size ⟨id, po, ⟨1, 0, 0⟩, twoD, some ⟨q2, 0, none⟩, 2, [], none, 0, gatesR (newL id po), aG, cG, [], none, 0, [], none, 0⟩ := by rw [hW9]; exact Z.put ⟨id, po, ⟨1, 0, 0⟩, twoD, some ⟨q2, 0, none⟩, 2, [], none, 0, gatesR (newL id po), aG, cG, [], none, 0, [], none, 0⟩
    have kp : ∀ k, k ≠ w.heap.size → W9.heap[k]? = u3.heap[k]? := fun k hk => by rw [hW9, Below.heap_setCell _ _ _ _ hk, Below.heap_setCell _ _ _ _ hk, Below.heap_setCell _ _ _ _ hk, Below.heap_setCell _ _ _ _ hk, Below.heap_setCell _ _ _ _ hk, Below.heap_setCell _ _ _ _ hk, Below.heap_setCell _ _ _ _ hk, Below.heap_setCell _ _ _ _ hk, Below.heap_setCell _ _ _ _ hk, Below.heap_setCell _ _ _ _ hk]
    have B9 : Below w.heap.size w W9 := by rw [hW9]; exact ((((((((((B4.setCell (p := ⟨w.heap.size, 0, none⟩) (Nat.le_refl _) _).setCell (p := ⟨w.heap.size, 1, none⟩) (Nat.le_refl _) _).setCell (p := ⟨w.heap.size, 2, none⟩) (Nat.le_refl _) _).setCell (p := ⟨w.heap.size, 3, none⟩) (Nat.le_refl _) _).setCell (p := ⟨w.heap.size, 4, none⟩) (Nat.le_refl _) _).setCell (p := ⟨w.heap.size, 5, none⟩) (Nat.le_refl _) _).setCell (p := ⟨w.heap.size, 6, none⟩) (Nat.le_refl _) _).setCell (p := ⟨w.heap.size, 7, none⟩) (Nat.le_refl _) _).setCell (p := ⟨w.heap.size, 8, none⟩) (Nat.le_refl _) _).setCell (p := ⟨w.heap.size, 9, none⟩) (Nat.le_refl _) _)
    have s9 : W9.heap.size = u3.heap.size := by rw [hW9]; simp
    have OT := OT.keep (w' := W9) (fun g h1 h2 => kp g (by omega))
    have OG := OG.keep (w' := W9) (fun g e => kp g (by have := (OG.lt g e).1; omega))
    have hM : ∃ mid, BxN w.heap.size mid W9.heap.size W9 ⟨id, po, ⟨1, 0, 0⟩, twoD, some ⟨q2, 0, none⟩, 2, [], none, 0, gatesR (newL id po), aG, cG, [], none, 0, [], none, 0⟩ := by
      refine ⟨u2.heap.size, OT.wide (by omega) (by omega), FOwn.nilM, OG, FOwn.nilM, FOwn.nilM, fun b e => (by cases e), fun b e => (OG.lt b e).2, fun b e => (by cases e), fun b e => (by cases e), by omega, by omega⟩
    obtain ⟨⟨t0, t1, t2, t3, t4, t5, t6, t7, t8, t9⟩, tf⟩ := ZZ
    clear tf
    try dsimp only [BxD.zero] at t0 t1 t2 t3 t4 t5 t6 t7 t8 t9
    have cc := Z
    obtain ⟨⟨z0, z1, z2, z3, z4, z5, z6, z7, z8, z9⟩, zf⟩ := cc
    have e0 := zf 0
    have e1 := zf 1
    have e2 := zf 2
    have e3 := zf 3
    have e4 := zf 4
    have e5 := zf 5
    have e6 := zf 6
    have e7 := zf 7
    have e8 := zf 8
    have e9 := zf 9
    clear zf
    go_wp2
    refine bodyPost_ret (v := .tuple #[.agg #[.int .i64 id, .int .i64 po, .int .i64 1, .int .i64 0, .int .i64 0, .slice (some ⟨q2, 0, none⟩) 2 2, .slice none 0 0, .slice aG (gatesR (newL id po)).length cG, .slice none 0 0, .slice none 0 0], .bool true]) (by simp [results, Try.results12, go_sem, *]) rfl ⟨⟨id, po, ⟨1, 0, 0⟩, twoD, some ⟨q2, 0, none⟩, 2, [], none, 0, gatesR (newL id po), aG, cG, [], none, 0, [], none, 0⟩, ⟨by rw [h1.out]; rfl, (newX_p id po q2 aG cG).trans hX.out.symm, newX_sm id po q2 aG cG⟩, ?_, ?_⟩
    · rw [← hW9]; exact hM
    · rw [← hW9]; exact B9

end Go.Proofs.Ytplejmkbdonkpab
namespace Go.Proofs.Ytplejmkbdonkpab
open Go.ChangeShapes Go.WideShapes Go.ChangeAt Go.RowKit
open Go.ChangeMaps (open_string shut_string)
set_option linter.unusedVariables false
set_option maxRecDepth 100000

/-- The same, its list at the block n. -/
def MiD.to (m : MiD) (n : Nat) : MiD := ⟨m.m, some ⟨n, 0, none⟩, m.m.lg.length⟩
/-- The list of the copies. -/
def cpyM (Bs : List MiD) (Ns : Nat → Nat) : List MiD := (List.range Bs.length).map (fun j => (Bs.getD j MiD.nil).to (Ns j))
theorem cpyM_len (Bs : List MiD) (Ns : Nat → Nat) : (cpyM Bs Ns).length = Bs.length := by simp [cpyM]
theorem cpyM_get (Bs : List MiD) (Ns : Nat → Nat) {j : Nat} (h : j < Bs.length) : (cpyM Bs Ns).getD j MiD.nil = (Bs.getD j MiD.nil).to (Ns j) := by simp [cpyM, List.getD, h]
theorem cpyM_d (Bs : List MiD) (Ns : Nat → Nat) : (cpyM Bs Ns).map MiD.m = Bs.map MiD.m := by
  refine List.ext_getElem (by simp [cpyM]) fun i h1 h2 => ?_
  have hi : i < Bs.length := by simpa using h2
  simp [cpyM, MiD.to, List.getD, hi]
theorem FFill.congrM {X : Type} {enc : X → List Value} {n : Nat} (hn : ∀ x, (enc x).length = n) (h0 : 0 < n) (d : X) {T : TypeId} {base : Nat} {w : World} {g : Nat} {L M : List X} {k : Nat} (h : FFill enc n T base w g L k) (hk : k ≤ L.length) (hl : M.length = L.length) (e : ∀ i, i < k → M.getD i d = L.getD i d) : FFill enc n T base w g M k := by
  obtain ⟨xs, h1, h2⟩ := h
  refine ⟨xs, by rw [hl]; exact h1, fun j hj => ?_⟩
  rw [h2 j hj]
  have hq : j / n < k := Nat.div_lt_of_lt_mul (by rw [Nat.mul_comm]; exact hj)
  have hr : j % n < n := Nat.mod_lt _ h0
  have ej : j = j / n * n + j % n := by rw [Nat.mul_comm]; exact (Nat.div_add_mod j n).symm
  rw [ej, fcells_at hn d L _ _ (by omega) hr, fcells_at hn d M _ _ (by omega) hr, e _ hq]
/-- What a loop that fills the block B with minders has done behind k rounds; Ns: where their lists lie. -/
structure MF (B : Nat) (Bs : List MiD) (Ns : Nat → Nat) (k : Nat) (w wr : World) : Prop where
  bel : Below B w wr
  fill : FFill mdEnc 7 61 B wr B (cpyM Bs Ns) k
  nest : ∀ j, j < k → FOwn ikEnc 8 74 B wr (.slice (some ⟨Ns j, 0, none⟩) (Bs.getD j MiD.nil).m.lg.length (Bs.getD j MiD.nil).m.lg.length) (Bs.getD j MiD.nil).m.lg
  nb : ∀ j, j < k → B < Ns j ∧ Ns j < wr.heap.size
  inc : ∀ i j, i < j → j < k → Ns i < Ns j
theorem MF.later {B : Nat} {Bs : List MiD} {Ns : Nat → Nat} {k : Nat} {w wr w2 : World} (h : MF B Bs Ns k w wr) (b : Below wr.heap.size wr w2) : MF B Bs Ns k w w2 := by
  have hl := h.fill.lt
  have hs := b.size
  exact ⟨h.bel.trans (b.mono (by omega)), h.fill.keep (b.block _ hl.2), fun j hj => (h.nest j hj).later b, fun j hj => ⟨(h.nb j hj).1, by have := (h.nb j hj).2; omega⟩, h.inc⟩
theorem MF.step {B : Nat} {Bs : List MiD} {Ns : Nat → Nat} {k : Nat} {w wr : World} {N : Nat} (h : MF B Bs Ns k w wr) (hk : k < Bs.length) (hN : B < N ∧ N < wr.heap.size) (hi : ∀ j, j < k → Ns j < N)
    (hv : FOwn ikEnc 8 74 B wr (.slice (some ⟨N, 0, none⟩) (Bs.getD k MiD.nil).m.lg.length (Bs.getD k MiD.nil).m.lg.length) (Bs.getD k MiD.nil).m.lg) :
    MF B Bs (fun j => if j = k then N else Ns j) (k + 1) w (((((((wr.setCell ⟨B, k * 7, none⟩ (.bool (Bs.getD k MiD.nil).m.up)).setCell ⟨B, k * 7 + 1, none⟩ (.int .i64 (Bs.getD k MiD.nil).m.li)).setCell ⟨B, k * 7 + 2, none⟩ (.int .i64 (Bs.getD k MiD.nil).m.ep)).setCell ⟨B, k * 7 + 3, none⟩ (.slice (some ⟨N, 0, none⟩) (Bs.getD k MiD.nil).m.lg.length (Bs.getD k MiD.nil).m.lg.length)).setCell ⟨B, k * 7 + 4, none⟩ (.int .i64 (Bs.getD k MiD.nil).m.sd)).setCell ⟨B, k * 7 + 5, none⟩ (.int .i64 (Bs.getD k MiD.nil).m.ac)).setCell ⟨B, k * 7 + 6, none⟩ (.int .i64 (Bs.getD k MiD.nil).m.al)) := by
  have hb : ∀ g, g ≠ B → (((((((wr.setCell ⟨B, k * 7, none⟩ (.bool (Bs.getD k MiD.nil).m.up)).setCell ⟨B, k * 7 + 1, none⟩ (.int .i64 (Bs.getD k MiD.nil).m.li)).setCell ⟨B, k * 7 + 2, none⟩ (.int .i64 (Bs.getD k MiD.nil).m.ep)).setCell ⟨B, k * 7 + 3, none⟩ (.slice (some ⟨N, 0, none⟩) (Bs.getD k MiD.nil).m.lg.length (Bs.getD k MiD.nil).m.lg.length)).setCell ⟨B, k * 7 + 4, none⟩ (.int .i64 (Bs.getD k MiD.nil).m.sd)).setCell ⟨B, k * 7 + 5, none⟩ (.int .i64 (Bs.getD k MiD.nil).m.ac)).setCell ⟨B, k * 7 + 6, none⟩ (.int .i64 (Bs.getD k MiD.nil).m.al)).heap[g]? = wr.heap[g]? := fun g hg => by
    rw [Below.heap_setCell _ _ _ _ hg, Below.heap_setCell _ _ _ _ hg, Below.heap_setCell _ _ _ _ hg, Below.heap_setCell _ _ _ _ hg, Below.heap_setCell _ _ _ _ hg, Below.heap_setCell _ _ _ _ hg, Below.heap_setCell _ _ _ _ hg]
  have F : FFill mdEnc 7 61 B wr B (cpyM Bs (fun j => if j = k then N else Ns j)) k := h.fill.congrM mdEnc_len (by omega) MiD.nil (by rw [cpyM_len]; omega) (by rw [cpyM_len, cpyM_len]) (fun i hi => by
    rw [cpyM_get _ _ (by omega), cpyM_get _ _ (by omega)]
    have : i ≠ k := by omega
    simp only [this, if_false])
  have F1 := F.step mdEnc_len MiD.nil (by rw [cpyM_len]; exact hk)
  rw [cpyM_get _ _ hk, mdPut] at F1
  simp only [if_true, MiD.to] at F1
  refine ⟨(((((((h.bel.setCell (Nat.le_refl _) _).setCell (Nat.le_refl _) _).setCell (Nat.le_refl _) _).setCell (Nat.le_refl _) _).setCell (Nat.le_refl _) _).setCell (Nat.le_refl _) _).setCell (Nat.le_refl _) _), F1, fun j hj => ?_, fun j hj => ?_, fun i j hij hj => ?_⟩
  · by_cases e : j = k
    · subst e
      simp only [if_true]
      exact hv.keep (fun g q => hb _ (by have : N = g := by simpa [Value.ownBlock] using q
                                         omega))
    · simp only [e, if_false]
      exact (h.nest j (by omega)).keep (fun g q => hb _ (by have : Ns j = g := by simpa [Value.ownBlock] using q
                                                            have := (h.nb j (by omega)).1
                                                            omega))
  · by_cases e : j = k
    · simp only [e, if_true]; simpa using hN
    · simp only [e, if_false]; simpa using h.nb j (by omega)
  · by_cases e : j = k
    · have : i ≠ k := by omega
      simp only [e, this, if_true, if_false]
      exact hi i (by omega)
    · have : i ≠ k := by omega
      simp only [e, this, if_false]
      exact h.inc i j hij (by omega)
theorem MF.own {B : Nat} {Bs : List MiD} {Ns : Nat → Nat} {w wr : World} (h : MF B Bs Ns Bs.length w wr) : MOwn B wr.heap.size wr (.slice (some ⟨B, 0, none⟩) Bs.length Bs.length) (cpyM Bs Ns) := by
  have hl := cpyM_len Bs Ns
  have F := h.fill
  rw [← hl] at F
  have O := F.done mdEnc_len
  rw [hl] at O
  have hv : ∀ i, i < Bs.length → ((cpyM Bs Ns).getD i MiD.nil).v = .slice (some ⟨Ns i, 0, none⟩) (Bs.getD i MiD.nil).m.lg.length (Bs.getD i MiD.nil).m.lg.length := fun i hi => by rw [cpyM_get _ _ hi]; rfl
  have hb : ∀ i, i < Bs.length → ∀ g, ((cpyM Bs Ns).getD i MiD.nil).v.ownBlock = some g → Ns i = g := fun i hi g e => by
    rw [hv i hi] at e
    simpa [Value.ownBlock] using e
  refine ⟨O, fun i hi => ?_, fun g e => ?_, fun i hi g e => ?_, fun i hi g g' e e' => ?_, fun i j hij hj g g' e e' => ?_⟩
  · rw [hl] at hi
    rw [hv i hi, cpyM_get _ _ hi]
    exact h.nest i hi
  · obtain rfl : B = g := by simpa [Value.ownBlock] using e
    exact h.fill.lt.2
  · rw [hl] at hi
    have := hb i hi g e
    have := (h.nb i hi).2
    omega
  · rw [hl] at hi
    have := hb i hi g' e'
    have := (h.nb i hi).1
    obtain rfl : B = g := by simpa [Value.ownBlock] using e
    omega
  · rw [hl] at hj
    have := hb i (by omega) g e
    have := hb j hj g' e'
    have := h.inc i j hij hj
    omega
theorem mf_made {w w1 : World} {Bs : List MiD} {Ns : Nat → Nat} {xs : List Value} (hown : w1.ownsRow w.heap.size 61 7 (.slice (some ⟨w.heap.size, 0, none⟩) Bs.length Bs.length) Bs.length xs) (hgrow : w.grownBy w1 none) : MF w.heap.size Bs Ns 0 w w1 := by
  refine ⟨(Below.refl _ _).grown hgrow (Nat.le_refl _) (by simp), FFill.start (by rw [cpyM_len]; exact hown), fun j hj => by omega, fun j hj => by omega, fun i j _ hj => by omega⟩
theorem mdInfo2 : (Try.prog.info? 61).map (fun i => (i.zero, i.size, i.bytes)) = some (some (.agg #[.bool false, .int .i64 0, .int .i64 0, .slice none 0 0, .int .i64 0, .int .i64 0, .int .i64 0]), 7, 72) := by kernel_rfl
set_option maxHeartbeats 1000000 in
theorem mdTo (ad : Option Addr) (cap : Nat) (Bs : List MiD) (w : World) (hv : MV w ad Bs) (hl : Bs.length ≤ 1048576) (hls : ∀ i, i < Bs.length → (Bs.getD i MiD.nil).m.lg.length ≤ 1048576) :
    Calls Try.prog 28 #[.slice ad Bs.length cap] w fun e w' => ∃ Ns, e = .returned (.slice (some ⟨w.heap.size, 0, none⟩) Bs.length Bs.length) ∧ MF w.heap.size Bs Ns Bs.length w w' := by
  obtain ⟨i0, hi, hz0, hz1, hz2⟩ := info_parts mdInfo2
  go_enter Try.func28, Try.ntmps28
  go_wp2_with (first | (refine wpList_make_full _ rfl _ _ 34 rfl w.heap.size 61 i0 (.agg #[.bool false, .int .i64 0, .int .i64 0, .slice none 0 0, .int .i64 0, .int .i64 0, .int .i64 0]) 7 Try.underlying34 hi hz0 hz1 .i64 .i64 _ _ Bs.length rfl rfl rfl rfl ?c1 ?c2 ?c3 ?_))
  case c1 => rw [hz2]; omega
  case c2 => unfold maxLen; omega
  case c3 => exact Nat.le_refl _
  intro w1 hown hgrow
  have F0 : MF w.heap.size Bs (fun _ => 0) 0 w w1 := mf_made hown hgrow
  clear hown hgrow
  go_wp2
  go_loopw [4] (fun i wr => ∃ (k : Nat) (Ns : Nat → Nat), k ≤ Bs.length ∧ i = .int .i64 k ∧ MF w.heap.size Bs Ns k w wr) (fun i _ => Bs.length - (intOf i).toNat)
  case atStart => exact ⟨0, _, Nat.zero_le _, rfl, F0⟩
  case round =>
    obtain ⟨k, Ns, hk, rfl, F⟩ := hrel
    clear F0
    by_cases hlt : k < Bs.length
    · obtain ⟨b, off, rfl⟩ := hv.ad_ (by omega)
      have hck := (hv.below F.bel (Nat.le_refl _)).at_ hlt
      have hnk := (hv.below F.bel (Nat.le_refl _)).nest k hlt
      have hlk := hls k hlt
      have hs := F.bel.size
      have hfl := F.fill.lt
      have st := fun (w2 : World) (N : Nat) (G : MF w.heap.size Bs Ns k w w2) (h1 : wr.heap.size ≤ N) (h2 : N < w2.heap.size) => G.step (N := N) hlt ⟨by omega, h2⟩ (fun j hj => by have := (F.nb j hj).2; omega)
      obtain ⟨m, hh⟩ : ∃ m, Bs.getD k MiD.nil = m := ⟨_, rfl⟩
      rw [hh] at hck hnk hlk
      simp only [hh] at st
      obtain ⟨c0, c1, c2, c3, c4, c5, c6⟩ := hck
      clear hv hls hh
      go_wp2_with fail
      go_at_call 64
      refine (miTo m.m m.ad m.cap wr hnk hlk).mono ?_
      rintro e w2 ⟨N, rfl, n1, n2, o2, k2⟩
      have G := F.later k2
      have G1 := st w2 N G n1 n2 (o2.base hs)
      obtain ⟨u0, hu0⟩ := G.fill.cell (k * 7) (by rw [cpyM_len]; omega)
      obtain ⟨u1, hu1⟩ := G.fill.cell (k * 7 + 1) (by rw [cpyM_len]; omega)
      obtain ⟨u2, hu2⟩ := G.fill.cell (k * 7 + 2) (by rw [cpyM_len]; omega)
      obtain ⟨u3, hu3⟩ := G.fill.cell (k * 7 + 3) (by rw [cpyM_len]; omega)
      obtain ⟨u4, hu4⟩ := G.fill.cell (k * 7 + 4) (by rw [cpyM_len]; omega)
      obtain ⟨u5, hu5⟩ := G.fill.cell (k * 7 + 5) (by rw [cpyM_len]; omega)
      obtain ⟨u6, hu6⟩ := G.fill.cell (k * 7 + 6) (by rw [cpyM_len]; omega)
      have f0 := G.fill.frozen (k * 7)
      have f1 := G.fill.frozen (k * 7 + 1)
      have f2 := G.fill.frozen (k * 7 + 2)
      have f3 := G.fill.frozen (k * 7 + 3)
      have f4 := G.fill.frozen (k * 7 + 4)
      have f5 := G.fill.frozen (k * 7 + 5)
      have f6 := G.fill.frozen (k * 7 + 6)
      clear F G st o2 hnk hfl
      go_wp2
      go_roundw
      case rel => exact ⟨k + 1, _, by omega, by go_num, G1⟩
      case measure => simp [intOf]; omega
    · obtain rfl : k = Bs.length := by omega
      go_wp2
      go_ret
      exact ⟨Ns, rfl, F⟩

end Go.Proofs.Ytplejmkbdonkpab
namespace Go.Proofs.Ytplejmkbdonkpab
open Go.ChangeShapes Go.WideShapes Go.ChangeAt Go.RowKit
open Go.ChangeMaps (open_string shut_string)
set_option linter.unusedVariables false
set_option maxRecDepth 100000

/-- Where what a box reads lies. -/
structure BxLt (B : Nat) (x : BxD) : Prop where
  t : ∀ a, x.aT = some a → 0 < x.two.length → a.block < B
  l : ∀ i, i < x.two.length → ∀ a, (x.two.getD i MiD.nil).ad = some a → 0 < (x.two.getD i MiD.nil).m.lg.length → a.block < B
  n : ∀ a, x.aN = some a → 0 < x.net.length → a.block < B
  g : ∀ a, x.aG = some a → 0 < x.ga.length → a.block < B
  i : ∀ a, x.aL = some a → 0 < x.ln.length → a.block < B
  s : ∀ a, x.aS = some a → 0 < x.sd.length → a.block < B
theorem BxIn.lt {w : World} {x : BxD} (h : BxIn w x) : BxLt w.heap.size x :=
  ⟨h.t.row.lt mdEnc_len (by omega), fun i hi => (h.t.nest i hi).lt ikEnc_len (by omega), h.n.lt wiEnc_len (by omega), h.g.lt boEnc_len (by omega), h.i.lt ikEnc_len (by omega), h.s.lt ouEnc_len (by omega)⟩
theorem BxLt.mono {n m : Nat} {x : BxD} (h : BxLt n x) (k : n ≤ m) : BxLt m x :=
  ⟨fun a e p => Nat.lt_of_lt_of_le (h.t a e p) k, fun i hi a e p => Nat.lt_of_lt_of_le (h.l i hi a e p) k, fun a e p => Nat.lt_of_lt_of_le (h.n a e p) k, fun a e p => Nat.lt_of_lt_of_le (h.g a e p) k, fun a e p => Nat.lt_of_lt_of_le (h.i a e p) k, fun a e p => Nat.lt_of_lt_of_le (h.s a e p) k⟩
theorem BxB.sT {w : World} {q : Nat} {x : BxD} (h : BxB w q x) (D : List MiD) (a : Option Addr) (n : Nat) (c : Nat) (hn : n = D.length) : BxB (w.setCell ⟨q, 5, none⟩ (.slice a n c)) q { x with two := D, aT := a, cT := c } := by
  subst hn
  obtain ⟨⟨h0, h1, h2, h3, h4, h5, h6, h7, h8, h9⟩, hf⟩ := h
  exact ⟨⟨(pset_else (by decide)).trans h0, (pset_else (by decide)).trans h1, (pset_else (by decide)).trans h2, (pset_else (by decide)).trans h3, (pset_else (by decide)).trans h4, pset_same h5, (pset_else (by decide)).trans h6, (pset_else (by decide)).trans h7, (pset_else (by decide)).trans h8, (pset_else (by decide)).trans h9⟩, fun i => by rw [World.frozen?_setCell]; exact hf i⟩
theorem BxB.sN {w : World} {q : Nat} {x : BxD} (h : BxB w q x) (D : List Wi) (a : Option Addr) (n : Nat) (c : Nat) (hn : n = D.length) : BxB (w.setCell ⟨q, 6, none⟩ (.slice a n c)) q { x with net := D, aN := a, cN := c } := by
  subst hn
  obtain ⟨⟨h0, h1, h2, h3, h4, h5, h6, h7, h8, h9⟩, hf⟩ := h
  exact ⟨⟨(pset_else (by decide)).trans h0, (pset_else (by decide)).trans h1, (pset_else (by decide)).trans h2, (pset_else (by decide)).trans h3, (pset_else (by decide)).trans h4, (pset_else (by decide)).trans h5, pset_same h6, (pset_else (by decide)).trans h7, (pset_else (by decide)).trans h8, (pset_else (by decide)).trans h9⟩, fun i => by rw [World.frozen?_setCell]; exact hf i⟩
theorem BxB.sG {w : World} {q : Nat} {x : BxD} (h : BxB w q x) (D : List Bool) (a : Option Addr) (n : Nat) (c : Nat) (hn : n = D.length) : BxB (w.setCell ⟨q, 7, none⟩ (.slice a n c)) q { x with ga := D, aG := a, cG := c } := by
  subst hn
  obtain ⟨⟨h0, h1, h2, h3, h4, h5, h6, h7, h8, h9⟩, hf⟩ := h
  exact ⟨⟨(pset_else (by decide)).trans h0, (pset_else (by decide)).trans h1, (pset_else (by decide)).trans h2, (pset_else (by decide)).trans h3, (pset_else (by decide)).trans h4, (pset_else (by decide)).trans h5, (pset_else (by decide)).trans h6, pset_same h7, (pset_else (by decide)).trans h8, (pset_else (by decide)).trans h9⟩, fun i => by rw [World.frozen?_setCell]; exact hf i⟩
theorem BxB.sL {w : World} {q : Nat} {x : BxD} (h : BxB w q x) (D : List Ik) (a : Option Addr) (n : Nat) (c : Nat) (hn : n = D.length) : BxB (w.setCell ⟨q, 8, none⟩ (.slice a n c)) q { x with ln := D, aL := a, cL := c } := by
  subst hn
  obtain ⟨⟨h0, h1, h2, h3, h4, h5, h6, h7, h8, h9⟩, hf⟩ := h
  exact ⟨⟨(pset_else (by decide)).trans h0, (pset_else (by decide)).trans h1, (pset_else (by decide)).trans h2, (pset_else (by decide)).trans h3, (pset_else (by decide)).trans h4, (pset_else (by decide)).trans h5, (pset_else (by decide)).trans h6, (pset_else (by decide)).trans h7, pset_same h8, (pset_else (by decide)).trans h9⟩, fun i => by rw [World.frozen?_setCell]; exact hf i⟩
theorem BxB.sS {w : World} {q : Nat} {x : BxD} (h : BxB w q x) (D : List Ou) (a : Option Addr) (n : Nat) (c : Nat) (hn : n = D.length) : BxB (w.setCell ⟨q, 9, none⟩ (.slice a n c)) q { x with sd := D, aS := a, cS := c } := by
  subst hn
  obtain ⟨⟨h0, h1, h2, h3, h4, h5, h6, h7, h8, h9⟩, hf⟩ := h
  exact ⟨⟨(pset_else (by decide)).trans h0, (pset_else (by decide)).trans h1, (pset_else (by decide)).trans h2, (pset_else (by decide)).trans h3, (pset_else (by decide)).trans h4, (pset_else (by decide)).trans h5, (pset_else (by decide)).trans h6, (pset_else (by decide)).trans h7, (pset_else (by decide)).trans h8, pset_same h9⟩, fun i => by rw [World.frozen?_setCell]; exact hf i⟩
theorem BxB.sR {w : World} {q : Nat} {x : BxD} (h : BxB w q x) (r : Rg) : BxB (((w.setCell ⟨q, 2, none⟩ (.int .i64 r.ep)).setCell ⟨q, 3, none⟩ (.int .i64 r.ow)).setCell ⟨q, 4, none⟩ (.int .i64 r.pa)) q { x with rg := r } := by
  obtain ⟨⟨h0, h1, h2, h3, h4, h5, h6, h7, h8, h9⟩, hf⟩ := h
  have h0 : (w.setCell ⟨q, 2, none⟩ (.int .i64 r.ep)).cell? ⟨q, 0, none⟩ = _ := (pset_else (by decide)).trans h0
  have h1 : (w.setCell ⟨q, 2, none⟩ (.int .i64 r.ep)).cell? ⟨q, 1, none⟩ = _ := (pset_else (by decide)).trans h1
  have h2 : (w.setCell ⟨q, 2, none⟩ (.int .i64 r.ep)).cell? ⟨q, 2, none⟩ = some (.int .i64 r.ep) := pset_same h2
  have h3 : (w.setCell ⟨q, 2, none⟩ (.int .i64 r.ep)).cell? ⟨q, 3, none⟩ = _ := (pset_else (by decide)).trans h3
  have h4 : (w.setCell ⟨q, 2, none⟩ (.int .i64 r.ep)).cell? ⟨q, 4, none⟩ = _ := (pset_else (by decide)).trans h4
  have h5 : (w.setCell ⟨q, 2, none⟩ (.int .i64 r.ep)).cell? ⟨q, 5, none⟩ = _ := (pset_else (by decide)).trans h5
  have h6 : (w.setCell ⟨q, 2, none⟩ (.int .i64 r.ep)).cell? ⟨q, 6, none⟩ = _ := (pset_else (by decide)).trans h6
  have h7 : (w.setCell ⟨q, 2, none⟩ (.int .i64 r.ep)).cell? ⟨q, 7, none⟩ = _ := (pset_else (by decide)).trans h7
  have h8 : (w.setCell ⟨q, 2, none⟩ (.int .i64 r.ep)).cell? ⟨q, 8, none⟩ = _ := (pset_else (by decide)).trans h8
  have h9 : (w.setCell ⟨q, 2, none⟩ (.int .i64 r.ep)).cell? ⟨q, 9, none⟩ = _ := (pset_else (by decide)).trans h9
  have h0 : ((w.setCell ⟨q, 2, none⟩ (.int .i64 r.ep)).setCell ⟨q, 3, none⟩ (.int .i64 r.ow)).cell? ⟨q, 0, none⟩ = _ := (pset_else (by decide)).trans h0
  have h1 : ((w.setCell ⟨q, 2, none⟩ (.int .i64 r.ep)).setCell ⟨q, 3, none⟩ (.int .i64 r.ow)).cell? ⟨q, 1, none⟩ = _ := (pset_else (by decide)).trans h1
  have h2 : ((w.setCell ⟨q, 2, none⟩ (.int .i64 r.ep)).setCell ⟨q, 3, none⟩ (.int .i64 r.ow)).cell? ⟨q, 2, none⟩ = _ := (pset_else (by decide)).trans h2
  have h3 : ((w.setCell ⟨q, 2, none⟩ (.int .i64 r.ep)).setCell ⟨q, 3, none⟩ (.int .i64 r.ow)).cell? ⟨q, 3, none⟩ = some (.int .i64 r.ow) := pset_same h3
  have h4 : ((w.setCell ⟨q, 2, none⟩ (.int .i64 r.ep)).setCell ⟨q, 3, none⟩ (.int .i64 r.ow)).cell? ⟨q, 4, none⟩ = _ := (pset_else (by decide)).trans h4
  have h5 : ((w.setCell ⟨q, 2, none⟩ (.int .i64 r.ep)).setCell ⟨q, 3, none⟩ (.int .i64 r.ow)).cell? ⟨q, 5, none⟩ = _ := (pset_else (by decide)).trans h5
  have h6 : ((w.setCell ⟨q, 2, none⟩ (.int .i64 r.ep)).setCell ⟨q, 3, none⟩ (.int .i64 r.ow)).cell? ⟨q, 6, none⟩ = _ := (pset_else (by decide)).trans h6
  have h7 : ((w.setCell ⟨q, 2, none⟩ (.int .i64 r.ep)).setCell ⟨q, 3, none⟩ (.int .i64 r.ow)).cell? ⟨q, 7, none⟩ = _ := (pset_else (by decide)).trans h7
  have h8 : ((w.setCell ⟨q, 2, none⟩ (.int .i64 r.ep)).setCell ⟨q, 3, none⟩ (.int .i64 r.ow)).cell? ⟨q, 8, none⟩ = _ := (pset_else (by decide)).trans h8
  have h9 : ((w.setCell ⟨q, 2, none⟩ (.int .i64 r.ep)).setCell ⟨q, 3, none⟩ (.int .i64 r.ow)).cell? ⟨q, 9, none⟩ = _ := (pset_else (by decide)).trans h9
  have h0 : (((w.setCell ⟨q, 2, none⟩ (.int .i64 r.ep)).setCell ⟨q, 3, none⟩ (.int .i64 r.ow)).setCell ⟨q, 4, none⟩ (.int .i64 r.pa)).cell? ⟨q, 0, none⟩ = _ := (pset_else (by decide)).trans h0
  have h1 : (((w.setCell ⟨q, 2, none⟩ (.int .i64 r.ep)).setCell ⟨q, 3, none⟩ (.int .i64 r.ow)).setCell ⟨q, 4, none⟩ (.int .i64 r.pa)).cell? ⟨q, 1, none⟩ = _ := (pset_else (by decide)).trans h1
  have h2 : (((w.setCell ⟨q, 2, none⟩ (.int .i64 r.ep)).setCell ⟨q, 3, none⟩ (.int .i64 r.ow)).setCell ⟨q, 4, none⟩ (.int .i64 r.pa)).cell? ⟨q, 2, none⟩ = _ := (pset_else (by decide)).trans h2
  have h3 : (((w.setCell ⟨q, 2, none⟩ (.int .i64 r.ep)).setCell ⟨q, 3, none⟩ (.int .i64 r.ow)).setCell ⟨q, 4, none⟩ (.int .i64 r.pa)).cell? ⟨q, 3, none⟩ = _ := (pset_else (by decide)).trans h3
  have h4 : (((w.setCell ⟨q, 2, none⟩ (.int .i64 r.ep)).setCell ⟨q, 3, none⟩ (.int .i64 r.ow)).setCell ⟨q, 4, none⟩ (.int .i64 r.pa)).cell? ⟨q, 4, none⟩ = some (.int .i64 r.pa) := pset_same h4
  have h5 : (((w.setCell ⟨q, 2, none⟩ (.int .i64 r.ep)).setCell ⟨q, 3, none⟩ (.int .i64 r.ow)).setCell ⟨q, 4, none⟩ (.int .i64 r.pa)).cell? ⟨q, 5, none⟩ = _ := (pset_else (by decide)).trans h5
  have h6 : (((w.setCell ⟨q, 2, none⟩ (.int .i64 r.ep)).setCell ⟨q, 3, none⟩ (.int .i64 r.ow)).setCell ⟨q, 4, none⟩ (.int .i64 r.pa)).cell? ⟨q, 6, none⟩ = _ := (pset_else (by decide)).trans h6
  have h7 : (((w.setCell ⟨q, 2, none⟩ (.int .i64 r.ep)).setCell ⟨q, 3, none⟩ (.int .i64 r.ow)).setCell ⟨q, 4, none⟩ (.int .i64 r.pa)).cell? ⟨q, 7, none⟩ = _ := (pset_else (by decide)).trans h7
  have h8 : (((w.setCell ⟨q, 2, none⟩ (.int .i64 r.ep)).setCell ⟨q, 3, none⟩ (.int .i64 r.ow)).setCell ⟨q, 4, none⟩ (.int .i64 r.pa)).cell? ⟨q, 8, none⟩ = _ := (pset_else (by decide)).trans h8
  have h9 : (((w.setCell ⟨q, 2, none⟩ (.int .i64 r.ep)).setCell ⟨q, 3, none⟩ (.int .i64 r.ow)).setCell ⟨q, 4, none⟩ (.int .i64 r.pa)).cell? ⟨q, 9, none⟩ = _ := (pset_else (by decide)).trans h9
  exact ⟨⟨h0, h1, h2, h3, h4, h5, h6, h7, h8, h9⟩, fun i => by rw [World.frozen?_setCell, World.frozen?_setCell, World.frozen?_setCell]; exact hf i⟩
theorem BxIn.kept {w w' : World} {x : BxD} {n : Nat} (h : BxIn w x) (hin : BxLt n x) (k : ∀ g, g < n → w'.heap[g]? = w.heap[g]?) : BxIn w' x :=
  ⟨⟨h.t.row.carry (fun a e p => k _ (hin.t a e p)), fun i hi => (h.t.nest i hi).carry (fun a e p => k _ (hin.l i hi a e p)), h.t.nil0⟩, h.tm, h.ts, h.tc, h.tn, h.n.carry (fun a e p => k _ (hin.n a e p)), h.nm, h.nn, h.g.carry (fun a e p => k _ (hin.g a e p)), h.gm, h.gn, h.i.carry (fun a e p => k _ (hin.i a e p)), h.im, h.ic, h.s.carry (fun a e p => k _ (hin.s a e p)), h.sm, h.sn⟩
set_option maxHeartbeats 8000000 in
theorem bxTo (x : BxD) (w : World) (I : BxIn w x) (K : BxSm x) :
    Calls Try.prog 8 #[.agg #[.int .i64 x.id, .int .i64 x.po, .int .i64 x.rg.ep, .int .i64 x.rg.ow, .int .i64 x.rg.pa, .slice x.aT x.two.length x.cT, .slice x.aN x.net.length x.cN, .slice x.aG x.ga.length x.cG, .slice x.aL x.ln.length x.cL, .slice x.aS x.sd.length x.cS]] w fun e w' => ∃ x2 : BxD, e = .returned (.agg #[.int .i64 x2.id, .int .i64 x2.po, .int .i64 x2.rg.ep, .int .i64 x2.rg.ow, .int .i64 x2.rg.pa, .slice x2.aT x2.two.length x2.cT, .slice x2.aN x2.net.length x2.cN, .slice x2.aG x2.ga.length x2.cG, .slice x2.aL x2.ln.length x2.cL, .slice x2.aS x2.sd.length x2.cS]) ∧ x2.p = x.p ∧ BxM w.heap.size w'.heap.size w' x2 ∧ Below w.heap.size w w' := by
  have hin := I.lt
  obtain ⟨y, hy⟩ : ∃ y, y = ((w.alloc (Obj.cells #[.int .i64 x.id, .int .i64 x.po, .int .i64 x.rg.ep, .int .i64 x.rg.ow, .int .i64 x.rg.pa, .slice x.aT x.two.length x.cT, .slice x.aN x.net.length x.cN, .slice x.aG x.ga.length x.cG, .slice x.aL x.ln.length x.cL, .slice x.aS x.sd.length x.cS] 30)).alloc (Obj.cells #[.int .i64 0, .int .i64 0, .int .i64 0, .int .i64 0, .int .i64 0, .slice none 0 0, .slice none 0 0, .slice none 0 0, .slice none 0 0, .slice none 0 0] 39)).alloc (Obj.cells #[.int .i64 x.id, .int .i64 x.po, .int .i64 0, .int .i64 0, .int .i64 0, .slice none 0 0, .slice none 0 0, .slice none 0 0, .slice none 0 0, .slice none 0 0] 39) := ⟨_, rfl⟩
  have B0 : Below w.heap.size w y := by rw [hy]; exact (((Below.refl _ _).alloc (Nat.le_refl _) _).alloc (by simp) _).alloc (by simp; omega) _
  have A : BxAt y w.heap.size x := by rw [hy]; constructor <;> simp [go_sem]
  have Z : BxB y (w.heap.size + 1) BxD.zero := by rw [hy]; refine ⟨?_, fun i => ?_⟩; constructor <;> simp [go_sem, BxD.zero]; simp [go_sem]
  have Ob : BxB y (w.heap.size + 1 + 1) ⟨x.id, x.po, ⟨0, 0, 0⟩, [], none, 0, [], none, 0, [], none, 0, [], none, 0, [], none, 0⟩ := by rw [hy]; refine ⟨?_, fun i => ?_⟩; constructor <;> simp [go_sem]; simp [go_sem]
  have S0 := Ob.lt
  have I := I.below B0
  go_enter Try.func8, Try.ntmps8
  have cc := A
  obtain ⟨a0, a1, a2, a3, a4, a5, a6, a7, a8, a9⟩ := cc
  have cc := Ob
  obtain ⟨⟨o0, o1, o2, o3, o4, o5, o6, o7, o8, o9⟩, of⟩ := cc
  go_wp2_with fail
  go_at_call 27
  rw [← hy]
  clear a0 a1 a2 a3 a4 a5 a6 a7 a8 a9 o0 o1 o2 o3 o4 o5 o6 o7 o8 o9 of  hy
  refine (toRg x.rg y).mono ?_
  rintro e u0 ⟨rfl, k0⟩
  have A := A.below k0 A.lt
  have Z := Z.below k0 Z.lt
  have Ob := Ob.below k0 Ob.lt
  have I := I.below k0
  have B0 := B0.trans (k0.mono B0.size)
  have sk0 := k0.size
  clear k0
  obtain ⟨v0, hv0⟩ : ∃ v_, v_ = ((u0.setCell ⟨w.heap.size + 1 + 1, 2, none⟩ (.int .i64 x.rg.ep)).setCell ⟨w.heap.size + 1 + 1, 3, none⟩ (.int .i64 x.rg.ow)).setCell ⟨w.heap.size + 1 + 1, 4, none⟩ (.int .i64 x.rg.pa) := ⟨_, rfl⟩
  have kp : ∀ k, k ≠ w.heap.size + 1 + 1 → v0.heap[k]? = u0.heap[k]? := fun k hk => by rw [hv0, Below.heap_setCell _ _ _ _ hk, Below.heap_setCell _ _ _ _ hk, Below.heap_setCell _ _ _ _ hk]
  have sz : v0.heap.size = u0.heap.size := by rw [hv0]; simp
  have Ob2 : BxB v0 (w.heap.size + 1 + 1) ⟨x.id, x.po, x.rg, [], none, 0, [], none, 0, [], none, 0, [], none, 0, [], none, 0⟩ := by rw [hv0]; exact Ob.sR x.rg
  have BB : Below w.heap.size w v0 := by rw [hv0]; exact (((B0.setCell (p := ⟨w.heap.size + 1 + 1, _, none⟩) (by show _ ≤ w.heap.size + 1 + 1; omega) _).setCell (p := ⟨w.heap.size + 1 + 1, _, none⟩) (by show _ ≤ w.heap.size + 1 + 1; omega) _).setCell (p := ⟨w.heap.size + 1 + 1, _, none⟩) (by show _ ≤ w.heap.size + 1 + 1; omega) _)
  have A2 := A.keep (kp _ (by omega))
  have Z2 := Z.keep (kp _ (by omega))
  have I2 : BxIn v0 x := I.kept hin (fun g hg => kp g (by omega))
  have szl := Nat.le_of_eq sz.symm
  have szr := Nat.le_of_eq sz
  clear kp sz
  have cc := A
  obtain ⟨a0, a1, a2, a3, a4, a5, a6, a7, a8, a9⟩ := cc
  have cc := Ob
  obtain ⟨⟨o0, o1, o2, o3, o4, o5, o6, o7, o8, o9⟩, of⟩ := cc
  have f2 := of 2
  have f3 := of 3
  have f4 := of 4
  go_wp2_with fail
  go_at_call 28
  rw [← hv0]
  clear a0 a1 a2 a3 a4 a5 a6 a7 a8 a9 o0 o1 o2 o3 o4 o5 o6 o7 o8 o9 of f2 f3 f4 hv0
  clear A Z I Ob B0 
  have A := A2
  have Z := Z2
  have I := I2
  have Ob := Ob2
  have B0 := BB
  clear A2 Z2 I2 Ob2 BB 
  refine (mdTo x.aT x.cT x.two v0 I.t K.t K.ls).mono ?_
  rintro e u1 ⟨Ns, rfl, F⟩
  have k1 : Below v0.heap.size v0 u1 := F.bel
  have OT := F.own
  clear F
  have A := A.below k1 A.lt
  have Z := Z.below k1 Z.lt
  have Ob := Ob.below k1 Ob.lt
  have I := I.below k1
  have B0 := B0.trans (k1.mono B0.size)
  have sk1 := k1.size
  clear k1
  obtain ⟨gT, hgT⟩ : ∃ g_, g_ = v0.heap.size := ⟨_, rfl⟩
  rw [← hgT] at OT ⊢
  have qgT : w.heap.size + 1 + 1 < gT := by omega
  have rgT : gT ≤ u1.heap.size := by omega
  clear hgT
  have lOT : True := trivial
  obtain ⟨v1, hv1⟩ : ∃ v_, v_ = u1.setCell ⟨w.heap.size + 1 + 1, 5, none⟩ (.slice (some ⟨gT, 0, none⟩) x.two.length x.two.length) := ⟨_, rfl⟩
  have kp : ∀ k, k ≠ w.heap.size + 1 + 1 → v1.heap[k]? = u1.heap[k]? := fun k hk => by rw [hv1, Below.heap_setCell _ _ _ _ hk]
  have sz : v1.heap.size = u1.heap.size := by rw [hv1]; simp
  have Ob2 : BxB v1 (w.heap.size + 1 + 1) ⟨x.id, x.po, x.rg, (cpyM x.two Ns), some ⟨gT, 0, none⟩, x.two.length, [], none, 0, [], none, 0, [], none, 0, [], none, 0⟩ := by rw [hv1]; exact Ob.sT (cpyM x.two Ns) (some ⟨gT, 0, none⟩) x.two.length x.two.length (cpyM_len _ _).symm
  have BB : Below w.heap.size w v1 := by rw [hv1]; exact (B0.setCell (p := ⟨w.heap.size + 1 + 1, _, none⟩) (by show _ ≤ w.heap.size + 1 + 1; omega) _)
  have A2 := A.keep (kp _ (by omega))
  have Z2 := Z.keep (kp _ (by omega))
  have I2 : BxIn v1 x := I.kept hin (fun g hg => kp g (by omega))
  have OT2 := OT.keep (fun g h1 h2 => kp g (by omega))
  have szl := Nat.le_of_eq sz.symm
  have szr := Nat.le_of_eq sz
  clear kp sz
  have cc := A
  obtain ⟨a0, a1, a2, a3, a4, a5, a6, a7, a8, a9⟩ := cc
  have cc := Ob
  obtain ⟨⟨o0, o1, o2, o3, o4, o5, o6, o7, o8, o9⟩, of⟩ := cc
  have f5 := of 5
  go_wp2_with fail
  go_at_call 29
  rw [← hv1]
  clear a0 a1 a2 a3 a4 a5 a6 a7 a8 a9 o0 o1 o2 o3 o4 o5 o6 o7 o8 o9 of f5 hv1
  clear A Z I Ob B0 OT
  have A := A2
  have Z := Z2
  have I := I2
  have Ob := Ob2
  have OT := OT2
  have B0 := BB
  clear A2 Z2 I2 Ob2 BB OT2
  refine (wiToS x.aN x.cN x.net v1 I.n K.n).mono ?_
  rintro e u2 ⟨rfl, ON, k2⟩
  have A := A.below k2 A.lt
  have Z := Z.below k2 Z.lt
  have Ob := Ob.below k2 Ob.lt
  have I := I.below k2
  have OT := OT.below k2 (by omega)
  have B0 := B0.trans (k2.mono B0.size)
  have sk2 := k2.size
  clear k2
  obtain ⟨gN, hgN⟩ : ∃ g_, g_ = v1.heap.size := ⟨_, rfl⟩
  rw [← hgN] at ON ⊢
  have qgN : w.heap.size + 1 + 1 < gN := by omega
  have rgN : gN ≤ u2.heap.size := by omega
  have tgN : u1.heap.size ≤ gN := by omega
  clear hgN
  have lON : ∀ g, (Value.slice (some ⟨gN, 0, none⟩) x.net.length x.net.length).ownBlock = some g → w.heap.size + 1 + 1 < g ∧ g < u2.heap.size := fun g e => by have := ON.lt g e; omega
  obtain ⟨v2, hv2⟩ : ∃ v_, v_ = u2.setCell ⟨w.heap.size + 1 + 1, 6, none⟩ (.slice (some ⟨gN, 0, none⟩) x.net.length x.net.length) := ⟨_, rfl⟩
  have kp : ∀ k, k ≠ w.heap.size + 1 + 1 → v2.heap[k]? = u2.heap[k]? := fun k hk => by rw [hv2, Below.heap_setCell _ _ _ _ hk]
  have sz : v2.heap.size = u2.heap.size := by rw [hv2]; simp
  have Ob2 : BxB v2 (w.heap.size + 1 + 1) ⟨x.id, x.po, x.rg, (cpyM x.two Ns), some ⟨gT, 0, none⟩, x.two.length, x.net, some ⟨gN, 0, none⟩, x.net.length, [], none, 0, [], none, 0, [], none, 0⟩ := by rw [hv2]; exact Ob.sN x.net (some ⟨gN, 0, none⟩) x.net.length x.net.length rfl
  have BB : Below w.heap.size w v2 := by rw [hv2]; exact (B0.setCell (p := ⟨w.heap.size + 1 + 1, _, none⟩) (by show _ ≤ w.heap.size + 1 + 1; omega) _)
  have A2 := A.keep (kp _ (by omega))
  have Z2 := Z.keep (kp _ (by omega))
  have I2 : BxIn v2 x := I.kept hin (fun g hg => kp g (by omega))
  have OT2 := OT.keep (fun g h1 h2 => kp g (by omega))
  have ON2 := ON.keep (fun g e => kp g (by have := lON g e; omega))
  have szl := Nat.le_of_eq sz.symm
  have szr := Nat.le_of_eq sz
  clear kp sz
  have cc := A
  obtain ⟨a0, a1, a2, a3, a4, a5, a6, a7, a8, a9⟩ := cc
  have cc := Ob
  obtain ⟨⟨o0, o1, o2, o3, o4, o5, o6, o7, o8, o9⟩, of⟩ := cc
  have f6 := of 6
  go_wp2_with fail
  go_at_call 30
  rw [← hv2]
  clear a0 a1 a2 a3 a4 a5 a6 a7 a8 a9 o0 o1 o2 o3 o4 o5 o6 o7 o8 o9 of f6 hv2
  clear A Z I Ob B0 OT ON
  have A := A2
  have Z := Z2
  have I := I2
  have Ob := Ob2
  have OT := OT2
  have ON := ON2
  have B0 := BB
  clear A2 Z2 I2 Ob2 BB OT2 ON2
  refine (boToS x.aG x.cG x.ga v2 I.g K.g).mono ?_
  rintro e u3 ⟨rfl, OG, k3⟩
  have A := A.below k3 A.lt
  have Z := Z.below k3 Z.lt
  have Ob := Ob.below k3 Ob.lt
  have I := I.below k3
  have ON := ON.later k3
  have OT := OT.below k3 (by omega)
  have B0 := B0.trans (k3.mono B0.size)
  have sk3 := k3.size
  clear k3
  obtain ⟨gG, hgG⟩ : ∃ g_, g_ = v2.heap.size := ⟨_, rfl⟩
  rw [← hgG] at OG ⊢
  have qgG : w.heap.size + 1 + 1 < gG := by omega
  have rgG : gG ≤ u3.heap.size := by omega
  have tgG : u1.heap.size ≤ gG := by omega
  clear hgG
  have lOG : ∀ g, (Value.slice (some ⟨gG, 0, none⟩) x.ga.length x.ga.length).ownBlock = some g → w.heap.size + 1 + 1 < g ∧ g < u3.heap.size := fun g e => by have := OG.lt g e; omega
  obtain ⟨v3, hv3⟩ : ∃ v_, v_ = u3.setCell ⟨w.heap.size + 1 + 1, 7, none⟩ (.slice (some ⟨gG, 0, none⟩) x.ga.length x.ga.length) := ⟨_, rfl⟩
  have kp : ∀ k, k ≠ w.heap.size + 1 + 1 → v3.heap[k]? = u3.heap[k]? := fun k hk => by rw [hv3, Below.heap_setCell _ _ _ _ hk]
  have sz : v3.heap.size = u3.heap.size := by rw [hv3]; simp
  have Ob2 : BxB v3 (w.heap.size + 1 + 1) ⟨x.id, x.po, x.rg, (cpyM x.two Ns), some ⟨gT, 0, none⟩, x.two.length, x.net, some ⟨gN, 0, none⟩, x.net.length, x.ga, some ⟨gG, 0, none⟩, x.ga.length, [], none, 0, [], none, 0⟩ := by rw [hv3]; exact Ob.sG x.ga (some ⟨gG, 0, none⟩) x.ga.length x.ga.length rfl
  have BB : Below w.heap.size w v3 := by rw [hv3]; exact (B0.setCell (p := ⟨w.heap.size + 1 + 1, _, none⟩) (by show _ ≤ w.heap.size + 1 + 1; omega) _)
  have A2 := A.keep (kp _ (by omega))
  have Z2 := Z.keep (kp _ (by omega))
  have I2 : BxIn v3 x := I.kept hin (fun g hg => kp g (by omega))
  have OT2 := OT.keep (fun g h1 h2 => kp g (by omega))
  have ON2 := ON.keep (fun g e => kp g (by have := lON g e; omega))
  have OG2 := OG.keep (fun g e => kp g (by have := lOG g e; omega))
  have szl := Nat.le_of_eq sz.symm
  have szr := Nat.le_of_eq sz
  clear kp sz
  have cc := A
  obtain ⟨a0, a1, a2, a3, a4, a5, a6, a7, a8, a9⟩ := cc
  have cc := Ob
  obtain ⟨⟨o0, o1, o2, o3, o4, o5, o6, o7, o8, o9⟩, of⟩ := cc
  have f7 := of 7
  go_wp2_with fail
  go_at_call 31
  rw [← hv3]
  clear a0 a1 a2 a3 a4 a5 a6 a7 a8 a9 o0 o1 o2 o3 o4 o5 o6 o7 o8 o9 of f7 hv3
  clear A Z I Ob B0 OT ON OG
  have A := A2
  have Z := Z2
  have I := I2
  have Ob := Ob2
  have OT := OT2
  have ON := ON2
  have OG := OG2
  have B0 := BB
  clear A2 Z2 I2 Ob2 BB OT2 ON2 OG2
  refine (ikToS x.aL x.cL x.ln v3 I.i K.i).mono ?_
  rintro e u4 ⟨rfl, OL, k4⟩
  have A := A.below k4 A.lt
  have Z := Z.below k4 Z.lt
  have Ob := Ob.below k4 Ob.lt
  have I := I.below k4
  have ON := ON.later k4
  have OG := OG.later k4
  have OT := OT.below k4 (by omega)
  have B0 := B0.trans (k4.mono B0.size)
  have sk4 := k4.size
  clear k4
  obtain ⟨gL, hgL⟩ : ∃ g_, g_ = v3.heap.size := ⟨_, rfl⟩
  rw [← hgL] at OL ⊢
  have qgL : w.heap.size + 1 + 1 < gL := by omega
  have rgL : gL ≤ u4.heap.size := by omega
  have tgL : u1.heap.size ≤ gL := by omega
  clear hgL
  have lOL : ∀ g, (Value.slice (some ⟨gL, 0, none⟩) x.ln.length x.ln.length).ownBlock = some g → w.heap.size + 1 + 1 < g ∧ g < u4.heap.size := fun g e => by have := OL.lt g e; omega
  obtain ⟨v4, hv4⟩ : ∃ v_, v_ = u4.setCell ⟨w.heap.size + 1 + 1, 8, none⟩ (.slice (some ⟨gL, 0, none⟩) x.ln.length x.ln.length) := ⟨_, rfl⟩
  have kp : ∀ k, k ≠ w.heap.size + 1 + 1 → v4.heap[k]? = u4.heap[k]? := fun k hk => by rw [hv4, Below.heap_setCell _ _ _ _ hk]
  have sz : v4.heap.size = u4.heap.size := by rw [hv4]; simp
  have Ob2 : BxB v4 (w.heap.size + 1 + 1) ⟨x.id, x.po, x.rg, (cpyM x.two Ns), some ⟨gT, 0, none⟩, x.two.length, x.net, some ⟨gN, 0, none⟩, x.net.length, x.ga, some ⟨gG, 0, none⟩, x.ga.length, x.ln, some ⟨gL, 0, none⟩, x.ln.length, [], none, 0⟩ := by rw [hv4]; exact Ob.sL x.ln (some ⟨gL, 0, none⟩) x.ln.length x.ln.length rfl
  have BB : Below w.heap.size w v4 := by rw [hv4]; exact (B0.setCell (p := ⟨w.heap.size + 1 + 1, _, none⟩) (by show _ ≤ w.heap.size + 1 + 1; omega) _)
  have A2 := A.keep (kp _ (by omega))
  have Z2 := Z.keep (kp _ (by omega))
  have I2 : BxIn v4 x := I.kept hin (fun g hg => kp g (by omega))
  have OT2 := OT.keep (fun g h1 h2 => kp g (by omega))
  have ON2 := ON.keep (fun g e => kp g (by have := lON g e; omega))
  have OG2 := OG.keep (fun g e => kp g (by have := lOG g e; omega))
  have OL2 := OL.keep (fun g e => kp g (by have := lOL g e; omega))
  have szl := Nat.le_of_eq sz.symm
  have szr := Nat.le_of_eq sz
  clear kp sz
  have cc := A
  obtain ⟨a0, a1, a2, a3, a4, a5, a6, a7, a8, a9⟩ := cc
  have cc := Ob
  obtain ⟨⟨o0, o1, o2, o3, o4, o5, o6, o7, o8, o9⟩, of⟩ := cc
  have f8 := of 8
  go_wp2_with fail
  go_at_call 32
  rw [← hv4]
  clear a0 a1 a2 a3 a4 a5 a6 a7 a8 a9 o0 o1 o2 o3 o4 o5 o6 o7 o8 o9 of f8 hv4
  clear A Z I Ob B0 OT ON OG OL
  have A := A2
  have Z := Z2
  have I := I2
  have Ob := Ob2
  have OT := OT2
  have ON := ON2
  have OG := OG2
  have OL := OL2
  have B0 := BB
  clear A2 Z2 I2 Ob2 BB OT2 ON2 OG2 OL2
  refine (ouToS x.aS x.cS x.sd v4 I.s K.s).mono ?_
  rintro e u5 ⟨rfl, OS, k5⟩
  have A := A.below k5 A.lt
  have Z := Z.below k5 Z.lt
  have Ob := Ob.below k5 Ob.lt
  have I := I.below k5
  have ON := ON.later k5
  have OG := OG.later k5
  have OL := OL.later k5
  have OT := OT.below k5 (by omega)
  have B0 := B0.trans (k5.mono B0.size)
  have sk5 := k5.size
  clear k5
  obtain ⟨gS, hgS⟩ : ∃ g_, g_ = v4.heap.size := ⟨_, rfl⟩
  rw [← hgS] at OS ⊢
  have qgS : w.heap.size + 1 + 1 < gS := by omega
  have rgS : gS ≤ u5.heap.size := by omega
  have tgS : u1.heap.size ≤ gS := by omega
  clear hgS
  have lOS : ∀ g, (Value.slice (some ⟨gS, 0, none⟩) x.sd.length x.sd.length).ownBlock = some g → w.heap.size + 1 + 1 < g ∧ g < u5.heap.size := fun g e => by have := OS.lt g e; omega
  obtain ⟨v5, hv5⟩ : ∃ v_, v_ = u5.setCell ⟨w.heap.size + 1 + 1, 9, none⟩ (.slice (some ⟨gS, 0, none⟩) x.sd.length x.sd.length) := ⟨_, rfl⟩
  have kp : ∀ k, k ≠ w.heap.size + 1 + 1 → v5.heap[k]? = u5.heap[k]? := fun k hk => by rw [hv5, Below.heap_setCell _ _ _ _ hk]
  have sz : v5.heap.size = u5.heap.size := by rw [hv5]; simp
  have Ob2 : BxB v5 (w.heap.size + 1 + 1) ⟨x.id, x.po, x.rg, (cpyM x.two Ns), some ⟨gT, 0, none⟩, x.two.length, x.net, some ⟨gN, 0, none⟩, x.net.length, x.ga, some ⟨gG, 0, none⟩, x.ga.length, x.ln, some ⟨gL, 0, none⟩, x.ln.length, x.sd, some ⟨gS, 0, none⟩, x.sd.length⟩ := by rw [hv5]; exact Ob.sS x.sd (some ⟨gS, 0, none⟩) x.sd.length x.sd.length rfl
  have BB : Below w.heap.size w v5 := by rw [hv5]; exact (B0.setCell (p := ⟨w.heap.size + 1 + 1, _, none⟩) (by show _ ≤ w.heap.size + 1 + 1; omega) _)
  have A2 := A.keep (kp _ (by omega))
  have Z2 := Z.keep (kp _ (by omega))
  have I2 : BxIn v5 x := I.kept hin (fun g hg => kp g (by omega))
  have OT2 := OT.keep (fun g h1 h2 => kp g (by omega))
  have ON2 := ON.keep (fun g e => kp g (by have := lON g e; omega))
  have OG2 := OG.keep (fun g e => kp g (by have := lOG g e; omega))
  have OL2 := OL.keep (fun g e => kp g (by have := lOL g e; omega))
  have OS2 := OS.keep (fun g e => kp g (by have := lOS g e; omega))
  have szl := Nat.le_of_eq sz.symm
  have szr := Nat.le_of_eq sz
  clear kp sz
  obtain ⟨X2, hX2⟩ : ∃ X2 : BxD, X2 = ⟨x.id, x.po, x.rg, (cpyM x.two Ns), some ⟨gT, 0, none⟩, x.two.length, x.net, some ⟨gN, 0, none⟩, x.net.length, x.ga, some ⟨gG, 0, none⟩, x.ga.length, x.ln, some ⟨gL, 0, none⟩, x.ln.length, x.sd, some ⟨gS, 0, none⟩, x.sd.length⟩ := ⟨_, rfl⟩
  have hV2 : (.agg #[.int .i64 X2.id, .int .i64 X2.po, .int .i64 X2.rg.ep, .int .i64 X2.rg.ow, .int .i64 X2.rg.pa, .slice X2.aT X2.two.length X2.cT, .slice X2.aN X2.net.length X2.cN, .slice X2.aG X2.ga.length X2.cG, .slice X2.aL X2.ln.length X2.cL, .slice X2.aS X2.sd.length X2.cS] : Value) = .agg #[.int .i64 x.id, .int .i64 x.po, .int .i64 x.rg.ep, .int .i64 x.rg.ow, .int .i64 x.rg.pa, .slice (some ⟨gT, 0, none⟩) x.two.length x.two.length, .slice (some ⟨gN, 0, none⟩) x.net.length x.net.length, .slice (some ⟨gG, 0, none⟩) x.ga.length x.ga.length, .slice (some ⟨gL, 0, none⟩) x.ln.length x.ln.length, .slice (some ⟨gS, 0, none⟩) x.sd.length x.sd.length] := by rw [hX2]; show Value.agg _ = _; rw [cpyM_len]
  have hP2 : X2.p = x.p := by rw [hX2]; unfold BxD.p; dsimp only; rw [cpyM_d]
  have cc := Z2
  obtain ⟨⟨z0, z1, z2, z3, z4, z5, z6, z7, z8, z9⟩, zf⟩ := cc
  have e0 := zf 0
  have e1 := zf 1
  have e2 := zf 2
  have e3 := zf 3
  have e4 := zf 4
  have e5 := zf 5
  have e6 := zf 6
  have e7 := zf 7
  have e8 := zf 8
  have e9 := zf 9
  have cc := Ob2
  obtain ⟨⟨o0, o1, o2, o3, o4, o5, o6, o7, o8, o9⟩, of⟩ := cc
  rw [← hX2] at Ob2
  have cc := Ob
  obtain ⟨⟨p0, p1, p2, p3, p4, p5, p6, p7, p8, p9⟩, pf⟩ := cc
  have f9 := pf 9
  dsimp only at o0 o1 o2 o3 o4 o5 o6 o7 o8 o9
  rw [cpyM_len] at o5
  go_upto_region 10 with fail
  rw [← hv5]
  clear hv5 p0 p1 p2 p3 p4 p5 p6 p7 p8 p9 pf f9
  obtain ⟨v6, hv6⟩ : ∃ v_, v_ = ((((((((((v5.setCell ⟨w.heap.size + 1, 0, none⟩ (.int .i64 x.id)).setCell ⟨w.heap.size + 1, 1, none⟩ (.int .i64 x.po)).setCell ⟨w.heap.size + 1, 2, none⟩ (.int .i64 x.rg.ep)).setCell ⟨w.heap.size + 1, 3, none⟩ (.int .i64 x.rg.ow)).setCell ⟨w.heap.size + 1, 4, none⟩ (.int .i64 x.rg.pa)).setCell ⟨w.heap.size + 1, 5, none⟩ (.slice (some ⟨gT, 0, none⟩) x.two.length x.two.length)).setCell ⟨w.heap.size + 1, 6, none⟩ (.slice (some ⟨gN, 0, none⟩) x.net.length x.net.length)).setCell ⟨w.heap.size + 1, 7, none⟩ (.slice (some ⟨gG, 0, none⟩) x.ga.length x.ga.length)).setCell ⟨w.heap.size + 1, 8, none⟩ (.slice (some ⟨gL, 0, none⟩) x.ln.length x.ln.length)).setCell ⟨w.heap.size + 1, 9, none⟩ (.slice (some ⟨gS, 0, none⟩) x.sd.length x.sd.length)) := ⟨_, rfl⟩
  have ZZ := Z2.put X2
  have kp : ∀ k, k ≠ w.heap.size + 1 → v6.heap[k]? = v5.heap[k]? := fun k hk => by rw [hv6, Below.heap_setCell _ _ _ _ hk, Below.heap_setCell _ _ _ _ hk, Below.heap_setCell _ _ _ _ hk, Below.heap_setCell _ _ _ _ hk, Below.heap_setCell _ _ _ _ hk, Below.heap_setCell _ _ _ _ hk, Below.heap_setCell _ _ _ _ hk, Below.heap_setCell _ _ _ _ hk, Below.heap_setCell _ _ _ _ hk, Below.heap_setCell _ _ _ _ hk]
  have B6 : Below w.heap.size w v6 := by rw [hv6]; exact ((((((((((BB.setCell (p := ⟨w.heap.size + 1, 0, none⟩) (by show _ ≤ w.heap.size + 1; omega) _).setCell (p := ⟨w.heap.size + 1, 1, none⟩) (by show _ ≤ w.heap.size + 1; omega) _).setCell (p := ⟨w.heap.size + 1, 2, none⟩) (by show _ ≤ w.heap.size + 1; omega) _).setCell (p := ⟨w.heap.size + 1, 3, none⟩) (by show _ ≤ w.heap.size + 1; omega) _).setCell (p := ⟨w.heap.size + 1, 4, none⟩) (by show _ ≤ w.heap.size + 1; omega) _).setCell (p := ⟨w.heap.size + 1, 5, none⟩) (by show _ ≤ w.heap.size + 1; omega) _).setCell (p := ⟨w.heap.size + 1, 6, none⟩) (by show _ ≤ w.heap.size + 1; omega) _).setCell (p := ⟨w.heap.size + 1, 7, none⟩) (by show _ ≤ w.heap.size + 1; omega) _).setCell (p := ⟨w.heap.size + 1, 8, none⟩) (by show _ ≤ w.heap.size + 1; omega) _).setCell (p := ⟨w.heap.size + 1, 9, none⟩) (by show _ ≤ w.heap.size + 1; omega) _)
  have s6 : v6.heap.size = v5.heap.size := by rw [hv6]; simp
  have OT2 := OT2.keep (w' := v6) (fun g h1 h2 => kp g (by omega))
  have ON2 := ON2.keep (w' := v6) (fun g e => kp g (by have := lON g e; omega))
  have OG2 := OG2.keep (w' := v6) (fun g e => kp g (by have := lOG g e; omega))
  have OL2 := OL2.keep (w' := v6) (fun g e => kp g (by have := lOL g e; omega))
  have OS2 := OS2.keep (w' := v6) (fun g e => kp g (by have := lOS g e; omega))
  have hM : BxM w.heap.size v6.heap.size v6 X2 := by
    rw [hX2]
    refine ⟨?_, ON2.base (by omega), OG2.base (by omega), OL2.base (by omega), OS2.base (by omega), fun b e => (by have := lON b e; omega), fun b e => (by have := lOG b e; omega), fun b e => (by have := lOL b e; omega), fun b e => (by have := lOS b e; omega), fun j hj b e e2 => ?_⟩
    · show MOwn _ _ _ (.slice _ (cpyM x.two Ns).length _) _
      rw [cpyM_len]
      exact OT2.wide (by omega) (by omega)
    · have h1 := OT2.nhi j hj b e
      have h2 := (OL2.lt b e2).1
      omega
  obtain ⟨⟨t0, t1, t2, t3, t4, t5, t6, t7, t8, t9⟩, tf⟩ : BxB v6 (w.heap.size + 1) X2 := by rw [hv6]; have := Z2.put X2; rw [hX2] at this; dsimp only at this; rw [cpyM_len] at this; rw [hX2]; exact this
  rw [hX2] at t0 t1 t2 t3 t4 t5 t6 t7 t8 t9
  dsimp only at t0 t1 t2 t3 t4 t5 t6 t7 t8 t9
  rw [cpyM_len] at t5
  clear tf
  go_wp2
  refine bodyPost_ret (v := .agg #[.int .i64 x.id, .int .i64 x.po, .int .i64 x.rg.ep, .int .i64 x.rg.ow, .int .i64 x.rg.pa, .slice (some ⟨gT, 0, none⟩) x.two.length x.two.length, .slice (some ⟨gN, 0, none⟩) x.net.length x.net.length, .slice (some ⟨gG, 0, none⟩) x.ga.length x.ga.length, .slice (some ⟨gL, 0, none⟩) x.ln.length x.ln.length, .slice (some ⟨gS, 0, none⟩) x.sd.length x.sd.length]) (by simp [results, Try.results8, go_sem, *]) rfl ⟨X2, by rw [hV2], hP2, by rw [← hv6]; exact hM, by rw [← hv6]; exact B6⟩

end Go.Proofs.Ytplejmkbdonkpab
namespace Go.Proofs.Ytplejmkbdonkpab
open Go.ChangeShapes Go.WideShapes Go.ChangeAt Go.RowKit
open Go.ChangeMaps (open_string shut_string)
set_option linter.unusedVariables false
set_option maxRecDepth 100000

set_option maxHeartbeats 4000000 in
theorem gatesS12r (id : Int) (ad : Option Addr) (cap : Nat) (L : List Pt) (w : World) (hv : FView ptEnc w ad L) (hl : L.length ≤ 1048576) :
    Calls Try.prog 47 #[.agg #[.int .i64 id, .slice ad L.length cap]] w fun e w' => ∃ a c, e = .returned (.slice a L.length c) ∧ FOwn boEnc 1 4 w.heap.size w' (.slice a L.length c) (gatesR L) ∧ Below w.heap.size w w' := by
  obtain ⟨j0, hj, hj0, hj1, hj2⟩ := info_parts boInfo
  obtain ⟨y, hy⟩ : ∃ y, y = w.alloc (Obj.cells #[.int .i64 id, .slice ad L.length cap] 55) := ⟨_, rfl⟩
  have B0 : Below w.heap.size w y := by rw [hy]; exact below_new _
  have A : BrAt y w.heap.size id (.slice ad L.length cap) := by rw [hy]; exact BrAt.new w _ _ _
  have hB := hv.lt ptEnc_len (by omega)
  have hV := hv.below B0 hB
  have hB := hV.lt ptEnc_len (by omega)
  have S0 := A.lt
  clear hv
  obtain ⟨y2, hy2⟩ : ∃ y2, y2 = y.alloc (Obj.cells #[] 4) := ⟨_, rfl⟩
  have O0 : FOwn boEnc 1 4 y.heap.size y2 (.slice (some ⟨y.heap.size, 0, none⟩) 0 0) (gatesR (L.take 0)) := by
    rw [hy2]; exact FOwn.empty y
  have B1 : Below y.heap.size y y2 := by rw [hy2]; exact below_new _
  go_enter Try.func47, Try.ntmps47
  go_upto_region 1 with fail
  rw [← hy]
  clear hy
  go_upto_region 2 with fail
  rw [← hy2]
  clear hy2
  go_wp2
  go_loopw [3, 4] (fun v q wr => ∃ k : Nat, k ≤ L.length ∧ q = .int .i64 (k : Int) ∧ FOwn boEnc 1 4 y.heap.size wr v (gatesR (L.take k)) ∧ Below y.heap.size y wr) (fun _ q _ => L.length - (intOf q).toNat)
  case atStart => exact ⟨0, Nat.zero_le _, rfl, O0, B1⟩
  case round =>
    obtain ⟨k, hk1, rfl, O, kb⟩ := hrel
    clear O0 B1
    have hA := A.below kb S0
    obtain ⟨x1, x2⟩ := hA
    by_cases hlt : k < L.length
    · have hst := gatesR_take L hlt
      obtain ⟨b, off, rfl, _⟩ := hV (by omega)
      obtain ⟨h, hh⟩ : ∃ h, L.getD k Pt.nil = h := ⟨_, rfl⟩
      have hck : PtAtO wr b (off + k * 11) h := by
        rw [← hh]
        exact ptAtO_of ((hV.below kb hB).at_ ptEnc_len Pt.nil hlt)
      rw [hh] at hst
      have hop := hck.c10
      clear hck hh
      obtain ⟨M, hM⟩ : ∃ M, gatesR (L.take k) = M := ⟨_, rfl⟩
      have hMl : M.length ≤ k := by rw [← hM, gatesR_len]; simp; omega
      rw [hM] at O hst
      clear hM
      obtain ⟨ak, ck2, rfl⟩ := O.open_
      replace hst : Hid _ := hst
      have V1 := FView.oneB wr 4 h.op
      have kx : Below wr.heap.size wr (wr.alloc (Obj.cells #[.bool h.op] 4)) := below_new _
      have O4 := O.later kx
      have b4 := kb.trans (kx.mono kb.size)
      have s4 := b4.size
      clear kx
      go_wp2_with (first | (at_builtin; refine fappL boEnc_len boEnc_ones rfl _ _ 26 rfl y.heap.size 4 j0 (.bool false) 1 Try.underlying26 hj hj0 hj1 hj2 rfl (by decide) (by decide) (.slice ak M.length ck2) M rfl O4 (some ⟨wr.heap.size, 0, none⟩) 1 [h.op] rfl (fun e => by cases e) V1 ?z0 ?z1 ?_) | go_in)
      case z0 => first | omega | (simp; omega)
      case z1 => first | omega | (simp; omega)
      intro vZ wZ hownZ hgrowZ _
      have hob : ∀ q, (Value.slice ak M.length ck2).ownBlock = some q → y.heap.size ≤ q := fun q e => (O4.lt q e).1
      have bZ : Below y.heap.size y wZ := b4.grown hgrowZ (by exact s4) hob
      clear hgrowZ V1 O4 hob O b4
      go_wp2
      go_roundw
      case rel => exact ⟨k + 1, by omega, by go_num, by rw [hst.out]; exact hownZ, bZ⟩
      case measure => simp [intOf]; omega
    · obtain rfl : k = L.length := by omega
      rw [List.take_length] at O
      obtain ⟨ak, ck2, rfl⟩ := O.open_
      have OZ := O.base B0.size
      rw [gatesR_len] at OZ ⊢
      have bZ := B0.trans (kb.mono B0.size)
      go_wp2
      go_ret
      exact ⟨_, _, rfl, OZ, bZ⟩
theorem gatesS12 (id : Int) (ad : Option Addr) (cap : Nat) (L : List Pt) (w : World) (hv : FView ptEnc w ad L) (hl : L.length ≤ 1048576) :
    Calls Try.prog 47 #[.agg #[.int .i64 id, .slice ad L.length cap]] w fun e w' => ∃ a c, e = .returned (.slice a (gatesR L).length c) ∧ FOwn boEnc 1 4 w.heap.size w' (.slice a (gatesR L).length c) (gatesR L) ∧ Below w.heap.size w w' := by
  rw [gatesR_len]
  exact gatesS12r id ad cap L w hv hl

end Go.Proofs.Ytplejmkbdonkpab
namespace Go.Proofs.Ytplejmkbdonkpab
open Go.ChangeShapes Go.WideShapes Go.ChangeAt Go.RowKit
open Go.ChangeMaps (open_string shut_string)
set_option linter.unusedVariables false
set_option maxRecDepth 100000

set_option maxHeartbeats 4000000 in
theorem newBS (id n : Int) (w : World) :
    Calls Try.prog 22 #[.int .i64 id, .int .i64 n] w fun e w' => ∃ ad' cap', e = .returned (.tuple #[.agg #[.int .i64 (newI id n), .slice ad' (newL id n).length cap'], .bool (nOk id n)]) ∧ FOwn ptEnc 11 96 w.heap.size w' (.slice ad' (newL id n).length cap') (newL id n) ∧ Below w.heap.size w w' := by
  obtain ⟨i0, hi, hz0, hz1, hz2⟩ := info_parts ptInfo
  obtain ⟨y, hy⟩ : ∃ y, y = (w.alloc (Obj.cells #[.int .i64 0, .slice none 0 0] 55)).alloc (Obj.cells #[.int .i64 id, .slice none 0 0] 55) := ⟨_, rfl⟩
  have B0 : Below w.heap.size w y := by rw [hy]; exact ((Below.refl _ _).alloc (Nat.le_refl _) _).alloc (by simp) _
  have R0 : BBox y w.heap.size 0 (.slice none 0 0) := by rw [hy]; refine ⟨?_, fun i => ?_⟩; constructor <;> simp [go_sem]; simp [go_sem]
  have N0 : BBox y (w.heap.size + 1) id (.slice none 0 0) := by rw [hy]; refine ⟨?_, fun i => ?_⟩; constructor <;> simp [go_sem]; simp [go_sem]
  have S0 := N0.lt
  obtain ⟨IV, hI⟩ : ∃ v, v = newI id n := ⟨_, rfl⟩
  obtain ⟨LV, hM⟩ : ∃ v, v = newL id n := ⟨_, rfl⟩
  obtain ⟨NV, hN⟩ : ∃ v, v = nOk id n := ⟨_, rfl⟩
  rw [← hI, ← hM, ← hN]
  obtain ⟨m, hm⟩ : ∃ m : Nat, m = (if n < 5 then n else 5).toNat := ⟨_, rfl⟩
  have hm5 : m ≤ 5 := by rw [hm]; split <;> omega
  have hmn : nOk id n = nOk id (m : Int) := by
    unfold nOk
    congr 1
    apply decide_eq_decide.2
    rw [hm]
    split <;> omega
  have hmt : nOk id n = true → n.toNat = m := by
    intro h
    unfold nOk at h
    simp only [Bool.and_eq_true, decide_eq_true_eq] at h
    rw [hm, if_pos (by omega)]
  obtain ⟨t, ht⟩ : ∃ t : Int, t = (if n < 5 then n else 5) := ⟨_, rfl⟩
  have htm : t ≤ (m : Int) ∧ (0 ≤ t → t = (m : Int)) ∧ (t < 0 → m = 0) := by rw [ht, hm]; split <;> omega
  replace ht : Hid _ := ht
  replace hI : Hid _ := hI
  replace hM : Hid _ := hM
  replace hN : Hid _ := hN
  replace hmn : Hid _ := hmn
  replace hmt : Hid _ := hmt
  replace htm : Hid _ := htm
  clear hm
  go_enter Try.func22, Try.ntmps22
  go_wp2
  rw [← hy]
  clear hy
  go_loopw [7] (fun i wr => ∃ k : Nat, k ≤ m ∧ i = .int .i64 (k : Int) ∧ (∃ adk capk, FOwn ptEnc 11 96 y.heap.size wr (.slice adk k capk) (List.replicate k Pt.nil) ∧ BBox wr (w.heap.size + 1) id (.slice adk k capk)) ∧ BBox wr w.heap.size 0 (.slice none 0 0) ∧ Below w.heap.size w wr ∧ y.heap.size ≤ wr.heap.size) (fun i _ => m - (intOf i).toNat)
  case atStart => exact ⟨0, Nat.zero_le _, rfl, ⟨none, 0, FOwn.nil, N0⟩, R0, B0, Nat.le_refl _⟩
  case round =>
    obtain ⟨k, hk, rfl, ⟨adk, capk, O, N1⟩, R1, B1, S1⟩ := hrel
    obtain ⟨⟨n0, n1⟩, nf⟩ := N1
    have N1 : BBox wr (w.heap.size + 1) id (.slice adk k capk) := ⟨⟨n0, n1⟩, nf⟩
    by_cases hlt : (k : Int) < t
    · have dl : decide ((k : Int) < t) = true := decide_eq_true hlt
      have hkm : k < m := by have := htm.out; omega
      replace hlt : Hid _ := hlt
      go_wp2_with fail
      go_at_call 60
      refine (minS n 5 wr).mono ?_
      rintro e w2 ⟨rfl, rfl⟩
      rw [← ht.out]
      have V1 := FView.one w2 96 Pt.nil
      have B2 := B1.alloc B1.size (Obj.cells #[.bool false, .bool false, .int .i64 0, .int .i64 0, .int .i64 0, .int .i64 0, .int .i64 0, .int .i64 0, .int .i64 0, .int .i64 0, .bool false] 96)
      have O2 : FOwn ptEnc 11 96 y.heap.size (w2.alloc (Obj.cells #[.bool false, .bool false, .int .i64 0, .int .i64 0, .int .i64 0, .int .i64 0, .int .i64 0, .int .i64 0, .int .i64 0, .int .i64 0, .bool false] 96)) (.slice adk k capk) (List.replicate k Pt.nil) := O.later (below_new _)
      have hcn := O.capn
      go_wp2_with (first | (at_builtin; refine fappL ptEnc_len ptEnc_ones rfl _ _ 53 rfl y.heap.size 96 i0 (.agg #[.bool false, .bool false, .int .i64 0, .int .i64 0, .int .i64 0, .int .i64 0, .int .i64 0, .int .i64 0, .int .i64 0, .int .i64 0, .bool false]) 80 Try.underlying53 hi hz0 hz1 hz2 rfl (by decide) (by decide) (.slice adk k capk) (List.replicate k Pt.nil) rfl O2 (some ⟨w2.heap.size, 0, none⟩) 1 [Pt.nil] rfl (fun e => by cases e) V1 ?z0 ?z1 ?_) | go_in)
      case z0 => simp; omega
      case z1 => simp; omega
      intro vZ wZ hownZ hgrowZ _
      have hownZ : FOwn ptEnc 11 96 y.heap.size wZ vZ (List.replicate (k + 1) Pt.nil) := by rw [List.replicate_succ']; exact hownZ
      have ho : ∀ g, (Value.slice adk k capk).ownBlock = some g → y.heap.size ≤ g := fun g e => (O2.lt g e).1
      have BZ : Below w.heap.size w wZ := B2.grown hgrowZ B2.size (fun g e => by have := ho g e; omega)
      have NZ : BBox wZ (w.heap.size + 1) id (.slice adk k capk) := (N1.below (below_new _) N1.lt).keep (hgrowZ.block _ (by have := N1.lt; simp; omega) (fun e => by have := ho _ e.symm; omega))
      have RZ : BBox wZ w.heap.size 0 (.slice none 0 0) := (R1.below (below_new _) R1.lt).keep (hgrowZ.block _ (by have := R1.lt; simp; omega) (fun e => by have := ho _ e.symm; omega))
      have SZ : y.heap.size ≤ wZ.heap.size := by have := hgrowZ.size; simp at this; omega
      obtain ⟨aZ, cZ, hvz⟩ := hownZ.open_
      rw [List.length_replicate] at hvz
      subst hvz
      clear hgrowZ V1 B2 O2 n0 n1 nf N1 R1 O ho hcn
      obtain ⟨⟨q0, q1⟩, qf⟩ := NZ
      have NZ : BBox wZ (w.heap.size + 1) id (.slice adk k capk) := ⟨⟨q0, q1⟩, qf⟩
      have NS : BBox (wZ.setCell ⟨w.heap.size + 1, 1, none⟩ (.slice aZ (k + 1) cZ)) (w.heap.size + 1) id (.slice aZ (k + 1) cZ) := ⟨⟨(pset_else (by decide)).trans q0, pset_same q1⟩, fun i => by rw [World.frozen?_setCell]; exact qf i⟩
      have RS : BBox (wZ.setCell ⟨w.heap.size + 1, 1, none⟩ (.slice aZ (k + 1) cZ)) w.heap.size 0 (.slice none 0 0) := RZ.keep (Below.heap_setCell _ _ _ _ (by show w.heap.size ≠ w.heap.size + 1; omega))
      have OS : FOwn ptEnc 11 96 y.heap.size (wZ.setCell ⟨w.heap.size + 1, 1, none⟩ (.slice aZ (k + 1) cZ)) (.slice aZ (k + 1) cZ) (List.replicate (k + 1) Pt.nil) := hownZ.keep fun g' e => Below.heap_setCell _ _ _ _ (by have := (hownZ.lt g' e).1; show g' ≠ w.heap.size + 1; omega)
      have BS := BZ.setCell (p := ⟨w.heap.size + 1, 1, none⟩) (by show _ ≤ w.heap.size + 1; omega) (.slice aZ (k + 1) cZ)
      clear NZ RZ hownZ BZ
      go_wp2
      go_roundw
      case rel => exact ⟨k + 1, by omega, by go_num, ⟨aZ, cZ, OS, NS⟩, RS, BS, by simpa using SZ⟩
      case measure => simp [intOf]; omega
    · have dl : decide ((k : Int) < t) = false := decide_eq_false hlt
      have hkm : Hid (k = m) := by unfold Hid; have := htm.out; omega
      replace hlt : Hid _ := hlt
      go_wp2_with fail
      go_at_call 60
      refine (minS n 5 wr).mono ?_
      rintro e w2 ⟨rfl, rfl⟩
      rw [← ht.out]
      have hc := bOkS id adk capk (List.replicate k Pt.nil) w2 (by have := O.view.2; exact this) (by rw [List.length_replicate]; omega)
      rw [List.length_replicate, bOk_new, hkm.out, ← hmn.out, ← hkm.out] at hc
      go_wp2_with fail
      go_at_call 61
      refine hc.mono ?_
      rintro e w3 ⟨rfl, k3⟩
      have R3 := R1.below k3 R1.lt
      have N3 := N1.below k3 N1.lt
      have O3 := O.later k3
      have B3 := B1.trans (k3.mono B1.size)
      clear hc k3 n0 n1 nf R1 N1 O
      cases he : nOk id n with
      | false =>
        replace hI : Hid (IV = 0) := by unfold Hid; rw [hI.out]; unfold newI; rw [he]; rfl
        replace hM : Hid (LV = []) := by unfold Hid; rw [hM.out]; unfold newL; rw [he]; rfl
        replace hN : Hid (NV = false) := by unfold Hid; rw [hN.out, he]
        clear he
        have RP := R3.put 0 (.slice none 0 0)
        obtain ⟨⟨r0, r1⟩, rf⟩ := R3
        have BZ := (B3.setCell (p := ⟨w.heap.size, 0, none⟩) (Nat.le_refl w.heap.size) (.int .i64 0)).setCell (p := ⟨w.heap.size, 1, none⟩) (Nat.le_refl w.heap.size) (.slice none 0 0)
        obtain ⟨⟨p0, p1⟩, _⟩ := RP
        go_wp2
        refine bodyPost_ret (v := .tuple #[.agg #[.int .i64 0, .slice none 0 0], .bool false]) (by simp [results, Try.results22, go_sem, *]) rfl ⟨none, 0, by rw [hI.out, hM.out, hN.out]; rfl, by rw [hM.out]; exact FOwn.nil, BZ⟩
      | true =>
        have hRl : Hid (LV.length = k) := by unfold Hid; rw [hM.out]; unfold newL; rw [he, if_pos rfl, List.length_replicate, hmt.out he, hkm.out]
        replace hI : Hid (IV = id) := by unfold Hid; rw [hI.out]; unfold newI; rw [he]; rfl
        replace hM : Hid (LV = List.replicate k Pt.nil) := by unfold Hid; rw [hM.out]; unfold newL; rw [he, if_pos rfl, hmt.out he, hkm.out]
        replace hN : Hid (NV = true) := by unfold Hid; rw [hN.out, he]
        clear he hkm
        have RP := R3.put id (.slice adk k capk)
        obtain ⟨⟨r0, r1⟩, rf⟩ := R3
        obtain ⟨⟨n0, n1⟩, nf⟩ := N3
        have BZ := (B3.setCell (p := ⟨w.heap.size, 0, none⟩) (Nat.le_refl w.heap.size) (.int .i64 id)).setCell (p := ⟨w.heap.size, 1, none⟩) (Nat.le_refl w.heap.size) (.slice adk k capk)
        have OZ : FOwn ptEnc 11 96 w.heap.size ((w3.setCell ⟨w.heap.size, 0, none⟩ (.int .i64 id)).setCell ⟨w.heap.size, 1, none⟩ (.slice adk k capk)) (.slice adk k capk) (List.replicate k Pt.nil) := (O3.base (by omega)).keep fun g' e => by
          have := (O3.lt g' e).1
          rw [Below.heap_setCell _ _ _ _ (by show g' ≠ w.heap.size; omega), Below.heap_setCell _ _ _ _ (by show g' ≠ w.heap.size; omega)]
        obtain ⟨⟨p0, p1⟩, _⟩ := RP
        go_wp2
        refine bodyPost_ret (v := .tuple #[.agg #[.int .i64 id, .slice adk k capk], .bool true]) (by simp [results, Try.results22, go_sem, *]) rfl ⟨adk, capk, by rw [hI.out, hN.out, hRl.out], by rw [hRl.out, hM.out]; exact OZ, BZ⟩

end Go.Proofs.Ytplejmkbdonkpab
namespace Go.Proofs.Ytplejmkbdonkpab
open Go.ChangeShapes Go.WideShapes Go.ChangeAt Go.RowKit
open Go.ChangeMaps (open_string shut_string)
set_option linter.unusedVariables false
set_option maxRecDepth 100000

theorem p_two_len (x : BxD) : x.p.two.length = x.two.length := by unfold BxD.p; simp
end Go.Proofs.Ytplejmkbdonkpab
namespace Go.Proofs.Ytplejmkbdonkpab
open Go.ChangeShapes Go.WideShapes Go.ChangeAt Go.RowKit
open Go.ChangeMaps (open_string shut_string)
set_option linter.unusedVariables false
set_option maxRecDepth 100000

theorem MdAtO.below {w w' : World} {q o n : Nat} {x : MiD} (h : MdAtO w q o x) (k : Below n w w') (hq : q < n) : MdAtO w' q o x :=
  ⟨(World.cell?_of_block (a := ⟨q, o, none⟩) (k.block q hq)).trans h.c0, (World.cell?_of_block (a := ⟨q, o + 1, none⟩) (k.block q hq)).trans h.c1, (World.cell?_of_block (a := ⟨q, o + 2, none⟩) (k.block q hq)).trans h.c2, (World.cell?_of_block (a := ⟨q, o + 3, none⟩) (k.block q hq)).trans h.c3, (World.cell?_of_block (a := ⟨q, o + 4, none⟩) (k.block q hq)).trans h.c4, (World.cell?_of_block (a := ⟨q, o + 5, none⟩) (k.block q hq)).trans h.c5, (World.cell?_of_block (a := ⟨q, o + 6, none⟩) (k.block q hq)).trans h.c6⟩
theorem dec40 (n : Nat) : (true && (true && (true && (true && (true && (true && decide (n ≤ 40))))))) = decide ((n : Int) ≤ 40) := by
  by_cases h : n ≤ 40
  · rw [decide_eq_true h, decide_eq_true (show (n : Int) ≤ 40 by omega)]; rfl
  · rw [decide_eq_false h, decide_eq_false (show ¬ (n : Int) ≤ 40 by omega)]; rfl
set_option maxHeartbeats 8000000 in
theorem boxOkS (x : BxD) (w : World) (hV : BxV w x) :
    Calls Try.prog 7 #[.agg #[.int .i64 x.id, .int .i64 x.po, .int .i64 x.rg.ep, .int .i64 x.rg.ow, .int .i64 x.rg.pa, .slice x.aT x.two.length x.cT, .slice x.aN x.net.length x.cN, .slice x.aG x.ga.length x.cG, .slice x.aL x.ln.length x.cL, .slice x.aS x.sd.length x.cS]] w fun e w' => e = .returned (.bool (bxOk x.p)) ∧ Below w.heap.size w w' := by
  obtain ⟨R, hR⟩ : ∃ R, R = bxOk x.p := ⟨_, rfl⟩
  rw [← hR]
  replace hR : Hid _ := hR
  obtain ⟨y, hy⟩ : ∃ y, y = w.alloc (Obj.cells #[.int .i64 x.id, .int .i64 x.po, .int .i64 x.rg.ep, .int .i64 x.rg.ow, .int .i64 x.rg.pa, .slice x.aT x.two.length x.cT, .slice x.aN x.net.length x.cN, .slice x.aG x.ga.length x.cG, .slice x.aL x.ln.length x.cL, .slice x.aS x.sd.length x.cS] 39) := ⟨_, rfl⟩
  have B0 : Below w.heap.size w y := by rw [hy]; exact below_new _
  have A : BxAt y w.heap.size x := by rw [hy]; exact BxAt.new w _ x
  have V := hV.later B0
  go_enter Try.func7, Try.ntmps7
  have cc := A
  obtain ⟨a0, a1, a2, a3, a4, a5, a6, a7, a8, a9⟩ := cc
  go_wp2_with fail
  go_at_call 22
  rw [← hy]
  clear hy hV a0 a1 a2 a3 a4 a5 a6 a7 a8 a9
  refine (newBS x.id x.po y).mono ?_
  rintro e u1 ⟨ab, cb, rfl, _, k1⟩
  have A := A.below k1 A.lt
  have V := V.later k1
  have B1 := B0.trans (k1.mono B0.size)
  clear k1 B0
  obtain ⟨u2, hu2⟩ : ∃ u2, u2 = u1.alloc (Obj.cells #[.int .i64 (newI x.id x.po), .slice ab (newL x.id x.po).length cb] 55) := ⟨_, rfl⟩
  have k2 : Below u1.heap.size u1 u2 := by rw [hu2]; exact below_new _
  have A := A.below k2 A.lt
  have V := V.later k2
  have B2 := B1.trans (k2.mono B1.size)
  go_upto_region 2 with fail
  rw [← hu2]
  clear hu2 k2 B1
  cases h1 : nOk x.id x.po
  · have hN : Hid (R = false) := by unfold Hid; rw [hR.out]; unfold bxOk; rw [show nOk x.p.id x.p.po = _ from h1]; rfl
    go_wp2
    go_ret
    exact ⟨by rw [hN.out]; rfl, B2⟩
  · replace h1 : Hid _ := h1
    have cc := A
    obtain ⟨a0, a1, a2, a3, a4, a5, a6, a7, a8, a9⟩ := cc
    go_wp2_with fail
    go_at_call 23
    clear a0 a1 a2 a3 a4 a5 a6 a7 a8 a9
    refine (regOkS x.rg u2).mono ?_
    rintro e u3 ⟨rfl, k3⟩
    have A := A.below k3 A.lt
    have V := V.later k3
    have B3 := B2.trans (k3.mono B2.size)
    clear k3 B2
    cases h2 : rgOk x.rg
    · have hN : Hid (R = false) := by unfold Hid; rw [hR.out]; unfold bxOk; rw [show nOk x.p.id x.p.po = _ from h1.out, show rgOk x.p.rg = _ from h2]; rfl
      clear h2
      go_wp2
      go_ret
      exact ⟨by rw [hN.out]; rfl, B3⟩
    · replace h2 : Hid _ := h2
      by_cases h3 : x.two.length = 2
      · have d3 : ((x.two.length : Int) != 2) = false := by rw [bne_eq_false_iff_eq]; omega
        have h3' : Hid (decide (x.two.length = 2) = true) := decide_eq_true h3
        replace h3 : Hid (decide (x.p.two.length = 2) = true) := decide_eq_true (by rw [p_two_len]; exact of_decide_eq_true h3'.out)
        have h3n : 1 < x.two.length := by have := of_decide_eq_true h3'.out; omega
        clear h3'
        obtain ⟨d, hd⟩ : ∃ d, x.two.getD 0 MiD.nil = d := ⟨_, rfl⟩
        obtain ⟨d2, hd2⟩ : ∃ d, x.two.getD 1 MiD.nil = d := ⟨_, rfl⟩
        have vl1 := V.l 0 (by omega)
        have vl2 := V.l 1 h3n
        have ll1 := V.bl 0 (by omega)
        have ll2 := V.bl 1 h3n
        rw [hd] at vl1 ll1
        rw [hd2] at vl2 ll2
        have m0 : Hid (mOf x.p 0 = d.m) := by unfold Hid; rw [mOf_p]; show (x.two.getD 0 MiD.nil).m = _; rw [hd]
        have m1 : Hid (mOf x.p 1 = d2.m) := by unfold Hid; rw [mOf_p]; show (x.two.getD 1 MiD.nil).m = _; rw [hd2]
        obtain ⟨b, off, hat, _⟩ := V.t (by omega)
        have hc0 : MdAtO u3 b off d := by have ht := V.t; rw [hat] at ht; have := mdAtO_of (ht.at_ mdEnc_len MiD.nil (show 0 < x.two.length by omega)); rw [hd, Nat.zero_mul, Nat.add_zero] at this; exact this
        have hc1 : MdAtO u3 b (off + 7) d2 := by have ht := V.t; rw [hat] at ht; have := mdAtO_of (ht.at_ mdEnc_len MiD.nil h3n); rw [hd2, Nat.one_mul] at this; exact this
        have hbl : b < u3.heap.size := World.block_lt_of_cell? _ _ hc0.c0
        replace hat : Hid _ := hat
        replace hd : Hid _ := hd
        replace hd2 : Hid _ := hd2
        have cc := A
        obtain ⟨a0, a1, a2, a3, a4, a5, a6, a7, a8, a9⟩ := cc
        rw [hat.out] at a5
        have cc := hc0
        obtain ⟨e0, e1, e2, e3, e4, e5, e6⟩ := cc
        go_wp2_with fail
        go_at_call 24
        clear a0 a1 a2 a3 a4 a5 a6 a7 a8 a9 e0 e1 e2 e3 e4 e5 e6 d3
        refine (miOkS d.m d.ad d.cap u3 vl1 (by omega)).mono ?_
        rintro e u5 ⟨rfl, k5⟩
        have vl2 := vl2.below k5 (vl2.lt ikEnc_len (by omega))
        have hc1 : MdAtO u5 b (off + 7) d2 := hc1.below k5 hbl
        have A := A.below k5 A.lt
        have V := V.later k5
        have B5 := B3.trans (k5.mono B3.size)
        clear k5 B3
        cases h4 : miOk d.m
        · have hN : Hid (R = false) := by unfold Hid; rw [hR.out]; unfold bxOk; rw [show nOk x.p.id x.p.po = _ from h1.out, show rgOk x.p.rg = _ from h2.out, h3.out, show miOk (mOf x.p 0) = false by rw [m0.out]; exact h4]; rfl
          clear h4
          go_wp2
          go_ret
          exact ⟨by rw [hN.out]; rfl, B5⟩
        · replace h4 : Hid (miOk (mOf x.p 0) = true) := by unfold Hid; rw [m0.out]; exact h4
          have cc := A
          obtain ⟨a0, a1, a2, a3, a4, a5, a6, a7, a8, a9⟩ := cc
          rw [hat.out] at a5
          have cc := hc1
          obtain ⟨e0, e1, e2, e3, e4, e5, e6⟩ := cc
          go_wp2_with fail
          go_at_call 24
          clear a0 a1 a2 a3 a4 a5 a6 a7 a8 a9 e0 e1 e2 e3 e4 e5 e6
          refine (miOkS d2.m d2.ad d2.cap u5 vl2 (by omega)).mono ?_
          rintro e u6 ⟨rfl, k6⟩
          have A := A.below k6 A.lt
          have V := V.later k6
          have B6 := B5.trans (k6.mono B5.size)
          clear k6 B5
          cases h5 : miOk d2.m
          · have hN : Hid (R = false) := by unfold Hid; rw [hR.out]; unfold bxOk; rw [show nOk x.p.id x.p.po = _ from h1.out, show rgOk x.p.rg = _ from h2.out, h3.out, h4.out, show miOk (mOf x.p 1) = false by rw [m1.out]; exact h5]; rfl
            clear h5
            go_wp2
            go_ret
            exact ⟨by rw [hN.out]; rfl, B6⟩
          · replace h5 : Hid (miOk (mOf x.p 1) = true) := by unfold Hid; rw [m1.out]; exact h5
            have cc := A
            obtain ⟨a0, a1, a2, a3, a4, a5, a6, a7, a8, a9⟩ := cc
            go_wp2_with fail
            go_at_call 25
            clear a0 a1 a2 a3 a4 a5 a6 a7 a8 a9
            refine (netS x u6 V).mono ?_
            rintro e u7 ⟨rfl, k7⟩
            have A := A.below k7 A.lt
            have V := V.later k7
            have B7 := B6.trans (k7.mono B6.size)
            clear k7 B6
            cases h6 : x.net.all wiOk && decide (x.net.length ≤ 20)
            · have h6' : (x.p.net.all wiOk && (decide (x.p.net.length ≤ 20) && (decide ((x.p.ga.length : Int) = x.p.po) && (insB x.p.ln && decide (x.p.sd.length ≤ 40))))) = false := by rw [← Bool.and_assoc, show (x.p.net.all wiOk && decide (x.p.net.length ≤ 20)) = false from h6]; rfl
              have hN : Hid (R = false) := by unfold Hid; rw [hR.out]; unfold bxOk; rw [show nOk x.p.id x.p.po = _ from h1.out, show rgOk x.p.rg = _ from h2.out, show decide (x.p.two.length = 2) = _ from h3.out, h4.out, h5.out, h6']; rfl
              clear h6 h6'
              go_wp2
              go_ret
              exact ⟨by rw [hN.out]; rfl, B7⟩
            · replace h6 : Hid _ := h6
              have h6' : Hid (∀ t, (x.p.net.all wiOk && (decide (x.p.net.length ≤ 20) && t)) = t) := fun t => by rw [← Bool.and_assoc, show (x.p.net.all wiOk && decide (x.p.net.length ≤ 20)) = true from h6.out]; rfl
              by_cases h7 : (x.ga.length : Int) = x.po
              · have d7 : ((x.ga.length : Int) == x.po) = true := by simpa using h7
                have h7' : Hid (decide ((x.p.ga.length : Int) = x.p.po) = true) := decide_eq_true h7
                replace h7 : Hid _ := h7
                have cc := A
                obtain ⟨a0, a1, a2, a3, a4, a5, a6, a7, a8, a9⟩ := cc
                go_wp2_with fail
                go_at_call 26
                clear a0 a1 a2 a3 a4 a5 a6 a7 a8 a9
                refine (insS x.aL x.cL x.ln u7 V.i (by have := V.bi; omega)).mono ?_
                rintro e u8 ⟨rfl, k8⟩
                have bs := V.bs
                have A := A.below k8 A.lt
                have V := V.later k8
                have B8 := B7.trans (k8.mono B7.size)
                clear k8 B7
                cases h8 : insB x.ln
                · have hN : Hid (R = false) := by unfold Hid; rw [hR.out]; unfold bxOk; rw [show nOk x.p.id x.p.po = _ from h1.out, show rgOk x.p.rg = _ from h2.out, show decide (x.p.two.length = 2) = _ from h3.out, h4.out, h5.out, h6'.out, h7'.out, show insB x.p.ln = _ from h8]; rfl
                  clear h8
                  go_wp2
                  go_ret
                  exact ⟨by rw [hN.out]; rfl, B8⟩
                · replace h8 : Hid _ := h8
                  have cc := A
                  obtain ⟨a0, a1, a2, a3, a4, a5, a6, a7, a8, a9⟩ := cc
                  have hN : Hid (R = decide ((x.sd.length : Int) ≤ 40)) := by unfold Hid; rw [hR.out]; unfold bxOk; rw [show nOk x.p.id x.p.po = _ from h1.out, show rgOk x.p.rg = _ from h2.out, show decide (x.p.two.length = 2) = _ from h3.out, h4.out, h5.out, h6'.out, h7'.out, show insB x.p.ln = _ from h8.out]; exact dec40 x.sd.length
                  go_wp2
                  go_ret
                  exact ⟨by rw [hN.out]; rfl, B8⟩
              · have d7 : ((x.ga.length : Int) == x.po) = false := by rw [beq_eq_false_iff_ne]; exact h7
                have cc := A
                obtain ⟨a0, a1, a2, a3, a4, a5, a6, a7, a8, a9⟩ := cc
                have hN : Hid (R = false) := by unfold Hid; rw [hR.out]; unfold bxOk; rw [show nOk x.p.id x.p.po = _ from h1.out, show rgOk x.p.rg = _ from h2.out, show decide (x.p.two.length = 2) = _ from h3.out, h4.out, h5.out, h6'.out, show decide ((x.p.ga.length : Int) = x.p.po) = false from decide_eq_false h7]; rfl
                clear h7
                go_wp2
                go_ret
                exact ⟨by rw [hN.out]; rfl, B7⟩
      · have d3 : ((x.two.length : Int) != 2) = true := by rw [bne_iff_ne]; omega
        have cc := A
        obtain ⟨a0, a1, a2, a3, a4, a5, a6, a7, a8, a9⟩ := cc
        have hN : Hid (R = false) := by unfold Hid; rw [hR.out]; unfold bxOk; rw [show nOk x.p.id x.p.po = _ from h1.out, show rgOk x.p.rg = _ from h2.out, show decide (x.p.two.length = 2) = false from decide_eq_false (by rw [p_two_len]; exact h3)]; rfl
        clear h3
        go_wp2
        go_ret
        exact ⟨by rw [hN.out]; rfl, B3⟩

end Go.Proofs.Ytplejmkbdonkpab
namespace Go.Proofs.Ytplejmkbdonkpab
open Go.ChangeShapes Go.WideShapes Go.ChangeAt Go.RowKit
open Go.ChangeMaps (open_string shut_string)
set_option linter.unusedVariables false
set_option maxRecDepth 100000

/-- Where what a box reads lies, from below. -/
structure BxGe (B : Nat) (x : BxD) : Prop where
  t : ∀ a, x.aT = some a → 0 < x.two.length → B ≤ a.block
  l : ∀ i, i < x.two.length → ∀ a, (x.two.getD i MiD.nil).ad = some a → 0 < (x.two.getD i MiD.nil).m.lg.length → B ≤ a.block
  n : ∀ a, x.aN = some a → 0 < x.net.length → B ≤ a.block
  g : ∀ a, x.aG = some a → 0 < x.ga.length → B ≤ a.block
  i : ∀ a, x.aL = some a → 0 < x.ln.length → B ≤ a.block
  s : ∀ a, x.aS = some a → 0 < x.sd.length → B ≤ a.block
theorem BxIn.keptN {w w' : World} {x : BxD} {n : Nat} (h : BxIn w x) (hin : BxGe n x) (k : ∀ g, n ≤ g → w'.heap[g]? = w.heap[g]?) : BxIn w' x :=
  ⟨⟨h.t.row.carry (fun a e p => k _ (hin.t a e p)), fun i hi => (h.t.nest i hi).carry (fun a e p => k _ (hin.l i hi a e p)), h.t.nil0⟩, h.tm, h.ts, h.tc, h.tn, h.n.carry (fun a e p => k _ (hin.n a e p)), h.nm, h.nn, h.g.carry (fun a e p => k _ (hin.g a e p)), h.gm, h.gn, h.i.carry (fun a e p => k _ (hin.i a e p)), h.im, h.ic, h.s.carry (fun a e p => k _ (hin.s a e p)), h.sm, h.sn⟩
set_option maxHeartbeats 4000000 in
theorem newXS (id po : Int) (w : World) :
    Calls Try.prog 11 #[.int .i64 id, .int .i64 po] w fun e w' => ∃ x2 : BxD, (e = .returned (.tuple #[.agg #[.int .i64 x2.id, .int .i64 x2.po, .int .i64 x2.rg.ep, .int .i64 x2.rg.ow, .int .i64 x2.rg.pa, .slice x2.aT x2.two.length x2.cT, .slice x2.aN x2.net.length x2.cN, .slice x2.aG x2.ga.length x2.cG, .slice x2.aL x2.ln.length x2.cL, .slice x2.aS x2.sd.length x2.cS], .bool (nOk id po)]) ∧ x2.p = newX id po ∧ BxSm x2) ∧ BxIn w' x2 ∧ Below w.heap.size w w' := by
  obtain ⟨y, hy⟩ : ∃ y, y = w.alloc (Obj.cells #[.int .i64 0, .int .i64 0, .int .i64 0, .int .i64 0, .int .i64 0, .slice none 0 0, .slice none 0 0, .slice none 0 0, .slice none 0 0, .slice none 0 0] 39) := ⟨_, rfl⟩
  have B0 : Below w.heap.size w y := by rw [hy]; exact below_new _
  have Z : BxB y w.heap.size BxD.zero := by rw [hy]; refine ⟨?_, fun i => ?_⟩; constructor <;> simp [go_sem, BxD.zero]; simp [go_sem]
  go_enter Try.func11, Try.ntmps11
  go_wp2_with fail
  go_at_call 22
  rw [← hy]
  clear hy
  refine (newBS id po y).mono ?_
  rintro e u0 ⟨ad', cap', rfl, O', k0⟩
  have Z := Z.below k0 Z.lt
  have B1 := B0.trans (k0.mono B0.size)
  have s0 := k0.size
  have zl := Z.lt
  clear k0 B0
  obtain ⟨u1, hu1⟩ : ∃ y_, y_ = u0.alloc (Obj.cells #[.int .i64 (newI id po), .slice ad' (newL id po).length cap'] 55) := ⟨_, rfl⟩
  have kk : Below u0.heap.size u0 u1 := by rw [hu1]; exact below_new _
  have BB : BrAt u1 u0.heap.size (newI id po) (.slice ad' (newL id po).length cap') := by rw [hu1]; exact BrAt.new u0 _ _ _
  have Z := Z.below kk Z.lt
  have O' := O'.later kk
  have B2 := B1.trans (kk.mono B1.size)
  have s1 := BB.lt
  clear kk B1
  go_upto_region 2 with fail
  rw [← hu1]
  clear hu1
  obtain ⟨qb, hqb⟩ : ∃ q, q = u0.heap.size := ⟨_, rfl⟩
  rw [← hqb] at BB s1 ⊢
  replace hqb := Nat.le_of_eq hqb.symm
  have cc := BB
  obtain ⟨bb0, bb1⟩ := cc
  go_wp2_with fail
  go_at_call 47
  clear bb0 bb1
  refine (gatesS12 (newI id po) ad' cap' (newL id po) u1 O'.view.2 (Nat.le_trans (newL_le id po) (by omega))).mono ?_
  rintro e u2 ⟨aG, cG, rfl, OG, k2⟩
  have lG : ∀ g, (Value.slice aG (gatesR (newL id po)).length cG).ownBlock = some g → g < u2.heap.size := fun g e => (OG.lt g e).2
  have Z := Z.below k2 Z.lt
  have B3 := B2.trans (k2.mono B2.size)
  have s2 := k2.size
  clear k2 B2 BB O'
  obtain ⟨u3, hu3⟩ : ∃ y_, y_ = u2.alloc (Obj.cells #[.int .i64 id, .int .i64 po, .int .i64 1, .int .i64 0, .int .i64 0, .slice none 0 0, .slice none 0 0, .slice aG (gatesR (newL id po)).length cG, .slice none 0 0, .slice none 0 0] 39) := ⟨_, rfl⟩
  have kk : Below u2.heap.size u2 u3 := by rw [hu3]; exact below_new _
  have Hb : BxB u3 u2.heap.size ⟨id, po, ⟨1, 0, 0⟩, [], none, 0, [], none, 0, gatesR (newL id po), aG, cG, [], none, 0, [], none, 0⟩ := by rw [hu3]; refine ⟨?_, fun i => ?_⟩; constructor <;> simp [go_sem]; simp [go_sem]
  have Z := Z.below kk Z.lt
  have OG := OG.later kk
  have B4 := B3.trans (kk.mono B3.size)
  have s3 := Hb.lt
  clear kk B3
  go_upto_region 3 with fail
  rw [← hu3]
  clear hu3
  obtain ⟨qh, hqh⟩ : ∃ q, q = u2.heap.size := ⟨_, rfl⟩
  rw [← hqh] at Hb s3 ⊢
  have hqh1 := Nat.le_of_eq hqh
  replace hqh := Nat.le_of_eq hqh.symm
  have Hb3 := Hb
  obtain ⟨u4, hu4⟩ : ∃ y_, y_ = u3.setCell ⟨qh, 5, none⟩ (.slice (some ⟨u3.heap.size, 0, none⟩) 2 2) := ⟨_, rfl⟩
  have Hc := Hb.sT twoD (some ⟨u3.heap.size, 0, none⟩) 2 2 rfl
  rw [← hu4] at Hc
  have kp : ∀ k, k ≠ qh → u4.heap[k]? = u3.heap[k]? := fun k hk => by rw [hu4, Below.heap_setCell _ _ _ _ hk]
  have Z := Z.keep (kp _ (by omega))
  have OG := OG.keep (fun g e => kp g (by have := lG g e; omega))
  have B5 : Below w.heap.size w u4 := by rw [hu4]; exact B4.setCell (p := ⟨qh, 5, none⟩) (by show _ ≤ qh; omega) _
  have s45 : u4.heap.size = u3.heap.size := by rw [hu4]; simp
  obtain ⟨u5, hu5⟩ : ∃ y_, y_ = u4.alloc (Obj.cells #[.bool true, .int .i64 1, .int .i64 1, .slice none 0 0, .int .i64 0, .int .i64 0, .int .i64 0, .bool true, .int .i64 2, .int .i64 0, .slice none 0 0, .int .i64 0, .int .i64 0, .int .i64 0] 61) := ⟨_, rfl⟩
  have OT : MOwn u4.heap.size (u4.heap.size + 1) u5 (.slice (some ⟨u4.heap.size, 0, none⟩) 2 2) twoD := by rw [hu5]; exact twoOwn u4
  have kk : Below u4.heap.size u4 u5 := by rw [hu5]; exact below_new _
  have Z := Z.below kk Z.lt
  have Hc := Hc.below kk Hc.lt
  have OG := OG.later kk
  have B6 := B5.trans (kk.mono B5.size)
  have s4 : u4.heap.size < u5.heap.size := by rw [hu5]; simp
  rw [s45] at OT s4
  replace s45 := Nat.le_of_eq s45
  clear kk B4 kp Hb
  obtain ⟨⟨h0, h1, h2, h3, h4, h5, h6, h7, h8, h9⟩, hf⟩ := Hb3
  have hf5 := hf 5
  clear hf
  go_upto_region 4 with fail
  rw [← hu4, ← hu5]
  clear hu4 hu5 h0 h1 h2 h3 h4 h5 h6 h7 h8 h9 hf5 B5
  obtain ⟨q2, hq2⟩ : ∃ q, q = u3.heap.size := ⟨_, rfl⟩
  rw [← hq2] at Hc OT s4 ⊢
  replace hq2 := Nat.le_of_eq hq2.symm
  have J : BxIn u5 ⟨id, po, ⟨1, 0, 0⟩, twoD, some ⟨q2, 0, none⟩, 2, [], none, 0, gatesR (newL id po), aG, cG, [], none, 0, [], none, 0⟩ := by
    have hv := OT.view.2
    exact ⟨hv, by show (2 : Nat) ≤ _; unfold maxLen; omega, fun i hi => Nat.le_trans ((newX_sm id po q2 aG cG).ls i hi) (by unfold maxLen; omega), Nat.le_refl _, (fun e => by cases e), FView.nil, Nat.zero_le _, fun _ => rfl, OG.view.2, Nat.le_trans (newX_sm id po q2 aG cG).g (by unfold maxLen; omega), fun e => own_noneM (by have e1 : aG = none := e; have := OG; rw [e1] at this; exact this), FView.nil, Nat.zero_le _, fun _ => rfl, FView.nil, Nat.zero_le _, fun _ => rfl⟩
  have hap : BxGe (w.heap.size + 1) ⟨id, po, ⟨1, 0, 0⟩, twoD, some ⟨q2, 0, none⟩, 2, [], none, 0, gatesR (newL id po), aG, cG, [], none, 0, [], none, 0⟩ := by
    refine ⟨fun a e _ => ?_, fun i hi a e _ => ?_, fun a e => (by cases e), fun a e p => ?_, fun a e => (by cases e), fun a e => (by cases e)⟩
    · cases e; show _ ≤ q2; omega
    · match i, hi, e with
      | 0, _, e => cases e
      | 1, _, e => cases e
    · have e : aG = some a := e
      have hg := OG.lt a.block (by rw [e]; rfl)
      omega
  have cc := Hc
  obtain ⟨⟨h0, h1, h2, h3, h4, h5, h6, h7, h8, h9⟩, hf⟩ := cc
  go_wp2_with fail
  go_at_call 7
  clear h0 h1 h2 h3 h4 h5 h6 h7 h8 h9 hf
  refine (boxOkS ⟨id, po, ⟨1, 0, 0⟩, twoD, some ⟨q2, 0, none⟩, 2, [], none, 0, gatesR (newL id po), aG, cG, [], none, 0, [], none, 0⟩ u5 (J.v (newX_sm id po q2 aG cG))).mono ?_
  rintro e u6 ⟨rfl, k6⟩
  rw [newX_p, newBx_okB]
  have Z := Z.below k6 Z.lt
  have Hc := Hc.below k6 Hc.lt
  have J := J.below k6
  have B7 := B6.trans (k6.mono B6.size)
  have s6 := k6.size
  clear k6 B6 OT OG
  cases h1 : nOk id po
  · have hX : Hid (newX id po = BxD.zero.p) := by unfold Hid newX; rw [h1]; rfl
    replace h1 : Hid _ := h1
    obtain ⟨W9, hW9⟩ : ∃ y_, y_ = ((((((((((u6.setCell ⟨w.heap.size, 0, none⟩ (.int .i64 0)).setCell ⟨w.heap.size, 1, none⟩ (.int .i64 0)).setCell ⟨w.heap.size, 2, none⟩ (.int .i64 0)).setCell ⟨w.heap.size, 3, none⟩ (.int .i64 0)).setCell ⟨w.heap.size, 4, none⟩ (.int .i64 0)).setCell ⟨w.heap.size, 5, none⟩ (.slice none 0 0)).setCell ⟨w.heap.size, 6, none⟩ (.slice none 0 0)).setCell ⟨w.heap.size, 7, none⟩ (.slice none 0 0)).setCell ⟨w.heap.size, 8, none⟩ (.slice none 0 0)).setCell ⟨w.heap.size, 9, none⟩ (.slice none 0 0)) := ⟨_, rfl⟩
    have ZZ : BxB W9 w.heap.size BxD.zero := by rw [hW9]; exact Z.put BxD.zero
    have kp : ∀ k, k ≠ w.heap.size → W9.heap[k]? = u6.heap[k]? := fun k hk => by rw [hW9, Below.heap_setCell _ _ _ _ hk, Below.heap_setCell _ _ _ _ hk, Below.heap_setCell _ _ _ _ hk, Below.heap_setCell _ _ _ _ hk, Below.heap_setCell _ _ _ _ hk, Below.heap_setCell _ _ _ _ hk, Below.heap_setCell _ _ _ _ hk, Below.heap_setCell _ _ _ _ hk, Below.heap_setCell _ _ _ _ hk, Below.heap_setCell _ _ _ _ hk]
    have B9 : Below w.heap.size w W9 := by rw [hW9]; exact ((((((((((B7.setCell (p := ⟨w.heap.size, 0, none⟩) (Nat.le_refl _) _).setCell (p := ⟨w.heap.size, 1, none⟩) (Nat.le_refl _) _).setCell (p := ⟨w.heap.size, 2, none⟩) (Nat.le_refl _) _).setCell (p := ⟨w.heap.size, 3, none⟩) (Nat.le_refl _) _).setCell (p := ⟨w.heap.size, 4, none⟩) (Nat.le_refl _) _).setCell (p := ⟨w.heap.size, 5, none⟩) (Nat.le_refl _) _).setCell (p := ⟨w.heap.size, 6, none⟩) (Nat.le_refl _) _).setCell (p := ⟨w.heap.size, 7, none⟩) (Nat.le_refl _) _).setCell (p := ⟨w.heap.size, 8, none⟩) (Nat.le_refl _) _).setCell (p := ⟨w.heap.size, 9, none⟩) (Nat.le_refl _) _)
    have s9 : W9.heap.size = u6.heap.size := by rw [hW9]; simp
    have hM : BxIn W9 BxD.zero := ((zeroN (lo := 0) (hi := 0) (w := W9) (Nat.le_refl _)).m).in_ zero_sm
    obtain ⟨⟨t0, t1, t2, t3, t4, t5, t6, t7, t8, t9⟩, tf⟩ := ZZ
    clear tf
    try dsimp only [BxD.zero] at t0 t1 t2 t3 t4 t5 t6 t7 t8 t9
    try rw [show twoD.length = 2 from rfl] at t5
    have cc := Z
    obtain ⟨⟨z0, z1, z2, z3, z4, z5, z6, z7, z8, z9⟩, zf⟩ := cc
    have e0 := zf 0
    have e1 := zf 1
    have e2 := zf 2
    have e3 := zf 3
    have e4 := zf 4
    have e5 := zf 5
    have e6 := zf 6
    have e7 := zf 7
    have e8 := zf 8
    have e9 := zf 9
    clear zf
    go_wp2
    refine bodyPost_ret (v := .tuple #[.agg #[.int .i64 0, .int .i64 0, .int .i64 0, .int .i64 0, .int .i64 0, .slice none 0 0, .slice none 0 0, .slice none 0 0, .slice none 0 0, .slice none 0 0], .bool false]) (by simp [results, Try.results11, go_sem, *]) rfl ⟨BxD.zero, ⟨by rw [h1.out]; rfl, hX.out.symm, zero_sm⟩, ?_, ?_⟩
    · rw [← hW9]; exact hM
    · rw [← hW9]; exact B9
  · have hX : Hid (newX id po = newBx id po) := by unfold Hid newX; rw [h1]; rfl
    replace h1 : Hid _ := h1
    have cc := Hc
    obtain ⟨⟨c0, c1, c2, c3, c4, c5, c6, c7, c8, c9⟩, cf⟩ := cc
    clear cf
    rw [show twoD.length = 2 from rfl] at c5
    obtain ⟨W9, hW9⟩ : ∃ y_, y_ = ((((((((((u6.setCell ⟨w.heap.size, 0, none⟩ (.int .i64 id)).setCell ⟨w.heap.size, 1, none⟩ (.int .i64 po)).setCell ⟨w.heap.size, 2, none⟩ (.int .i64 1)).setCell ⟨w.heap.size, 3, none⟩ (.int .i64 0)).setCell ⟨w.heap.size, 4, none⟩ (.int .i64 0)).setCell ⟨w.heap.size, 5, none⟩ (.slice (some ⟨q2, 0, none⟩) 2 2)).setCell ⟨w.heap.size, 6, none⟩ (.slice none 0 0)).setCell ⟨w.heap.size, 7, none⟩ (.slice aG (gatesR (newL id po)).length cG)).setCell ⟨w.heap.size, 8, none⟩ (.slice none 0 0)).setCell ⟨w.heap.size, 9, none⟩ (.slice none 0 0)) := ⟨_, rfl⟩
    have ZZ : BxB W9 w.heap.size ⟨id, po, ⟨1, 0, 0⟩, twoD, some ⟨q2, 0, none⟩, 2, [], none, 0, gatesR (newL id po), aG, cG, [], none, 0, [], none, 0⟩ := by rw [hW9]; exact Z.put ⟨id, po, ⟨1, 0, 0⟩, twoD, some ⟨q2, 0, none⟩, 2, [], none, 0, gatesR (newL id po), aG, cG, [], none, 0, [], none, 0⟩
    have kp : ∀ k, k ≠ w.heap.size → W9.heap[k]? = u6.heap[k]? := fun k hk => by rw [hW9, Below.heap_setCell _ _ _ _ hk, Below.heap_setCell _ _ _ _ hk, Below.heap_setCell _ _ _ _ hk, Below.heap_setCell _ _ _ _ hk, Below.heap_setCell _ _ _ _ hk, Below.heap_setCell _ _ _ _ hk, Below.heap_setCell _ _ _ _ hk, Below.heap_setCell _ _ _ _ hk, Below.heap_setCell _ _ _ _ hk, Below.heap_setCell _ _ _ _ hk]
    have B9 : Below w.heap.size w W9 := by rw [hW9]; exact ((((((((((B7.setCell (p := ⟨w.heap.size, 0, none⟩) (Nat.le_refl _) _).setCell (p := ⟨w.heap.size, 1, none⟩) (Nat.le_refl _) _).setCell (p := ⟨w.heap.size, 2, none⟩) (Nat.le_refl _) _).setCell (p := ⟨w.heap.size, 3, none⟩) (Nat.le_refl _) _).setCell (p := ⟨w.heap.size, 4, none⟩) (Nat.le_refl _) _).setCell (p := ⟨w.heap.size, 5, none⟩) (Nat.le_refl _) _).setCell (p := ⟨w.heap.size, 6, none⟩) (Nat.le_refl _) _).setCell (p := ⟨w.heap.size, 7, none⟩) (Nat.le_refl _) _).setCell (p := ⟨w.heap.size, 8, none⟩) (Nat.le_refl _) _).setCell (p := ⟨w.heap.size, 9, none⟩) (Nat.le_refl _) _)
    have s9 : W9.heap.size = u6.heap.size := by rw [hW9]; simp
    have hM : BxIn W9 ⟨id, po, ⟨1, 0, 0⟩, twoD, some ⟨q2, 0, none⟩, 2, [], none, 0, gatesR (newL id po), aG, cG, [], none, 0, [], none, 0⟩ := J.keptN hap (fun g hg => kp g (fun e => by omega))
    obtain ⟨⟨t0, t1, t2, t3, t4, t5, t6, t7, t8, t9⟩, tf⟩ := ZZ
    clear tf
    try dsimp only [BxD.zero] at t0 t1 t2 t3 t4 t5 t6 t7 t8 t9
    try rw [show twoD.length = 2 from rfl] at t5
    have cc := Z
    obtain ⟨⟨z0, z1, z2, z3, z4, z5, z6, z7, z8, z9⟩, zf⟩ := cc
    have e0 := zf 0
    have e1 := zf 1
    have e2 := zf 2
    have e3 := zf 3
    have e4 := zf 4
    have e5 := zf 5
    have e6 := zf 6
    have e7 := zf 7
    have e8 := zf 8
    have e9 := zf 9
    clear zf
    go_wp2
    refine bodyPost_ret (v := .tuple #[.agg #[.int .i64 id, .int .i64 po, .int .i64 1, .int .i64 0, .int .i64 0, .slice (some ⟨q2, 0, none⟩) 2 2, .slice none 0 0, .slice aG (gatesR (newL id po)).length cG, .slice none 0 0, .slice none 0 0], .bool true]) (by simp [results, Try.results11, go_sem, *]) rfl ⟨⟨id, po, ⟨1, 0, 0⟩, twoD, some ⟨q2, 0, none⟩, 2, [], none, 0, gatesR (newL id po), aG, cG, [], none, 0, [], none, 0⟩, ⟨by rw [h1.out]; rfl, (newX_p id po q2 aG cG).trans hX.out.symm, newX_sm id po q2 aG cG⟩, ?_, ?_⟩
    · rw [← hW9]; exact hM
    · rw [← hW9]; exact B9

end Go.Proofs.Ytplejmkbdonkpab
