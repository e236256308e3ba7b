/- Both Roots, walked. impl.rootsAreLeast, walked. impl.Ringless, walked. impl.IsTree, walked. -/
import Derived.Test.YtdfjfodfnildiaaRows
import Derived.WalkKit
import Derived.ProofKit
import Derived.OpenShut
import Derived.ShutString
import Derived.ChangeOld
import Derived.Below
import Derived.Deep.QuietTactic
import Derived.BigQuiet
import Derived.WalkSmall
import Derived.Laws.OwnMore
import Derived.WalkSpells
import Derived.WalkLawsBesides
import Derived.Deep.Cut
import Derived.Laws.StructEq
import Derived.Maps.AppendAt
import Derived.Test.YtdfjfodfnildiaaQM12
import Derived.Test.YtdfjfodfnildiaaQM6
import Derived.Test.YtdfjfodfnildiaaQM9
import Derived.Test.YtdfjfodfnildiaaQKBr5
import Derived.Test.YtdfjfodfnildiaaQKBr5s
import Derived.Test.YtdfjfodfnildiaaQM16
namespace Go.Proofs.Ytdfjfodfnildiaa
open Go.ChangeShapes Go.WideShapes Go.ChangeAt Go.RowKit
open Go.ChangeMaps (open_string shut_string)
set_option linter.unusedVariables false
set_option maxRecDepth 100000

def rootsL (B : List Bg) : List Int := idx 0 (B.map (fun b => !(rootO b.id b.L).isSome))
theorem rootFl_len (B : List Bg) : (B.map (fun b => !(rootO b.id b.L).isSome)).length = B.length := List.length_map ..
theorem rootFl_get (Bs : List Bd) {k : Nat} (hk : k < Bs.length) : ((dB Bs).map (fun b => !(rootO b.id b.L).isSome)).getD k false = !(rootO (Bs.getD k Bd.nil).id (Bs.getD k Bd.nil).L).isSome := by
  unfold dB
  simp [List.getD, hk, Bd.d]
theorem rootsL_in {B : List Bg} {x : Int} (h : x ∈ rootsL B) : 0 ≤ x ∧ x < (B.length : Int) := by
  obtain ⟨j, h1, _, h3⟩ := (idx_mem _ x 0).1 h
  rw [rootFl_len] at h1
  omega
theorem rootsL_len (B : List Bg) : (rootsL B).length ≤ B.length := by
  have := idx_len (B.map (fun b => !(rootO b.id b.L).isSome)) 0
  rwa [rootFl_len] at this
set_option maxHeartbeats 8000000 in
theorem rootsI (adB : Option Addr) (capB : Nat) (Bs : List Bd) (adK : Option Addr) (capK : Nat) (K : List Lk) (w : World) (h : NN w adB Bs adK K) :
    Calls Try.prog 23 #[.agg #[.slice adB Bs.length capB, .slice adK K.length capK]] w fun e w' => ∃ a c, e = .returned (.slice a (rootsL (dB Bs)).length c) ∧ FOwn ivEnc 1 3 w.heap.size w' (.slice a (rootsL (dB Bs)).length c) (rootsL (dB Bs)) ∧ Below w.heap.size w w' := by
  obtain ⟨j0, hj, hj0, hj1, hj2⟩ := info_parts ivInfo
  obtain ⟨y, hy⟩ : ∃ y, y = w.alloc (Obj.cells #[.slice adB Bs.length capB, .slice adK K.length capK] 27) := ⟨_, rfl⟩
  have B0 : Below w.heap.size w y := by rw [hy]; exact below_new _
  have A : NeAt y w.heap.size (.slice adB Bs.length capB) (.slice adK K.length capK) := by rw [hy]; exact NeAt.new w _
  have hN := h.later B0
  have hk := h.hk
  have hlB := h.hl
  have S0 := A.lt
  clear h
  have hFg := fun k hk => rootFl_get Bs (k := k) hk
  have hFl := rootFl_len (dB Bs)
  rw [dB_len] at hFl
  unfold rootsL
  obtain ⟨Fl, hFl0⟩ : ∃ F, (dB Bs).map (fun b => !(rootO b.id b.L).isSome) = F := ⟨_, rfl⟩
  simp only [hFl0] at hFg hFl ⊢
  clear hFl0
  replace hFg : Hid _ := hFg
  replace hFl : Hid _ := hFl
  go_enter Try.func23, Try.ntmps23
  go_upto_region 1 with fail
  rw [← hy]
  clear hy
  have cc := A
  obtain ⟨a0, a1'⟩ := cc
  go_wp2
  clear a0 a1'
  go_loopw [3, 11] (fun v q wr => ∃ k : Nat, k ≤ Bs.length ∧ q = .int .i64 (k : Int) ∧ FOwn ivEnc 1 3 y.heap.size wr v (idx 0 (Fl.take k)) ∧ Below y.heap.size y wr) (fun _ q _ => Bs.length - (intOf q).toNat)
  case atStart => exact ⟨0, Nat.zero_le _, rfl, FOwn.nil, Below.refl _ _⟩
  case round =>
    obtain ⟨k, hk1, rfl, O, kb⟩ := hrel
    by_cases hlt : k < Bs.length
    · have hst := idx_take Fl (i := k) (by rw [hFl.out]; exact hlt)
      rw [hFg.out k hlt] at hst
      obtain ⟨b, off, rfl⟩ := hN.vb.ad_ (by omega)
      have hNr := hN.later kb
      have hn := hNr.vb.nest k hlt
      have hck := hNr.vb.at_ hlt
      have hlk := hN.hls k hlt
      obtain ⟨⟨id, a1, c1, L1⟩, hh⟩ : ∃ q, Bs.getD k Bd.nil = q := ⟨_, rfl⟩
      rw [hh] at hst hn hlk
      dsimp only at hst hn hlk
      rw [hh] at hck
      obtain ⟨x1, x2⟩ := hck
      dsimp only at x1 x2
      clear hh hNr
      obtain ⟨Ro, hRo⟩ : ∃ R, rootO id L1 = R := ⟨_, rfl⟩
      rw [hRo] at hst
      obtain ⟨L, hL⟩ : ∃ L, idx 0 (Fl.take k) = L := ⟨_, rfl⟩
      have hLl : L.length ≤ k := by rw [← hL]; exact Nat.le_trans (idx_len _ _) (by simp; omega)
      rw [hL] at O hst
      clear hL
      obtain ⟨ak, ck2, rfl⟩ := O.open_
      replace hst : Hid _ := hst
      have bk := kb.size
      obtain ⟨u, hu⟩ : ∃ u, u = wr.alloc (Obj.cells #[.int .i64 id, .slice a1 L1.length c1] 71) := ⟨_, rfl⟩
      have ku : Below wr.heap.size wr u := by rw [hu]; exact below_new _
      have bu := kb.trans (ku.mono kb.size)
      have hx0 : BrAt u wr.heap.size id (.slice a1 L1.length c1) := by rw [hu]; exact BrAt.new wr _ _ _
      have hn := hn.below ku (hn.lt ptEnc_len (by omega))
      have O := O.later ku
      have su := ku.size
      clear ku
      go_upto_region 5 with fail
      rw [← hu]
      clear hu x1 x2
      obtain ⟨x1, x2⟩ := hx0
      go_wp2_with fail
      go_at_call 48
      clear x1 x2
      refine (rootPI id a1 c1 L1 u hn hlk).mono ?_
      rintro e z ⟨rfl, kz⟩
      rw [hRo]
      have bz := bu.trans (kz.mono bu.size)
      have O := O.later kz
      have sz := bz.size
      clear kz bu hRo hn
      cases Ro with
      | some r =>
        have hst : Hid (idx 0 (Fl.take (k + 1)) = L) := by have := hst.out; unfold Hid; simpa using this
        go_wp2
        go_roundw
        case rel => exact ⟨k + 1, by omega, by go_num, by rw [hst.out]; exact O, bz⟩
        case measure => simp [intOf]; omega
      | none =>
        have hst : Hid (idx 0 (Fl.take (k + 1)) = L ++ [(k : Int)]) := by have := hst.out; unfold Hid; simpa using this
        have V1 := FView.oneI z 3 (k : Int)
        have kx : Below z.heap.size z (z.alloc (Obj.cells #[.int .i64 (k : Int)] 3)) := below_new _
        have O4 := O.later kx
        have b4 := bz.trans (kx.mono bz.size)
        have s4 := b4.size
        clear kx
        go_wp2_with (first | (at_builtin; refine fappL ivEnc_len ivEnc_ones rfl _ _ 30 rfl y.heap.size 3 j0 (.int .i64 0) 8 Try.underlying30 hj hj0 hj1 hj2 rfl (by decide) (by decide) (.slice ak L.length ck2) L rfl O4 (some ⟨z.heap.size, 0, none⟩) 1 [(k : Int)] rfl (fun e => by cases e) V1 ?z0 ?z1 ?_) | go_in)
        case z0 => first | omega | (simp; omega)
        case z1 => first | omega | (simp; omega)
        intro vZ wZ hownZ hgrowZ _
        have hob : ∀ q, (Value.slice ak L.length ck2).ownBlock = some q → y.heap.size ≤ q := fun q e => (O4.lt q e).1
        have bZ : Below y.heap.size y wZ := b4.grown hgrowZ (by exact s4) hob
        clear hgrowZ V1 O4 hob O b4
        go_wp2
        go_roundw
        case rel => exact ⟨k + 1, by omega, by go_num, by rw [hst.out]; exact hownZ, bZ⟩
        case measure => simp [intOf]; omega
    · obtain rfl : k = Bs.length := by omega
      rw [show Fl.take Bs.length = Fl by rw [← hFl.out, List.take_length]] at O
      obtain ⟨ak, ck2, rfl⟩ := O.open_
      have OZ := O.base B0.size
      have bZ := B0.trans (kb.mono B0.size)
      go_wp2
      go_ret
      exact ⟨_, _, rfl, OZ, bZ⟩
set_option maxHeartbeats 8000000 in
theorem rootsS (adB : Option Addr) (capB : Nat) (Bs : List Bd) (adK : Option Addr) (capK : Nat) (K : List Lk) (w : World) (h : NN w adB Bs adK K) :
    Calls Try.prog 24 #[.agg #[.slice adB Bs.length capB, .slice adK K.length capK]] w fun e w' => ∃ a c, e = .returned (.slice a (rootsL (dB Bs)).length c) ∧ FOwn ivEnc 1 3 w.heap.size w' (.slice a (rootsL (dB Bs)).length c) (rootsL (dB Bs)) ∧ Below w.heap.size w w' := by
  obtain ⟨j0, hj, hj0, hj1, hj2⟩ := info_parts ivInfo
  obtain ⟨y, hy⟩ : ∃ y, y = w.alloc (Obj.cells #[.slice adB Bs.length capB, .slice adK K.length capK] 27) := ⟨_, rfl⟩
  have B0 : Below w.heap.size w y := by rw [hy]; exact below_new _
  have A : NeAt y w.heap.size (.slice adB Bs.length capB) (.slice adK K.length capK) := by rw [hy]; exact NeAt.new w _
  have hN := h.later B0
  have hk := h.hk
  have hlB := h.hl
  have S0 := A.lt
  clear h
  have hFg := fun k hk => rootFl_get Bs (k := k) hk
  have hFl := rootFl_len (dB Bs)
  rw [dB_len] at hFl
  unfold rootsL
  obtain ⟨Fl, hFl0⟩ : ∃ F, (dB Bs).map (fun b => !(rootO b.id b.L).isSome) = F := ⟨_, rfl⟩
  simp only [hFl0] at hFg hFl ⊢
  clear hFl0
  replace hFg : Hid _ := hFg
  replace hFl : Hid _ := hFl
  go_enter Try.func24, Try.ntmps24
  go_upto_region 1 with fail
  rw [← hy]
  clear hy
  obtain ⟨x0, hx0⟩ : ∃ x, x = y.alloc (Obj.cells #[] 3) := ⟨_, rfl⟩
  have kx0 : Below y.heap.size y x0 := by rw [hx0]; exact below_new _
  have O0 : FOwn ivEnc 1 3 y.heap.size x0 (.slice (some ⟨y.heap.size, 0, none⟩) 0 0) ([] : List Int) := by rw [hx0]; exact FOwn.empty y
  go_upto_region 2 with fail
  rw [← hx0]
  clear hx0
  go_wp2
  go_loopw [3, 4] (fun v q wr => ∃ k : Nat, k ≤ Bs.length ∧ q = .int .i64 (k : Int) ∧ FOwn ivEnc 1 3 y.heap.size wr v (idx 0 (Fl.take k)) ∧ Below y.heap.size y wr) (fun _ q _ => Bs.length - (intOf q).toNat)
  case atStart => exact ⟨0, Nat.zero_le _, rfl, O0, kx0⟩
  case round =>
    obtain ⟨k, hk1, rfl, O, kb⟩ := hrel
    clear O0 kx0
    have A1 := A.below kb A.lt
    obtain ⟨a0, a1'⟩ := A1
    by_cases hlt : k < Bs.length
    · have hst := idx_take Fl (i := k) (by rw [hFl.out]; exact hlt)
      rw [hFg.out k hlt] at hst
      obtain ⟨b, off, rfl⟩ := hN.vb.ad_ (by omega)
      have hNr := hN.later kb
      have hn := hNr.vb.nest k hlt
      have hck := hNr.vb.at_ hlt
      have hlk := hN.hls k hlt
      obtain ⟨⟨id, a1, c1, L1⟩, hh⟩ : ∃ q, Bs.getD k Bd.nil = q := ⟨_, rfl⟩
      rw [hh] at hst hn hlk
      dsimp only at hst hn hlk
      rw [hh] at hck
      obtain ⟨x1, x2⟩ := hck
      dsimp only at x1 x2
      clear hh hNr
      obtain ⟨Ro, hRo⟩ : ∃ R, rootO id L1 = R := ⟨_, rfl⟩
      rw [hRo] at hst
      obtain ⟨L, hL⟩ : ∃ L, idx 0 (Fl.take k) = L := ⟨_, rfl⟩
      have hLl : L.length ≤ k := by rw [← hL]; exact Nat.le_trans (idx_len _ _) (by simp; omega)
      rw [hL] at O hst
      clear hL
      obtain ⟨ak, ck2, rfl⟩ := O.open_
      replace hst : Hid _ := hst
      have bk := kb.size
      obtain ⟨u, hu⟩ : ∃ u, u = wr := ⟨_, rfl⟩
      rw [← hu] at x1 x2 kb O hn a0 a1' bk ⊢
      have bu := kb
      clear hu
      go_wp2_with fail
      go_at_call 49
      clear x1 x2 a0 a1'
      refine (rootPS id a1 c1 L1 u hn hlk).mono ?_
      rintro e z ⟨rfl, kz⟩
      rw [hRo]
      have bz := bu.trans (kz.mono bu.size)
      have O := O.later kz
      have sz := bz.size
      clear kz bu hRo hn
      cases Ro with
      | some r =>
        have hst : Hid (idx 0 (Fl.take (k + 1)) = L) := by have := hst.out; unfold Hid; simpa using this
        go_wp2
        go_roundw
        case rel => exact ⟨k + 1, by omega, by go_num, by rw [hst.out]; exact O, bz⟩
        case measure => simp [intOf]; omega
      | none =>
        have hst : Hid (idx 0 (Fl.take (k + 1)) = L ++ [(k : Int)]) := by have := hst.out; unfold Hid; simpa using this
        have V1 := FView.oneI z 3 (k : Int)
        have kx : Below z.heap.size z (z.alloc (Obj.cells #[.int .i64 (k : Int)] 3)) := below_new _
        have O4 := O.later kx
        have b4 := bz.trans (kx.mono bz.size)
        have s4 := b4.size
        clear kx
        go_wp2_with (first | (at_builtin; refine fappL ivEnc_len ivEnc_ones rfl _ _ 30 rfl y.heap.size 3 j0 (.int .i64 0) 8 Try.underlying30 hj hj0 hj1 hj2 rfl (by decide) (by decide) (.slice ak L.length ck2) L rfl O4 (some ⟨z.heap.size, 0, none⟩) 1 [(k : Int)] rfl (fun e => by cases e) V1 ?z0 ?z1 ?_) | go_in)
        case z0 => first | omega | (simp; omega)
        case z1 => first | omega | (simp; omega)
        intro vZ wZ hownZ hgrowZ _
        have hob : ∀ q, (Value.slice ak L.length ck2).ownBlock = some q → y.heap.size ≤ q := fun q e => (O4.lt q e).1
        have bZ : Below y.heap.size y wZ := b4.grown hgrowZ (by exact s4) hob
        clear hgrowZ V1 O4 hob O b4
        go_wp2
        go_roundw
        case rel => exact ⟨k + 1, by omega, by go_num, by rw [hst.out]; exact hownZ, bZ⟩
        case measure => simp [intOf]; omega
    · obtain rfl : k = Bs.length := by omega
      rw [show Fl.take Bs.length = Fl by rw [← hFl.out, List.take_length]] at O
      obtain ⟨ak, ck2, rfl⟩ := O.open_
      have OZ := O.base B0.size
      have bZ := B0.trans (kb.mono B0.size)
      go_wp2
      go_ret
      exact ⟨_, _, rfl, OZ, bZ⟩

end Go.Proofs.Ytdfjfodfnildiaa
namespace Go.Proofs.Ytdfjfodfnildiaa
open Go.ChangeShapes Go.WideShapes Go.ChangeAt Go.RowKit
open Go.ChangeMaps (open_string shut_string)
set_option linter.unusedVariables false
set_option maxRecDepth 100000

def Good (B : List Bg) (K : List Lk) (f : Nat) : Prop := ∀ j : Nat, j < B.length → Con K (f : Int) (j : Int) → ¬ (B.getD j Bg.nil).id < (B.getD f Bg.nil).id
theorem least_iff {B : List Bg} {K : List Lk} {R : List Int} (hR : ∀ x, x ∈ R → 0 ≤ x ∧ x < (B.length : Int)) : LeastP B K R ↔ ∀ i, i < R.length → Good B K (R.getD i 0).toNat := by
  have hg : ∀ i, i < R.length → R.getD i 0 ∈ R := fun i hi => by
    rw [show R.getD i 0 = R[i] by simp [List.getD, hi]]
    exact List.getElem_mem hi
  constructor
  · intro h i hi j hj c
    have := h _ (hg i hi) j hj
    rw [Int.toNat_of_nonneg (hR _ (hg i hi)).1] at c
    exact this c
  · intro h r hr j hj c
    obtain ⟨i, hi, rfl⟩ := List.getElem_of_mem hr
    have := h i hi j hj
    have e : R.getD i 0 = R[i] := by simp [List.getD, hi]
    rw [e, Int.toNat_of_nonneg (hR _ hr).1] at this
    exact this c
theorem good_iff {B : List Bg} {K : List Lk} {f : Nat} {M : List Bool} (hM : Marks K B.length (f : Int) M) : Good B K f ↔ ∀ i, i < (idx 0 M).length → ¬ (B.getD ((idx 0 M).getD i 0).toNat Bg.nil).id < (B.getD f Bg.nil).id := by
  constructor
  · intro h i hi
    have hm : (idx 0 M).getD i 0 ∈ idx 0 M := by
      rw [show (idx 0 M).getD i 0 = (idx 0 M)[i] by simp [List.getD, hi]]
      exact List.getElem_mem hi
    obtain ⟨j, h1, h2, h3⟩ := (idx_mem _ _ 0).1 hm
    rw [hM.len] at h1
    rw [Nat.zero_add] at h3
    rw [h3, Int.toNat_natCast]
    exact h j h1 ((hM.is j h1).1 h2)
  · intro h j hj c
    have hm : (j : Int) ∈ idx 0 M := (idx_mem _ _ 0).2 ⟨j, by rw [hM.len]; exact hj, (hM.is j hj).2 c, by simp⟩
    obtain ⟨i, hi, e⟩ := List.getElem_of_mem hm
    have := h i hi
    rw [show (idx 0 M).getD i 0 = (j : Int) by rw [← e]; simp [List.getD, hi], Int.toNat_natCast] at this
    exact this
theorem idx_in {M : List Bool} {n i : Nat} (hl : M.length = n) (hi : i < (idx 0 M).length) : 0 ≤ (idx 0 M).getD i 0 ∧ (idx 0 M).getD i 0 < (n : Int) := by
  have hm : (idx 0 M).getD i 0 ∈ idx 0 M := by
    rw [show (idx 0 M).getD i 0 = (idx 0 M)[i] by simp [List.getD, hi]]
    exact List.getElem_mem hi
  obtain ⟨j, h1, _, h3⟩ := (idx_mem _ _ 0).1 hm
  omega
theorem getD_memI {R : List Int} {i : Nat} (hi : i < R.length) : R.getD i 0 ∈ R := by
  rw [show R.getD i 0 = R[i] by simp [List.getD, hi]]
  exact List.getElem_mem hi
def Fine (B : List Bg) (x : Int) (f : Nat) : Prop := ¬ (B.getD x.toNat Bg.nil).id < (B.getD f Bg.nil).id
def TreeP (B : List Bg) (K : List Lk) : Prop := (NetP B K ∧ RingP (openB B) K) ∧ (NetP B K ∧ SpanP (openB B) K B.length) ∧ LeastP B K (rootsL B)
set_option maxHeartbeats 16000000 in
theorem leastI (adB : Option Addr) (capB : Nat) (Bs : List Bd) (adK : Option Addr) (capK : Nat) (K : List Lk) (w : World) (h : NN w adB Bs adK K) (hcap : Bs.length ≤ capB) (hok : Hid (NetP (dB Bs) K)) :
    Calls Try.prog 50 #[.agg #[.slice adB Bs.length capB, .slice adK K.length capK]] w fun e w' => YN e (LeastP (dB Bs) K (rootsL (dB Bs))) ∧ Below w.heap.size w w' := by
  suffices H : ∀ PQ : Prop, Hid (PQ ↔ LeastP (dB Bs) K (rootsL (dB Bs))) → Calls Try.prog 50 #[.agg #[.slice adB Bs.length capB, .slice adK K.length capK]] w fun e w' => YN e PQ ∧ Below w.heap.size w w' from H _ Iff.rfl
  intro PQ hQ0
  obtain ⟨y, hy⟩ : ∃ y, y = w.alloc (Obj.cells #[.slice adB Bs.length capB, .slice adK K.length capK] 27) := ⟨_, rfl⟩
  have B0 : Below w.heap.size w y := by rw [hy]; exact below_new _
  have A : NeAt y w.heap.size (.slice adB Bs.length capB) (.slice adK K.length capK) := by rw [hy]; exact NeAt.new w _
  have hN := h.later B0
  have hk := h.hk
  have hlB := h.hl
  clear h
  have h5 : Bs.length ≤ 5 := by have := hok.out.many.2; rwa [dB_len] at this
  have hRin : Hid (∀ i, i < (rootsL (dB Bs)).length → 0 ≤ (rootsL (dB Bs)).getD i 0 ∧ (rootsL (dB Bs)).getD i 0 < (Bs.length : Int)) := fun i hi => by
    have := rootsL_in (getD_memI hi)
    rwa [dB_len] at this
  have hQ : Hid (PQ ↔ ∀ i, i < (rootsL (dB Bs)).length → Good (dB Bs) K ((rootsL (dB Bs)).getD i 0).toNat) := hQ0.out.trans (least_iff (fun x hx => rootsL_in hx))
  have hRl := rootsL_len (dB Bs)
  rw [dB_len] at hRl
  clear hQ0
  go_enter Try.func50, Try.ntmps50
  go_wp2_with fail
  go_at_call 23
  rw [← hy]
  clear hy
  refine (rootsI adB capB Bs adK capK K y hN).mono ?_
  rintro e y1 ⟨aR, cR, rfl, OR, kq⟩
  have B1 := B0.trans (kq.mono B0.size)
  have A := A.below kq A.lt
  have hN := hN.later kq
  have vR := OR.view.2
  clear kq B0 OR
  obtain ⟨R, hR⟩ : ∃ R, rootsL (dB Bs) = R := ⟨_, rfl⟩
  rw [hR] at hRin hQ hRl vR ⊢
  clear hR
  go_wp2
  have vRi := vR.toI
  go_loopw [10] (fun q wr => ∃ k : Nat, k ≤ R.length ∧ q = .int .i64 (k : Int) ∧ Hid (∀ i, i < k → Good (dB Bs) K (R.getD i 0).toNat) ∧ Below y1.heap.size y1 wr) (fun q _ => R.length - (intOf q).toNat)
  case atStart => exact ⟨0, Nat.zero_le _, rfl, fun j hj => absurd hj (by omega), Below.refl _ _⟩
  case round =>
    obtain ⟨k, hk1, rfl, hF, kb⟩ := hrel
    by_cases hlt : k < R.length
    · obtain ⟨bR, oR, rfl, hcR⟩ := vRi (by omega)
      have hbR : bR < y1.heap.size := World.block_lt_of_cell? y1 _ (hcR k hlt)
      have ckR : wr.cell? ⟨bR, oR + k, none⟩ = some (.int .i64 (R.getD k 0)) := (World.cell?_of_block (a := ⟨bR, oR + k, none⟩) (kb.block bR hbR)).trans (hcR k hlt)
      obtain ⟨f0, f1⟩ := hRin.out k hlt
      have hFk : Hid ((∀ i, i < k → Good (dB Bs) K (R.getD i 0).toNat) → Good (dB Bs) K (R.getD k 0).toNat → ∀ i, i < k + 1 → Good (dB Bs) K (R.getD i 0).toNat) := fun h1 h2 i hi => by
        by_cases e : i = k
        · rw [e]; exact h2
        · exact h1 i (by omega)
      have hQk : Hid (¬ Good (dB Bs) K (R.getD k 0).toNat → ¬ PQ) := fun h1 h2 => h1 (hQ.out.1 h2 k hlt)
      obtain ⟨x, hx⟩ : ∃ x, R.getD k 0 = x := ⟨_, rfl⟩
      rw [hx] at ckR f0 f1 hFk hQk
      clear hx
      obtain ⟨f, rfl⟩ := Int.eq_ofNat_of_zero_le f0
      have hf : f < Bs.length := by omega
      simp only [Int.toNat_natCast] at hFk hQk
      have A1 := A.below kb A.lt
      have hN1 := hN.later kb
      obtain ⟨b, off, rfl⟩ := hN.vb.ad_ (by omega)
      have cc := A1
      obtain ⟨a0, a1⟩ := cc
      go_wp2_with fail
      go_at_call 9
      clear a0 a1 ckR
      refine (reachI (some ⟨b, off, none⟩) capB Bs adK capK K (f : Int) true wr hN1 hcap).mono ?_
      rintro e z ⟨L, aL, cL, hRI, rfl, OL, kz⟩
      have hM : ∃ M, Marks K (dB Bs).length (f : Int) M ∧ L = idx 0 M := by
        rcases hRI with ⟨q, _⟩ | ⟨_, f', e, _, M, hM, rfl⟩
        · exact absurd ⟨hok.out, by omega, by rw [dB_len]; omega⟩ q
        · obtain rfl : f = f' := by omega
          exact ⟨M, hM, rfl⟩
      obtain ⟨M, hM, hLM⟩ := hM
      clear hRI
      have bz := kb.trans (kz.mono kb.size)
      have hGd : Hid (Good (dB Bs) K f ↔ ∀ i, i < L.length → Fine (dB Bs) (L.getD i 0) f) := by unfold Hid; rw [hLM]; exact good_iff hM
      have hLin : Hid (∀ i, i < L.length → 0 ≤ L.getD i 0 ∧ L.getD i 0 < (Bs.length : Int)) := by unfold Hid; rw [hLM]; exact fun i hi => by have := idx_in (hM.len.trans (dB_len Bs)) hi; exact this
      have hLs : L.length ≤ 1048576 := by rw [hLM]; have h1 := idx_len M 0; have h2 := hM.len; rw [dB_len] at h2; omega
      have A2 := A1.below kz A1.lt
      have hN2 := hN1.later kz
      have vL := OL.view.2.toI
      clear hLM hM OL A1 hN1 kz
      go_wp2
      go_loopw [18] (fun q wr => ∃ n : Nat, n ≤ L.length ∧ q = .int .i64 (n : Int) ∧ Hid (∀ i, i < n → Fine (dB Bs) (L.getD i 0) f) ∧ Below z.heap.size z wr) (fun q _ => L.length - (intOf q).toNat)
      case atStart => exact ⟨0, Nat.zero_le _, rfl, fun j hj => absurd hj (by omega), Below.refl _ _⟩
      case round =>
        obtain ⟨q, hq1, rfl, hG, kv⟩ := hrel
        by_cases hlq : q < L.length
        · obtain ⟨bL, oL, rfl, hcL⟩ := vL (by omega)
          have hbL : bL < z.heap.size := World.block_lt_of_cell? z _ (hcL q hlq)
          have ckL : wr.cell? ⟨bL, oL + q, none⟩ = some (.int .i64 (L.getD q 0)) := (World.cell?_of_block (a := ⟨bL, oL + q, none⟩) (kv.block bL hbL)).trans (hcL q hlq)
          obtain ⟨j0, j1⟩ := hLin.out q hlq
          have hGn : Hid (Fine (dB Bs) (L.getD q 0) f → ∀ i, i < q + 1 → Fine (dB Bs) (L.getD i 0) f) := fun h i hi => by
            by_cases e : i = q
            · rw [e]; exact h
            · exact hG.out i (by omega)
          have hGb : Hid (¬ Fine (dB Bs) (L.getD q 0) f → ¬ Good (dB Bs) K f) := fun h g => h (hGd.out.1 g q hlq)
          obtain ⟨x, hx⟩ : ∃ x, L.getD q 0 = x := ⟨_, rfl⟩
          rw [hx] at ckL j0 j1 hGn hGb
          clear hx
          obtain ⟨j, rfl⟩ := Int.eq_ofNat_of_zero_le j0
          have hjB : j < Bs.length := by omega
          have ej : ((dB Bs).getD j Bg.nil).id = (Bs.getD j Bd.nil).id := by rw [show dB Bs = Bs.map Bd.d from rfl, bd_get]; rfl
          have ef : ((dB Bs).getD f Bg.nil).id = (Bs.getD f Bd.nil).id := by rw [show dB Bs = Bs.map Bd.d from rfl, bd_get]; rfl
          have hfi : Fine (dB Bs) (j : Int) f ↔ ¬ (Bs.getD j Bd.nil).id < (Bs.getD f Bd.nil).id := by unfold Fine; rw [Int.toNat_natCast, ej, ef]
          clear ej ef
          obtain ⟨v, hv⟩ : ∃ v, v = wr := ⟨_, rfl⟩
          rw [← hv] at kv ckL ⊢
          clear hv
          have A2 := A2.below kv A2.lt
          have hNv := hN2.later kv
          have hcj : ∀ Y, Below v.heap.size v Y → Y.cell? ⟨b, off + j * 2, none⟩ = some (.int .i64 (Bs.getD j Bd.nil).id) := fun Y hY => ((hNv.later hY).vb.at_ hjB).c0
          have hcf : ∀ Y, Below v.heap.size v Y → Y.cell? ⟨b, off + f * 2, none⟩ = some (.int .i64 (Bs.getD f Bd.nil).id) := fun Y hY => ((hNv.later hY).vb.at_ hf).c0
          obtain ⟨idj, hdj⟩ : ∃ d, (Bs.getD j Bd.nil).id = d := ⟨_, rfl⟩
          obtain ⟨idf, hdf⟩ : ∃ d, (Bs.getD f Bd.nil).id = d := ⟨_, rfl⟩
          rw [hdj, hdf] at hfi
          simp only [hdj, hdf] at hcj hcf
          clear hdj hdf hNv
          obtain ⟨o, ho⟩ : ∃ o, decide (idj < idf) = o := ⟨_, rfl⟩
          have hoF : Hid (o = false → Fine (dB Bs) (j : Int) f) := fun e => hfi.2 (by rw [← ho] at e; exact of_decide_eq_false e)
          have hoT : Hid (o = true → ¬ Fine (dB Bs) (j : Int) f) := fun e h => hfi.1 h (by rw [← ho] at e; exact of_decide_eq_true e)
          clear hfi
          go_upto_region 7 with fail
          refine wp_region_held (S := fun Y => Below v.heap.size v Y) (by kernel_rfl) ?_
          change wpAnyH _ _ _ _ _ _ _ _ (World.drew _)
          have hb0 : Below v.heap.size v v.drew := (Below.refl _ _).drew
          obtain ⟨u0, hy0⟩ : ∃ y_, y_ = v.drew := ⟨_, rfl⟩
          rw [← hy0] at hb0 ⊢
          clear hy0
          refine takeW 0 22 (.pointer (some ⟨w.heap.size, 0, none⟩)) rfl rfl (by kernel_rfl) (by kernel_rfl) (by kernel_rfl) (fun _ _ _ h => h) (by kernel_rfl) (by (intro w hSw; go_simp)) (by assumption) ?_
          simp only [List.set_cons_zero, List.set_cons_succ]
          refine takeW 1 23 (.slice (some ⟨b, off, none⟩) Bs.length capB) rfl rfl (by kernel_rfl) (by kernel_rfl) (by kernel_rfl) (fun _ _ _ h => h) (by kernel_rfl) (by (intro Y hSw; obtain ⟨X0, X1⟩ := A2.below hSw A2.lt; go_simp)) (by assumption) ?_
          simp only [List.set_cons_zero, List.set_cons_succ]
          refine takeW 2 24 (.int .i64 (j : Int)) rfl rfl (by kernel_rfl) (by kernel_rfl) (by kernel_rfl) (fun _ _ _ h => h) (by kernel_rfl) (by (intro w hSw; go_simp)) (by assumption) ?_
          simp only [List.set_cons_zero, List.set_cons_succ]
          refine takeW 3 25 (.pointer (some ⟨b, off + j * 2, none⟩)) rfl rfl (by kernel_rfl) (by kernel_rfl) (by kernel_rfl) (fun _ _ _ h => h) (by kernel_rfl) (by (intro Y hSw; go_simp; try omega)) (by assumption) ?_
          simp only [List.set_cons_zero, List.set_cons_succ]
          refine takeW 4 26 (.pointer (some ⟨b, off + j * 2, none⟩)) rfl rfl (by kernel_rfl) (by kernel_rfl) (by kernel_rfl) (fun _ _ _ h => h) (by kernel_rfl) (by (intro w hSw; go_simp)) (by assumption) ?_
          simp only [List.set_cons_zero, List.set_cons_succ]
          refine takeW 5 27 (.int .i64 idj) rfl rfl (by kernel_rfl) (by kernel_rfl) (by kernel_rfl) (fun _ _ _ h => h) (by kernel_rfl) (by (intro Y hSw; have X0 := hcj Y hSw; go_simp)) (by assumption) ?_
          simp only [List.set_cons_zero, List.set_cons_succ]
          refine takeW 6 28 (.pointer (some ⟨w.heap.size, 0, none⟩)) rfl rfl (by kernel_rfl) (by kernel_rfl) (by kernel_rfl) (fun _ _ _ h => h) (by kernel_rfl) (by (intro w hSw; go_simp)) (by assumption) ?_
          simp only [List.set_cons_zero, List.set_cons_succ]
          refine takeW 7 29 (.slice (some ⟨b, off, none⟩) Bs.length capB) rfl rfl (by kernel_rfl) (by kernel_rfl) (by kernel_rfl) (fun _ _ _ h => h) (by kernel_rfl) (by (intro Y hSw; obtain ⟨X0, X1⟩ := A2.below hSw A2.lt; go_simp)) (by assumption) ?_
          simp only [List.set_cons_zero, List.set_cons_succ]
          refine takeW 8 30 (.int .i64 (f : Int)) rfl rfl (by kernel_rfl) (by kernel_rfl) (by kernel_rfl) (fun _ _ _ h => h) (by kernel_rfl) (by (intro w hSw; go_simp)) (by assumption) ?_
          simp only [List.set_cons_zero, List.set_cons_succ]
          refine takeW 9 31 (.pointer (some ⟨b, off + f * 2, none⟩)) rfl rfl (by kernel_rfl) (by kernel_rfl) (by kernel_rfl) (fun _ _ _ h => h) (by kernel_rfl) (by (intro Y hSw; go_simp; try omega)) (by assumption) ?_
          simp only [List.set_cons_zero, List.set_cons_succ]
          refine takeW 10 32 (.pointer (some ⟨b, off + f * 2, none⟩)) rfl rfl (by kernel_rfl) (by kernel_rfl) (by kernel_rfl) (fun _ _ _ h => h) (by kernel_rfl) (by (intro w hSw; go_simp)) (by assumption) ?_
          simp only [List.set_cons_zero, List.set_cons_succ]
          refine takeW 11 33 (.int .i64 idf) rfl rfl (by kernel_rfl) (by kernel_rfl) (by kernel_rfl) (fun _ _ _ h => h) (by kernel_rfl) (by (intro Y hSw; have X0 := hcf Y hSw; go_simp)) (by assumption) ?_
          simp only [List.set_cons_zero, List.set_cons_succ]
          refine takeW 12 34 (.bool o) rfl rfl (by kernel_rfl) (by kernel_rfl) (by kernel_rfl) (fun _ _ _ h => h) (by kernel_rfl) (by (intro w hSw; go_simp)) (by assumption) ?_
          simp only [List.set_cons_zero, List.set_cons_succ]
          refine wpAnyH_done (by kernel_rfl) ?_ _
          have bv := kv.trans (hb0.mono kv.size)
          clear hb0 hcj hcf ho ckL
          cases o
          · have hno : Hid (Fine (dB Bs) (j : Int) f) := hoF.out rfl
            go_wp2
            go_roundw
            case rel => exact ⟨q + 1, by omega, by go_num, hGn.out hno.out, bv⟩
            case measure => simp [intOf]; omega
          · have hyes : Hid (¬ Fine (dB Bs) (j : Int) f) := hoT.out rfl
            have BZ := B1.trans ((bz.trans (bv.mono bz.size)).mono B1.size)
            go_wp2
            go_ret
            exact ⟨YN.no (hQk.out (hGb.out hyes.out)), BZ⟩
        · obtain rfl : q = L.length := by omega
          have bv := bz.trans (kv.mono bz.size)
          have hgood : Hid (Good (dB Bs) K f) := hGd.out.2 hG.out
          go_wp2
          go_roundw
          case rel => exact ⟨k + 1, by omega, by go_num, hFk.out hF.out hgood.out, bv⟩
          case measure => simp [intOf]; omega
    · obtain rfl : k = R.length := by omega
      have BZ := B1.trans (kb.mono B1.size)
      go_wp2
      go_ret
      exact ⟨YN.yes (hQ.out.2 hF.out), BZ⟩

end Go.Proofs.Ytdfjfodfnildiaa
namespace Go.Proofs.Ytdfjfodfnildiaa
open Go.ChangeShapes Go.WideShapes Go.ChangeAt Go.RowKit
open Go.ChangeMaps (open_string shut_string)
set_option linter.unusedVariables false
set_option maxRecDepth 100000

set_option maxHeartbeats 16000000 in
theorem ringI (adB : Option Addr) (capB : Nat) (Bs : List Bd) (adK : Option Addr) (capK : Nat) (K : List Lk) (w : World) (h : NN w adB Bs adK K) (hcap : Bs.length ≤ capB) :
    Calls Try.prog 19 #[.agg #[.slice adB Bs.length capB, .slice adK K.length capK]] w fun e w' => YN e (NetP (dB Bs) K ∧ RingP (openB (dB Bs)) K) ∧ Below w.heap.size w w' := by
  suffices H : ∀ PQ : Prop, Hid (PQ ↔ NetP (dB Bs) K ∧ RingP (openB (dB Bs)) K) → Calls Try.prog 19 #[.agg #[.slice adB Bs.length capB, .slice adK K.length capK]] w fun e w' => YN e PQ ∧ Below w.heap.size w w' from H _ Iff.rfl
  intro PQ hQ0
  obtain ⟨y, hy⟩ : ∃ y, y = w.alloc (Obj.cells #[.slice adB Bs.length capB, .slice adK K.length capK] 27) := ⟨_, rfl⟩
  have B0 : Below w.heap.size w y := by rw [hy]; exact below_new _
  have A : NeAt y w.heap.size (.slice adB Bs.length capB) (.slice adK K.length capK) := by rw [hy]; exact NeAt.new w _
  have hN := h.later B0
  have hk := h.hk
  have hlB := h.hl
  clear h
  by_cases hok : NetP (dB Bs) K
  rotate_left
  · replace hok : Hid _ := hok
    go_enter Try.func19, Try.ntmps19
    go_wp2_with fail
    go_at_call 27
    rw [← hy]
    clear hy
    refine (netOkI adB capB Bs adK capK K y hN hcap).mono ?_
    rintro e y1 ⟨⟨R1, rfl, hR1⟩, kq⟩
    obtain rfl := bool_no hR1 hok.out
    clear hR1
    have B1 := B0.trans (kq.mono B0.size)
    have A := A.below kq A.lt
    have hN := hN.later kq
    clear kq B0
    go_wp2
    go_ret
    exact ⟨YN.no (fun h => hok.out (hQ0.out.1 h).1), B1⟩
  replace hok : Hid _ := hok
  have hk6 : K.length ≤ 6 := hok.out.few
  have h5 : Bs.length ≤ 5 := by have := hok.out.many.2; rwa [dB_len] at this
  have hNn : Hid (InN K 5) := fun l hl => by
    have := hok.out.inN l hl
    rw [dB_len] at this
    omega
  go_enter Try.func19, Try.ntmps19
  go_wp2_with fail
  go_at_call 27
  rw [← hy]
  clear hy
  refine (netOkI adB capB Bs adK capK K y hN hcap).mono ?_
  rintro e y1 ⟨⟨R1, rfl, hR1⟩, kq⟩
  obtain rfl : R1 = true := hR1.2 hok.out
  clear hR1
  have B1 := B0.trans (kq.mono B0.size)
  have A := A.below kq A.lt
  have hN := hN.later kq
  clear kq B0
  have cc := A
  obtain ⟨a0, a1⟩ := cc
  go_wp2_with fail
  go_at_call 40
  clear a0 a1
  refine (openLI adB capB Bs adK capK K y1 hN (fun l hl => netP_ports hok.out hl)).mono ?_
  rintro e y2 ⟨aO, cO, rfl, OO, k2⟩
  have B2 := B1.trans (k2.mono B1.size)
  clear k2 B1 A
  have hlO : (K.filter (openB (dB Bs))).length ≤ 6 := Nat.le_trans (List.length_filter_le _ _) hk6
  have hQ : Hid (PQ ↔ ∀ j, j < (K.filter (openB (dB Bs))).length → ¬ Con ((K.filter (openB (dB Bs))).take j ++ (K.filter (openB (dB Bs))).drop (j + 1)) ((K.filter (openB (dB Bs))).getD j Lk.nil).a ((K.filter (openB (dB Bs))).getD j Lk.nil).b) := by
    unfold Hid
    rw [← ring_idx, hQ0.out]
    exact ⟨fun q => q.2, fun q => ⟨hok.out, q⟩⟩
  have hNO : Hid (InN (K.filter (openB (dB Bs))) 5) := hNn.out.sub (fun l hl => (List.mem_filter.1 hl).1)
  obtain ⟨O, hO⟩ : ∃ O, K.filter (openB (dB Bs)) = O := ⟨_, rfl⟩
  rw [hO] at OO hlO hQ hNO ⊢
  clear hO hN hNn hQ0
  have vO := OO.view.2
  have bO := vO.lt lkEnc_len (by omega)
  have hcO : O.length ≤ cO := by
    rcases OO.2 with ⟨q, e⟩ | ⟨g, c, cur, q, _, _, hc, _⟩
    · omega
    · simp only [Value.slice.injEq] at q
      obtain ⟨_, _, rfl⟩ := q
      exact hc
  clear OO
  go_wp2
  go_loopw [14] (fun i wr => ∃ k : Nat, k ≤ O.length ∧ i = .int .i64 (k : Int) ∧ Hid (∀ j, j < k → ¬ Con (O.take j ++ O.drop (j + 1)) (O.getD j Lk.nil).a (O.getD j Lk.nil).b) ∧ Below y2.heap.size y2 wr) (fun i _ => O.length - (intOf i).toNat)
  case atStart => exact ⟨0, Nat.zero_le _, rfl, fun j hj => absurd hj (by omega), Below.refl _ _⟩
  case round =>
    obtain ⟨k, hk1, rfl, hF, kb⟩ := hrel
    by_cases hlt : k < O.length
    · have vw := vO.below kb bO
      obtain ⟨g, off, rfl, _⟩ := vO (by omega)
      obtain ⟨x', hh⟩ : ∃ h, O.getD k Lk.nil = h := ⟨_, rfl⟩
      have hck : LkAtO wr g (off + k * 4) x' := by
        rw [← hh]
        exact lkAtO_of (vw.at_ lkEnc_len Lk.nil hlt)
      have hm := getD_mem hlt
      rw [hh] at hm
      replace hh : Hid _ := hh
      obtain ⟨⟨xa0, xa1⟩, xb0, xb1⟩ := hNO.out x' hm
      clear hm
      obtain ⟨xa, xp, xb, xq⟩ := x'
      dsimp only at xa0 xa1 xb0 xb1
      obtain ⟨i, rfl⟩ := Int.eq_ofNat_of_zero_le xa0
      obtain ⟨j, rfl⟩ := Int.eq_ofNat_of_zero_le xb0
      obtain ⟨c0, c1, c2, c3⟩ := hck
      dsimp only at c0 c1 c2 c3
      obtain ⟨u, hu⟩ : ∃ u, u = wr.alloc (Obj.cells #[.int .i64 (i : Int), .int .i64 xp, .int .i64 (j : Int), .int .i64 xq] 64) := ⟨_, rfl⟩
      have ku : Below wr.heap.size wr u := by rw [hu]; exact below_new _
      have X : LkAtO u wr.heap.size 0 ⟨i, xp, j, xq⟩ := by rw [hu]; constructor <;> simp [go_sem]
      have xl : wr.heap.size < u.heap.size := World.block_lt_of_cell? u _ X.c0
      have bu := kb.trans (ku.mono kb.size)
      have hvO : ∀ Y, Below u.heap.size u Y → FView lkEnc Y (some ⟨g, off, none⟩) O := fun Y hY => vO.below (bu.trans (hY.mono bu.size)) bO
      obtain ⟨ad2, hA2⟩ : ∃ a : Option Addr, Hid ((if cO = k + 1 then some ⟨g, off, none⟩ else some ⟨g, off + (k + 1) * 4, none⟩) = a) := ⟨_, rfl⟩
      have hAn : ad2 ≠ none := by
        rw [← hA2.out]
        split <;> simp
      have hvD : ∀ Y, Below u.heap.size u Y → FView lkEnc Y ad2 (O.drop (k + 1)) := fun Y hY => by
        rw [← hA2.out]
        by_cases e : cO = k + 1
        · rw [show O.drop (k + 1) = [] from List.drop_eq_nil_of_le (by omega)]
          exact FView.nil
        · rw [if_neg e]
          exact (hvO Y hY).drop lkEnc_len (by omega)
      have w3 : IntKind.i64.wrap ((k : Int) + 1) = (k : Int) + 1 := by rw [IntKind.wrap_i64]; omega
      have k3a : 0 ≤ (k : Int) + 1 := by omega
      have k3b : (k : Int) + 1 ≤ (O.length : Int) := by omega
      clear ku vw
      go_upto_region 7 with fail
      rw [← hu]
      clear hu c0 c1 c2 c3
      generalize wr.heap.size = Q at X xl ⊢
      refine wp_region_held (S := fun Y => Below u.heap.size u Y) (by kernel_rfl) ?_
      change wpAnyH _ _ _ _ _ _ _ _ (World.drew _)
      have hb0 : Below u.heap.size u u.drew := (Below.refl _ _).drew
      obtain ⟨u0, hy0⟩ : ∃ y_, y_ = u.drew := ⟨_, rfl⟩
      rw [← hy0] at hb0 ⊢
      clear hy0
      refine takeW 0 19 (.slice (some ⟨g, off, none⟩) O.length cO) rfl rfl (by kernel_rfl) (by kernel_rfl) (by kernel_rfl) (fun _ _ _ h => h) (by kernel_rfl) (by (intro w hSw; go_simp)) (by assumption) ?_
      simp only [List.set_cons_zero, List.set_cons_succ]
      refine takeW 1 20 (.int .i64 (k : Int)) rfl rfl (by kernel_rfl) (by kernel_rfl) (by kernel_rfl) (fun _ _ _ h => h) (by kernel_rfl) (by (intro w hSw; go_simp)) (by assumption) ?_
      simp only [List.set_cons_zero, List.set_cons_succ]
      refine takeW 2 21 (.slice (some ⟨g, off, none⟩) k cO) rfl rfl (by kernel_rfl) (by kernel_rfl) (by kernel_rfl) (fun _ _ _ h => h) (by kernel_rfl) (by (intro Y hSw; go_simp; try omega)) (by assumption) ?_
      simp only [List.set_cons_zero, List.set_cons_succ]
      refine takeW 3 22 (.slice (some ⟨g, off, none⟩) O.length cO) rfl rfl (by kernel_rfl) (by kernel_rfl) (by kernel_rfl) (fun _ _ _ h => h) (by kernel_rfl) (by (intro w hSw; go_simp)) (by assumption) ?_
      simp only [List.set_cons_zero, List.set_cons_succ]
      refine takeW 4 23 (.int .i64 (k : Int)) rfl rfl (by kernel_rfl) (by kernel_rfl) (by kernel_rfl) (fun _ _ _ h => h) (by kernel_rfl) (by (intro w hSw; go_simp)) (by assumption) ?_
      simp only [List.set_cons_zero, List.set_cons_succ]
      refine takeW 5 24 (.int .i64 ((k : Int) + 1)) rfl rfl (by kernel_rfl) (by kernel_rfl) (by kernel_rfl) (fun _ _ _ h => h) (by kernel_rfl) (by (intro w hSw; go_simp)) (by assumption) ?_
      simp only [List.set_cons_zero, List.set_cons_succ]
      refine takeW 6 25 (.slice ad2 (O.length - (k + 1)) (cO - (k + 1))) rfl rfl (by kernel_rfl) (by kernel_rfl) (by kernel_rfl) (fun _ _ _ h => h) (by kernel_rfl) (by (intro Y hSw; go_simp; rw [hA2.out])) (by assumption) ?_
      simp only [List.set_cons_zero, List.set_cons_succ]
      refine wpAnyH_all (rs := [7]) (by kernel_rfl) (by simp) ?_
      intro i hi; obtain rfl : i = 7 := by simpa using hi
      refine wpOp_step rfl (fun Kz hKz => ?_)
      rw [if_pos (by kernel_rfl)]
      go_simp
      have kq : Below u0.heap.size u0 (u0.alloc (Obj.cells #[.slice (some ⟨g, off, none⟩) k cO, .slice ad2 (O.length - (k + 1)) (cO - (k + 1))] 25)) := below_new _
      have hb1 : Below u.heap.size u (u0.alloc (Obj.cells #[.slice (some ⟨g, off, none⟩) k cO, .slice ad2 (O.length - (k + 1)) (cO - (k + 1))] 25)) := hb0.trans (kq.mono hb0.size)
      clear kq
      refine hKz _ _ ⟨hb1, ?_⟩
      clear hKz Kz hi
      refine wpAnyH_all (rs := [8]) (by kernel_rfl) (by simp) ?_
      intro i hi; obtain rfl : i = 8 := by simpa using hi
      refine wpOp_step rfl (fun Kz hKz => ?_)
      rw [if_pos (by kernel_rfl)]
      go_simp
      obtain ⟨u1, hu1⟩ : ∃ y_, y_ = u0.alloc (Obj.cells #[.slice (some ⟨g, off, none⟩) k cO, .slice ad2 (O.length - (k + 1)) (cO - (k + 1))] 25) := ⟨_, rfl⟩
      have q0 : u1.cell? ⟨u0.heap.size, 0, none⟩ = some (.slice (some ⟨g, off, none⟩) k cO) := by rw [hu1]; simp [go_sem]
      have q1 : u1.cell? ⟨u0.heap.size, 1, none⟩ = some (.slice ad2 (O.length - (k + 1)) (cO - (k + 1))) := by rw [hu1]; simp [go_sem]
      rw [← hu1] at hb1 ⊢
      clear hu1
      go_at_call 46
      have hl1 : (O.take k).length = k := by rw [List.length_take]; omega
      have hl2 : (O.drop (k + 1)).length = O.length - (k + 1) := List.length_drop
      refine (concatI u0.heap.size (some ⟨g, off, none⟩) ad2 cO (cO - (k + 1)) (O.take k) (O.drop (k + 1)) u1 (by rw [hl1]; exact q0) (by rw [hl2]; exact q1) ((hvO u1 hb1).take k) (hvD u1 hb1) (fun e => by cases e) (fun e => absurd e hAn) (by omega) (by omega)).mono ?_
      rintro e u2 ⟨aN, cN, rfl, ON, kq⟩
      have hb2 : Below u.heap.size u u2 := hb1.trans (kq.mono hb1.size)
      clear kq hl1 hl2 q0 q1
      obtain ⟨N, hN0⟩ : ∃ N, O.take k ++ O.drop (k + 1) = N := ⟨_, rfl⟩
      rw [hN0] at ON ⊢
      replace hN0 : Hid _ := hN0
      refine hKz _ _ ⟨hb2, ?_⟩
      clear hKz Kz hi
      refine takeW 9 6 (.slice aN N.length cN) rfl rfl (by kernel_rfl) (by kernel_rfl) (by kernel_rfl) (fun _ _ _ h => h) (by kernel_rfl) (by (intro w hSw; go_simp)) (by assumption) ?_
      simp only [List.set_cons_zero, List.set_cons_succ]
      refine wpAnyH_done (by kernel_rfl) ?_ _
      have X2_ := X.below hb2 xl
      have xl2 := Nat.lt_of_lt_of_le xl hb2.size
      have bz := bu.trans (hb2.mono bu.size)
      have hlN : N.length ≤ 1048576 := by
        rw [← hN0.out, List.length_append, List.length_take, List.length_drop]
        omega
      have hN5 : Hid (InN N 5) := by
        unfold Hid
        rw [← hN0.out]
        exact hNO.out.sub (fun l hl => by
          rcases List.mem_append.1 hl with q | q
          · exact List.mem_of_mem_take q
          · exact List.mem_of_mem_drop q)
      have VN0 := ON.view.2
      clear hb0 hb1 X bu hvO ON xl hvD hAn hA2 w3 k3a k3b
      obtain ⟨z, hz⟩ : ∃ z, z = u2 := ⟨_, rfl⟩
      rw [← hz] at VN0 X2_ xl2 bz hb2 ⊢
      clear hz hb2
      have VN : ∀ Y, Below z.heap.size z Y → FView lkEnc Y aN N := fun Y hY => VN0.below hY (VN0.lt lkEnc_len (by omega))
      clear VN0
      go_upto_region 8 with fail
      refine wp_region_held (S := fun Y => Below z.heap.size z Y) (by kernel_rfl) ?_
      change wpAnyH _ _ _ _ _ _ _ _ (World.drew _)
      have hb0 : Below z.heap.size z z.drew := (Below.refl _ _).drew
      obtain ⟨u0, hy0⟩ : ∃ y_, y_ = z.drew := ⟨_, rfl⟩
      rw [← hy0] at hb0 ⊢
      clear hy0
      refine takeW 0 28 (.slice aN N.length cN) rfl rfl (by kernel_rfl) (by kernel_rfl) (by kernel_rfl) (fun _ _ _ h => h) (by kernel_rfl) (by (intro w hSw; go_simp)) (by assumption) ?_
      simp only [List.set_cons_zero, List.set_cons_succ]
      refine takeW 1 29 (.pointer (some ⟨Q, 0, none⟩)) rfl rfl (by kernel_rfl) (by kernel_rfl) (by kernel_rfl) (fun _ _ _ h => h) (by kernel_rfl) (by (intro w hSw; go_simp)) (by assumption) ?_
      simp only [List.set_cons_zero, List.set_cons_succ]
      refine takeW 2 30 (.int .i64 (i : Int)) rfl rfl (by kernel_rfl) (by kernel_rfl) (by kernel_rfl) (fun _ _ _ h => h) (by kernel_rfl) (by (intro Y hSw; obtain ⟨X0, X1, X2, X3⟩ := X2_.below hSw xl2; go_simp)) (by assumption) ?_
      simp only [List.set_cons_zero, List.set_cons_succ]
      refine takeW 4 32 (.pointer (some ⟨Q, 2, none⟩)) rfl rfl (by kernel_rfl) (by kernel_rfl) (by kernel_rfl) (fun _ _ _ h => h) (by kernel_rfl) (by (intro w hSw; go_simp)) (by assumption) ?_
      simp only [List.set_cons_zero, List.set_cons_succ]
      refine takeW 5 33 (.int .i64 (j : Int)) rfl rfl (by kernel_rfl) (by kernel_rfl) (by kernel_rfl) (fun _ _ _ h => h) (by kernel_rfl) (by (intro Y hSw; obtain ⟨X0, X1, X2, X3⟩ := X2_.below hSw xl2; go_simp)) (by assumption) ?_
      simp only [List.set_cons_zero, List.set_cons_succ]
      refine wpAnyH_all (rs := [3]) (by kernel_rfl) (by simp) ?_
      intro i hi; obtain rfl : i = 3 := by simpa using hi
      refine wpOp_step rfl (fun Kz hKz => ?_)
      rw [if_pos (by kernel_rfl)]
      go_simp
      go_at_call 41
      refine (cameI aN cN N i u0 (VN u0 hb0) (by omega) (by omega) hN5.out).mono ?_
      rintro e u1 ⟨M, hM, rfl, kq⟩
      have hb1 : Below z.heap.size z u1 := hb0.trans (kq.mono hb0.size)
      clear kq
      obtain ⟨b0, g0⟩ : ∃ b, M.getD 0 false = b := ⟨_, rfl⟩
      obtain ⟨b1, g1⟩ : ∃ b, M.getD 1 false = b := ⟨_, rfl⟩
      obtain ⟨b2, g2⟩ : ∃ b, M.getD 2 false = b := ⟨_, rfl⟩
      obtain ⟨b3, g3⟩ : ∃ b, M.getD 3 false = b := ⟨_, rfl⟩
      obtain ⟨b4, g4⟩ : ∃ b, M.getD 4 false = b := ⟨_, rfl⟩
      rw [g0, g1, g2, g3, g4]
      have ix := ix5 M g0 g1 g2 g3 g4 j (by omega)
      clear g0 g1 g2 g3 g4
      obtain ⟨o, ho⟩ : ∃ o, M.getD j false = o := ⟨_, rfl⟩
      have hcon : Hid (o = true ↔ Con N (i : Int) (j : Int)) := by unfold Hid; rw [← ho]; exact hM.is j (by omega)
      rw [ho] at ix
      clear ho hM
      refine hKz _ _ ⟨hb1, ?_⟩
      clear hKz Kz hi
      refine takeW 6 34 (.bool o) rfl rfl (by kernel_rfl) (by kernel_rfl) (by kernel_rfl) (fun _ _ _ h => h) (by kernel_rfl) (by (intro Y hSw; go_simp)) (by assumption) ?_
      simp only [List.set_cons_zero, List.set_cons_succ]
      refine wpAnyH_done (by kernel_rfl) ?_ _
      have bZ := bz.trans (hb1.mono bz.size)
      clear hb0 hb1 X2_ VN bz
      cases o
      · have hno : Hid (¬ Con (O.take k ++ O.drop (k + 1)) (i : Int) (j : Int)) := by
          unfold Hid
          rw [hN0.out]
          intro q
          have := hcon.out.2 q
          cases this
        go_wp2
        go_roundw
        case rel =>
          refine ⟨k + 1, by omega, by go_num, fun j' hj => ?_, bZ⟩
          by_cases ej : j' = k
          · rw [ej, hh.out]; exact hno.out
          · exact hF.out j' (by omega)
        case measure => simp [intOf]; omega
      · have hyes : Hid (Con (O.take k ++ O.drop (k + 1)) (i : Int) (j : Int)) := by
          unfold Hid
          rw [hN0.out]
          exact hcon.out.1 rfl
        have BZ := B2.trans (bZ.mono B2.size)
        go_wp2
        go_ret
        refine ⟨YN.no (fun h => ?_), BZ⟩
        have := hQ.out.1 h k hlt
        rw [hh.out] at this
        exact this hyes.out
    · obtain rfl : k = O.length := by omega
      have BZ := B2.trans (kb.mono B2.size)
      go_wp2
      go_ret
      exact ⟨YN.yes (hQ.out.2 hF.out), BZ⟩

end Go.Proofs.Ytdfjfodfnildiaa
namespace Go.Proofs.Ytdfjfodfnildiaa
open Go.ChangeShapes Go.WideShapes Go.ChangeAt Go.RowKit
open Go.ChangeMaps (open_string shut_string)
set_option linter.unusedVariables false
set_option maxRecDepth 100000

set_option maxHeartbeats 4000000 in
theorem treeI (adB : Option Addr) (capB : Nat) (Bs : List Bd) (adK : Option Addr) (capK : Nat) (K : List Lk) (w : World) (h : NN w adB Bs adK K) (hcap : Bs.length ≤ capB) :
    Calls Try.prog 25 #[.agg #[.slice adB Bs.length capB, .slice adK K.length capK]] w fun e w' => YN e (TreeP (dB Bs) K) ∧ Below w.heap.size w w' := by
  suffices H : ∀ PQ : Prop, Hid (PQ ↔ TreeP (dB Bs) K) → Calls Try.prog 25 #[.agg #[.slice adB Bs.length capB, .slice adK K.length capK]] w fun e w' => YN e PQ ∧ Below w.heap.size w w' from H _ Iff.rfl
  intro PQ hQ
  obtain ⟨y, hy⟩ : ∃ y, y = w.alloc (Obj.cells #[.slice adB Bs.length capB, .slice adK K.length capK] 27) := ⟨_, rfl⟩
  have B0 : Below w.heap.size w y := by rw [hy]; exact below_new _
  have A : NeAt y w.heap.size (.slice adB Bs.length capB) (.slice adK K.length capK) := by rw [hy]; exact NeAt.new w _
  have hN := h.later B0
  have hk := h.hk
  have hlB := h.hl
  clear h
  go_enter Try.func25, Try.ntmps25
  go_wp2_with fail
  go_at_call 19
  rw [← hy]
  clear hy
  refine (ringI adB capB Bs adK capK K y hN hcap).mono ?_
  rintro e y1 ⟨⟨R1, rfl, hR1⟩, kq⟩
  have B1 := B0.trans (kq.mono B0.size)
  have A := A.below kq A.lt
  have hN := hN.later kq
  clear kq B0
  by_cases h1 : NetP (dB Bs) K ∧ RingP (openB (dB Bs)) K
  rotate_left
  · obtain rfl := bool_no hR1 h1
    clear hR1
    replace h1 : Hid _ := h1
    go_wp2
    go_ret
    exact ⟨YN.no (fun h => h1.out (hQ.out.1 h).1), B1⟩
  obtain rfl : R1 = true := hR1.2 h1
  clear hR1
  replace h1 : Hid _ := h1
  have cc := A
  obtain ⟨a0, a1⟩ := cc
  go_wp2_with fail
  go_at_call 21
  clear a0 a1
  refine (spanI adB capB Bs adK capK K y1 hN hcap).mono ?_
  rintro e y2 ⟨⟨R2, rfl, hR2⟩, kq⟩
  have B2 := B1.trans (kq.mono B1.size)
  have A := A.below kq A.lt
  have hN := hN.later kq
  clear kq B1
  by_cases h2 : NetP (dB Bs) K ∧ SpanP (openB (dB Bs)) K (dB Bs).length
  rotate_left
  · obtain rfl := bool_no hR2 h2
    clear hR2
    replace h2 : Hid _ := h2
    go_wp2
    go_ret
    exact ⟨YN.no (fun h => h2.out (hQ.out.1 h).2.1), B2⟩
  obtain rfl : R2 = true := hR2.2 h2
  clear hR2
  replace h2 : Hid _ := h2
  have cc := A
  obtain ⟨a0, a1⟩ := cc
  go_wp2_with fail
  go_at_call 50
  clear a0 a1
  refine (leastI adB capB Bs adK capK K y2 hN hcap h1.out.1).mono ?_
  rintro e y3 ⟨⟨R3, rfl, hR3⟩, kq⟩
  have B3 := B2.trans (kq.mono B2.size)
  clear kq B2
  go_wp2
  go_ret
  exact ⟨YN.is (by rw [hR3, hQ.out]; exact ⟨fun q => ⟨h1.out, h2.out, q⟩, fun q => q.2.2⟩), B3⟩

end Go.Proofs.Ytdfjfodfnildiaa
