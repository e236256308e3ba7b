/- Both Roots, walked. -/
import Derived.Test.YtdfjfodfnildiabRows
import Derived.WalkKit
import Derived.ProofKit
import Derived.OpenShut
import Derived.ShutString
import Derived.ChangeOld
import Derived.Below
import Derived.Deep.QuietTactic
import Derived.BigQuiet
import Derived.WalkSmall
import Derived.Laws.OwnMore
import Derived.WalkSpells
import Derived.WalkLawsBesides
import Derived.Deep.Cut
import Derived.Laws.StructEq
import Derived.Maps.AppendAt
import Derived.Test.YtdfjfodfnildiabIv0
import Derived.Test.YtdfjfodfnildiabTr1
import Derived.Test.YtdfjfodfnildiabNo2
import Derived.Test.YtdfjfodfnildiabBr5
import Derived.Test.YtdfjfodfnildiabBr5s
namespace Go.Proofs.Ytdfjfodfnildiab
open Go.ChangeShapes Go.WideShapes Go.ChangeAt Go.RowKit
open Go.ChangeMaps (open_string shut_string)
set_option linter.unusedVariables false
set_option maxRecDepth 100000

/-- Who follows nobody. -/
def rootsL (B : List Bg) : List Int := idx 0 (B.map (fun b => !(rootO b.id b.L).isSome))
theorem rootFl_len (B : List Bg) : (B.map (fun b => !(rootO b.id b.L).isSome)).length = B.length := List.length_map ..
theorem rootFl_get (Bs : List Bd) {k : Nat} (hk : k < Bs.length) : ((dB Bs).map (fun b => !(rootO b.id b.L).isSome)).getD k false = !(rootO (Bs.getD k Bd.nil).id (Bs.getD k Bd.nil).L).isSome := by
  unfold dB
  simp [List.getD, hk, Bd.d]
theorem rootsL_in {B : List Bg} {x : Int} (h : x ∈ rootsL B) : 0 ≤ x ∧ x < (B.length : Int) := by
  obtain ⟨j, h1, _, h3⟩ := (idx_mem _ x 0).1 h
  rw [rootFl_len] at h1
  omega
theorem rootsL_len (B : List Bg) : (rootsL B).length ≤ B.length := by
  have := idx_len (B.map (fun b => !(rootO b.id b.L).isSome)) 0
  rwa [rootFl_len] at this
set_option maxHeartbeats 8000000 in
theorem rootsI (adB : Option Addr) (capB : Nat) (Bs : List Bd) (adK : Option Addr) (capK : Nat) (K : List Lk) (w : World) (h : NN w adB Bs adK K) :
    Calls Try.prog 12 #[.agg #[.slice adB Bs.length capB, .slice adK K.length capK]] w fun e w' => ∃ a c, e = .returned (.slice a (rootsL (dB Bs)).length c) ∧ FOwn ivEnc 1 3 w.heap.size w' (.slice a (rootsL (dB Bs)).length c) (rootsL (dB Bs)) ∧ Below w.heap.size w w' := by
  obtain ⟨j0, hj, hj0, hj1, hj2⟩ := info_parts ivInfo
  obtain ⟨y, hy⟩ : ∃ y, y = w.alloc (Obj.cells #[.slice adB Bs.length capB, .slice adK K.length capK] 31) := ⟨_, rfl⟩
  have B0 : Below w.heap.size w y := by rw [hy]; exact below_new _
  have A : NeAt y w.heap.size (.slice adB Bs.length capB) (.slice adK K.length capK) := by rw [hy]; exact NeAt.new w _
  have hN := h.later B0
  have hk := h.hk
  have hlB := h.hl
  have S0 := A.lt
  clear h
  have hFg := fun k hk => rootFl_get Bs (k := k) hk
  have hFl := rootFl_len (dB Bs)
  rw [dB_len] at hFl
  unfold rootsL
  obtain ⟨Fl, hFl0⟩ : ∃ F, (dB Bs).map (fun b => !(rootO b.id b.L).isSome) = F := ⟨_, rfl⟩
  simp only [hFl0] at hFg hFl ⊢
  clear hFl0
  replace hFg : Hid _ := hFg
  replace hFl : Hid _ := hFl
  go_enter Try.func12, Try.ntmps12
  go_upto_region 1 with fail
  rw [← hy]
  clear hy
  have cc := A
  obtain ⟨a0, a1'⟩ := cc
  go_wp2
  clear a0 a1'
  go_loopw [3, 11] (fun v q wr => ∃ k : Nat, k ≤ Bs.length ∧ q = .int .i64 (k : Int) ∧ FOwn ivEnc 1 3 y.heap.size wr v (idx 0 (Fl.take k)) ∧ Below y.heap.size y wr) (fun _ q _ => Bs.length - (intOf q).toNat)
  case atStart => exact ⟨0, Nat.zero_le _, rfl, FOwn.nil, Below.refl _ _⟩
  case round =>
    obtain ⟨k, hk1, rfl, O, kb⟩ := hrel
    by_cases hlt : k < Bs.length
    · have hst := idx_take Fl (i := k) (by rw [hFl.out]; exact hlt)
      rw [hFg.out k hlt] at hst
      obtain ⟨b, off, rfl⟩ := hN.vb.ad_ (by omega)
      have hNr := hN.later kb
      have hn := hNr.vb.nest k hlt
      have hck := hNr.vb.at_ hlt
      have hlk := hN.hls k hlt
      obtain ⟨⟨id, a1, c1, L1⟩, hh⟩ : ∃ q, Bs.getD k Bd.nil = q := ⟨_, rfl⟩
      rw [hh] at hst hn hlk
      dsimp only at hst hn hlk
      rw [hh] at hck
      obtain ⟨x1, x2⟩ := hck
      dsimp only at x1 x2
      clear hh hNr
      obtain ⟨Ro, hRo⟩ : ∃ R, rootO id L1 = R := ⟨_, rfl⟩
      rw [hRo] at hst
      obtain ⟨L, hL⟩ : ∃ L, idx 0 (Fl.take k) = L := ⟨_, rfl⟩
      have hLl : L.length ≤ k := by rw [← hL]; exact Nat.le_trans (idx_len _ _) (by simp; omega)
      rw [hL] at O hst
      clear hL
      obtain ⟨ak, ck2, rfl⟩ := O.open_
      replace hst : Hid _ := hst
      have bk := kb.size
      obtain ⟨u, hu⟩ : ∃ u, u = wr.alloc (Obj.cells #[.int .i64 id, .slice a1 L1.length c1] 54) := ⟨_, rfl⟩
      have ku : Below wr.heap.size wr u := by rw [hu]; exact below_new _
      have bu := kb.trans (ku.mono kb.size)
      have hx0 : BrAt u wr.heap.size id (.slice a1 L1.length c1) := by rw [hu]; exact BrAt.new wr _ _ _
      have hn := hn.below ku (hn.lt ptEnc_len (by omega))
      have O := O.later ku
      have su := ku.size
      clear ku
      go_upto_region 5 with fail
      rw [← hu]
      clear hu x1 x2
      obtain ⟨x1, x2⟩ := hx0
      go_wp2_with fail
      go_at_call 31
      clear x1 x2
      refine (rootPI id a1 c1 L1 u hn hlk).mono ?_
      rintro e z ⟨rfl, kz⟩
      rw [hRo]
      have bz := bu.trans (kz.mono bu.size)
      have O := O.later kz
      have sz := bz.size
      clear kz bu hRo hn
      cases Ro with
      | some r =>
        have hst : Hid (idx 0 (Fl.take (k + 1)) = L) := by have := hst.out; unfold Hid; simpa using this
        go_wp2
        go_roundw
        case rel => exact ⟨k + 1, by omega, by go_num, by rw [hst.out]; exact O, bz⟩
        case measure => simp [intOf]; omega
      | none =>
        have hst : Hid (idx 0 (Fl.take (k + 1)) = L ++ [(k : Int)]) := by have := hst.out; unfold Hid; simpa using this
        have V1 := FView.oneI z 3 (k : Int)
        have kx : Below z.heap.size z (z.alloc (Obj.cells #[.int .i64 (k : Int)] 3)) := below_new _
        have O4 := O.later kx
        have b4 := bz.trans (kx.mono bz.size)
        have s4 := b4.size
        clear kx
        go_wp2_with (first | (at_builtin; refine fappL ivEnc_len ivEnc_ones rfl _ _ 35 rfl y.heap.size 3 j0 (.int .i64 0) 8 Try.underlying35 hj hj0 hj1 hj2 rfl (by decide) (by decide) (.slice ak L.length ck2) L rfl O4 (some ⟨z.heap.size, 0, none⟩) 1 [(k : Int)] rfl (fun e => by cases e) V1 ?z0 ?z1 ?_) | go_in)
        case z0 => first | omega | (simp; omega)
        case z1 => first | omega | (simp; omega)
        intro vZ wZ hownZ hgrowZ _
        have hob : ∀ q, (Value.slice ak L.length ck2).ownBlock = some q → y.heap.size ≤ q := fun q e => (O4.lt q e).1
        have bZ : Below y.heap.size y wZ := b4.grown hgrowZ (by exact s4) hob
        clear hgrowZ V1 O4 hob O b4
        go_wp2
        go_roundw
        case rel => exact ⟨k + 1, by omega, by go_num, by rw [hst.out]; exact hownZ, bZ⟩
        case measure => simp [intOf]; omega
    · obtain rfl : k = Bs.length := by omega
      rw [show Fl.take Bs.length = Fl by rw [← hFl.out, List.take_length]] at O
      obtain ⟨ak, ck2, rfl⟩ := O.open_
      have OZ := O.base B0.size
      have bZ := B0.trans (kb.mono B0.size)
      go_wp2
      go_ret
      exact ⟨_, _, rfl, OZ, bZ⟩
set_option maxHeartbeats 8000000 in
theorem rootsS (adB : Option Addr) (capB : Nat) (Bs : List Bd) (adK : Option Addr) (capK : Nat) (K : List Lk) (w : World) (h : NN w adB Bs adK K) :
    Calls Try.prog 11 #[.agg #[.slice adB Bs.length capB, .slice adK K.length capK]] w fun e w' => ∃ a c, e = .returned (.slice a (rootsL (dB Bs)).length c) ∧ FOwn ivEnc 1 3 w.heap.size w' (.slice a (rootsL (dB Bs)).length c) (rootsL (dB Bs)) ∧ Below w.heap.size w w' := by
  obtain ⟨j0, hj, hj0, hj1, hj2⟩ := info_parts ivInfo
  obtain ⟨y, hy⟩ : ∃ y, y = w.alloc (Obj.cells #[.slice adB Bs.length capB, .slice adK K.length capK] 31) := ⟨_, rfl⟩
  have B0 : Below w.heap.size w y := by rw [hy]; exact below_new _
  have A : NeAt y w.heap.size (.slice adB Bs.length capB) (.slice adK K.length capK) := by rw [hy]; exact NeAt.new w _
  have hN := h.later B0
  have hk := h.hk
  have hlB := h.hl
  have S0 := A.lt
  clear h
  have hFg := fun k hk => rootFl_get Bs (k := k) hk
  have hFl := rootFl_len (dB Bs)
  rw [dB_len] at hFl
  unfold rootsL
  obtain ⟨Fl, hFl0⟩ : ∃ F, (dB Bs).map (fun b => !(rootO b.id b.L).isSome) = F := ⟨_, rfl⟩
  simp only [hFl0] at hFg hFl ⊢
  clear hFl0
  replace hFg : Hid _ := hFg
  replace hFl : Hid _ := hFl
  go_enter Try.func11, Try.ntmps11
  go_upto_region 1 with fail
  rw [← hy]
  clear hy
  obtain ⟨x0, hx0⟩ : ∃ x, x = y.alloc (Obj.cells #[] 3) := ⟨_, rfl⟩
  have kx0 : Below y.heap.size y x0 := by rw [hx0]; exact below_new _
  have O0 : FOwn ivEnc 1 3 y.heap.size x0 (.slice (some ⟨y.heap.size, 0, none⟩) 0 0) ([] : List Int) := by rw [hx0]; exact FOwn.empty y
  go_upto_region 2 with fail
  rw [← hx0]
  clear hx0
  go_wp2
  go_loopw [3, 4] (fun v q wr => ∃ k : Nat, k ≤ Bs.length ∧ q = .int .i64 (k : Int) ∧ FOwn ivEnc 1 3 y.heap.size wr v (idx 0 (Fl.take k)) ∧ Below y.heap.size y wr) (fun _ q _ => Bs.length - (intOf q).toNat)
  case atStart => exact ⟨0, Nat.zero_le _, rfl, O0, kx0⟩
  case round =>
    obtain ⟨k, hk1, rfl, O, kb⟩ := hrel
    clear O0 kx0
    have A1 := A.below kb A.lt
    obtain ⟨a0, a1'⟩ := A1
    by_cases hlt : k < Bs.length
    · have hst := idx_take Fl (i := k) (by rw [hFl.out]; exact hlt)
      rw [hFg.out k hlt] at hst
      obtain ⟨b, off, rfl⟩ := hN.vb.ad_ (by omega)
      have hNr := hN.later kb
      have hn := hNr.vb.nest k hlt
      have hck := hNr.vb.at_ hlt
      have hlk := hN.hls k hlt
      obtain ⟨⟨id, a1, c1, L1⟩, hh⟩ : ∃ q, Bs.getD k Bd.nil = q := ⟨_, rfl⟩
      rw [hh] at hst hn hlk
      dsimp only at hst hn hlk
      rw [hh] at hck
      obtain ⟨x1, x2⟩ := hck
      dsimp only at x1 x2
      clear hh hNr
      obtain ⟨Ro, hRo⟩ : ∃ R, rootO id L1 = R := ⟨_, rfl⟩
      rw [hRo] at hst
      obtain ⟨L, hL⟩ : ∃ L, idx 0 (Fl.take k) = L := ⟨_, rfl⟩
      have hLl : L.length ≤ k := by rw [← hL]; exact Nat.le_trans (idx_len _ _) (by simp; omega)
      rw [hL] at O hst
      clear hL
      obtain ⟨ak, ck2, rfl⟩ := O.open_
      replace hst : Hid _ := hst
      have bk := kb.size
      obtain ⟨u, hu⟩ : ∃ u, u = wr := ⟨_, rfl⟩
      rw [← hu] at x1 x2 kb O hn a0 a1' bk ⊢
      have bu := kb
      clear hu
      go_wp2_with fail
      go_at_call 30
      clear x1 x2 a0 a1'
      refine (rootPS id a1 c1 L1 u hn hlk).mono ?_
      rintro e z ⟨rfl, kz⟩
      rw [hRo]
      have bz := bu.trans (kz.mono bu.size)
      have O := O.later kz
      have sz := bz.size
      clear kz bu hRo hn
      cases Ro with
      | some r =>
        have hst : Hid (idx 0 (Fl.take (k + 1)) = L) := by have := hst.out; unfold Hid; simpa using this
        go_wp2
        go_roundw
        case rel => exact ⟨k + 1, by omega, by go_num, by rw [hst.out]; exact O, bz⟩
        case measure => simp [intOf]; omega
      | none =>
        have hst : Hid (idx 0 (Fl.take (k + 1)) = L ++ [(k : Int)]) := by have := hst.out; unfold Hid; simpa using this
        have V1 := FView.oneI z 3 (k : Int)
        have kx : Below z.heap.size z (z.alloc (Obj.cells #[.int .i64 (k : Int)] 3)) := below_new _
        have O4 := O.later kx
        have b4 := bz.trans (kx.mono bz.size)
        have s4 := b4.size
        clear kx
        go_wp2_with (first | (at_builtin; refine fappL ivEnc_len ivEnc_ones rfl _ _ 35 rfl y.heap.size 3 j0 (.int .i64 0) 8 Try.underlying35 hj hj0 hj1 hj2 rfl (by decide) (by decide) (.slice ak L.length ck2) L rfl O4 (some ⟨z.heap.size, 0, none⟩) 1 [(k : Int)] rfl (fun e => by cases e) V1 ?z0 ?z1 ?_) | go_in)
        case z0 => first | omega | (simp; omega)
        case z1 => first | omega | (simp; omega)
        intro vZ wZ hownZ hgrowZ _
        have hob : ∀ q, (Value.slice ak L.length ck2).ownBlock = some q → y.heap.size ≤ q := fun q e => (O4.lt q e).1
        have bZ : Below y.heap.size y wZ := b4.grown hgrowZ (by exact s4) hob
        clear hgrowZ V1 O4 hob O b4
        go_wp2
        go_roundw
        case rel => exact ⟨k + 1, by omega, by go_num, by rw [hst.out]; exact hownZ, bZ⟩
        case measure => simp [intOf]; omega
    · obtain rfl : k = Bs.length := by omega
      rw [show Fl.take Bs.length = Fl by rw [← hFl.out, List.take_length]] at O
      obtain ⟨ak, ck2, rfl⟩ := O.open_
      have OZ := O.base B0.size
      have bZ := B0.trans (kb.mono B0.size)
      go_wp2
      go_ret
      exact ⟨_, _, rfl, OZ, bZ⟩

end Go.Proofs.Ytdfjfodfnildiab
