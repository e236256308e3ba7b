/- impl.isOpen, walked. impl.openLinks, walked. impl.Passes, walked. spec.Passes, walked. spec.l11Reach, walked. spec.Reach, walked. impl.Reach, walked. slices.Concat of links, walked. Rings, by place. impl.Ringless, walked. spec.Ringless, walked. Arrays of five held against each other. impl.Spans, walked. spec.Spans, walked. Both Roots, walked. impl.rootsAreLeast, walked. impl.IsTree, walked. spec.IsTree, walked. -/
import Derived.Test.YtdfjfodfnildiabRows
import Derived.WalkKit
import Derived.ProofKit
import Derived.OpenShut
import Derived.ShutString
import Derived.ChangeOld
import Derived.Below
import Derived.Deep.QuietTactic
import Derived.BigQuiet
import Derived.WalkSmall
import Derived.Laws.OwnMore
import Derived.WalkSpells
import Derived.WalkLawsBesides
import Derived.Deep.Cut
import Derived.Laws.StructEq
import Derived.Test.YtdfjfodfnildiabTr1
import Derived.Test.YtdfjfodfnildiabNo2
import Derived.Maps.AppendAt
import Derived.Test.YtdfjfodfnildiabFlatApp
import Derived.Test.YtdfjfodfnildiabLk2
import Derived.Test.YtdfjfodfnildiabNi4
import Derived.Test.YtdfjfodfnildiabTakes
import Derived.Test.YtdfjfodfnildiabNs1
import Derived.Test.YtdfjfodfnildiabIv0
import Derived.Test.YtdfjfodfnildiabTr3
import Derived.Lib.AppendZeros
import Derived.ChangeKeysEq
import Derived.Test.YtdfjfodfnildiabTr2
import Derived.Test.YtdfjfodfnildiabBr5
import Derived.Test.YtdfjfodfnildiabBr5s
namespace Go.Proofs.Ytdfjfodfnildiab
open Go.ChangeShapes Go.WideShapes Go.ChangeAt Go.RowKit
open Go.ChangeMaps (open_string shut_string)
set_option linter.unusedVariables false
set_option maxRecDepth 100000

/-- Where the mark of a port lies. -/
theorem portGet {w : World} {adB : Option Addr} {Bs : List Bd} {adK : Option Addr} {K : List Lk} {a p : Int} (h : NN w adB Bs adK K) (hp : PortP (dB Bs) a p) :
    ∃ (i j b off b2 off2 n cp : Nat) (id : Int), a = (i : Int) ∧ p = (j : Int) ∧ adB = some ⟨b, off, none⟩ ∧ i < Bs.length ∧ j < n ∧
      ∀ Y, Below w.heap.size w Y → Y.cell? ⟨b, off + i * 2, none⟩ = some (.int .i64 id) ∧ Y.cell? ⟨b, off + i * 2 + 1, none⟩ = some (.slice (some ⟨b2, off2, none⟩) n cp) ∧ Y.cell? ⟨b2, off2 + j * 11 + 10, none⟩ = some (.bool (pt (dB Bs) i j).op) := by
  obtain ⟨⟨a0, a1⟩, p0, p1⟩ := portP_iff.1 hp
  obtain ⟨i, rfl⟩ := Int.eq_ofNat_of_zero_le a0
  obtain ⟨j, rfl⟩ := Int.eq_ofNat_of_zero_le p0
  have hi : i < Bs.length := by omega
  simp only [Int.toNat_natCast] at p1
  have hj : j < (Bs.getD i Bd.nil).L.length := by omega
  obtain ⟨b, off, rfl⟩ := h.vb.ad_ (by omega)
  obtain ⟨b2, off2, e2, _⟩ := (h.vb.nest i hi) (by omega)
  refine ⟨i, j, b, off, b2, off2, (Bs.getD i Bd.nil).L.length, (Bs.getD i Bd.nil).cap, (Bs.getD i Bd.nil).id, rfl, rfl, rfl, hi, hj, fun Y hY => ?_⟩
  have V := (h.later hY).vb
  have c := V.at_ hi
  have vn := V.nest i hi
  rw [e2] at vn
  have q := ptAtO_of (vn.at_ ptEnc_len Pt.nil hj)
  refine ⟨c.c0, ?_, ?_⟩
  · rw [c.c1, e2]
  · unfold pt
    rw [bd_get]
    exact q.c10
set_option maxHeartbeats 8000000 in
theorem isOpenI (adB : Option Addr) (capB : Nat) (Bs : List Bd) (adK : Option Addr) (capK : Nat) (K : List Lk) (l : Lk) (w : World) (h : NN w adB Bs adK K) (h1 : PortP (dB Bs) l.a l.p) (h2 : PortP (dB Bs) l.b l.q) :
    Calls Try.prog 49 #[.agg #[.slice adB Bs.length capB, .slice adK K.length capK], .agg #[.int .i64 l.a, .int .i64 l.p, .int .i64 l.b, .int .i64 l.q]] w fun e w' => e = .returned (.bool (openB (dB Bs) l)) ∧ Below w.heap.size w w' := by
  obtain ⟨i, j, b, off, b2, off2, n, cp, id, e1, e2, rfl, hi, hj, G⟩ := portGet h h1
  obtain ⟨i2, j2, b', off', b22, off22, n2, cp2, id2, e3, e4, e5, hi2, hj2, G2⟩ := portGet h h2
  obtain ⟨rfl, rfl⟩ : b = b' ∧ off = off' := by cases e5; exact ⟨rfl, rfl⟩
  clear e5
  obtain ⟨la, lp, lb, lq⟩ := l
  dsimp only at e1 e2 e3 e4
  subst e1 e2 e3 e4
  have hR : Hid (openB (dB Bs) ⟨i, j, i2, j2⟩ = ((pt (dB Bs) i j).op && (pt (dB Bs) i2 j2).op)) := by unfold Hid openB; simp
  obtain ⟨o, ho⟩ : ∃ o, (pt (dB Bs) i j).op = o := ⟨_, rfl⟩
  obtain ⟨o2, ho2⟩ : ∃ o, (pt (dB Bs) i2 j2).op = o := ⟨_, rfl⟩
  rw [ho, ho2] at hR
  simp only [ho] at G
  simp only [ho2] at G2
  clear ho ho2 h1 h2
  rw [hR.out]
  clear hR
  obtain ⟨y, hy⟩ : ∃ y, y = (w.alloc (Obj.cells #[.slice (some ⟨b, off, none⟩) Bs.length capB, .slice adK K.length capK] 31)).alloc (Obj.cells #[.int .i64 (i : Int), .int .i64 (j : Int), .int .i64 (i2 : Int), .int .i64 (j2 : Int)] 70) := ⟨_, rfl⟩
  have B0 : Below w.heap.size w y := by rw [hy]; exact ((Below.refl _ _).alloc (Nat.le_refl _) _).alloc (by simp) _
  have A : NeAt y w.heap.size (.slice (some ⟨b, off, none⟩) Bs.length capB) (.slice adK K.length capK) := by rw [hy]; constructor <;> simp [go_sem]
  go_enter Try.func49, Try.ntmps49
  go_wp2_with fail
  go_at_call 65
  rw [← hy]
  clear hy
  refine (endsI ⟨i, j, i2, j2⟩ y).mono ?_
  rintro e z ⟨rfl, k1⟩
  have bz := B0.trans (k1.mono B0.size)
  have A := A.below k1 A.lt
  have ix0 := ixEnd0 ⟨i, j, i2, j2⟩
  have ix1 := ixEnd1 ⟨i, j, i2, j2⟩
  dsimp only at ix0 ix1
  clear k1 B0
  go_wp2
  refine wp_loop_rounds 3 ?_
  rw [rounds_succ]
  obtain ⟨t, ht⟩ : ∃ t, t = z.alloc (Obj.cells #[.int .i64 (i : Int), .int .i64 (j : Int)] 93) := ⟨_, rfl⟩
  have E : EnAt t z.heap.size (i : Int) (j : Int) := by rw [ht]; exact EnAt.new z _ _ _
  have kt : Below z.heap.size z t := by rw [ht]; exact below_new _
  have bt : Below w.heap.size w t := bz.trans (kt.mono bz.size)
  have A := A.below kt A.lt
  have g : ∀ Y, Below t.heap.size t Y → Y.cell? ⟨b, off + i * 2, none⟩ = some (.int .i64 id) ∧ Y.cell? ⟨b, off + i * 2 + 1, none⟩ = some (.slice (some ⟨b2, off2, none⟩) n cp) ∧ Y.cell? ⟨b2, off2 + j * 11 + 10, none⟩ = some (.bool o) := fun Y hY => G Y (bt.trans (hY.mono bt.size))
  clear kt bz
  go_upto_region 4 with fail
  rw [← ht]
  clear ht
  refine wp_region_held (S := fun Y => Below t.heap.size t Y) (by kernel_rfl) ?_
  change wpAnyH _ _ _ _ _ _ _ _ (World.drew _)
  have hb0 : Below t.heap.size t t.drew := (Below.refl _ _).drew
  obtain ⟨u0, hy0⟩ : ∃ y_, y_ = t.drew := ⟨_, rfl⟩
  rw [← hy0] at hb0 ⊢
  clear hy0
  refine takeW 0 12 (.pointer (some ⟨w.heap.size, 0, none⟩)) rfl rfl (by kernel_rfl) (by kernel_rfl) (by kernel_rfl) (fun _ _ _ h => h) (by kernel_rfl) (by (intro w hSw; go_simp)) (by assumption) ?_
  simp only [List.set_cons_zero, List.set_cons_succ]
  refine takeW 1 13 (.slice (some ⟨b, off, none⟩) Bs.length capB) rfl rfl (by kernel_rfl) (by kernel_rfl) (by kernel_rfl) (fun _ _ _ h => h) (by kernel_rfl) (by (intro Y hSw; obtain ⟨X0, X1⟩ := A.below hSw A.lt; go_simp)) (by assumption) ?_
  simp only [List.set_cons_zero, List.set_cons_succ]
  refine takeW 2 14 (.pointer (some ⟨z.heap.size, 0, none⟩)) rfl rfl (by kernel_rfl) (by kernel_rfl) (by kernel_rfl) (fun _ _ _ h => h) (by kernel_rfl) (by (intro w hSw; go_simp)) (by assumption) ?_
  simp only [List.set_cons_zero, List.set_cons_succ]
  refine takeW 3 15 (.int .i64 (i : Int)) rfl rfl (by kernel_rfl) (by kernel_rfl) (by kernel_rfl) (fun _ _ _ h => h) (by kernel_rfl) (by (intro Y hSw; obtain ⟨X0, X1⟩ := E.below hSw E.lt; go_simp)) (by assumption) ?_
  simp only [List.set_cons_zero, List.set_cons_succ]
  refine takeW 4 16 (.pointer (some ⟨b, off + i * 2, none⟩)) rfl rfl (by kernel_rfl) (by kernel_rfl) (by kernel_rfl) (fun _ _ _ h => h) (by kernel_rfl) (by (intro Y hSw; go_simp; try omega)) (by assumption) ?_
  simp only [List.set_cons_zero, List.set_cons_succ]
  refine takeW 5 17 (.pointer (some ⟨b, off + i * 2 + 1, none⟩)) rfl rfl (by kernel_rfl) (by kernel_rfl) (by kernel_rfl) (fun _ _ _ h => h) (by kernel_rfl) (by (intro w hSw; go_simp)) (by assumption) ?_
  simp only [List.set_cons_zero, List.set_cons_succ]
  refine takeW 6 18 (.slice (some ⟨b2, off2, none⟩) n cp) rfl rfl (by kernel_rfl) (by kernel_rfl) (by kernel_rfl) (fun _ _ _ h => h) (by kernel_rfl) (by (intro Y hSw; obtain ⟨X0, X1, X2⟩ := g Y hSw; go_simp)) (by assumption) ?_
  simp only [List.set_cons_zero, List.set_cons_succ]
  refine takeW 7 19 (.pointer (some ⟨z.heap.size, 1, none⟩)) rfl rfl (by kernel_rfl) (by kernel_rfl) (by kernel_rfl) (fun _ _ _ h => h) (by kernel_rfl) (by (intro w hSw; go_simp)) (by assumption) ?_
  simp only [List.set_cons_zero, List.set_cons_succ]
  refine takeW 8 20 (.int .i64 (j : Int)) rfl rfl (by kernel_rfl) (by kernel_rfl) (by kernel_rfl) (fun _ _ _ h => h) (by kernel_rfl) (by (intro Y hSw; obtain ⟨X0, X1⟩ := E.below hSw E.lt; go_simp)) (by assumption) ?_
  simp only [List.set_cons_zero, List.set_cons_succ]
  refine takeW 9 21 (.pointer (some ⟨b2, off2 + j * 11, none⟩)) rfl rfl (by kernel_rfl) (by kernel_rfl) (by kernel_rfl) (fun _ _ _ h => h) (by kernel_rfl) (by (intro Y hSw; go_simp; try omega)) (by assumption) ?_
  simp only [List.set_cons_zero, List.set_cons_succ]
  refine takeW 10 22 (.pointer (some ⟨b2, off2 + j * 11 + 10, none⟩)) rfl rfl (by kernel_rfl) (by kernel_rfl) (by kernel_rfl) (fun _ _ _ h => h) (by kernel_rfl) (by (intro w hSw; go_simp)) (by assumption) ?_
  simp only [List.set_cons_zero, List.set_cons_succ]
  refine takeW 11 23 (.bool o) rfl rfl (by kernel_rfl) (by kernel_rfl) (by kernel_rfl) (fun _ _ _ h => h) (by kernel_rfl) (by (intro Y hSw; obtain ⟨X0, X1, X2⟩ := g Y hSw; go_simp)) (by assumption) ?_
  simp only [List.set_cons_zero, List.set_cons_succ]
  refine takeW 12 24 (.bool (!o)) rfl rfl (by kernel_rfl) (by kernel_rfl) (by kernel_rfl) (fun _ _ _ h => h) (by kernel_rfl) (by (intro w hSw; go_simp)) (by assumption) ?_
  simp only [List.set_cons_zero, List.set_cons_succ]
  refine wpAnyH_done (by kernel_rfl) ?_ _
  have bz := bt.trans (hb0.mono bt.size)
  have A := A.below hb0 A.lt
  clear hb0 bt E
  cases o
  · go_wp2
    go_ret
    exact ⟨rfl, bz⟩
  go_wp2_with fail
  rw [rounds_succ]
  obtain ⟨z2, hz2⟩ : ∃ z, z = u0 := ⟨_, rfl⟩
  rw [← hz2] at bz A ⊢
  clear hz2
  obtain ⟨t2, ht2⟩ : ∃ t, t = z2.alloc (Obj.cells #[.int .i64 (i2 : Int), .int .i64 (j2 : Int)] 93) := ⟨_, rfl⟩
  have E : EnAt t2 z2.heap.size (i2 : Int) (j2 : Int) := by rw [ht2]; exact EnAt.new z2 _ _ _
  have kt : Below z2.heap.size z2 t2 := by rw [ht2]; exact below_new _
  have bt : Below w.heap.size w t2 := bz.trans (kt.mono bz.size)
  have A := A.below kt A.lt
  have g2 : ∀ Y, Below t2.heap.size t2 Y → Y.cell? ⟨b, off + i2 * 2, none⟩ = some (.int .i64 id2) ∧ Y.cell? ⟨b, off + i2 * 2 + 1, none⟩ = some (.slice (some ⟨b22, off22, none⟩) n2 cp2) ∧ Y.cell? ⟨b22, off22 + j2 * 11 + 10, none⟩ = some (.bool o2) := fun Y hY => G2 Y (bt.trans (hY.mono bt.size))
  clear kt bz
  go_upto_region 4 with fail
  rw [← ht2]
  clear ht2
  refine wp_region_held (S := fun Y => Below t2.heap.size t2 Y) (by kernel_rfl) ?_
  change wpAnyH _ _ _ _ _ _ _ _ (World.drew _)
  have hb0 : Below t2.heap.size t2 t2.drew := (Below.refl _ _).drew
  obtain ⟨u0, hy0⟩ : ∃ y_, y_ = t2.drew := ⟨_, rfl⟩
  rw [← hy0] at hb0 ⊢
  clear hy0
  refine takeW 0 12 (.pointer (some ⟨w.heap.size, 0, none⟩)) rfl rfl (by kernel_rfl) (by kernel_rfl) (by kernel_rfl) (fun _ _ _ h => h) (by kernel_rfl) (by (intro w hSw; go_simp)) (by assumption) ?_
  simp only [List.set_cons_zero, List.set_cons_succ]
  refine takeW 1 13 (.slice (some ⟨b, off, none⟩) Bs.length capB) rfl rfl (by kernel_rfl) (by kernel_rfl) (by kernel_rfl) (fun _ _ _ h => h) (by kernel_rfl) (by (intro Y hSw; obtain ⟨X0, X1⟩ := A.below hSw A.lt; go_simp)) (by assumption) ?_
  simp only [List.set_cons_zero, List.set_cons_succ]
  refine takeW 2 14 (.pointer (some ⟨z2.heap.size, 0, none⟩)) rfl rfl (by kernel_rfl) (by kernel_rfl) (by kernel_rfl) (fun _ _ _ h => h) (by kernel_rfl) (by (intro w hSw; go_simp)) (by assumption) ?_
  simp only [List.set_cons_zero, List.set_cons_succ]
  refine takeW 3 15 (.int .i64 (i2 : Int)) rfl rfl (by kernel_rfl) (by kernel_rfl) (by kernel_rfl) (fun _ _ _ h => h) (by kernel_rfl) (by (intro Y hSw; obtain ⟨X0, X1⟩ := E.below hSw E.lt; go_simp)) (by assumption) ?_
  simp only [List.set_cons_zero, List.set_cons_succ]
  refine takeW 4 16 (.pointer (some ⟨b, off + i2 * 2, none⟩)) rfl rfl (by kernel_rfl) (by kernel_rfl) (by kernel_rfl) (fun _ _ _ h => h) (by kernel_rfl) (by (intro Y hSw; go_simp; try omega)) (by assumption) ?_
  simp only [List.set_cons_zero, List.set_cons_succ]
  refine takeW 5 17 (.pointer (some ⟨b, off + i2 * 2 + 1, none⟩)) rfl rfl (by kernel_rfl) (by kernel_rfl) (by kernel_rfl) (fun _ _ _ h => h) (by kernel_rfl) (by (intro w hSw; go_simp)) (by assumption) ?_
  simp only [List.set_cons_zero, List.set_cons_succ]
  refine takeW 6 18 (.slice (some ⟨b22, off22, none⟩) n2 cp2) rfl rfl (by kernel_rfl) (by kernel_rfl) (by kernel_rfl) (fun _ _ _ h => h) (by kernel_rfl) (by (intro Y hSw; obtain ⟨X0, X1, X2⟩ := g2 Y hSw; go_simp)) (by assumption) ?_
  simp only [List.set_cons_zero, List.set_cons_succ]
  refine takeW 7 19 (.pointer (some ⟨z2.heap.size, 1, none⟩)) rfl rfl (by kernel_rfl) (by kernel_rfl) (by kernel_rfl) (fun _ _ _ h => h) (by kernel_rfl) (by (intro w hSw; go_simp)) (by assumption) ?_
  simp only [List.set_cons_zero, List.set_cons_succ]
  refine takeW 8 20 (.int .i64 (j2 : Int)) rfl rfl (by kernel_rfl) (by kernel_rfl) (by kernel_rfl) (fun _ _ _ h => h) (by kernel_rfl) (by (intro Y hSw; obtain ⟨X0, X1⟩ := E.below hSw E.lt; go_simp)) (by assumption) ?_
  simp only [List.set_cons_zero, List.set_cons_succ]
  refine takeW 9 21 (.pointer (some ⟨b22, off22 + j2 * 11, none⟩)) rfl rfl (by kernel_rfl) (by kernel_rfl) (by kernel_rfl) (fun _ _ _ h => h) (by kernel_rfl) (by (intro Y hSw; go_simp; try omega)) (by assumption) ?_
  simp only [List.set_cons_zero, List.set_cons_succ]
  refine takeW 10 22 (.pointer (some ⟨b22, off22 + j2 * 11 + 10, none⟩)) rfl rfl (by kernel_rfl) (by kernel_rfl) (by kernel_rfl) (fun _ _ _ h => h) (by kernel_rfl) (by (intro w hSw; go_simp)) (by assumption) ?_
  simp only [List.set_cons_zero, List.set_cons_succ]
  refine takeW 11 23 (.bool o2) rfl rfl (by kernel_rfl) (by kernel_rfl) (by kernel_rfl) (fun _ _ _ h => h) (by kernel_rfl) (by (intro Y hSw; obtain ⟨X0, X1, X2⟩ := g2 Y hSw; go_simp)) (by assumption) ?_
  simp only [List.set_cons_zero, List.set_cons_succ]
  refine takeW 12 24 (.bool (!o2)) rfl rfl (by kernel_rfl) (by kernel_rfl) (by kernel_rfl) (fun _ _ _ h => h) (by kernel_rfl) (by (intro w hSw; go_simp)) (by assumption) ?_
  simp only [List.set_cons_zero, List.set_cons_succ]
  refine wpAnyH_done (by kernel_rfl) ?_ _
  have bz := bt.trans (hb0.mono bt.size)
  have A := A.below hb0 A.lt
  clear hb0 bt E
  cases o2
  · go_wp2
    go_ret
    exact ⟨rfl, bz⟩
  go_wp2_with fail
  rw [rounds_succ]
  go_wp2
  go_ret
  exact ⟨rfl, bz⟩

end Go.Proofs.Ytdfjfodfnildiab
namespace Go.Proofs.Ytdfjfodfnildiab
open Go.ChangeShapes Go.WideShapes Go.ChangeAt Go.RowKit
open Go.ChangeMaps (open_string shut_string)
set_option linter.unusedVariables false
set_option maxRecDepth 100000

theorem FView.oneK (w : World) (t : TypeId) (x : Lk) : FView lkEnc (w.alloc (Obj.cells #[.int .i64 x.a, .int .i64 x.p, .int .i64 x.b, .int .i64 x.q] t)) (some ⟨w.heap.size, 0, none⟩) [x] := by
  intro _
  refine ⟨w.heap.size, 0, rfl, fun j v hv => ?_⟩
  match j, hv with
  | 0, hv => cases hv; simp [go_sem]
  | 1, hv => cases hv; simp [go_sem]
  | 2, hv => cases hv; simp [go_sem]
  | 3, hv => cases hv; simp [go_sem]
  | j + 4, hv => simp [fcells, lkEnc] at hv
theorem filter_take (p : Lk → Bool) (K : List Lk) {k : Nat} (h : k < K.length) : (K.take (k + 1)).filter p = (K.take k).filter p ++ (if p (K.getD k Lk.nil) = true then [K.getD k Lk.nil] else []) := by
  rw [take_oneK K h, List.filter_append]
  congr 1
  simp [List.filter_cons]
set_option maxHeartbeats 8000000 in
theorem openLI (adB : Option Addr) (capB : Nat) (Bs : List Bd) (adK : Option Addr) (capK : Nat) (K : List Lk) (w : World) (h : NN w adB Bs adK K) (hP : ∀ l, l ∈ K → PortP (dB Bs) l.a l.p ∧ PortP (dB Bs) l.b l.q) :
    Calls Try.prog 26 #[.agg #[.slice adB Bs.length capB, .slice adK K.length capK]] w fun e w' => ∃ a c, e = .returned (.slice a (K.filter (openB (dB Bs))).length c) ∧ FOwn lkEnc 4 70 w.heap.size w' (.slice a (K.filter (openB (dB Bs))).length c) (K.filter (openB (dB Bs))) ∧ Below w.heap.size w w' := by
  obtain ⟨i0, hi, hz0, hz1, hz2⟩ := info_parts lkInfo
  obtain ⟨p, hp⟩ : ∃ p, p = openB (dB Bs) := ⟨_, rfl⟩
  rw [← hp]
  replace hp : Hid _ := hp
  have hl := h.hk
  obtain ⟨y, hy⟩ : ∃ y, y = w.alloc (Obj.cells #[.slice adB Bs.length capB, .slice adK K.length capK] 31) := ⟨_, rfl⟩
  have B0 : Below w.heap.size w y := by rw [hy]; exact below_new _
  have A0 : NeAt y w.heap.size (.slice adB Bs.length capB) (.slice adK K.length capK) := by rw [hy]; exact NeAt.new w _
  have hN := h.later B0
  have S0 := A0.lt
  go_enter Try.func26, Try.ntmps26
  go_upto_region 1 with fail
  rw [← hy]
  clear hy h
  have cc := A0
  obtain ⟨a0, a1⟩ := cc
  go_wp2
  clear a0 a1
  go_loopw [3, 9] (fun v i wr => ∃ k : Nat, k ≤ K.length ∧ i = .int .i64 (k : Int) ∧ FOwn lkEnc 4 70 y.heap.size wr v ((K.take k).filter p) ∧ Below y.heap.size y wr) (fun _ i _ => K.length - (intOf i).toNat)
  case atStart => exact ⟨0, Nat.zero_le _, rfl, FOwn.nil, Below.refl _ _⟩
  case round =>
    obtain ⟨k, hk, rfl, O, kb⟩ := hrel
    by_cases hlt : k < K.length
    · obtain ⟨M, hM⟩ : ∃ M, (K.take k).filter p = M := ⟨_, rfl⟩
      have hMl : M.length ≤ k := by
        rw [← hM]
        exact Nat.le_trans (List.length_filter_le _ _) (by simp; omega)
      rw [hM] at O
      replace hM : Hid _ := hM
      obtain ⟨adk, capk, rfl⟩ := O.open_
      have hN1 := hN.later kb
      have A1 := A0.below kb S0
      have vk := hN1.vk
      obtain ⟨b, off, rfl, _⟩ := vk (by omega)
      obtain ⟨x, hh⟩ : ∃ h, K.getD k Lk.nil = h := ⟨_, rfl⟩
      have hck : LkAtO wr b (off + k * 4) x := by
        rw [← hh]
        exact lkAtO_of (vk.at_ lkEnc_len Lk.nil hlt)
      have hm : x ∈ K := by
        rw [← hh, show K.getD k Lk.nil = K[k] by simp [List.getD, hlt]]
        exact List.getElem_mem hlt
      have hq := hP x hm
      have hst : Hid ((K.take (k + 1)).filter p = M ++ (if p x = true then [x] else [])) := by
        unfold Hid
        rw [filter_take p K hlt, hM.out, hh]
      clear hh hm
      obtain ⟨c0, c1, c2, c3⟩ := hck
      obtain ⟨u, hu⟩ : ∃ u, u = wr.alloc (Obj.cells #[.int .i64 x.a, .int .i64 x.p, .int .i64 x.b, .int .i64 x.q] 70) := ⟨_, rfl⟩
      have ku : Below wr.heap.size wr u := by rw [hu]; exact below_new _
      have X : LkAtO u wr.heap.size 0 x := by rw [hu]; constructor <;> simp [go_sem]
      have xl : wr.heap.size < u.heap.size := World.block_lt_of_cell? u _ X.c0
      have bu := kb.trans (ku.mono kb.size)
      have Ou := O.later ku
      have Nu := hN1.later ku
      have Au := A1.below ku A1.lt
      clear ku vk O A1 hN1
      go_upto_region 5 with fail
      rw [← hu]
      clear hu c0 c1 c2 c3
      have cc := Au
      obtain ⟨a0, a1⟩ := cc
      have dd := X
      obtain ⟨x0, x1, x2, x3⟩ := dd
      simp only [Nat.zero_add] at x0 x1 x2 x3
      go_wp2_with fail
      go_at_call 49
      clear a0 a1 x0 x1 x2 x3
      refine (isOpenI adB capB Bs (some ⟨b, off, none⟩) capK K x u Nu hq.1 hq.2).mono ?_
      rintro e u1 ⟨rfl, k1⟩
      rw [← hp.out]
      have b1 := bu.trans (k1.mono bu.size)
      have X1 := X.below k1 xl
      have O1 := Ou.later k1
      have s1 := k1.size
      have sb := kb.size
      clear k1 bu X Ou Nu Au hq
      obtain ⟨o, ho⟩ : ∃ o, p x = o := ⟨_, rfl⟩
      rw [ho] at hst ⊢
      clear ho
      cases o
      · have hst : Hid ((K.take (k + 1)).filter p = M) := by have := hst.out; unfold Hid; simpa using this
        go_wp2
        go_roundw
        case rel => exact ⟨k + 1, by omega, by go_num, by rw [hst.out]; exact O1, b1⟩
        case measure => simp [intOf]; omega
      · have hst : Hid ((K.take (k + 1)).filter p = M ++ [x]) := by have := hst.out; unfold Hid; simpa using this
        obtain ⟨x0, x1, x2, x3⟩ := X1
        simp only [Nat.zero_add] at x0 x1 x2 x3
        have V1 := FView.oneK u1 70 x
        have O2 := O1.later (below_new (w := u1) (Obj.cells #[.int .i64 x.a, .int .i64 x.p, .int .i64 x.b, .int .i64 x.q] 70))
        go_wp2_with (first | (at_builtin; refine fappL lkEnc_len lkEnc_ones rfl _ _ 29 rfl y.heap.size 70 i0 (.agg #[.int .i64 0, .int .i64 0, .int .i64 0, .int .i64 0]) 32 Try.underlying29 hi hz0 hz1 hz2 rfl (by decide) (by decide) (.slice adk M.length capk) M rfl O2 (some ⟨u1.heap.size, 0, none⟩) 1 [x] rfl (fun e => by cases e) V1 ?z0 ?z1 ?_) | go_in)
        case z0 => simp; omega
        case z1 => simp; omega
        intro vZ wZ hownZ hgrowZ _
        have ho2 : ∀ g_, (Value.slice adk M.length capk).ownBlock = some g_ → y.heap.size ≤ g_ := fun g_ e => (O2.lt g_ e).1
        have KZ : Below y.heap.size y wZ := (b1.alloc (by omega) _).grown hgrowZ (by simp; omega) ho2
        clear hgrowZ V1 O2 ho2 O1 x0 x1 x2 x3
        go_wp2
        go_roundw
        case rel => exact ⟨k + 1, by omega, by go_num, by rw [hst.out]; exact hownZ, KZ⟩
        case measure => simp [intOf]; omega
    · obtain rfl : k = K.length := by omega
      rw [List.take_length] at O
      obtain ⟨adk, capk, rfl⟩ := O.open_
      have BZ := B0.trans (kb.mono B0.size)
      have OZ := O.base B0.size
      go_wp2
      go_ret
      exact ⟨_, _, rfl, OZ, BZ⟩

end Go.Proofs.Ytdfjfodfnildiab
namespace Go.Proofs.Ytdfjfodfnildiab
open Go.ChangeShapes Go.WideShapes Go.ChangeAt Go.RowKit
open Go.ChangeMaps (open_string shut_string)
set_option linter.unusedVariables false
set_option maxRecDepth 100000

theorem netP_ports {B : List Bg} {K : List Lk} (h : NetP B K) {l : Lk} (hl : l ∈ K) : PortP B l.a l.p ∧ PortP B l.b l.q := ⟨(h.link l hl).2.1.port, (h.link l hl).2.2.port⟩
theorem getD_mem {K : List Lk} {i : Nat} (h : i < K.length) : K.getD i Lk.nil ∈ K := by
  rw [show K.getD i Lk.nil = K[i] by simp [List.getD, h]]
  exact List.getElem_mem h
/-- What comes to that link goes over it. -/
def PassP (B : List Bg) (K : List Lk) (m : Int) : Prop := NetP B K ∧ 0 ≤ m ∧ m < (K.length : Int) ∧ openB B (K.getD m.toNat Lk.nil) = true
end Go.Proofs.Ytdfjfodfnildiab
namespace Go.Proofs.Ytdfjfodfnildiab
open Go.ChangeShapes Go.WideShapes Go.ChangeAt Go.RowKit
open Go.ChangeMaps (open_string shut_string)
set_option linter.unusedVariables false
set_option maxRecDepth 100000

set_option maxHeartbeats 8000000 in
theorem passS (adB : Option Addr) (capB : Nat) (Bs : List Bd) (adK : Option Addr) (capK : Nat) (K : List Lk) (m : Int) (w : World) (h : NN w adB Bs adK K) :
    Calls Try.prog 43 #[.agg #[.slice adB Bs.length capB, .slice adK K.length capK], .int .i64 m] w fun e w' => YN e (PassP (dB Bs) K m) ∧ Below w.heap.size w w' := by
  obtain ⟨y, hy⟩ : ∃ y, y = w.alloc (Obj.cells #[.slice adB Bs.length capB, .slice adK K.length capK] 31) := ⟨_, rfl⟩
  have B0 : Below w.heap.size w y := by rw [hy]; exact below_new _
  have A : NeAt y w.heap.size (.slice adB Bs.length capB) (.slice adK K.length capK) := by rw [hy]; exact NeAt.new w _
  have hN := h.later B0
  have hk := h.hk
  have hlB := h.hl
  clear h
  by_cases hok : NetP (dB Bs) K
  rotate_left
  · replace hok : Hid _ := hok
    go_enter Try.func43, Try.ntmps43
    go_wp2_with fail
    go_at_call 21
    rw [← hy]
    clear hy
    refine (netOkS adB capB Bs adK capK K y hN).mono ?_
    rintro e y1 ⟨⟨R1, rfl, hR1⟩, kq⟩
    obtain rfl := bool_no hR1 hok.out
    clear hR1
    have B1 := B0.trans (kq.mono B0.size)
    have A := A.below kq A.lt
    have hN := hN.later kq
    clear kq B0
    go_wp2
    go_ret
    exact ⟨YN.no (fun h => hok.out h.1), B1⟩
  replace hok : Hid _ := hok
  go_enter Try.func43, Try.ntmps43
  go_wp2_with fail
  go_at_call 21
  rw [← hy]
  clear hy
  refine (netOkS adB capB Bs adK capK K y hN).mono ?_
  rintro e y1 ⟨⟨R1, rfl, hR1⟩, kq⟩
  obtain rfl : R1 = true := hR1.2 hok.out
  clear hR1
  have B1 := B0.trans (kq.mono B0.size)
  have A := A.below kq A.lt
  have hN := hN.later kq
  clear kq B0
  have cc := A
  obtain ⟨a0, a1⟩ := cc
  by_cases h1 : 0 ≤ m ∧ m ≤ (K.length : Int) - 1
  rotate_left
  · have h1n : m < 0 ∨ (K.length : Int) - 1 < m := by omega
    replace h1 : Hid _ := h1
    go_wp2_with fail
    go_at_call 38
    refine (inNo _ _ _ _ h1n).mono ?_
    rintro e w' ⟨rfl, rfl⟩
    go_wp2
    go_ret
    refine ⟨YN.no (fun h => h1.out ⟨h.2.1, by have := h.2.2.1; omega⟩), B1⟩
  obtain ⟨i0, rfl⟩ := Int.eq_ofNat_of_zero_le h1.1
  have hi0 : i0 < K.length := by omega
  go_wp2_with fail
  go_at_call 38
  refine (inYes _ _ _ _ h1).mono ?_
  rintro e w' ⟨rfl, hw'⟩
  obtain rfl := hw'.symm
  obtain ⟨bK, offK, rfl, _⟩ := hN.vk (by omega)
  have hck := lkAtO_of (hN.vk.at_ lkEnc_len Lk.nil hi0)
  have hq := netP_ports hok.out (getD_mem hi0)
  have hR : Hid (openB (dB Bs) (K.getD i0 Lk.nil) = true ↔ PassP (dB Bs) K (i0 : Int)) := by
    unfold Hid PassP
    simp only [Int.toNat_natCast]
    exact ⟨fun h => ⟨hok.out, by omega, by omega, h⟩, fun h => h.2.2.2⟩
  obtain ⟨i, j, b, off, b2, off2, n, cp, id, e1, e2, rfl, hi, hj, G⟩ := portGet hN hq.1
  obtain ⟨i2, j2, b', off', b22, off22, n2, cp2, id2, e3, e4, e5, hi2, hj2, G2⟩ := portGet hN hq.2
  obtain ⟨rfl, rfl⟩ : b = b' ∧ off = off' := by cases e5; exact ⟨rfl, rfl⟩
  clear e5 hq
  obtain ⟨x, hh⟩ : ∃ x, K.getD i0 Lk.nil = x := ⟨_, rfl⟩
  rw [hh] at hck hR e1 e2 e3 e4
  clear hh
  obtain ⟨la, lp, lb, lq⟩ := x
  dsimp only at e1 e2 e3 e4
  subst e1 e2 e3 e4
  have hR : Hid (((pt (dB Bs) i j).op && (pt (dB Bs) i2 j2).op) = true ↔ PassP (dB Bs) K (i0 : Int)) := by
    have := hR.out
    unfold openB at this
    unfold Hid
    simpa using this
  obtain ⟨o, ho⟩ : ∃ o, (pt (dB Bs) i j).op = o := ⟨_, rfl⟩
  obtain ⟨o2, ho2⟩ : ∃ o, (pt (dB Bs) i2 j2).op = o := ⟨_, rfl⟩
  rw [ho, ho2] at hR
  simp only [ho] at G
  simp only [ho2] at G2
  clear ho ho2
  obtain ⟨x0, x1, x2, x3⟩ := hck
  dsimp only at x0 x1 x2 x3
  obtain ⟨u, hu⟩ : ∃ u, u = y1.alloc (Obj.cells #[.int .i64 (i : Int), .int .i64 (j : Int), .int .i64 (i2 : Int), .int .i64 (j2 : Int)] 70) := ⟨_, rfl⟩
  have ku : Below y1.heap.size y1 u := by rw [hu]; exact below_new _
  have X : LkAtO u y1.heap.size 0 ⟨i, j, i2, j2⟩ := by rw [hu]; constructor <;> simp [go_sem]
  have xl : y1.heap.size < u.heap.size := World.block_lt_of_cell? u _ X.c0
  have bu := B1.trans (ku.mono B1.size)
  have Au := A.below ku A.lt
  have g : ∀ Y, Below u.heap.size u Y → Y.cell? ⟨b, off + i * 2, none⟩ = some (.int .i64 id) ∧ Y.cell? ⟨b, off + i * 2 + 1, none⟩ = some (.slice (some ⟨b2, off2, none⟩) n cp) ∧ Y.cell? ⟨b2, off2 + j * 11 + 10, none⟩ = some (.bool o) := fun Y hY => G Y (ku.trans (hY.mono ku.size))
  have g2 : ∀ Y, Below u.heap.size u Y → Y.cell? ⟨b, off + i2 * 2, none⟩ = some (.int .i64 id2) ∧ Y.cell? ⟨b, off + i2 * 2 + 1, none⟩ = some (.slice (some ⟨b22, off22, none⟩) n2 cp2) ∧ Y.cell? ⟨b22, off22 + j2 * 11 + 10, none⟩ = some (.bool o2) := fun Y hY => G2 Y (ku.trans (hY.mono ku.size))
  clear ku B1 G G2 A
  cases o
  · have hR : Hid (false = true ↔ PassP (dB Bs) K (i0 : Int)) := by have := hR.out; unfold Hid; simpa using this
    go_upto_region 4 with fail
    rw [← hu]
    clear hu x0 x1 x2 x3 a0 a1
    refine wp_region_held (S := fun Y => Below u.heap.size u Y) (by kernel_rfl) ?_
    change wpAnyH _ _ _ _ _ _ _ _ (World.drew _)
    have hb0 : Below u.heap.size u u.drew := (Below.refl _ _).drew
    obtain ⟨u0, hy0⟩ : ∃ y_, y_ = u.drew := ⟨_, rfl⟩
    rw [← hy0] at hb0 ⊢
    clear hy0
    refine takeW 0 23 (.pointer (some ⟨w.heap.size, 0, none⟩)) rfl rfl (by kernel_rfl) (by kernel_rfl) (by kernel_rfl) (fun _ _ _ h => h) (by kernel_rfl) (by (intro w hSw; go_simp)) (by assumption) ?_
    simp only [List.set_cons_zero, List.set_cons_succ]
    refine takeW 1 24 (.slice (some ⟨b, off, none⟩) Bs.length capB) rfl rfl (by kernel_rfl) (by kernel_rfl) (by kernel_rfl) (fun _ _ _ h => h) (by kernel_rfl) (by (intro Y hSw; obtain ⟨X0, X1⟩ := Au.below hSw Au.lt; go_simp)) (by assumption) ?_
    simp only [List.set_cons_zero, List.set_cons_succ]
    refine takeW 2 25 (.pointer (some ⟨y1.heap.size, 0, none⟩)) rfl rfl (by kernel_rfl) (by kernel_rfl) (by kernel_rfl) (fun _ _ _ h => h) (by kernel_rfl) (by (intro w hSw; go_simp)) (by assumption) ?_
    simp only [List.set_cons_zero, List.set_cons_succ]
    refine takeW 3 26 (.int .i64 (i : Int)) rfl rfl (by kernel_rfl) (by kernel_rfl) (by kernel_rfl) (fun _ _ _ h => h) (by kernel_rfl) (by (intro Y hSw; obtain ⟨X0, X1, X2, X3⟩ := X.below hSw xl; go_simp)) (by assumption) ?_
    simp only [List.set_cons_zero, List.set_cons_succ]
    refine takeW 4 27 (.pointer (some ⟨b, off + i * 2, none⟩)) rfl rfl (by kernel_rfl) (by kernel_rfl) (by kernel_rfl) (fun _ _ _ h => h) (by kernel_rfl) (by (intro Y hSw; go_simp; try omega)) (by assumption) ?_
    simp only [List.set_cons_zero, List.set_cons_succ]
    refine takeW 5 28 (.pointer (some ⟨b, off + i * 2 + 1, none⟩)) rfl rfl (by kernel_rfl) (by kernel_rfl) (by kernel_rfl) (fun _ _ _ h => h) (by kernel_rfl) (by (intro w hSw; go_simp)) (by assumption) ?_
    simp only [List.set_cons_zero, List.set_cons_succ]
    refine takeW 6 29 (.slice (some ⟨b2, off2, none⟩) n cp) rfl rfl (by kernel_rfl) (by kernel_rfl) (by kernel_rfl) (fun _ _ _ h => h) (by kernel_rfl) (by (intro Y hSw; obtain ⟨X0, X1, X2⟩ := g Y hSw; go_simp)) (by assumption) ?_
    simp only [List.set_cons_zero, List.set_cons_succ]
    refine takeW 7 30 (.pointer (some ⟨y1.heap.size, 1, none⟩)) rfl rfl (by kernel_rfl) (by kernel_rfl) (by kernel_rfl) (fun _ _ _ h => h) (by kernel_rfl) (by (intro w hSw; go_simp)) (by assumption) ?_
    simp only [List.set_cons_zero, List.set_cons_succ]
    refine takeW 8 31 (.int .i64 (j : Int)) rfl rfl (by kernel_rfl) (by kernel_rfl) (by kernel_rfl) (fun _ _ _ h => h) (by kernel_rfl) (by (intro Y hSw; obtain ⟨X0, X1, X2, X3⟩ := X.below hSw xl; go_simp)) (by assumption) ?_
    simp only [List.set_cons_zero, List.set_cons_succ]
    refine takeW 9 32 (.pointer (some ⟨b2, off2 + j * 11, none⟩)) rfl rfl (by kernel_rfl) (by kernel_rfl) (by kernel_rfl) (fun _ _ _ h => h) (by kernel_rfl) (by (intro Y hSw; go_simp; try omega)) (by assumption) ?_
    simp only [List.set_cons_zero, List.set_cons_succ]
    refine takeW 10 33 (.pointer (some ⟨b2, off2 + j * 11 + 10, none⟩)) rfl rfl (by kernel_rfl) (by kernel_rfl) (by kernel_rfl) (fun _ _ _ h => h) (by kernel_rfl) (by (intro w hSw; go_simp)) (by assumption) ?_
    simp only [List.set_cons_zero, List.set_cons_succ]
    refine takeW 11 34 (.bool false) rfl rfl (by kernel_rfl) (by kernel_rfl) (by kernel_rfl) (fun _ _ _ h => h) (by kernel_rfl) (by (intro Y hSw; obtain ⟨X0, X1, X2⟩ := g Y hSw; go_simp)) (by assumption) ?_
    simp only [List.set_cons_zero, List.set_cons_succ]
    refine takeW 12 35 (.bool false) rfl rfl (by kernel_rfl) (by kernel_rfl) (by kernel_rfl) (fun _ _ _ h => h) (by kernel_rfl) (by (intro w hSw; go_simp)) (by assumption) ?_
    simp only [List.set_cons_zero, List.set_cons_succ]
    refine takeS 13 36 rfl rfl (by kernel_rfl) (by kernel_rfl) (by kernel_rfl) (fun _ _ _ h => h) (by kernel_rfl) (by assumption) ?_
    simp only [List.set_cons_zero, List.set_cons_succ]
    refine takeS 14 37 rfl rfl (by kernel_rfl) (by kernel_rfl) (by kernel_rfl) (fun _ _ _ h => h) (by kernel_rfl) (by assumption) ?_
    simp only [List.set_cons_zero, List.set_cons_succ]
    refine takeS 15 38 rfl rfl (by kernel_rfl) (by kernel_rfl) (by kernel_rfl) (fun _ _ _ h => h) (by kernel_rfl) (by assumption) ?_
    simp only [List.set_cons_zero, List.set_cons_succ]
    refine takeS 16 39 rfl rfl (by kernel_rfl) (by kernel_rfl) (by kernel_rfl) (fun _ _ _ h => h) (by kernel_rfl) (by assumption) ?_
    simp only [List.set_cons_zero, List.set_cons_succ]
    refine takeS 17 40 rfl rfl (by kernel_rfl) (by kernel_rfl) (by kernel_rfl) (fun _ _ _ h => h) (by kernel_rfl) (by assumption) ?_
    simp only [List.set_cons_zero, List.set_cons_succ]
    refine takeS 18 41 rfl rfl (by kernel_rfl) (by kernel_rfl) (by kernel_rfl) (fun _ _ _ h => h) (by kernel_rfl) (by assumption) ?_
    simp only [List.set_cons_zero, List.set_cons_succ]
    refine takeS 19 42 rfl rfl (by kernel_rfl) (by kernel_rfl) (by kernel_rfl) (fun _ _ _ h => h) (by kernel_rfl) (by assumption) ?_
    simp only [List.set_cons_zero, List.set_cons_succ]
    refine takeS 20 43 rfl rfl (by kernel_rfl) (by kernel_rfl) (by kernel_rfl) (fun _ _ _ h => h) (by kernel_rfl) (by assumption) ?_
    simp only [List.set_cons_zero, List.set_cons_succ]
    refine takeS 21 44 rfl rfl (by kernel_rfl) (by kernel_rfl) (by kernel_rfl) (fun _ _ _ h => h) (by kernel_rfl) (by assumption) ?_
    simp only [List.set_cons_zero, List.set_cons_succ]
    refine takeS 22 45 rfl rfl (by kernel_rfl) (by kernel_rfl) (by kernel_rfl) (fun _ _ _ h => h) (by kernel_rfl) (by assumption) ?_
    simp only [List.set_cons_zero, List.set_cons_succ]
    refine takeS 23 46 rfl rfl (by kernel_rfl) (by kernel_rfl) (by kernel_rfl) (fun _ _ _ h => h) (by kernel_rfl) (by assumption) ?_
    simp only [List.set_cons_zero, List.set_cons_succ]
    refine takeS 24 47 rfl rfl (by kernel_rfl) (by kernel_rfl) (by kernel_rfl) (fun _ _ _ h => h) (by kernel_rfl) (by assumption) ?_
    simp only [List.set_cons_zero, List.set_cons_succ]
    refine takeW 25 48 (.bool false) rfl rfl (by kernel_rfl) (by kernel_rfl) (by kernel_rfl) (fun _ _ _ h => h) (by kernel_rfl) (by (intro w hSw; go_simp)) (by assumption) ?_
    simp only [List.set_cons_zero, List.set_cons_succ]
    refine takeW 26 4 (.bool false) rfl rfl (by kernel_rfl) (by kernel_rfl) (by kernel_rfl) (fun _ _ _ h => h) (by kernel_rfl) (by (intro w hSw; go_simp)) (by assumption) ?_
    simp only [List.set_cons_zero, List.set_cons_succ]
    refine wpAnyH_done (by kernel_rfl) ?_ _
    go_wp2
    go_ret
    exact ⟨YN.is hR.out, bu.trans (hb0.mono bu.size)⟩
  cases o2
  · have hR : Hid (false = true ↔ PassP (dB Bs) K (i0 : Int)) := by have := hR.out; unfold Hid; simpa using this
    go_upto_region 4 with fail
    rw [← hu]
    clear hu x0 x1 x2 x3 a0 a1
    refine wp_region_held (S := fun Y => Below u.heap.size u Y) (by kernel_rfl) ?_
    change wpAnyH _ _ _ _ _ _ _ _ (World.drew _)
    have hb0 : Below u.heap.size u u.drew := (Below.refl _ _).drew
    obtain ⟨u0, hy0⟩ : ∃ y_, y_ = u.drew := ⟨_, rfl⟩
    rw [← hy0] at hb0 ⊢
    clear hy0
    refine takeW 0 23 (.pointer (some ⟨w.heap.size, 0, none⟩)) rfl rfl (by kernel_rfl) (by kernel_rfl) (by kernel_rfl) (fun _ _ _ h => h) (by kernel_rfl) (by (intro w hSw; go_simp)) (by assumption) ?_
    simp only [List.set_cons_zero, List.set_cons_succ]
    refine takeW 1 24 (.slice (some ⟨b, off, none⟩) Bs.length capB) rfl rfl (by kernel_rfl) (by kernel_rfl) (by kernel_rfl) (fun _ _ _ h => h) (by kernel_rfl) (by (intro Y hSw; obtain ⟨X0, X1⟩ := Au.below hSw Au.lt; go_simp)) (by assumption) ?_
    simp only [List.set_cons_zero, List.set_cons_succ]
    refine takeW 2 25 (.pointer (some ⟨y1.heap.size, 0, none⟩)) rfl rfl (by kernel_rfl) (by kernel_rfl) (by kernel_rfl) (fun _ _ _ h => h) (by kernel_rfl) (by (intro w hSw; go_simp)) (by assumption) ?_
    simp only [List.set_cons_zero, List.set_cons_succ]
    refine takeW 3 26 (.int .i64 (i : Int)) rfl rfl (by kernel_rfl) (by kernel_rfl) (by kernel_rfl) (fun _ _ _ h => h) (by kernel_rfl) (by (intro Y hSw; obtain ⟨X0, X1, X2, X3⟩ := X.below hSw xl; go_simp)) (by assumption) ?_
    simp only [List.set_cons_zero, List.set_cons_succ]
    refine takeW 4 27 (.pointer (some ⟨b, off + i * 2, none⟩)) rfl rfl (by kernel_rfl) (by kernel_rfl) (by kernel_rfl) (fun _ _ _ h => h) (by kernel_rfl) (by (intro Y hSw; go_simp; try omega)) (by assumption) ?_
    simp only [List.set_cons_zero, List.set_cons_succ]
    refine takeW 5 28 (.pointer (some ⟨b, off + i * 2 + 1, none⟩)) rfl rfl (by kernel_rfl) (by kernel_rfl) (by kernel_rfl) (fun _ _ _ h => h) (by kernel_rfl) (by (intro w hSw; go_simp)) (by assumption) ?_
    simp only [List.set_cons_zero, List.set_cons_succ]
    refine takeW 6 29 (.slice (some ⟨b2, off2, none⟩) n cp) rfl rfl (by kernel_rfl) (by kernel_rfl) (by kernel_rfl) (fun _ _ _ h => h) (by kernel_rfl) (by (intro Y hSw; obtain ⟨X0, X1, X2⟩ := g Y hSw; go_simp)) (by assumption) ?_
    simp only [List.set_cons_zero, List.set_cons_succ]
    refine takeW 7 30 (.pointer (some ⟨y1.heap.size, 1, none⟩)) rfl rfl (by kernel_rfl) (by kernel_rfl) (by kernel_rfl) (fun _ _ _ h => h) (by kernel_rfl) (by (intro w hSw; go_simp)) (by assumption) ?_
    simp only [List.set_cons_zero, List.set_cons_succ]
    refine takeW 8 31 (.int .i64 (j : Int)) rfl rfl (by kernel_rfl) (by kernel_rfl) (by kernel_rfl) (fun _ _ _ h => h) (by kernel_rfl) (by (intro Y hSw; obtain ⟨X0, X1, X2, X3⟩ := X.below hSw xl; go_simp)) (by assumption) ?_
    simp only [List.set_cons_zero, List.set_cons_succ]
    refine takeW 9 32 (.pointer (some ⟨b2, off2 + j * 11, none⟩)) rfl rfl (by kernel_rfl) (by kernel_rfl) (by kernel_rfl) (fun _ _ _ h => h) (by kernel_rfl) (by (intro Y hSw; go_simp; try omega)) (by assumption) ?_
    simp only [List.set_cons_zero, List.set_cons_succ]
    refine takeW 10 33 (.pointer (some ⟨b2, off2 + j * 11 + 10, none⟩)) rfl rfl (by kernel_rfl) (by kernel_rfl) (by kernel_rfl) (fun _ _ _ h => h) (by kernel_rfl) (by (intro w hSw; go_simp)) (by assumption) ?_
    simp only [List.set_cons_zero, List.set_cons_succ]
    refine takeW 11 34 (.bool true) rfl rfl (by kernel_rfl) (by kernel_rfl) (by kernel_rfl) (fun _ _ _ h => h) (by kernel_rfl) (by (intro Y hSw; obtain ⟨X0, X1, X2⟩ := g Y hSw; go_simp)) (by assumption) ?_
    simp only [List.set_cons_zero, List.set_cons_succ]
    refine takeW 12 35 (.bool true) rfl rfl (by kernel_rfl) (by kernel_rfl) (by kernel_rfl) (fun _ _ _ h => h) (by kernel_rfl) (by (intro w hSw; go_simp)) (by assumption) ?_
    simp only [List.set_cons_zero, List.set_cons_succ]
    refine takeW 13 36 (.pointer (some ⟨w.heap.size, 0, none⟩)) rfl rfl (by kernel_rfl) (by kernel_rfl) (by kernel_rfl) (fun _ _ _ h => h) (by kernel_rfl) (by (intro w hSw; go_simp)) (by assumption) ?_
    simp only [List.set_cons_zero, List.set_cons_succ]
    refine takeW 14 37 (.slice (some ⟨b, off, none⟩) Bs.length capB) rfl rfl (by kernel_rfl) (by kernel_rfl) (by kernel_rfl) (fun _ _ _ h => h) (by kernel_rfl) (by (intro Y hSw; obtain ⟨X0, X1⟩ := Au.below hSw Au.lt; go_simp)) (by assumption) ?_
    simp only [List.set_cons_zero, List.set_cons_succ]
    refine takeW 15 38 (.pointer (some ⟨y1.heap.size, 2, none⟩)) rfl rfl (by kernel_rfl) (by kernel_rfl) (by kernel_rfl) (fun _ _ _ h => h) (by kernel_rfl) (by (intro w hSw; go_simp)) (by assumption) ?_
    simp only [List.set_cons_zero, List.set_cons_succ]
    refine takeW 16 39 (.int .i64 (i2 : Int)) rfl rfl (by kernel_rfl) (by kernel_rfl) (by kernel_rfl) (fun _ _ _ h => h) (by kernel_rfl) (by (intro Y hSw; obtain ⟨X0, X1, X2, X3⟩ := X.below hSw xl; go_simp)) (by assumption) ?_
    simp only [List.set_cons_zero, List.set_cons_succ]
    refine takeW 17 40 (.pointer (some ⟨b, off + i2 * 2, none⟩)) rfl rfl (by kernel_rfl) (by kernel_rfl) (by kernel_rfl) (fun _ _ _ h => h) (by kernel_rfl) (by (intro Y hSw; go_simp; try omega)) (by assumption) ?_
    simp only [List.set_cons_zero, List.set_cons_succ]
    refine takeW 18 41 (.pointer (some ⟨b, off + i2 * 2 + 1, none⟩)) rfl rfl (by kernel_rfl) (by kernel_rfl) (by kernel_rfl) (fun _ _ _ h => h) (by kernel_rfl) (by (intro w hSw; go_simp)) (by assumption) ?_
    simp only [List.set_cons_zero, List.set_cons_succ]
    refine takeW 19 42 (.slice (some ⟨b22, off22, none⟩) n2 cp2) rfl rfl (by kernel_rfl) (by kernel_rfl) (by kernel_rfl) (fun _ _ _ h => h) (by kernel_rfl) (by (intro Y hSw; obtain ⟨X0, X1, X2⟩ := g2 Y hSw; go_simp)) (by assumption) ?_
    simp only [List.set_cons_zero, List.set_cons_succ]
    refine takeW 20 43 (.pointer (some ⟨y1.heap.size, 3, none⟩)) rfl rfl (by kernel_rfl) (by kernel_rfl) (by kernel_rfl) (fun _ _ _ h => h) (by kernel_rfl) (by (intro w hSw; go_simp)) (by assumption) ?_
    simp only [List.set_cons_zero, List.set_cons_succ]
    refine takeW 21 44 (.int .i64 (j2 : Int)) rfl rfl (by kernel_rfl) (by kernel_rfl) (by kernel_rfl) (fun _ _ _ h => h) (by kernel_rfl) (by (intro Y hSw; obtain ⟨X0, X1, X2, X3⟩ := X.below hSw xl; go_simp)) (by assumption) ?_
    simp only [List.set_cons_zero, List.set_cons_succ]
    refine takeW 22 45 (.pointer (some ⟨b22, off22 + j2 * 11, none⟩)) rfl rfl (by kernel_rfl) (by kernel_rfl) (by kernel_rfl) (fun _ _ _ h => h) (by kernel_rfl) (by (intro Y hSw; go_simp; try omega)) (by assumption) ?_
    simp only [List.set_cons_zero, List.set_cons_succ]
    refine takeW 23 46 (.pointer (some ⟨b22, off22 + j2 * 11 + 10, none⟩)) rfl rfl (by kernel_rfl) (by kernel_rfl) (by kernel_rfl) (fun _ _ _ h => h) (by kernel_rfl) (by (intro w hSw; go_simp)) (by assumption) ?_
    simp only [List.set_cons_zero, List.set_cons_succ]
    refine takeW 24 47 (.bool false) rfl rfl (by kernel_rfl) (by kernel_rfl) (by kernel_rfl) (fun _ _ _ h => h) (by kernel_rfl) (by (intro Y hSw; obtain ⟨X0, X1, X2⟩ := g2 Y hSw; go_simp)) (by assumption) ?_
    simp only [List.set_cons_zero, List.set_cons_succ]
    refine takeW 25 48 (.bool false) rfl rfl (by kernel_rfl) (by kernel_rfl) (by kernel_rfl) (fun _ _ _ h => h) (by kernel_rfl) (by (intro w hSw; go_simp)) (by assumption) ?_
    simp only [List.set_cons_zero, List.set_cons_succ]
    refine takeW 26 4 (.bool false) rfl rfl (by kernel_rfl) (by kernel_rfl) (by kernel_rfl) (fun _ _ _ h => h) (by kernel_rfl) (by (intro w hSw; go_simp)) (by assumption) ?_
    simp only [List.set_cons_zero, List.set_cons_succ]
    refine wpAnyH_done (by kernel_rfl) ?_ _
    go_wp2
    go_ret
    exact ⟨YN.is hR.out, bu.trans (hb0.mono bu.size)⟩
  have hR : Hid (PassP (dB Bs) K (i0 : Int)) := by have := hR.out; unfold Hid; simpa using this
  go_upto_region 4 with fail
  rw [← hu]
  clear hu x0 x1 x2 x3 a0 a1
  refine wp_region_held (S := fun Y => Below u.heap.size u Y) (by kernel_rfl) ?_
  change wpAnyH _ _ _ _ _ _ _ _ (World.drew _)
  have hb0 : Below u.heap.size u u.drew := (Below.refl _ _).drew
  obtain ⟨u0, hy0⟩ : ∃ y_, y_ = u.drew := ⟨_, rfl⟩
  rw [← hy0] at hb0 ⊢
  clear hy0
  refine takeW 0 23 (.pointer (some ⟨w.heap.size, 0, none⟩)) rfl rfl (by kernel_rfl) (by kernel_rfl) (by kernel_rfl) (fun _ _ _ h => h) (by kernel_rfl) (by (intro w hSw; go_simp)) (by assumption) ?_
  simp only [List.set_cons_zero, List.set_cons_succ]
  refine takeW 1 24 (.slice (some ⟨b, off, none⟩) Bs.length capB) rfl rfl (by kernel_rfl) (by kernel_rfl) (by kernel_rfl) (fun _ _ _ h => h) (by kernel_rfl) (by (intro Y hSw; obtain ⟨X0, X1⟩ := Au.below hSw Au.lt; go_simp)) (by assumption) ?_
  simp only [List.set_cons_zero, List.set_cons_succ]
  refine takeW 2 25 (.pointer (some ⟨y1.heap.size, 0, none⟩)) rfl rfl (by kernel_rfl) (by kernel_rfl) (by kernel_rfl) (fun _ _ _ h => h) (by kernel_rfl) (by (intro w hSw; go_simp)) (by assumption) ?_
  simp only [List.set_cons_zero, List.set_cons_succ]
  refine takeW 3 26 (.int .i64 (i : Int)) rfl rfl (by kernel_rfl) (by kernel_rfl) (by kernel_rfl) (fun _ _ _ h => h) (by kernel_rfl) (by (intro Y hSw; obtain ⟨X0, X1, X2, X3⟩ := X.below hSw xl; go_simp)) (by assumption) ?_
  simp only [List.set_cons_zero, List.set_cons_succ]
  refine takeW 4 27 (.pointer (some ⟨b, off + i * 2, none⟩)) rfl rfl (by kernel_rfl) (by kernel_rfl) (by kernel_rfl) (fun _ _ _ h => h) (by kernel_rfl) (by (intro Y hSw; go_simp; try omega)) (by assumption) ?_
  simp only [List.set_cons_zero, List.set_cons_succ]
  refine takeW 5 28 (.pointer (some ⟨b, off + i * 2 + 1, none⟩)) rfl rfl (by kernel_rfl) (by kernel_rfl) (by kernel_rfl) (fun _ _ _ h => h) (by kernel_rfl) (by (intro w hSw; go_simp)) (by assumption) ?_
  simp only [List.set_cons_zero, List.set_cons_succ]
  refine takeW 6 29 (.slice (some ⟨b2, off2, none⟩) n cp) rfl rfl (by kernel_rfl) (by kernel_rfl) (by kernel_rfl) (fun _ _ _ h => h) (by kernel_rfl) (by (intro Y hSw; obtain ⟨X0, X1, X2⟩ := g Y hSw; go_simp)) (by assumption) ?_
  simp only [List.set_cons_zero, List.set_cons_succ]
  refine takeW 7 30 (.pointer (some ⟨y1.heap.size, 1, none⟩)) rfl rfl (by kernel_rfl) (by kernel_rfl) (by kernel_rfl) (fun _ _ _ h => h) (by kernel_rfl) (by (intro w hSw; go_simp)) (by assumption) ?_
  simp only [List.set_cons_zero, List.set_cons_succ]
  refine takeW 8 31 (.int .i64 (j : Int)) rfl rfl (by kernel_rfl) (by kernel_rfl) (by kernel_rfl) (fun _ _ _ h => h) (by kernel_rfl) (by (intro Y hSw; obtain ⟨X0, X1, X2, X3⟩ := X.below hSw xl; go_simp)) (by assumption) ?_
  simp only [List.set_cons_zero, List.set_cons_succ]
  refine takeW 9 32 (.pointer (some ⟨b2, off2 + j * 11, none⟩)) rfl rfl (by kernel_rfl) (by kernel_rfl) (by kernel_rfl) (fun _ _ _ h => h) (by kernel_rfl) (by (intro Y hSw; go_simp; try omega)) (by assumption) ?_
  simp only [List.set_cons_zero, List.set_cons_succ]
  refine takeW 10 33 (.pointer (some ⟨b2, off2 + j * 11 + 10, none⟩)) rfl rfl (by kernel_rfl) (by kernel_rfl) (by kernel_rfl) (fun _ _ _ h => h) (by kernel_rfl) (by (intro w hSw; go_simp)) (by assumption) ?_
  simp only [List.set_cons_zero, List.set_cons_succ]
  refine takeW 11 34 (.bool true) rfl rfl (by kernel_rfl) (by kernel_rfl) (by kernel_rfl) (fun _ _ _ h => h) (by kernel_rfl) (by (intro Y hSw; obtain ⟨X0, X1, X2⟩ := g Y hSw; go_simp)) (by assumption) ?_
  simp only [List.set_cons_zero, List.set_cons_succ]
  refine takeW 12 35 (.bool true) rfl rfl (by kernel_rfl) (by kernel_rfl) (by kernel_rfl) (fun _ _ _ h => h) (by kernel_rfl) (by (intro w hSw; go_simp)) (by assumption) ?_
  simp only [List.set_cons_zero, List.set_cons_succ]
  refine takeW 13 36 (.pointer (some ⟨w.heap.size, 0, none⟩)) rfl rfl (by kernel_rfl) (by kernel_rfl) (by kernel_rfl) (fun _ _ _ h => h) (by kernel_rfl) (by (intro w hSw; go_simp)) (by assumption) ?_
  simp only [List.set_cons_zero, List.set_cons_succ]
  refine takeW 14 37 (.slice (some ⟨b, off, none⟩) Bs.length capB) rfl rfl (by kernel_rfl) (by kernel_rfl) (by kernel_rfl) (fun _ _ _ h => h) (by kernel_rfl) (by (intro Y hSw; obtain ⟨X0, X1⟩ := Au.below hSw Au.lt; go_simp)) (by assumption) ?_
  simp only [List.set_cons_zero, List.set_cons_succ]
  refine takeW 15 38 (.pointer (some ⟨y1.heap.size, 2, none⟩)) rfl rfl (by kernel_rfl) (by kernel_rfl) (by kernel_rfl) (fun _ _ _ h => h) (by kernel_rfl) (by (intro w hSw; go_simp)) (by assumption) ?_
  simp only [List.set_cons_zero, List.set_cons_succ]
  refine takeW 16 39 (.int .i64 (i2 : Int)) rfl rfl (by kernel_rfl) (by kernel_rfl) (by kernel_rfl) (fun _ _ _ h => h) (by kernel_rfl) (by (intro Y hSw; obtain ⟨X0, X1, X2, X3⟩ := X.below hSw xl; go_simp)) (by assumption) ?_
  simp only [List.set_cons_zero, List.set_cons_succ]
  refine takeW 17 40 (.pointer (some ⟨b, off + i2 * 2, none⟩)) rfl rfl (by kernel_rfl) (by kernel_rfl) (by kernel_rfl) (fun _ _ _ h => h) (by kernel_rfl) (by (intro Y hSw; go_simp; try omega)) (by assumption) ?_
  simp only [List.set_cons_zero, List.set_cons_succ]
  refine takeW 18 41 (.pointer (some ⟨b, off + i2 * 2 + 1, none⟩)) rfl rfl (by kernel_rfl) (by kernel_rfl) (by kernel_rfl) (fun _ _ _ h => h) (by kernel_rfl) (by (intro w hSw; go_simp)) (by assumption) ?_
  simp only [List.set_cons_zero, List.set_cons_succ]
  refine takeW 19 42 (.slice (some ⟨b22, off22, none⟩) n2 cp2) rfl rfl (by kernel_rfl) (by kernel_rfl) (by kernel_rfl) (fun _ _ _ h => h) (by kernel_rfl) (by (intro Y hSw; obtain ⟨X0, X1, X2⟩ := g2 Y hSw; go_simp)) (by assumption) ?_
  simp only [List.set_cons_zero, List.set_cons_succ]
  refine takeW 20 43 (.pointer (some ⟨y1.heap.size, 3, none⟩)) rfl rfl (by kernel_rfl) (by kernel_rfl) (by kernel_rfl) (fun _ _ _ h => h) (by kernel_rfl) (by (intro w hSw; go_simp)) (by assumption) ?_
  simp only [List.set_cons_zero, List.set_cons_succ]
  refine takeW 21 44 (.int .i64 (j2 : Int)) rfl rfl (by kernel_rfl) (by kernel_rfl) (by kernel_rfl) (fun _ _ _ h => h) (by kernel_rfl) (by (intro Y hSw; obtain ⟨X0, X1, X2, X3⟩ := X.below hSw xl; go_simp)) (by assumption) ?_
  simp only [List.set_cons_zero, List.set_cons_succ]
  refine takeW 22 45 (.pointer (some ⟨b22, off22 + j2 * 11, none⟩)) rfl rfl (by kernel_rfl) (by kernel_rfl) (by kernel_rfl) (fun _ _ _ h => h) (by kernel_rfl) (by (intro Y hSw; go_simp; try omega)) (by assumption) ?_
  simp only [List.set_cons_zero, List.set_cons_succ]
  refine takeW 23 46 (.pointer (some ⟨b22, off22 + j2 * 11 + 10, none⟩)) rfl rfl (by kernel_rfl) (by kernel_rfl) (by kernel_rfl) (fun _ _ _ h => h) (by kernel_rfl) (by (intro w hSw; go_simp)) (by assumption) ?_
  simp only [List.set_cons_zero, List.set_cons_succ]
  refine takeW 24 47 (.bool true) rfl rfl (by kernel_rfl) (by kernel_rfl) (by kernel_rfl) (fun _ _ _ h => h) (by kernel_rfl) (by (intro Y hSw; obtain ⟨X0, X1, X2⟩ := g2 Y hSw; go_simp)) (by assumption) ?_
  simp only [List.set_cons_zero, List.set_cons_succ]
  refine takeW 25 48 (.bool true) rfl rfl (by kernel_rfl) (by kernel_rfl) (by kernel_rfl) (fun _ _ _ h => h) (by kernel_rfl) (by (intro w hSw; go_simp)) (by assumption) ?_
  simp only [List.set_cons_zero, List.set_cons_succ]
  refine takeW 26 4 (.bool true) rfl rfl (by kernel_rfl) (by kernel_rfl) (by kernel_rfl) (fun _ _ _ h => h) (by kernel_rfl) (by (intro w hSw; go_simp)) (by assumption) ?_
  simp only [List.set_cons_zero, List.set_cons_succ]
  refine wpAnyH_done (by kernel_rfl) ?_ _
  go_wp2
  go_ret
  exact ⟨YN.yes hR.out, bu.trans (hb0.mono bu.size)⟩

end Go.Proofs.Ytdfjfodfnildiab
namespace Go.Proofs.Ytdfjfodfnildiab
open Go.ChangeShapes Go.WideShapes Go.ChangeAt Go.RowKit
open Go.ChangeMaps (open_string shut_string)
set_option linter.unusedVariables false
set_option maxRecDepth 100000

/-- A row of marks in memory. -/
structure SeenAt (w : World) (g : Nat) (S : List Bool) : Prop where
  at_ : ∀ i, i < S.length → w.cell? ⟨g, i, none⟩ = some (.bool (S.getD i false))
  fr : ∀ i, w.frozen? ⟨g, i, none⟩ = false
theorem SeenAt.keep {w w' : World} {g : Nat} {M : List Bool} (h : SeenAt w g M) (k : w'.heap[g]? = w.heap[g]?) : SeenAt w' g M := ⟨fun i hi => (World.cell?_of_block (a := ⟨g, i, none⟩) k).trans (h.at_ i hi), fun i => (World.frozen?_of_block (a := ⟨g, i, none⟩) k).trans (h.fr i)⟩
theorem SeenAt.below {w w' : World} {g n : Nat} {M : List Bool} (h : SeenAt w g M) (k : Below n w w') (hq : g < n) : SeenAt w' g M := h.keep (k.block g hq)
theorem SeenAt.set {w : World} {g x : Nat} {M : List Bool} (h : SeenAt w g M) (hx : x < M.length) : SeenAt (w.setCell ⟨g, x, none⟩ (.bool true)) g (M.set x true) := by
  refine ⟨fun i hi => ?_, fun i => by rw [World.frozen?_setCell]; exact h.fr i⟩
  rw [List.length_set] at hi
  rw [getD_set hx]
  by_cases e : x = i
  · subst e
    rw [World.cell?_setCell_same _ _ _ (h.at_ x hx), if_pos rfl]
  · rw [World.cell?_setCell_other _ _ _ _ (by intro q; simp only [Addr.mk.injEq] at q; omega), h.at_ i hi, if_neg e]
theorem boolInfo : (Try.prog.info? 4).map (fun i => (i.zero, i.size, i.bytes)) = some (some (.bool false), 1, 1) := by kernel_rfl
theorem NeAt.set {w : World} {q g x : Nat} {v0 v1 v : Value} (h : NeAt w q v0 v1) (hn : g ≠ q) : NeAt (w.setCell ⟨g, x, none⟩ v) q v0 v1 := h.keep (Below.heap_setCell _ _ _ _ (fun e => hn e.symm))
/-- Which links are gone over. -/
def pickF (B : List Bg) (al : Bool) (x : Int) (k : Nat) (l : Lk) : Bool := decide ((k : Int) ≠ x) && (al || openB B l)
theorem mk_no {S : List Bool} {i j : Nat} {xp xq : Int} (h1 : S.getD i false = false) (h2 : S.getD j false = false) : markL S ⟨i, xp, j, xq⟩ = S := by
  unfold markL
  simp only [Int.toNat_natCast]
  rw [if_neg (by rw [h1, h2]; simp)]
theorem mk_yes {S : List Bool} {i j : Nat} {xp xq : Int} (h : S.getD i false = true ∨ S.getD j false = true) : markL S ⟨i, xp, j, xq⟩ = (S.set i true).set j true := by
  unfold markL
  simp only [Int.toNat_natCast]
  rw [if_pos h]
set_option maxHeartbeats 16000000 in
theorem reachL (adB : Option Addr) (capB : Nat) (Bs : List Bd) (adK : Option Addr) (capK : Nat) (K : List Lk) (f : Nat) (al : Bool) (x : Int) (w : World) (h : NN w adB Bs adK K) (hok : Hid (NetP (dB Bs) K)) (hf : f < Bs.length) :
    Calls Try.prog 22 #[.agg #[.slice adB Bs.length capB, .slice adK K.length capK], .int .i64 (f : Int), .bool al, .int .i64 x] w fun e w' => ∃ M a c, Marks (selL (pickF (dB Bs) al x) 0 K) Bs.length (f : Int) M ∧ e = .returned (.slice a (idx 0 M).length c) ∧ FOwn ivEnc 1 3 w.heap.size w' (.slice a (idx 0 M).length c) (idx 0 M) ∧ Below w.heap.size w w' := by
  obtain ⟨i0, hi, hz0, hz1, hz2⟩ := info_parts boolInfo
  obtain ⟨j0, hj, hj0, hj1, hj2⟩ := info_parts ivInfo
  obtain ⟨F, hF⟩ : ∃ F, Hid (F = pickF (dB Bs) al x) := ⟨_, rfl⟩
  rw [← hF.out]
  have hNs : Hid (InN (selL F 0 K) Bs.length) := by
    have := hok.out.inN
    rw [dB_len] at this
    exact this.sub (fun l hl => selL_mem F K 0 l hl)
  obtain ⟨y, hy⟩ : ∃ y, y = w.alloc (Obj.cells #[.slice adB Bs.length capB, .slice adK K.length capK] 31) := ⟨_, rfl⟩
  have B0 : Below w.heap.size w y := by rw [hy]; exact below_new _
  have A : NeAt y w.heap.size (.slice adB Bs.length capB) (.slice adK K.length capK) := by rw [hy]; exact NeAt.new w _
  have hN := h.later B0
  have hk := h.hk
  have hlB := h.hl
  have h5 : Bs.length ≤ 5 := by have := hok.out.many.2; rwa [dB_len] at this
  have hvk := h.vk
  have hvB := hvk.lt lkEnc_len (by omega)
  clear hN
  have hN := h
  clear h
  go_enter Try.func22, Try.ntmps22
  go_upto_region 1 with fail
  rw [← hy]
  clear hy
  have S0 := A.lt
  have cc := A
  obtain ⟨a0, a1⟩ := cc
  go_wp2_with (first | (refine wpList_make_full _ rfl _ _ 72 rfl y.heap.size 4 i0 (.bool false) 1 Try.underlying72 hi hz0 hz1 .i64 .i64 _ _ Bs.length rfl rfl rfl rfl ?c1 ?c2 ?c3 ?_))
  case c1 => rw [hz2]; omega
  case c2 => unfold maxLen; omega
  case c3 => exact Nat.le_refl _
  intro w1 hown hgrow
  have k1 : Below y.heap.size y w1 := (Below.refl _ _).grown hgrow (Nat.le_refl _) (by simp)
  have B1 := B0.trans (k1.mono B0.size)
  have A1 := A.below k1 A.lt
  have Sn : SeenAt w1 y.heap.size (List.replicate Bs.length false) := by
    refine ⟨fun i hi => ?_, fun i => hown.frozenAt i⟩
    rw [List.length_replicate] at hi
    rw [hown.cellAt i (by omega), toList_madeCells_one]
    simp [hi, List.getD]
  clear hown hgrow k1 a0 a1 A
  obtain ⟨G, hG⟩ : ∃ G, y.heap.size = G := ⟨_, rfl⟩
  rw [hG] at Sn S0 ⊢
  have hwG : w.heap.size ≤ G := by rw [← hG]; exact B0.size
  clear hG B0 y
  have cf := Sn.at_ f (by simpa using hf)
  have ff := Sn.fr
  obtain ⟨w2, hw2⟩ : ∃ v, v = w1.setCell ⟨G, f, none⟩ (.bool true) := ⟨_, rfl⟩
  have Sn2 : SeenAt w2 G ((List.replicate Bs.length false).set f true) := by rw [hw2]; exact Sn.set (by simpa using hf)
  have A2 : NeAt w2 w.heap.size (.slice adB Bs.length capB) (.slice adK K.length capK) := by rw [hw2]; exact A1.set (by omega)
  have B2 : Below w.heap.size w w2 := by rw [hw2]; exact B1.setCell (by simp; omega) _
  go_upto_region 3 with fail
  rw [← hw2]
  clear hw2 cf ff Sn A1 B1 w1
  go_wp2
  go_loopw [10] (fun q wr => ∃ (m : Nat) (S : List Bool), m ≤ Bs.length ∧ q = .int .i64 m ∧ Hid (S.length = Bs.length) ∧ Hid (Sound (selL F 0 K) f S) ∧ Hid (Far (selL F 0 K) m S) ∧ Below w.heap.size w wr ∧ NeAt wr w.heap.size (.slice adB Bs.length capB) (.slice adK K.length capK) ∧ SeenAt wr G S) (fun q _ => Bs.length - (intOf q).toNat)
  case atStart => exact ⟨0, _, Nat.zero_le _, rfl, by unfold Hid; simp, Sound.start hf, Far.start hf, B2, A2, Sn2⟩
  case round =>
    clear B2 A2 Sn2
    obtain ⟨m, S, hm, rfl, hlS, hS, hFa, hb, A, Sn⟩ := hrel
    have cc := A
    obtain ⟨a0, a1⟩ := cc
    by_cases hlt : m < Bs.length
    · have hltm := hlt
      go_wp2
      clear a0 a1
      go_loopw [11] (fun q wr => ∃ k : Nat, k ≤ K.length ∧ q = .int .i64 k ∧ Below w.heap.size w wr ∧ NeAt wr w.heap.size (.slice adB Bs.length capB) (.slice adK K.length capK) ∧ SeenAt wr G ((selL F 0 (K.take k)).foldl markL S)) (fun q _ => K.length - (intOf q).toNat)
      case atStart => exact ⟨0, Nat.zero_le _, rfl, hb, A, Sn⟩
      case round =>
        clear hb A Sn hlt
        obtain ⟨k, hkk, rfl, hb, A, Sn⟩ := hrel
        by_cases hlt : k < K.length
        · obtain ⟨b, off, rfl, _⟩ := hvk (by omega)
          obtain ⟨x', hh⟩ : ∃ h, K.getD k Lk.nil = h := ⟨_, rfl⟩
          have hck : LkAtO wr b (off + k * 4) x' := by
            rw [← hh]
            exact lkAtO_of ((hvk.below hb hvB).at_ lkEnc_len Lk.nil hlt)
          have hm := getD_mem hlt
          have hst0 : Hid ((selL F 0 (K.take (k + 1))).foldl markL S = if F k x' = true then markL ((selL F 0 (K.take k)).foldl markL S) x' else (selL F 0 (K.take k)).foldl markL S) := by
            unfold Hid
            rw [fold_take F K S hlt, hh]
          have hpp : Hid (openB (dB Bs) x' = true ↔ PassP (dB Bs) K (k : Int)) := by
            unfold Hid PassP
            simp only [Int.toNat_natCast]
            rw [hh]
            exact ⟨fun h => ⟨hok.out, by omega, by omega, h⟩, fun h => h.2.2.2⟩
          rw [hh] at hm
          clear hh
          obtain ⟨⟨xa0, xa1⟩, xb0, xb1⟩ := hok.out.inN x' hm
          rw [dB_len] at xa1 xb1
          clear hm
          obtain ⟨xa, xp, xb, xq⟩ := x'
          dsimp only at xa0 xa1 xb0 xb1
          obtain ⟨i, rfl⟩ := Int.eq_ofNat_of_zero_le xa0
          obtain ⟨j, rfl⟩ := Int.eq_ofNat_of_zero_le xb0
          obtain ⟨S1, hS1⟩ : ∃ S1, (selL F 0 (K.take k)).foldl markL S = S1 := ⟨_, rfl⟩
          have hl1 : S1.length = Bs.length := by rw [← hS1, foldM_len]; exact hlS.out
          rw [hS1] at hst0 Sn
          clear hS1
          have hli : i < S1.length := by omega
          have hlj : j < S1.length := by omega
          replace hl1 : Hid _ := hl1
          obtain ⟨c0, c1, c2, c3⟩ := hck
          dsimp only at c0 c1 c2 c3
          obtain ⟨z, hz⟩ : ∃ z, z = wr.alloc (Obj.cells #[.int .i64 (i : Int), .int .i64 xp, .int .i64 (j : Int), .int .i64 xq] 70) := ⟨_, rfl⟩
          have kz : Below wr.heap.size wr z := by rw [hz]; exact below_new _
          have bz := hb.trans (kz.mono hb.size)
          have hGw : G < wr.heap.size := World.block_lt_of_cell? wr _ (Sn.at_ i hli)
          have Sn := Sn.below kz hGw
          have a0 := A.c0
          have a1 := A.c1
          have A := A.below kz A.lt
          obtain ⟨Q, hQ⟩ : ∃ Q, wr.heap.size = Q := ⟨_, rfl⟩
          have X : LkAtO z Q 0 ⟨i, xp, j, xq⟩ := by rw [hz, ← hQ]; constructor <;> simp [go_sem]
          have xl : Q < z.heap.size := World.block_lt_of_cell? z _ X.c0
          have hGQ : G < Q := by omega
          have hwQ : w.heap.size < Q := by omega
          clear hGw
          go_upto_region 10 with fail
          rw [← hz]
          try rw [hQ]
          clear hz kz a0 a1 c0 c1 c2 c3 hQ
          by_cases hx : (k : Int) = x
          · have z1 : ((k : Int) != x) = false := by simp [hx]
            have z2 : decide ((k : Int) = x) = true := decide_eq_true hx
            have hF1 : Hid (F k ⟨i, xp, j, xq⟩ = false) := by unfold Hid; rw [hF.out]; simp [pickF, hx]
            replace hx : Hid _ := hx
            go_wp2
            go_roundw
            case rel => exact ⟨k + 1, by omega, by go_num, bz, A, by rw [hst0.out, if_neg (by rw [hF1.out]; decide)]; exact Sn⟩
            case measure => simp [intOf]; omega
          have z1 : ((k : Int) != x) = true := by simp [hx]
          have z2 : decide ((k : Int) = x) = false := decide_eq_false hx
          have hF0 : Hid (F k ⟨i, xp, j, xq⟩ = (al || openB (dB Bs) ⟨i, xp, j, xq⟩)) := by unfold Hid; rw [hF.out]; simp [pickF, hx]
          replace hx : Hid _ := hx
          cases al
          rotate_left
          · have hF1 : Hid (F k ⟨i, xp, j, xq⟩ = true) := by unfold Hid; rw [hF0.out]; rfl
            have ci := Sn.at_ i hli
            have cj := Sn.at_ j hlj
            obtain ⟨o1, h1⟩ : ∃ o, S1.getD i false = o := ⟨_, rfl⟩
            obtain ⟨o2, h2⟩ : ∃ o, S1.getD j false = o := ⟨_, rfl⟩
            rw [h1] at ci
            rw [h2] at cj
            replace h1 : Hid _ := h1
            replace h2 : Hid _ := h2
            have dd := X
            obtain ⟨x0, x1, x2, x3⟩ := dd
            simp only [Nat.zero_add] at x0 x1 x2 x3
            clear hpp hF0
            cases o1
            · cases o2
              · have hst : Hid ((selL F 0 (K.take (k + 1))).foldl markL S = S1) := by
                  unfold Hid
                  rw [hst0.out, if_pos hF1.out]
                  exact mk_no h1.out h2.out
                go_wp2
                go_roundw
                case rel => exact ⟨k + 1, by omega, by go_num, bz, A, by rw [hst.out]; exact Sn⟩
                case measure => simp [intOf]; omega
              · have hst : Hid ((selL F 0 (K.take (k + 1))).foldl markL S = (S1.set i true).set j true) := by
                  unfold Hid
                  rw [hst0.out, if_pos hF1.out]
                  exact mk_yes (.inr h2.out)
                go_upto_region 11 with fail
                have F0 := Sn.fr
                obtain ⟨x0, x1, x2, x3⟩ := X
                simp only [Nat.zero_add] at x0 x1 x2 x3
                have ci := Sn.at_ i (by omega)
                obtain ⟨v, hv⟩ : ∃ v, v = z.setCell ⟨G, i, none⟩ (.bool true) := ⟨_, rfl⟩
                have Sv : SeenAt v G (S1.set i true) := by rw [hv]; exact Sn.set (by omega)
                have Av : NeAt v w.heap.size (.slice adB Bs.length capB) (.slice (some ⟨b, off, none⟩) K.length capK) := by rw [hv]; exact A.set (by omega)
                have bv : Below w.heap.size w v := by rw [hv]; exact bz.setCell (by simp; omega) _
                have Xv : LkAtO v Q 0 ⟨i, xp, j, xq⟩ := by
                  rw [hv]
                  exact (LkAtO.mk (x := ⟨i, xp, j, xq⟩) (by simpa using x0) (by simpa using x1) (by simpa using x2) (by simpa using x3)).keep (Below.heap_setCell _ _ _ _ (by simp; omega))
                go_upto_region 12 with fail
                rw [← hv]
                clear hv x0 x1 x2 x3 ci F0 Sn A bz
                obtain ⟨x0, x1, x2, x3⟩ := Xv
                simp only [Nat.zero_add] at x0 x1 x2 x3
                have cj := Sv.at_ j (by rw [List.length_set]; omega)
                have F0 := Sv.fr
                have Sw : SeenAt (v.setCell ⟨G, j, none⟩ (.bool true)) G ((S1.set i true).set j true) := Sv.set (by rw [List.length_set]; omega)
                have Aw : NeAt (v.setCell ⟨G, j, none⟩ (.bool true)) w.heap.size (.slice adB Bs.length capB) (.slice (some ⟨b, off, none⟩) K.length capK) := Av.set (by omega)
                have bw : Below w.heap.size w (v.setCell ⟨G, j, none⟩ (.bool true)) := bv.setCell (by simp; omega) _
                go_wp2
                go_roundw
                case rel => exact ⟨k + 1, by omega, by go_num, bw, Aw, by rw [hst.out]; exact Sw⟩
                case measure => simp [intOf]; omega
            · have hst : Hid ((selL F 0 (K.take (k + 1))).foldl markL S = (S1.set i true).set j true) := by
                unfold Hid
                rw [hst0.out, if_pos hF1.out]
                exact mk_yes (.inl h1.out)
              go_upto_region 11 with fail
              have F0 := Sn.fr
              obtain ⟨x0, x1, x2, x3⟩ := X
              simp only [Nat.zero_add] at x0 x1 x2 x3
              have ci := Sn.at_ i (by omega)
              obtain ⟨v, hv⟩ : ∃ v, v = z.setCell ⟨G, i, none⟩ (.bool true) := ⟨_, rfl⟩
              have Sv : SeenAt v G (S1.set i true) := by rw [hv]; exact Sn.set (by omega)
              have Av : NeAt v w.heap.size (.slice adB Bs.length capB) (.slice (some ⟨b, off, none⟩) K.length capK) := by rw [hv]; exact A.set (by omega)
              have bv : Below w.heap.size w v := by rw [hv]; exact bz.setCell (by simp; omega) _
              have Xv : LkAtO v Q 0 ⟨i, xp, j, xq⟩ := by
                rw [hv]
                exact (LkAtO.mk (x := ⟨i, xp, j, xq⟩) (by simpa using x0) (by simpa using x1) (by simpa using x2) (by simpa using x3)).keep (Below.heap_setCell _ _ _ _ (by simp; omega))
              go_upto_region 12 with fail
              rw [← hv]
              clear hv x0 x1 x2 x3 ci F0 Sn A bz
              obtain ⟨x0, x1, x2, x3⟩ := Xv
              simp only [Nat.zero_add] at x0 x1 x2 x3
              have cj := Sv.at_ j (by rw [List.length_set]; omega)
              have F0 := Sv.fr
              have Sw : SeenAt (v.setCell ⟨G, j, none⟩ (.bool true)) G ((S1.set i true).set j true) := Sv.set (by rw [List.length_set]; omega)
              have Aw : NeAt (v.setCell ⟨G, j, none⟩ (.bool true)) w.heap.size (.slice adB Bs.length capB) (.slice (some ⟨b, off, none⟩) K.length capK) := Av.set (by omega)
              have bw : Below w.heap.size w (v.setCell ⟨G, j, none⟩ (.bool true)) := bv.setCell (by simp; omega) _
              go_wp2
              go_roundw
              case rel => exact ⟨k + 1, by omega, by go_num, bw, Aw, by rw [hst.out]; exact Sw⟩
              case measure => simp [intOf]; omega
          obtain ⟨a0, a1⟩ := A
          have A : NeAt z w.heap.size (.slice adB Bs.length capB) (.slice (some ⟨b, off, none⟩) K.length capK) := ⟨a0, a1⟩
          go_wp2_with fail
          go_at_call 43
          clear a0 a1
          refine (passS adB capB Bs (some ⟨b, off, none⟩) capK K (k : Int) z (hN.below bz (Nat.le_refl _))).mono ?_
          rintro e z' ⟨⟨R, rfl, hR⟩, kq⟩
          have hF1 : Hid (F k ⟨i, xp, j, xq⟩ = R) := by
            unfold Hid
            rw [hF0.out]
            exact Bool.eq_iff_iff.2 (by rw [hR, ← hpp.out]; rfl)
          have hGz : G < z.heap.size := by omega
          have bz := bz.trans (kq.mono bz.size)
          have Sn := Sn.below kq hGz
          have A := A.below kq A.lt
          have X := X.below kq xl
          have xl := Nat.lt_of_lt_of_le xl kq.size
          clear kq hR hF0 hpp hGz
          obtain ⟨z, hz⟩ : ∃ z, z = z' := ⟨_, rfl⟩
          rw [← hz] at bz Sn A X xl ⊢
          clear hz
          cases R
          · go_wp2
            go_roundw
            case rel => exact ⟨k + 1, by omega, by go_num, bz, A, by rw [hst0.out, if_neg (by rw [hF1.out]; decide)]; exact Sn⟩
            case measure => simp [intOf]; omega
          have ci := Sn.at_ i hli
          have cj := Sn.at_ j hlj
          obtain ⟨o1, h1⟩ : ∃ o, S1.getD i false = o := ⟨_, rfl⟩
          obtain ⟨o2, h2⟩ : ∃ o, S1.getD j false = o := ⟨_, rfl⟩
          rw [h1] at ci
          rw [h2] at cj
          replace h1 : Hid _ := h1
          replace h2 : Hid _ := h2
          have dd := X
          obtain ⟨x0, x1, x2, x3⟩ := dd
          simp only [Nat.zero_add] at x0 x1 x2 x3
          cases o1
          · cases o2
            · have hst : Hid ((selL F 0 (K.take (k + 1))).foldl markL S = S1) := by
                unfold Hid
                rw [hst0.out, if_pos hF1.out]
                exact mk_no h1.out h2.out
              go_wp2
              go_roundw
              case rel => exact ⟨k + 1, by omega, by go_num, bz, A, by rw [hst.out]; exact Sn⟩
              case measure => simp [intOf]; omega
            · have hst : Hid ((selL F 0 (K.take (k + 1))).foldl markL S = (S1.set i true).set j true) := by
                unfold Hid
                rw [hst0.out, if_pos hF1.out]
                exact mk_yes (.inr h2.out)
              go_upto_region 11 with fail
              have F0 := Sn.fr
              obtain ⟨x0, x1, x2, x3⟩ := X
              simp only [Nat.zero_add] at x0 x1 x2 x3
              have ci := Sn.at_ i (by omega)
              obtain ⟨v, hv⟩ : ∃ v, v = z.setCell ⟨G, i, none⟩ (.bool true) := ⟨_, rfl⟩
              have Sv : SeenAt v G (S1.set i true) := by rw [hv]; exact Sn.set (by omega)
              have Av : NeAt v w.heap.size (.slice adB Bs.length capB) (.slice (some ⟨b, off, none⟩) K.length capK) := by rw [hv]; exact A.set (by omega)
              have bv : Below w.heap.size w v := by rw [hv]; exact bz.setCell (by simp; omega) _
              have Xv : LkAtO v Q 0 ⟨i, xp, j, xq⟩ := by
                rw [hv]
                exact (LkAtO.mk (x := ⟨i, xp, j, xq⟩) (by simpa using x0) (by simpa using x1) (by simpa using x2) (by simpa using x3)).keep (Below.heap_setCell _ _ _ _ (by simp; omega))
              go_upto_region 12 with fail
              rw [← hv]
              clear hv x0 x1 x2 x3 ci F0 Sn A bz
              obtain ⟨x0, x1, x2, x3⟩ := Xv
              simp only [Nat.zero_add] at x0 x1 x2 x3
              have cj := Sv.at_ j (by rw [List.length_set]; omega)
              have F0 := Sv.fr
              have Sw : SeenAt (v.setCell ⟨G, j, none⟩ (.bool true)) G ((S1.set i true).set j true) := Sv.set (by rw [List.length_set]; omega)
              have Aw : NeAt (v.setCell ⟨G, j, none⟩ (.bool true)) w.heap.size (.slice adB Bs.length capB) (.slice (some ⟨b, off, none⟩) K.length capK) := Av.set (by omega)
              have bw : Below w.heap.size w (v.setCell ⟨G, j, none⟩ (.bool true)) := bv.setCell (by simp; omega) _
              go_wp2
              go_roundw
              case rel => exact ⟨k + 1, by omega, by go_num, bw, Aw, by rw [hst.out]; exact Sw⟩
              case measure => simp [intOf]; omega
          · have hst : Hid ((selL F 0 (K.take (k + 1))).foldl markL S = (S1.set i true).set j true) := by
              unfold Hid
              rw [hst0.out, if_pos hF1.out]
              exact mk_yes (.inl h1.out)
            go_upto_region 11 with fail
            have F0 := Sn.fr
            obtain ⟨x0, x1, x2, x3⟩ := X
            simp only [Nat.zero_add] at x0 x1 x2 x3
            have ci := Sn.at_ i (by omega)
            obtain ⟨v, hv⟩ : ∃ v, v = z.setCell ⟨G, i, none⟩ (.bool true) := ⟨_, rfl⟩
            have Sv : SeenAt v G (S1.set i true) := by rw [hv]; exact Sn.set (by omega)
            have Av : NeAt v w.heap.size (.slice adB Bs.length capB) (.slice (some ⟨b, off, none⟩) K.length capK) := by rw [hv]; exact A.set (by omega)
            have bv : Below w.heap.size w v := by rw [hv]; exact bz.setCell (by simp; omega) _
            have Xv : LkAtO v Q 0 ⟨i, xp, j, xq⟩ := by
              rw [hv]
              exact (LkAtO.mk (x := ⟨i, xp, j, xq⟩) (by simpa using x0) (by simpa using x1) (by simpa using x2) (by simpa using x3)).keep (Below.heap_setCell _ _ _ _ (by simp; omega))
            go_upto_region 12 with fail
            rw [← hv]
            clear hv x0 x1 x2 x3 ci F0 Sn A bz
            obtain ⟨x0, x1, x2, x3⟩ := Xv
            simp only [Nat.zero_add] at x0 x1 x2 x3
            have cj := Sv.at_ j (by rw [List.length_set]; omega)
            have F0 := Sv.fr
            have Sw : SeenAt (v.setCell ⟨G, j, none⟩ (.bool true)) G ((S1.set i true).set j true) := Sv.set (by rw [List.length_set]; omega)
            have Aw : NeAt (v.setCell ⟨G, j, none⟩ (.bool true)) w.heap.size (.slice adB Bs.length capB) (.slice (some ⟨b, off, none⟩) K.length capK) := Av.set (by omega)
            have bw : Below w.heap.size w (v.setCell ⟨G, j, none⟩ (.bool true)) := bv.setCell (by simp; omega) _
            go_wp2
            go_roundw
            case rel => exact ⟨k + 1, by omega, by go_num, bw, Aw, by rw [hst.out]; exact Sw⟩
            case measure => simp [intOf]; omega
        · obtain rfl : k = K.length := by omega
          rw [List.take_length] at Sn
          have cc := A
          obtain ⟨a0, a1⟩ := cc
          go_wp2
          go_roundw
          case rel => exact ⟨m + 1, (selL F 0 K).foldl markL S, by omega, by go_num, by unfold Hid; rw [foldM_len]; exact hlS.out, Sound.round _ S hS.out (fun _ h => h) (by rw [hlS.out]; exact hNs.out), hFa.out.step (by rw [hlS.out]; exact hNs.out), hb, A, Sn⟩
          case measure => simp [intOf]; omega
    · obtain rfl : m = Bs.length := by omega
      have hM : Hid (Marks (selL F 0 K) Bs.length (f : Int) S) := hS.out.marks hlS.out hNs.out (hFa.out.end_ hlS.out)
      clear hFa hS
      obtain ⟨v0, hv0⟩ : ∃ v, v = wr.alloc (Obj.cells #[] 3) := ⟨_, rfl⟩
      have kv : Below wr.heap.size wr v0 := by rw [hv0]; exact below_new _
      have hGw : G < wr.heap.size := World.block_lt_of_cell? wr _ (Sn.at_ f (by rw [hlS.out]; exact hf))
      have Sv := Sn.below kv hGw
      have bv := hb.trans (kv.mono hb.size)
      have Ov : FOwn ivEnc 1 3 wr.heap.size v0 (.slice (some ⟨wr.heap.size, 0, none⟩) 0 0) ([] : List Int) := by rw [hv0]; exact FOwn.empty wr
      have hsz := hb.size
      have zv : wr.heap.size ≤ v0.heap.size := kv.size
      obtain ⟨Z, hZ⟩ : ∃ Z, wr.heap.size = Z := ⟨_, rfl⟩
      rw [hZ] at Ov hGw hsz zv
      go_upto_region 14 with fail
      rw [← hv0]
      try rw [hZ]
      clear hv0 kv a0 a1 hb A Sn hZ
      go_wp2
      go_loopw [13, 14] (fun v q wr => ∃ k : Nat, k ≤ Bs.length ∧ q = .int .i64 k ∧ FOwn ivEnc 1 3 Z wr v (idx 0 (S.take k)) ∧ Below w.heap.size w wr ∧ SeenAt wr G S ∧ Z ≤ wr.heap.size) (fun _ q _ => Bs.length - (intOf q).toNat)
      case atStart => exact ⟨0, Nat.zero_le _, rfl, Ov, bv, Sv, zv⟩
      case round =>
        clear Ov bv Sv
        obtain ⟨k, hk2, rfl, O, bv, Sv, zv⟩ := hrel
        by_cases hlt : k < Bs.length
        · have ck := Sv.at_ k (by rw [hlS.out]; exact hlt)
          have hst := idx_take S (i := k) (by rw [hlS.out]; exact hlt)
          obtain ⟨L, hL⟩ : ∃ L, idx 0 (S.take k) = L := ⟨_, rfl⟩
          have hLl : L.length ≤ k := by rw [← hL]; exact Nat.le_trans (idx_len _ _) (by simp; omega)
          rw [hL] at O hst
          clear hL
          obtain ⟨ak, ck2, rfl⟩ := O.open_
          obtain ⟨o, ho⟩ : ∃ o, S.getD k false = o := ⟨_, rfl⟩
          rw [ho] at ck hst
          clear ho
          replace hst : Hid _ := hst
          cases o
          · have hst : Hid (idx 0 (S.take (k + 1)) = L) := by have := hst.out; unfold Hid; simpa using this
            go_wp2
            go_roundw
            case rel => exact ⟨k + 1, by omega, by go_num, by rw [hst.out]; exact O, bv, Sv, zv⟩
            case measure => simp [intOf]; omega
          · have hst : Hid (idx 0 (S.take (k + 1)) = L ++ [(k : Int)]) := by have := hst.out; unfold Hid; simpa using this
            have V1 := FView.oneI wr 3 (k : Int)
            have kx : Below wr.heap.size wr (wr.alloc (Obj.cells #[.int .i64 (k : Int)] 3)) := below_new _
            have O4 := O.later kx
            have bv4 := bv.trans (kx.mono bv.size)
            have hGw2 : G < wr.heap.size := World.block_lt_of_cell? wr _ ck
            have Sv4 := Sv.below kx hGw2
            have hx := kx.size
            clear kx
            go_wp2_with (first | (at_builtin; refine fappL ivEnc_len ivEnc_ones rfl _ _ 35 rfl Z 3 j0 (.int .i64 0) 8 Try.underlying35 hj hj0 hj1 hj2 rfl (by decide) (by decide) (.slice ak L.length ck2) L rfl O4 (some ⟨wr.heap.size, 0, none⟩) 1 [(k : Int)] rfl (fun e => by cases e) V1 ?z0 ?z1 ?_) | go_in)
            case z0 => first | omega | (simp; omega)
            case z1 => first | omega | (simp; omega)
            intro vZ wZ hownZ hgrowZ _
            have hob : ∀ q, (Value.slice ak L.length ck2).ownBlock = some q → Z ≤ q := fun q e => (O4.lt q e).1
            have bZ : Below w.heap.size w wZ := bv4.grown hgrowZ (by have := bv4.size; exact this) (fun q e => by have := hob q e; omega)
            have SZ : SeenAt wZ G S := Sv4.keep (hgrowZ.block _ (by simp; omega) (fun e => by have := hob _ e.symm; omega))
            have zZ : Z ≤ wZ.heap.size := by have := hgrowZ.size; simp at this; omega
            clear hgrowZ V1 O4 hob O bv Sv bv4 Sv4 ck
            go_wp2
            go_roundw
            case rel => exact ⟨k + 1, by omega, by go_num, by rw [hst.out]; exact hownZ, bZ, SZ, zZ⟩
            case measure => simp [intOf]; omega
        · obtain rfl : k = Bs.length := by omega
          rw [show S.take Bs.length = S by rw [← hlS.out, List.take_length]] at O
          obtain ⟨ak, ck2, rfl⟩ := O.open_
          have OZ := O.base hsz
          go_wp2
          go_ret
          exact ⟨S, _, _, hM.out, rfl, OZ, bv⟩

end Go.Proofs.Ytdfjfodfnildiab
namespace Go.Proofs.Ytdfjfodfnildiab
open Go.ChangeShapes Go.WideShapes Go.ChangeAt Go.RowKit
open Go.ChangeMaps (open_string shut_string)
set_option linter.unusedVariables false
set_option maxRecDepth 100000

/-- Who can be come to: nobody of what is not right. -/
def ReachIs (B : List Bg) (K : List Lk) (m : Int) (al : Bool) (L : List Int) : Prop :=
  (¬ (NetP B K ∧ 0 ≤ m ∧ m < (B.length : Int)) ∧ L = []) ∨ (NetP B K ∧ ∃ f : Nat, m = (f : Int) ∧ f < B.length ∧ ∃ M, Marks (if al = true then K else K.filter (openB B)) B.length (f : Int) M ∧ L = idx 0 M)
theorem ReachIs.unique {B : List Bg} {K : List Lk} {m : Int} {al : Bool} {L M : List Int} (h : ReachIs B K m al L) (k : ReachIs B K m al M) : L = M := by
  rcases h with ⟨h1, rfl⟩ | ⟨h1, f, rfl, hf, M1, m1, rfl⟩
  · rcases k with ⟨_, rfl⟩ | ⟨k1, f, rfl, hf, _⟩
    · rfl
    · exact absurd ⟨k1, by omega, by omega⟩ h1
  · rcases k with ⟨k1, _⟩ | ⟨_, f', e, _, M2, m2, rfl⟩
    · exact absurd ⟨h1, by omega, by omega⟩ k1
    · obtain rfl : f = f' := by omega
      rw [m1.unique m2]
theorem reach_small {B : List Bg} {K : List Lk} {m : Int} {al : Bool} {L : List Int} (h : ReachIs B K m al L) : L.length ≤ 1048576 := by
  rcases h with ⟨_, rfl⟩ | ⟨h1, f, _, _, M, hM, rfl⟩
  · simp
  · have h2 := idx_len M 0
    have h3 := hM.len
    have h4 := h1.many.2
    omega
theorem sel_none (B : List Bg) (al : Bool) (K : List Lk) : selL (pickF B al (-1)) 0 K = if al = true then K else K.filter (openB B) := by
  cases al
  · rw [if_neg (by decide)]
    refine selL_filter _ _ K 0 (fun j l _ _ => ?_)
    have : decide ((j : Int) ≠ -1) = true := decide_eq_true (by omega)
    simp only [pickF, this, Bool.true_and, Bool.false_or]
  · rw [if_pos rfl]
    refine selL_all _ K (fun j l => ?_) 0
    have : decide ((j : Int) ≠ -1) = true := decide_eq_true (by omega)
    simp only [pickF, this, Bool.true_and, Bool.true_or]
theorem sel_one (B : List Bg) (A : List Lk) (x : Lk) (C : List Lk) : selL (pickF B false (A.length : Int)) 0 (A ++ x :: C) = (A ++ C).filter (openB B) := by
  rw [selL_app, Nat.zero_add, List.filter_append]
  congr 1
  · refine selL_filter _ _ A 0 (fun j l _ h => ?_)
    have : decide ((j : Int) ≠ (A.length : Int)) = true := decide_eq_true (by omega)
    simp only [pickF, this, Bool.true_and, Bool.false_or]
  · have : pickF B false (A.length : Int) A.length x = false := by simp [pickF]
    simp only [selL, this]
    refine selL_filter _ _ C (A.length + 1) (fun j l h _ => ?_)
    have : decide ((j : Int) ≠ (A.length : Int)) = true := decide_eq_true (by omega)
    simp only [pickF, this, Bool.true_and, Bool.false_or]
end Go.Proofs.Ytdfjfodfnildiab
namespace Go.Proofs.Ytdfjfodfnildiab
open Go.ChangeShapes Go.WideShapes Go.ChangeAt Go.RowKit
open Go.ChangeMaps (open_string shut_string)
set_option linter.unusedVariables false
set_option maxRecDepth 100000

theorem ix5 (M : List Bool) {b0 b1 b2 b3 b4 : Bool} (h0 : M.getD 0 false = b0) (h1 : M.getD 1 false = b1) (h2 : M.getD 2 false = b2) (h3 : M.getD 3 false = b3) (h4 : M.getD 4 false = b4) (k : Nat) (hk : k < 5) : ∀ w : World, (Instr.index 46 (.agg #[.bool b0, .bool b1, .bool b2, .bool b3, .bool b4]) (.int .i64 (k : Int))).run Try.prog w = .ok (.bool (M.getD k false)) w := by
  rcases (by omega : k = 0 ∨ k = 1 ∨ k = 2 ∨ k = 3 ∨ k = 4) with rfl | rfl | rfl | rfl | rfl
  · intro w; rw [h0]; kernel_rfl
  · intro w; rw [h1]; kernel_rfl
  · intro w; rw [h2]; kernel_rfl
  · intro w; rw [h3]; kernel_rfl
  · intro w; rw [h4]; kernel_rfl
set_option maxHeartbeats 8000000 in
theorem reachI (adB : Option Addr) (capB : Nat) (Bs : List Bd) (adK : Option Addr) (capK : Nat) (K : List Lk) (m : Int) (al : Bool) (w : World) (h : NN w adB Bs adK K) (hcap : Bs.length ≤ capB) :
    Calls Try.prog 60 #[.agg #[.slice adB Bs.length capB, .slice adK K.length capK], .int .i64 m, .bool al] w fun e w' => ∃ L a c, ReachIs (dB Bs) K m al L ∧ e = .returned (.slice a (List.length L) c) ∧ FOwn ivEnc 1 3 w.heap.size w' (.slice a L.length c) L ∧ Below w.heap.size w w' := by
  obtain ⟨j0, hj, hj0, hj1, hj2⟩ := info_parts ivInfo
  obtain ⟨y, hy⟩ : ∃ y, y = w.alloc (Obj.cells #[.slice adB Bs.length capB, .slice adK K.length capK] 31) := ⟨_, rfl⟩
  have B0 : Below w.heap.size w y := by rw [hy]; exact below_new _
  have A : NeAt y w.heap.size (.slice adB Bs.length capB) (.slice adK K.length capK) := by rw [hy]; exact NeAt.new w _
  have hN := h.later B0
  have hk := h.hk
  have hlB := h.hl
  clear h
  by_cases hok : NetP (dB Bs) K
  rotate_left
  · replace hok : Hid _ := hok
    go_enter Try.func60, Try.ntmps60
    go_wp2_with fail
    go_at_call 25
    rw [← hy]
    clear hy
    refine (netOkI adB capB Bs adK capK K y hN hcap).mono ?_
    rintro e y1 ⟨⟨R1, rfl, hR1⟩, kq⟩
    obtain rfl := bool_no hR1 hok.out
    clear hR1
    have B1 := B0.trans (kq.mono B0.size)
    have A := A.below kq A.lt
    have hN := hN.later kq
    clear kq B0
    go_wp2
    go_ret
    exact ⟨[], _, _, .inl ⟨fun q => hok.out q.1, rfl⟩, rfl, FOwn.nil, B1⟩
  replace hok : Hid _ := hok
  go_enter Try.func60, Try.ntmps60
  go_wp2_with fail
  go_at_call 25
  rw [← hy]
  clear hy
  refine (netOkI adB capB Bs adK capK K y hN hcap).mono ?_
  rintro e y1 ⟨⟨R1, rfl, hR1⟩, kq⟩
  obtain rfl : R1 = true := hR1.2 hok.out
  clear hR1
  have B1 := B0.trans (kq.mono B0.size)
  have A := A.below kq A.lt
  have hN := hN.later kq
  clear kq B0
  by_cases h1 : m < 0
  · have d1 : decide (m < 0) = true := decide_eq_true h1
    go_wp2
    go_ret
    exact ⟨[], _, _, .inl ⟨fun q => by have := q.2.1; omega, rfl⟩, rfl, FOwn.nil, B1⟩
  have d1 : decide (m < 0) = false := decide_eq_false h1
  have cc := A
  obtain ⟨a0, a1⟩ := cc
  by_cases h2 : (Bs.length : Int) ≤ m
  · have d2 : decide ((Bs.length : Int) ≤ m) = true := decide_eq_true h2
    go_wp2
    go_ret
    exact ⟨[], _, _, .inl ⟨fun q => by have := q.2.2; rw [dB_len] at this; omega, rfl⟩, rfl, FOwn.nil, B1⟩
  have d2 : decide ((Bs.length : Int) ≤ m) = false := decide_eq_false h2
  clear a0 a1
  obtain ⟨f, rfl⟩ := Int.eq_ofNat_of_zero_le (show 0 ≤ m by omega)
  have hf : f < Bs.length := by omega
  have h5 : Bs.length ≤ 5 := by have := hok.out.many.2; rwa [dB_len] at this
  have hNn : InN K Bs.length := by have := hok.out.inN; rwa [dB_len] at this
  have h5N : InN K 5 := fun l hl => ⟨⟨(hNn l hl).1.1, by have := (hNn l hl).1.2; omega⟩, (hNn l hl).2.1, by have := (hNn l hl).2.2; omega⟩
  cases al
  · have cc := A
    obtain ⟨a0, a1⟩ := cc
    go_wp2_with fail
    go_at_call 26
    clear a0 a1
    refine (openLI adB capB Bs adK capK K y1 hN (fun l hl => netP_ports hok.out hl)).mono ?_
    rintro e y2 ⟨aO, cO, rfl, O, k2⟩
    have B2 := B1.trans (k2.mono B1.size)
    have VO := O.view.2
    have hlO : (K.filter (openB (dB Bs))).length ≤ 1048576 := Nat.le_trans (List.length_filter_le _ _) hk
    clear k2 O B1
    go_wp2_with fail
    go_at_call 27
    refine (cameI aO cO (K.filter (openB (dB Bs))) f y2 VO hlO (by omega) (h5N.sub (fun l hl => (List.mem_filter.1 hl).1))).mono ?_
    rintro e z ⟨M, hM, rfl, kz⟩
    have bz := B2.trans (kz.mono B2.size)
    clear kz VO hlO B2
    obtain ⟨hM1, hM2⟩ := hM.cut (hNn.sub (fun l hl => (List.mem_filter.1 hl).1)) ⟨by omega, by omega⟩ h5
    have hlM : M.length = 5 := hM.len
    have hRI : Hid (ReachIs (dB Bs) K (f : Int) false (idx 0 M)) := .inr ⟨hok.out, f, rfl, by rw [dB_len]; exact hf, M.take Bs.length, by rw [dB_len]; exact hM1, hM2⟩
    clear hM hM1 hM2
    obtain ⟨b0, g0⟩ : ∃ b, M.getD 0 false = b := ⟨_, rfl⟩
    obtain ⟨b1, g1⟩ : ∃ b, M.getD 1 false = b := ⟨_, rfl⟩
    obtain ⟨b2, g2⟩ : ∃ b, M.getD 2 false = b := ⟨_, rfl⟩
    obtain ⟨b3, g3⟩ : ∃ b, M.getD 3 false = b := ⟨_, rfl⟩
    obtain ⟨b4, g4⟩ : ∃ b, M.getD 4 false = b := ⟨_, rfl⟩
    rw [g0, g1, g2, g3, g4]
    replace g0 : Hid _ := g0
    replace g1 : Hid _ := g1
    replace g2 : Hid _ := g2
    replace g3 : Hid _ := g3
    replace g4 : Hid _ := g4
    replace hlM : Hid _ := hlM
    go_wp2
    have zs := bz.size
    go_loopw [8, 34] (fun v q wr => ∃ k : Nat, k ≤ 5 ∧ q = .int .i64 k ∧ FOwn ivEnc 1 3 z.heap.size wr v (idx 0 (M.take k)) ∧ Below z.heap.size z wr) (fun _ q _ => 5 - (intOf q).toNat)
    case atStart => exact ⟨0, Nat.zero_le _, rfl, FOwn.nil, Below.refl _ _⟩
    case round =>
      obtain ⟨k, hk2, rfl, O, kb⟩ := hrel
      by_cases hlt : k < 5
      · have hst := idx_take M (i := k) (by rw [hlM.out]; exact hlt)
        have ix := ix5 M g0.out g1.out g2.out g3.out g4.out k hlt
        obtain ⟨L, hL⟩ : ∃ L, idx 0 (M.take k) = L := ⟨_, rfl⟩
        have hLl : L.length ≤ k := by rw [← hL]; exact Nat.le_trans (idx_len _ _) (by simp; omega)
        rw [hL] at O hst
        clear hL
        obtain ⟨ak, ck2, rfl⟩ := O.open_
        obtain ⟨o, ho⟩ : ∃ o, M.getD k false = o := ⟨_, rfl⟩
        rw [ho] at ix hst
        clear ho
        replace hst : Hid _ := hst
        cases o
        · have hst : Hid (idx 0 (M.take (k + 1)) = L) := by have := hst.out; unfold Hid; simpa using this
          go_wp2
          go_roundw
          case rel => exact ⟨k + 1, by omega, by go_num, by rw [hst.out]; exact O, kb⟩
          case measure => simp [intOf]; omega
        · have hst : Hid (idx 0 (M.take (k + 1)) = L ++ [(k : Int)]) := by have := hst.out; unfold Hid; simpa using this
          have V1 := FView.oneI wr 3 (k : Int)
          have kx : Below wr.heap.size wr (wr.alloc (Obj.cells #[.int .i64 (k : Int)] 3)) := below_new _
          have O4 := O.later kx
          have b4 := kb.trans (kx.mono kb.size)
          have s4 := b4.size
          clear kx
          go_wp2_with (first | (at_builtin; refine fappL ivEnc_len ivEnc_ones rfl _ _ 35 rfl z.heap.size 3 j0 (.int .i64 0) 8 Try.underlying35 hj hj0 hj1 hj2 rfl (by decide) (by decide) (.slice ak L.length ck2) L rfl O4 (some ⟨wr.heap.size, 0, none⟩) 1 [(k : Int)] rfl (fun e => by cases e) V1 ?z0False ?z1False ?_) | go_in)
          case z0False => first | omega | (simp; omega)
          case z1False => have := kb.size; omega
          intro vZ wZ hownZ hgrowZ _
          have hob : ∀ q, (Value.slice ak L.length ck2).ownBlock = some q → z.heap.size ≤ q := fun q e => (O4.lt q e).1
          have bZ : Below z.heap.size z wZ := b4.grown hgrowZ (by exact s4) hob
          clear hgrowZ V1 O4 hob O b4 ix
          go_wp2
          go_roundw
          case rel => exact ⟨k + 1, by omega, by go_num, by rw [hst.out]; exact hownZ, bZ⟩
          case measure => simp [intOf]; omega
      · obtain rfl : k = 5 := by omega
        rw [show M.take 5 = M by rw [← hlM.out, List.take_length]] at O
        obtain ⟨ak, ck2, rfl⟩ := O.open_
        have OZ := O.base zs
        have bZ := bz.trans (kb.mono zs)
        go_wp2
        go_ret
        exact ⟨_, _, _, hRI.out, rfl, OZ, bZ⟩
  · have cc := A
    obtain ⟨a0, a1⟩ := cc
    go_wp2_with fail
    go_at_call 27
    clear a0 a1
    refine (cameI adK capK K f y1 hN.vk hk (by omega) h5N).mono ?_
    rintro e z ⟨M, hM, rfl, kz⟩
    have bz := B1.trans (kz.mono B1.size)
    clear kz
    obtain ⟨hM1, hM2⟩ := hM.cut hNn ⟨by omega, by omega⟩ h5
    have hlM : M.length = 5 := hM.len
    have hRI : Hid (ReachIs (dB Bs) K (f : Int) true (idx 0 M)) := .inr ⟨hok.out, f, rfl, by rw [dB_len]; exact hf, M.take Bs.length, by rw [dB_len]; exact hM1, hM2⟩
    clear hM hM1 hM2
    obtain ⟨b0, g0⟩ : ∃ b, M.getD 0 false = b := ⟨_, rfl⟩
    obtain ⟨b1, g1⟩ : ∃ b, M.getD 1 false = b := ⟨_, rfl⟩
    obtain ⟨b2, g2⟩ : ∃ b, M.getD 2 false = b := ⟨_, rfl⟩
    obtain ⟨b3, g3⟩ : ∃ b, M.getD 3 false = b := ⟨_, rfl⟩
    obtain ⟨b4, g4⟩ : ∃ b, M.getD 4 false = b := ⟨_, rfl⟩
    rw [g0, g1, g2, g3, g4]
    replace g0 : Hid _ := g0
    replace g1 : Hid _ := g1
    replace g2 : Hid _ := g2
    replace g3 : Hid _ := g3
    replace g4 : Hid _ := g4
    replace hlM : Hid _ := hlM
    go_wp2
    have zs := bz.size
    go_loopw [8, 34] (fun v q wr => ∃ k : Nat, k ≤ 5 ∧ q = .int .i64 k ∧ FOwn ivEnc 1 3 z.heap.size wr v (idx 0 (M.take k)) ∧ Below z.heap.size z wr) (fun _ q _ => 5 - (intOf q).toNat)
    case atStart => exact ⟨0, Nat.zero_le _, rfl, FOwn.nil, Below.refl _ _⟩
    case round =>
      obtain ⟨k, hk2, rfl, O, kb⟩ := hrel
      by_cases hlt : k < 5
      · have hst := idx_take M (i := k) (by rw [hlM.out]; exact hlt)
        have ix := ix5 M g0.out g1.out g2.out g3.out g4.out k hlt
        obtain ⟨L, hL⟩ : ∃ L, idx 0 (M.take k) = L := ⟨_, rfl⟩
        have hLl : L.length ≤ k := by rw [← hL]; exact Nat.le_trans (idx_len _ _) (by simp; omega)
        rw [hL] at O hst
        clear hL
        obtain ⟨ak, ck2, rfl⟩ := O.open_
        obtain ⟨o, ho⟩ : ∃ o, M.getD k false = o := ⟨_, rfl⟩
        rw [ho] at ix hst
        clear ho
        replace hst : Hid _ := hst
        cases o
        · have hst : Hid (idx 0 (M.take (k + 1)) = L) := by have := hst.out; unfold Hid; simpa using this
          go_wp2
          go_roundw
          case rel => exact ⟨k + 1, by omega, by go_num, by rw [hst.out]; exact O, kb⟩
          case measure => simp [intOf]; omega
        · have hst : Hid (idx 0 (M.take (k + 1)) = L ++ [(k : Int)]) := by have := hst.out; unfold Hid; simpa using this
          have V1 := FView.oneI wr 3 (k : Int)
          have kx : Below wr.heap.size wr (wr.alloc (Obj.cells #[.int .i64 (k : Int)] 3)) := below_new _
          have O4 := O.later kx
          have b4 := kb.trans (kx.mono kb.size)
          have s4 := b4.size
          clear kx
          go_wp2_with (first | (at_builtin; refine fappL ivEnc_len ivEnc_ones rfl _ _ 35 rfl z.heap.size 3 j0 (.int .i64 0) 8 Try.underlying35 hj hj0 hj1 hj2 rfl (by decide) (by decide) (.slice ak L.length ck2) L rfl O4 (some ⟨wr.heap.size, 0, none⟩) 1 [(k : Int)] rfl (fun e => by cases e) V1 ?z0True ?z1True ?_) | go_in)
          case z0True => first | omega | (simp; omega)
          case z1True => have := kb.size; omega
          intro vZ wZ hownZ hgrowZ _
          have hob : ∀ q, (Value.slice ak L.length ck2).ownBlock = some q → z.heap.size ≤ q := fun q e => (O4.lt q e).1
          have bZ : Below z.heap.size z wZ := b4.grown hgrowZ (by exact s4) hob
          clear hgrowZ V1 O4 hob O b4 ix
          go_wp2
          go_roundw
          case rel => exact ⟨k + 1, by omega, by go_num, by rw [hst.out]; exact hownZ, bZ⟩
          case measure => simp [intOf]; omega
      · obtain rfl : k = 5 := by omega
        rw [show M.take 5 = M by rw [← hlM.out, List.take_length]] at O
        obtain ⟨ak, ck2, rfl⟩ := O.open_
        have OZ := O.base zs
        have bZ := bz.trans (kb.mono zs)
        go_wp2
        go_ret
        exact ⟨_, _, _, hRI.out, rfl, OZ, bZ⟩

end Go.Proofs.Ytdfjfodfnildiab
namespace Go.Proofs.Ytdfjfodfnildiab
open Go.ChangeShapes Go.WideShapes Go.ChangeAt Go.RowKit
open Go.ChangeMaps (open_string shut_string)
set_option linter.unusedVariables false
set_option maxRecDepth 100000

set_option maxHeartbeats 4000000 in
theorem growI (n : Int) (w : World) (h0 : 0 ≤ n) (h1 : n ≤ 1000) :
    Calls Try.prog 74 #[.slice none 0 0, .int .i64 n] w fun e w' => ∃ ad cap, e = .returned (.slice ad 0 cap) ∧ FOwn lkEnc 4 70 w.heap.size w' (.slice ad 0 cap) [] ∧ Below w.heap.size w w' := by
  obtain ⟨i0, hi, hz0, hz1, hz2⟩ := info_parts lkInfo
  have d0 : decide (n < 0) = false := decide_eq_false (by omega)
  have d1 : ¬ n < 0 := by omega
  have hw : IntKind.i64.wrap n = n := by rw [IntKind.wrap_i64]; omega
  by_cases hn : n = 0
  · subst hn
    go_enter Try.func74, Try.ntmps74
    go_wp2
    go_ret
    exact ⟨none, 0, rfl, FOwn.nil, Below.refl _ _⟩
  obtain ⟨m, rfl⟩ := Int.eq_ofNat_of_zero_le h0
  have hm : 0 < m := by omega
  have d2 : decide (0 < (m : Int)) = true := decide_eq_true (by omega)
  have d3 : 0 < (m : Int) := by omega
  have hr : ∀ ty, (Builtin.append_ #[29, 3] ty #[.slice none 0 0, .int .i64 (m : Int)]).run Try.prog w = _ := fun ty => Lib.run_append_nil_zeros w 29 3 ty 70 i0 (.agg #[.int .i64 0, .int .i64 0, .int .i64 0, .int .i64 0]) .i64 .i64 Try.underlying29 Try.underlying3 hi hz0 m hm (by omega) (by omega) (by rw [hz2]; omega)
  obtain ⟨c, hc⟩ : ∃ c, grownCap w m 0 70 = c := ⟨_, rfl⟩
  have hc1 : m ≤ c := by rw [← hc]; exact grownCap_ge w m 0 _
  have hc2 : c ≤ maxLen := by rw [← hc]; exact grownCap_le_maxLen w m 0 _ (by unfold maxLen; omega)
  rw [hc] at hr
  replace hc : Hid _ := hc
  obtain ⟨w1, hw1⟩ : ∃ w1, w1 = w.drew.alloc (.cells (Builtin.zeroCells (Value.cells (.agg #[.int .i64 0, .int .i64 0, .int .i64 0, .int .i64 0])) m ++ Builtin.zeroCells (Value.cells (.agg #[.int .i64 0, .int .i64 0, .int .i64 0, .int .i64 0])) (c - m)) 70) := ⟨_, rfl⟩
  have B1 : Below w.heap.size w w1 := by
    rw [hw1]
    exact ((Below.refl _ _).drew).alloc (by simp) _
  have O1 : FOwn lkEnc 4 70 w.heap.size w1 (.slice (some ⟨w.heap.size, 0, none⟩) 0 c) [] := by
    refine ⟨by simp [fcells], .inr ⟨w.heap.size, c, Builtin.zeroCells (Value.cells (.agg #[.int .i64 0, .int .i64 0, .int .i64 0, .int .i64 0])) m ++ Builtin.zeroCells (Value.cells (.agg #[.int .i64 0, .int .i64 0, .int .i64 0, .int .i64 0])) (c - m), rfl, Nat.le_refl _, ?_, Nat.zero_le _, hc2, ?_, by simp [fcells]⟩⟩
    · rw [hw1]
      exact heap_newF w.drew _
    · simp [Builtin.zeroCells, Value.cells]
      omega
  rw [← hw1] at hr
  clear hw1
  go_enter Try.func74, Try.ntmps74
  go_wp2_with (at_builtin; refine Lib.wpList_append_run _ rfl _ _ _ _ rfl _ _ rfl rfl _ _ (hr _) ?_)
  go_wp2
  go_ret
  exact ⟨_, _, rfl, O1, B1⟩
theorem app_len2 {L M : List Lk} : (L ++ M).length = L.length + M.length := List.length_append
set_option maxHeartbeats 8000000 in
theorem concatI (q : Nat) (a1 a2 : Option Addr) (c1 c2 : Nat) (L1 L2 : List Lk) (w : World) (h1 : w.cell? ⟨q, 0, none⟩ = some (.slice a1 L1.length c1)) (h2 : w.cell? ⟨q, 1, none⟩ = some (.slice a2 L2.length c2)) (v1 : FView lkEnc w a1 L1) (v2 : FView lkEnc w a2 L2) (n1 : a1 = none → c1 = 0) (n2 : a2 = none → c2 = 0) (l1 : L1.length ≤ 100) (l2 : L2.length ≤ 100) :
    Calls Try.prog 59 #[.slice (some ⟨q, 0, none⟩) 2 2] w fun e w' => ∃ ad cap, e = .returned (.slice ad (L1 ++ L2).length cap) ∧ FOwn lkEnc 4 70 w.heap.size w' (.slice ad (L1 ++ L2).length cap) (L1 ++ L2) ∧ Below w.heap.size w w' := by
  obtain ⟨i0, hi, hz0, hz1, hz2⟩ := info_parts lkInfo
  have d1 : ¬ (L1.length : Int) < 0 := by omega
  have d2 : ¬ (L1.length : Int) + (L2.length : Int) < 0 := by omega
  have e1 : decide ((L1.length : Int) < 0) = false := decide_eq_false d1
  have e2 : decide ((L1.length : Int) + (L2.length : Int) < 0) = false := decide_eq_false d2
  have hql := World.block_lt_of_cell? w _ h1
  have b1 := v1.lt lkEnc_len (by omega)
  have b2 := v2.lt lkEnc_len (by omega)
  go_enter Try.func59, Try.ntmps59
  go_wp2
  refine wp_loop_rounds 3 ?_
  rw [rounds_succ]
  go_wp2_with fail
  rw [rounds_succ]
  go_wp2_with fail
  rw [rounds_succ]
  go_wp2_with fail
  go_at_call 74
  refine (growI _ w (by omega) (by omega)).mono ?_
  rintro e y ⟨ad, cap, rfl, O, ky⟩
  have h1 := (World.cell?_of_block (a := ⟨q, 0, none⟩) (ky.block q hql)).trans h1
  have h2 := (World.cell?_of_block (a := ⟨q, 1, none⟩) (ky.block q hql)).trans h2
  have v1 := v1.below ky b1
  have v2 := v2.below ky b2
  have hsz := ky.size
  go_wp2
  refine wp_loop_rounds 3 ?_
  rw [rounds_succ]
  go_wp2_with (first | (at_builtin; refine fappL lkEnc_len lkEnc_ones rfl _ _ 29 rfl w.heap.size 70 i0 (.agg #[.int .i64 0, .int .i64 0, .int .i64 0, .int .i64 0]) 32 Try.underlying29 hi hz0 hz1 hz2 rfl (by decide) (by decide) (.slice ad 0 cap) [] rfl O a1 c1 L1 rfl n1 v1 ?z0 ?z1 ?_) | go_in)
  case z0 => first | omega | (simp; omega)
  case z1 => exact hsz
  intro v' z O1 g1 _
  replace O1 : FOwn lkEnc 4 70 w.heap.size z v' L1 := O1
  obtain ⟨ad', cap', rfl⟩ := O1.open_
  have ob : ∀ k, (Value.slice ad 0 cap).ownBlock = some k → w.heap.size ≤ k := fun k e => (O.lt k e).1
  have kz : Below w.heap.size w z := ky.grown g1 hsz ob
  have hq2 : z.heap[q]? = y.heap[q]? := g1.block q (by omega) (fun e => by have := ob q e.symm; omega)
  have h2 := (World.cell?_of_block (a := ⟨q, 1, none⟩) hq2).trans h2
  have h1 := (World.cell?_of_block (a := ⟨q, 0, none⟩) hq2).trans h1
  have v2 : FView lkEnc z a2 L2 := v2.carry (fun a e p => g1.block _ (by have := b2 a e p; omega) (fun e2 => by have h3 := ob _ e2.symm; have h4 := b2 a e p; omega))
  have hs2 := kz.size
  clear g1 ob hq2 O ky
  go_wp2_with fail
  rw [rounds_succ]
  go_wp2_with (first | (at_builtin; refine fappL lkEnc_len lkEnc_ones rfl _ _ 29 rfl w.heap.size 70 i0 (.agg #[.int .i64 0, .int .i64 0, .int .i64 0, .int .i64 0]) 32 Try.underlying29 hi hz0 hz1 hz2 rfl (by decide) (by decide) (.slice ad' L1.length cap') L1 rfl O1 a2 c2 L2 rfl n2 v2 ?y0 ?y1 ?_) | go_in)
  case y0 => first | omega | (simp; omega)
  case y1 => exact hs2
  intro v' x O2 g2 _
  obtain ⟨ad2, cap2, rfl⟩ := O2.open_
  have ob : ∀ k, (Value.slice ad' L1.length cap').ownBlock = some k → w.heap.size ≤ k := fun k e => (O1.lt k e).1
  have kx : Below w.heap.size w x := kz.grown g2 hs2 ob
  clear g2 ob O1 kz h1 h2 v1 v2
  obtain ⟨M, hM⟩ : ∃ M, L1 ++ L2 = M := ⟨_, rfl⟩
  rw [hM] at O2 ⊢
  replace hM : Hid _ := hM
  go_wp2_with fail
  rw [rounds_succ]
  go_wp2
  go_ret
  obtain rfl := hM.out
  exact ⟨_, _, rfl, O2, kx⟩

end Go.Proofs.Ytdfjfodfnildiab
namespace Go.Proofs.Ytdfjfodfnildiab
open Go.ChangeShapes Go.WideShapes Go.ChangeAt Go.RowKit
open Go.ChangeMaps (open_string shut_string)
set_option linter.unusedVariables false
set_option maxRecDepth 100000

theorem split_at (K : List Lk) {k : Nat} (h : k < K.length) : K = K.take k ++ K.getD k Lk.nil :: K.drop (k + 1) := by
  have e : K.getD k Lk.nil :: K.drop (k + 1) = K.drop k := by
    rw [show K.getD k Lk.nil = K[k] by simp [List.getD, h]]
    exact (List.drop_eq_getElem_cons h).symm
  rw [e, List.take_append_drop]
theorem split_is {A C : List Lk} {x : Lk} : (A ++ x :: C).take A.length = A ∧ (A ++ x :: C).getD A.length Lk.nil = x ∧ (A ++ x :: C).drop (A.length + 1) = C := by
  refine ⟨by simp, by simp [List.getD], ?_⟩
  rw [List.drop_append]
  simp
theorem ring_idx (p : Lk → Bool) (K : List Lk) : RingP p K ↔ ∀ j, j < (K.filter p).length → ¬ Con ((K.filter p).take j ++ (K.filter p).drop (j + 1)) ((K.filter p).getD j Lk.nil).a ((K.filter p).getD j Lk.nil).b := by
  rw [ring_filter]
  constructor
  · intro h j hj
    exact h _ _ _ (split_at (K.filter p) hj)
  · intro h A x C e
    have := h A.length (by rw [e]; simp)
    rw [e] at this
    obtain ⟨e1, e2, e3⟩ := split_is (A := A) (C := C) (x := x)
    rwa [e1, e2, e3] at this
theorem ring_sel (B : List Bg) (K : List Lk) : RingP (openB B) K ↔ ∀ k, k < K.length → openB B (K.getD k Lk.nil) = true → ¬ Con (selL (pickF B false (k : Int)) 0 K) (K.getD k Lk.nil).a (K.getD k Lk.nil).b := by
  constructor
  · intro h k hk ho
    have e := split_at K hk
    have := h _ _ _ e ho
    have q := sel_one B (K.take k) (K.getD k Lk.nil) (K.drop (k + 1))
    rw [← e, List.length_take, Nat.min_eq_left (Nat.le_of_lt hk)] at q
    rwa [q]
  · intro h A x C e ho
    subst e
    have := h A.length (by simp)
    obtain ⟨e1, e2, e3⟩ := split_is (A := A) (C := C) (x := x)
    rw [e2, sel_one] at this
    exact this ho
theorem FView.take {X : Type} {enc : X → List Value} {w : World} {ad : Option Addr} {L : List X} (h : FView enc w ad L) (k : Nat) : FView enc w ad (L.take k) := by
  intro hp
  obtain ⟨b, off, e, hc⟩ := h (by rw [List.length_take] at hp; omega)
  refine ⟨b, off, e, fun j v hv => hc j v ?_⟩
  rw [← List.take_append_drop k L, fcells_app, List.getElem?_append_left (List.getElem?_eq_some_iff.1 hv).1]
  exact hv
theorem FView.drop {X : Type} {enc : X → List Value} {n : Nat} (hn : ∀ x, (enc x).length = n) {w : World} {b off : Nat} {L : List X} (h : FView enc w (some ⟨b, off, none⟩) L) {k : Nat} (hk : k ≤ L.length) : FView enc w (some ⟨b, off + k * n, none⟩) (L.drop k) := by
  intro hp
  obtain ⟨b', off', e, hc⟩ := h (by rw [List.length_drop] at hp; omega)
  cases e
  refine ⟨b, off + k * n, rfl, fun j v hv => ?_⟩
  have hl : (fcells enc (L.take k)).length = k * n := by rw [fcells_len hn, List.length_take, Nat.min_eq_left hk]
  have := hc (k * n + j) v (by
    rw [← List.take_append_drop k L, fcells_app, List.getElem?_append_right (by omega), hl]
    rw [show k * n + j - k * n = j by omega]
    exact hv)
  rw [Nat.add_assoc]
  exact this
theorem marks_in {K : List Lk} {n f : Nat} {M : List Bool} {x : Int} (h : Marks K n (f : Int) M) (hx : 0 ≤ x ∧ x < (n : Int)) : x ∈ idx 0 M ↔ Con K (f : Int) x := by
  rw [idx_mem]
  constructor
  · rintro ⟨j, h1, h2, h3⟩
    rw [h.len] at h1
    rw [Nat.zero_add] at h3
    rw [h3]
    exact (h.is j h1).1 h2
  · intro q
    refine ⟨x.toNat, by rw [h.len]; omega, ?_, by omega⟩
    rw [h.is x.toNat (by omega), Int.toNat_of_nonneg hx.1]
    exact q
theorem has_mem {L : List Int} {x : Int} : hasIn (fun i => L.getD i 0) L.length x = true ↔ x ∈ L := by
  rw [hasIn_mem L x L.length (Nat.le_refl _)]
  constructor
  · rintro ⟨i, hi, rfl⟩
    rw [show L.getD i 0 = L[i] by simp [List.getD, hi]]
    exact List.getElem_mem hi
  · intro h
    obtain ⟨i, hi, rfl⟩ := List.getElem_of_mem h
    exact ⟨i, hi, by simp [List.getD, hi]⟩

end Go.Proofs.Ytdfjfodfnildiab
namespace Go.Proofs.Ytdfjfodfnildiab
open Go.ChangeShapes Go.WideShapes Go.ChangeAt Go.RowKit
open Go.ChangeMaps (open_string shut_string)
set_option linter.unusedVariables false
set_option maxRecDepth 100000

set_option maxHeartbeats 16000000 in
theorem ringI (adB : Option Addr) (capB : Nat) (Bs : List Bd) (adK : Option Addr) (capK : Nat) (K : List Lk) (w : World) (h : NN w adB Bs adK K) (hcap : Bs.length ≤ capB) :
    Calls Try.prog 35 #[.agg #[.slice adB Bs.length capB, .slice adK K.length capK]] w fun e w' => YN e (NetP (dB Bs) K ∧ RingP (openB (dB Bs)) K) ∧ Below w.heap.size w w' := by
  suffices H : ∀ PQ : Prop, Hid (PQ ↔ NetP (dB Bs) K ∧ RingP (openB (dB Bs)) K) → Calls Try.prog 35 #[.agg #[.slice adB Bs.length capB, .slice adK K.length capK]] w fun e w' => YN e PQ ∧ Below w.heap.size w w' from H _ Iff.rfl
  intro PQ hQ0
  obtain ⟨y, hy⟩ : ∃ y, y = w.alloc (Obj.cells #[.slice adB Bs.length capB, .slice adK K.length capK] 31) := ⟨_, rfl⟩
  have B0 : Below w.heap.size w y := by rw [hy]; exact below_new _
  have A : NeAt y w.heap.size (.slice adB Bs.length capB) (.slice adK K.length capK) := by rw [hy]; exact NeAt.new w _
  have hN := h.later B0
  have hk := h.hk
  have hlB := h.hl
  clear h
  by_cases hok : NetP (dB Bs) K
  rotate_left
  · replace hok : Hid _ := hok
    go_enter Try.func35, Try.ntmps35
    go_wp2_with fail
    go_at_call 25
    rw [← hy]
    clear hy
    refine (netOkI adB capB Bs adK capK K y hN hcap).mono ?_
    rintro e y1 ⟨⟨R1, rfl, hR1⟩, kq⟩
    obtain rfl := bool_no hR1 hok.out
    clear hR1
    have B1 := B0.trans (kq.mono B0.size)
    have A := A.below kq A.lt
    have hN := hN.later kq
    clear kq B0
    go_wp2
    go_ret
    exact ⟨YN.no (fun h => hok.out (hQ0.out.1 h).1), B1⟩
  replace hok : Hid _ := hok
  have hk6 : K.length ≤ 6 := hok.out.few
  have h5 : Bs.length ≤ 5 := by have := hok.out.many.2; rwa [dB_len] at this
  have hNn : Hid (InN K 5) := fun l hl => by
    have := hok.out.inN l hl
    rw [dB_len] at this
    omega
  go_enter Try.func35, Try.ntmps35
  go_wp2_with fail
  go_at_call 25
  rw [← hy]
  clear hy
  refine (netOkI adB capB Bs adK capK K y hN hcap).mono ?_
  rintro e y1 ⟨⟨R1, rfl, hR1⟩, kq⟩
  obtain rfl : R1 = true := hR1.2 hok.out
  clear hR1
  have B1 := B0.trans (kq.mono B0.size)
  have A := A.below kq A.lt
  have hN := hN.later kq
  clear kq B0
  have cc := A
  obtain ⟨a0, a1⟩ := cc
  go_wp2_with fail
  go_at_call 26
  clear a0 a1
  refine (openLI adB capB Bs adK capK K y1 hN (fun l hl => netP_ports hok.out hl)).mono ?_
  rintro e y2 ⟨aO, cO, rfl, OO, k2⟩
  have B2 := B1.trans (k2.mono B1.size)
  clear k2 B1 A
  have hlO : (K.filter (openB (dB Bs))).length ≤ 6 := Nat.le_trans (List.length_filter_le _ _) hk6
  have hQ : Hid (PQ ↔ ∀ j, j < (K.filter (openB (dB Bs))).length → ¬ Con ((K.filter (openB (dB Bs))).take j ++ (K.filter (openB (dB Bs))).drop (j + 1)) ((K.filter (openB (dB Bs))).getD j Lk.nil).a ((K.filter (openB (dB Bs))).getD j Lk.nil).b) := by
    unfold Hid
    rw [← ring_idx, hQ0.out]
    exact ⟨fun q => q.2, fun q => ⟨hok.out, q⟩⟩
  have hNO : Hid (InN (K.filter (openB (dB Bs))) 5) := hNn.out.sub (fun l hl => (List.mem_filter.1 hl).1)
  obtain ⟨O, hO⟩ : ∃ O, K.filter (openB (dB Bs)) = O := ⟨_, rfl⟩
  rw [hO] at OO hlO hQ hNO ⊢
  clear hO hN hNn hQ0
  have vO := OO.view.2
  have bO := vO.lt lkEnc_len (by omega)
  have hcO : O.length ≤ cO := by
    rcases OO.2 with ⟨q, e⟩ | ⟨g, c, cur, q, _, _, hc, _⟩
    · omega
    · simp only [Value.slice.injEq] at q
      obtain ⟨_, _, rfl⟩ := q
      exact hc
  clear OO
  go_wp2
  go_loopw [14] (fun i wr => ∃ k : Nat, k ≤ O.length ∧ i = .int .i64 (k : Int) ∧ Hid (∀ j, j < k → ¬ Con (O.take j ++ O.drop (j + 1)) (O.getD j Lk.nil).a (O.getD j Lk.nil).b) ∧ Below y2.heap.size y2 wr) (fun i _ => O.length - (intOf i).toNat)
  case atStart => exact ⟨0, Nat.zero_le _, rfl, fun j hj => absurd hj (by omega), Below.refl _ _⟩
  case round =>
    obtain ⟨k, hk1, rfl, hF, kb⟩ := hrel
    by_cases hlt : k < O.length
    · have vw := vO.below kb bO
      obtain ⟨g, off, rfl, _⟩ := vO (by omega)
      obtain ⟨x', hh⟩ : ∃ h, O.getD k Lk.nil = h := ⟨_, rfl⟩
      have hck : LkAtO wr g (off + k * 4) x' := by
        rw [← hh]
        exact lkAtO_of (vw.at_ lkEnc_len Lk.nil hlt)
      have hm := getD_mem hlt
      rw [hh] at hm
      replace hh : Hid _ := hh
      obtain ⟨⟨xa0, xa1⟩, xb0, xb1⟩ := hNO.out x' hm
      clear hm
      obtain ⟨xa, xp, xb, xq⟩ := x'
      dsimp only at xa0 xa1 xb0 xb1
      obtain ⟨i, rfl⟩ := Int.eq_ofNat_of_zero_le xa0
      obtain ⟨j, rfl⟩ := Int.eq_ofNat_of_zero_le xb0
      obtain ⟨c0, c1, c2, c3⟩ := hck
      dsimp only at c0 c1 c2 c3
      obtain ⟨u, hu⟩ : ∃ u, u = wr.alloc (Obj.cells #[.int .i64 (i : Int), .int .i64 xp, .int .i64 (j : Int), .int .i64 xq] 70) := ⟨_, rfl⟩
      have ku : Below wr.heap.size wr u := by rw [hu]; exact below_new _
      have X : LkAtO u wr.heap.size 0 ⟨i, xp, j, xq⟩ := by rw [hu]; constructor <;> simp [go_sem]
      have xl : wr.heap.size < u.heap.size := World.block_lt_of_cell? u _ X.c0
      have bu := kb.trans (ku.mono kb.size)
      have hvO : ∀ Y, Below u.heap.size u Y → FView lkEnc Y (some ⟨g, off, none⟩) O := fun Y hY => vO.below (bu.trans (hY.mono bu.size)) bO
      obtain ⟨ad2, hA2⟩ : ∃ a : Option Addr, Hid ((if cO = k + 1 then some ⟨g, off, none⟩ else some ⟨g, off + (k + 1) * 4, none⟩) = a) := ⟨_, rfl⟩
      have hAn : ad2 ≠ none := by
        rw [← hA2.out]
        split <;> simp
      have hvD : ∀ Y, Below u.heap.size u Y → FView lkEnc Y ad2 (O.drop (k + 1)) := fun Y hY => by
        rw [← hA2.out]
        by_cases e : cO = k + 1
        · rw [show O.drop (k + 1) = [] from List.drop_eq_nil_of_le (by omega)]
          exact FView.nil
        · rw [if_neg e]
          exact (hvO Y hY).drop lkEnc_len (by omega)
      have w3 : IntKind.i64.wrap ((k : Int) + 1) = (k : Int) + 1 := by rw [IntKind.wrap_i64]; omega
      have k3a : 0 ≤ (k : Int) + 1 := by omega
      have k3b : (k : Int) + 1 ≤ (O.length : Int) := by omega
      clear ku vw
      go_upto_region 7 with fail
      rw [← hu]
      clear hu c0 c1 c2 c3
      generalize wr.heap.size = Q at X xl ⊢
      refine wp_region_held (S := fun Y => Below u.heap.size u Y) (by kernel_rfl) ?_
      change wpAnyH _ _ _ _ _ _ _ _ (World.drew _)
      have hb0 : Below u.heap.size u u.drew := (Below.refl _ _).drew
      obtain ⟨u0, hy0⟩ : ∃ y_, y_ = u.drew := ⟨_, rfl⟩
      rw [← hy0] at hb0 ⊢
      clear hy0
      refine takeW 0 19 (.slice (some ⟨g, off, none⟩) O.length cO) rfl rfl (by kernel_rfl) (by kernel_rfl) (by kernel_rfl) (fun _ _ _ h => h) (by kernel_rfl) (by (intro w hSw; go_simp)) (by assumption) ?_
      simp only [List.set_cons_zero, List.set_cons_succ]
      refine takeW 1 20 (.int .i64 (k : Int)) rfl rfl (by kernel_rfl) (by kernel_rfl) (by kernel_rfl) (fun _ _ _ h => h) (by kernel_rfl) (by (intro w hSw; go_simp)) (by assumption) ?_
      simp only [List.set_cons_zero, List.set_cons_succ]
      refine takeW 2 21 (.slice (some ⟨g, off, none⟩) k cO) rfl rfl (by kernel_rfl) (by kernel_rfl) (by kernel_rfl) (fun _ _ _ h => h) (by kernel_rfl) (by (intro Y hSw; go_simp; try omega)) (by assumption) ?_
      simp only [List.set_cons_zero, List.set_cons_succ]
      refine takeW 3 22 (.slice (some ⟨g, off, none⟩) O.length cO) rfl rfl (by kernel_rfl) (by kernel_rfl) (by kernel_rfl) (fun _ _ _ h => h) (by kernel_rfl) (by (intro w hSw; go_simp)) (by assumption) ?_
      simp only [List.set_cons_zero, List.set_cons_succ]
      refine takeW 4 23 (.int .i64 (k : Int)) rfl rfl (by kernel_rfl) (by kernel_rfl) (by kernel_rfl) (fun _ _ _ h => h) (by kernel_rfl) (by (intro w hSw; go_simp)) (by assumption) ?_
      simp only [List.set_cons_zero, List.set_cons_succ]
      refine takeW 5 24 (.int .i64 ((k : Int) + 1)) rfl rfl (by kernel_rfl) (by kernel_rfl) (by kernel_rfl) (fun _ _ _ h => h) (by kernel_rfl) (by (intro w hSw; go_simp)) (by assumption) ?_
      simp only [List.set_cons_zero, List.set_cons_succ]
      refine takeW 6 25 (.slice ad2 (O.length - (k + 1)) (cO - (k + 1))) rfl rfl (by kernel_rfl) (by kernel_rfl) (by kernel_rfl) (fun _ _ _ h => h) (by kernel_rfl) (by (intro Y hSw; go_simp; rw [hA2.out])) (by assumption) ?_
      simp only [List.set_cons_zero, List.set_cons_succ]
      refine wpAnyH_all (rs := [7]) (by kernel_rfl) (by simp) ?_
      intro i hi; obtain rfl : i = 7 := by simpa using hi
      refine wpOp_step rfl (fun Kz hKz => ?_)
      rw [if_pos (by kernel_rfl)]
      go_simp
      have kq : Below u0.heap.size u0 (u0.alloc (Obj.cells #[.slice (some ⟨g, off, none⟩) k cO, .slice ad2 (O.length - (k + 1)) (cO - (k + 1))] 29)) := below_new _
      have hb1 : Below u.heap.size u (u0.alloc (Obj.cells #[.slice (some ⟨g, off, none⟩) k cO, .slice ad2 (O.length - (k + 1)) (cO - (k + 1))] 29)) := hb0.trans (kq.mono hb0.size)
      clear kq
      refine hKz _ _ ⟨hb1, ?_⟩
      clear hKz Kz hi
      refine wpAnyH_all (rs := [8]) (by kernel_rfl) (by simp) ?_
      intro i hi; obtain rfl : i = 8 := by simpa using hi
      refine wpOp_step rfl (fun Kz hKz => ?_)
      rw [if_pos (by kernel_rfl)]
      go_simp
      obtain ⟨u1, hu1⟩ : ∃ y_, y_ = u0.alloc (Obj.cells #[.slice (some ⟨g, off, none⟩) k cO, .slice ad2 (O.length - (k + 1)) (cO - (k + 1))] 29) := ⟨_, rfl⟩
      have q0 : u1.cell? ⟨u0.heap.size, 0, none⟩ = some (.slice (some ⟨g, off, none⟩) k cO) := by rw [hu1]; simp [go_sem]
      have q1 : u1.cell? ⟨u0.heap.size, 1, none⟩ = some (.slice ad2 (O.length - (k + 1)) (cO - (k + 1))) := by rw [hu1]; simp [go_sem]
      rw [← hu1] at hb1 ⊢
      clear hu1
      go_at_call 59
      have hl1 : (O.take k).length = k := by rw [List.length_take]; omega
      have hl2 : (O.drop (k + 1)).length = O.length - (k + 1) := List.length_drop
      refine (concatI u0.heap.size (some ⟨g, off, none⟩) ad2 cO (cO - (k + 1)) (O.take k) (O.drop (k + 1)) u1 (by rw [hl1]; exact q0) (by rw [hl2]; exact q1) ((hvO u1 hb1).take k) (hvD u1 hb1) (fun e => by cases e) (fun e => absurd e hAn) (by omega) (by omega)).mono ?_
      rintro e u2 ⟨aN, cN, rfl, ON, kq⟩
      have hb2 : Below u.heap.size u u2 := hb1.trans (kq.mono hb1.size)
      clear kq hl1 hl2 q0 q1
      obtain ⟨N, hN0⟩ : ∃ N, O.take k ++ O.drop (k + 1) = N := ⟨_, rfl⟩
      rw [hN0] at ON ⊢
      replace hN0 : Hid _ := hN0
      refine hKz _ _ ⟨hb2, ?_⟩
      clear hKz Kz hi
      refine takeW 9 6 (.slice aN N.length cN) rfl rfl (by kernel_rfl) (by kernel_rfl) (by kernel_rfl) (fun _ _ _ h => h) (by kernel_rfl) (by (intro w hSw; go_simp)) (by assumption) ?_
      simp only [List.set_cons_zero, List.set_cons_succ]
      refine wpAnyH_done (by kernel_rfl) ?_ _
      have X2_ := X.below hb2 xl
      have xl2 := Nat.lt_of_lt_of_le xl hb2.size
      have bz := bu.trans (hb2.mono bu.size)
      have hlN : N.length ≤ 1048576 := by
        rw [← hN0.out, List.length_append, List.length_take, List.length_drop]
        omega
      have hN5 : Hid (InN N 5) := by
        unfold Hid
        rw [← hN0.out]
        exact hNO.out.sub (fun l hl => by
          rcases List.mem_append.1 hl with q | q
          · exact List.mem_of_mem_take q
          · exact List.mem_of_mem_drop q)
      have VN0 := ON.view.2
      clear hb0 hb1 X bu hvO ON xl hvD hAn hA2 w3 k3a k3b
      obtain ⟨z, hz⟩ : ∃ z, z = u2 := ⟨_, rfl⟩
      rw [← hz] at VN0 X2_ xl2 bz hb2 ⊢
      clear hz hb2
      have VN : ∀ Y, Below z.heap.size z Y → FView lkEnc Y aN N := fun Y hY => VN0.below hY (VN0.lt lkEnc_len (by omega))
      clear VN0
      go_upto_region 8 with fail
      refine wp_region_held (S := fun Y => Below z.heap.size z Y) (by kernel_rfl) ?_
      change wpAnyH _ _ _ _ _ _ _ _ (World.drew _)
      have hb0 : Below z.heap.size z z.drew := (Below.refl _ _).drew
      obtain ⟨u0, hy0⟩ : ∃ y_, y_ = z.drew := ⟨_, rfl⟩
      rw [← hy0] at hb0 ⊢
      clear hy0
      refine takeW 0 28 (.slice aN N.length cN) rfl rfl (by kernel_rfl) (by kernel_rfl) (by kernel_rfl) (fun _ _ _ h => h) (by kernel_rfl) (by (intro w hSw; go_simp)) (by assumption) ?_
      simp only [List.set_cons_zero, List.set_cons_succ]
      refine takeW 1 29 (.pointer (some ⟨Q, 0, none⟩)) rfl rfl (by kernel_rfl) (by kernel_rfl) (by kernel_rfl) (fun _ _ _ h => h) (by kernel_rfl) (by (intro w hSw; go_simp)) (by assumption) ?_
      simp only [List.set_cons_zero, List.set_cons_succ]
      refine takeW 2 30 (.int .i64 (i : Int)) rfl rfl (by kernel_rfl) (by kernel_rfl) (by kernel_rfl) (fun _ _ _ h => h) (by kernel_rfl) (by (intro Y hSw; obtain ⟨X0, X1, X2, X3⟩ := X2_.below hSw xl2; go_simp)) (by assumption) ?_
      simp only [List.set_cons_zero, List.set_cons_succ]
      refine takeW 4 32 (.pointer (some ⟨Q, 2, none⟩)) rfl rfl (by kernel_rfl) (by kernel_rfl) (by kernel_rfl) (fun _ _ _ h => h) (by kernel_rfl) (by (intro w hSw; go_simp)) (by assumption) ?_
      simp only [List.set_cons_zero, List.set_cons_succ]
      refine takeW 5 33 (.int .i64 (j : Int)) rfl rfl (by kernel_rfl) (by kernel_rfl) (by kernel_rfl) (fun _ _ _ h => h) (by kernel_rfl) (by (intro Y hSw; obtain ⟨X0, X1, X2, X3⟩ := X2_.below hSw xl2; go_simp)) (by assumption) ?_
      simp only [List.set_cons_zero, List.set_cons_succ]
      refine wpAnyH_all (rs := [3]) (by kernel_rfl) (by simp) ?_
      intro i hi; obtain rfl : i = 3 := by simpa using hi
      refine wpOp_step rfl (fun Kz hKz => ?_)
      rw [if_pos (by kernel_rfl)]
      go_simp
      go_at_call 27
      refine (cameI aN cN N i u0 (VN u0 hb0) (by omega) (by omega) hN5.out).mono ?_
      rintro e u1 ⟨M, hM, rfl, kq⟩
      have hb1 : Below z.heap.size z u1 := hb0.trans (kq.mono hb0.size)
      clear kq
      obtain ⟨b0, g0⟩ : ∃ b, M.getD 0 false = b := ⟨_, rfl⟩
      obtain ⟨b1, g1⟩ : ∃ b, M.getD 1 false = b := ⟨_, rfl⟩
      obtain ⟨b2, g2⟩ : ∃ b, M.getD 2 false = b := ⟨_, rfl⟩
      obtain ⟨b3, g3⟩ : ∃ b, M.getD 3 false = b := ⟨_, rfl⟩
      obtain ⟨b4, g4⟩ : ∃ b, M.getD 4 false = b := ⟨_, rfl⟩
      rw [g0, g1, g2, g3, g4]
      have ix := ix5 M g0 g1 g2 g3 g4 j (by omega)
      clear g0 g1 g2 g3 g4
      obtain ⟨o, ho⟩ : ∃ o, M.getD j false = o := ⟨_, rfl⟩
      have hcon : Hid (o = true ↔ Con N (i : Int) (j : Int)) := by unfold Hid; rw [← ho]; exact hM.is j (by omega)
      rw [ho] at ix
      clear ho hM
      refine hKz _ _ ⟨hb1, ?_⟩
      clear hKz Kz hi
      refine takeW 6 34 (.bool o) rfl rfl (by kernel_rfl) (by kernel_rfl) (by kernel_rfl) (fun _ _ _ h => h) (by kernel_rfl) (by (intro Y hSw; go_simp)) (by assumption) ?_
      simp only [List.set_cons_zero, List.set_cons_succ]
      refine wpAnyH_done (by kernel_rfl) ?_ _
      have bZ := bz.trans (hb1.mono bz.size)
      clear hb0 hb1 X2_ VN bz
      cases o
      · have hno : Hid (¬ Con (O.take k ++ O.drop (k + 1)) (i : Int) (j : Int)) := by
          unfold Hid
          rw [hN0.out]
          intro q
          have := hcon.out.2 q
          cases this
        go_wp2
        go_roundw
        case rel =>
          refine ⟨k + 1, by omega, by go_num, fun j' hj => ?_, bZ⟩
          by_cases ej : j' = k
          · rw [ej, hh.out]; exact hno.out
          · exact hF.out j' (by omega)
        case measure => simp [intOf]; omega
      · have hyes : Hid (Con (O.take k ++ O.drop (k + 1)) (i : Int) (j : Int)) := by
          unfold Hid
          rw [hN0.out]
          exact hcon.out.1 rfl
        have BZ := B2.trans (bZ.mono B2.size)
        go_wp2
        go_ret
        refine ⟨YN.no (fun h => ?_), BZ⟩
        have := hQ.out.1 h k hlt
        rw [hh.out] at this
        exact this hyes.out
    · obtain rfl : k = O.length := by omega
      have BZ := B2.trans (kb.mono B2.size)
      go_wp2
      go_ret
      exact ⟨YN.yes (hQ.out.2 hF.out), BZ⟩

end Go.Proofs.Ytdfjfodfnildiab
namespace Go.Proofs.Ytdfjfodfnildiab
open Go.ChangeShapes Go.WideShapes Go.ChangeAt Go.RowKit
open Go.ChangeMaps (open_string shut_string)
set_option linter.unusedVariables false
set_option maxRecDepth 100000

set_option maxHeartbeats 16000000 in
theorem ringS (adB : Option Addr) (capB : Nat) (Bs : List Bd) (adK : Option Addr) (capK : Nat) (K : List Lk) (w : World) (h : NN w adB Bs adK K) :
    Calls Try.prog 34 #[.agg #[.slice adB Bs.length capB, .slice adK K.length capK]] w fun e w' => YN e (NetP (dB Bs) K ∧ RingP (openB (dB Bs)) K) ∧ Below w.heap.size w w' := by
  suffices H : ∀ PQ : Prop, Hid (PQ ↔ NetP (dB Bs) K ∧ RingP (openB (dB Bs)) K) → Calls Try.prog 34 #[.agg #[.slice adB Bs.length capB, .slice adK K.length capK]] w fun e w' => YN e PQ ∧ Below w.heap.size w w' from H _ Iff.rfl
  intro PQ hQ0
  obtain ⟨y, hy⟩ : ∃ y, y = w.alloc (Obj.cells #[.slice adB Bs.length capB, .slice adK K.length capK] 31) := ⟨_, rfl⟩
  have B0 : Below w.heap.size w y := by rw [hy]; exact below_new _
  have A : NeAt y w.heap.size (.slice adB Bs.length capB) (.slice adK K.length capK) := by rw [hy]; exact NeAt.new w _
  have hN := h.later B0
  have hk := h.hk
  have hlB := h.hl
  clear h
  by_cases hok : NetP (dB Bs) K
  rotate_left
  · replace hok : Hid _ := hok
    go_enter Try.func34, Try.ntmps34
    go_wp2_with fail
    go_at_call 21
    rw [← hy]
    clear hy
    refine (netOkS adB capB Bs adK capK K y hN).mono ?_
    rintro e y1 ⟨⟨R1, rfl, hR1⟩, kq⟩
    obtain rfl := bool_no hR1 hok.out
    clear hR1
    have B1 := B0.trans (kq.mono B0.size)
    have A := A.below kq A.lt
    have hN := hN.later kq
    clear kq B0
    go_wp2
    go_ret
    exact ⟨YN.no (fun h => hok.out (hQ0.out.1 h).1), B1⟩
  replace hok : Hid _ := hok
  have h5 : Bs.length ≤ 5 := by have := hok.out.many.2; rwa [dB_len] at this
  have hNn : Hid (InN K Bs.length) := by have := hok.out.inN; rw [dB_len] at this; exact this
  have hQ : Hid (PQ ↔ ∀ k, k < K.length → openB (dB Bs) (K.getD k Lk.nil) = true → ¬ Con (selL (pickF (dB Bs) false (k : Int)) 0 K) (K.getD k Lk.nil).a (K.getD k Lk.nil).b) := by
    unfold Hid
    rw [← ring_sel, hQ0.out]
    exact ⟨fun q => q.2, fun q => ⟨hok.out, q⟩⟩
  clear hQ0
  go_enter Try.func34, Try.ntmps34
  go_wp2_with fail
  go_at_call 21
  rw [← hy]
  clear hy
  refine (netOkS adB capB Bs adK capK K y hN).mono ?_
  rintro e y1 ⟨⟨R1, rfl, hR1⟩, kq⟩
  obtain rfl : R1 = true := hR1.2 hok.out
  clear hR1
  have B1 := B0.trans (kq.mono B0.size)
  have A := A.below kq A.lt
  have hN := hN.later kq
  clear kq B0
  have cc := A
  obtain ⟨a0, a1⟩ := cc
  go_wp2
  clear a0 a1
  go_loopw [3] (fun q wr => ∃ k : Nat, k ≤ K.length ∧ q = .int .i64 (k : Int) ∧ Hid (∀ j, j < k → openB (dB Bs) (K.getD j Lk.nil) = true → ¬ Con (selL (pickF (dB Bs) false (j : Int)) 0 K) (K.getD j Lk.nil).a (K.getD j Lk.nil).b) ∧ Below y1.heap.size y1 wr) (fun q _ => K.length - (intOf q).toNat)
  case atStart => exact ⟨0, Nat.zero_le _, rfl, fun j hj => absurd hj (by omega), Below.refl _ _⟩
  case round =>
    obtain ⟨k, hk1, rfl, hF, kb⟩ := hrel
    have A := A.below kb A.lt
    have cc := A
    obtain ⟨a0, a1⟩ := cc
    by_cases hlt : k < K.length
    · have hNr := hN.later kb
      obtain ⟨b, off, rfl, _⟩ := hN.vk (by omega)
      have hNw : ∀ Y, Below wr.heap.size wr Y → NN Y adB Bs (some ⟨b, off, none⟩) K := fun Y hY => hNr.later hY
      obtain ⟨x', hh⟩ : ∃ h, K.getD k Lk.nil = h := ⟨_, rfl⟩
      have hx : ∀ Y, Below wr.heap.size wr Y → LkAtO Y b (off + k * 4) x' := fun Y hY => by
        rw [← hh]
        exact lkAtO_of ((hNw Y hY).vk.at_ lkEnc_len Lk.nil hlt)
      have hm := getD_mem hlt
      rw [hh] at hm
      have hpp : Hid (openB (dB Bs) x' = true ↔ PassP (dB Bs) K (k : Int)) := by
        unfold Hid PassP
        simp only [Int.toNat_natCast]
        rw [hh]
        exact ⟨fun h => ⟨hok.out, by omega, by omega, h⟩, fun h => h.2.2.2⟩
      replace hh : Hid _ := hh
      obtain ⟨⟨xa0, xa1⟩, xb0, xb1⟩ := hNn.out x' hm
      clear hm hNr
      obtain ⟨xa, xp, xb, xq⟩ := x'
      dsimp only at xa0 xa1 xb0 xb1
      obtain ⟨i, rfl⟩ := Int.eq_ofNat_of_zero_le xa0
      obtain ⟨j, rfl⟩ := Int.eq_ofNat_of_zero_le xb0
      by_cases hop : openB (dB Bs) ⟨i, xp, j, xq⟩ = true
      rotate_left
      · replace hop : Hid _ := hop
        go_upto_region 6 with fail
        clear a0 a1
        refine wp_region_held (S := fun Y => Below wr.heap.size wr Y) (by kernel_rfl) ?_
        change wpAnyH _ _ _ _ _ _ _ _ (World.drew _)
        have hb0 : Below wr.heap.size wr wr.drew := (Below.refl _ _).drew
        obtain ⟨u0, hy0⟩ : ∃ y_, y_ = wr.drew := ⟨_, rfl⟩
        rw [← hy0] at hb0 ⊢
        clear hy0
        refine takeW 0 14 (.agg #[.slice adB Bs.length capB, .slice (some ⟨b, off, none⟩) K.length capK]) rfl rfl (by kernel_rfl) (by kernel_rfl) (by kernel_rfl) (fun _ _ _ h => h) (by kernel_rfl) (by (intro Y hSw; obtain ⟨X0, X1⟩ := A.below hSw A.lt; go_simp)) (by assumption) ?_
        simp only [List.set_cons_zero, List.set_cons_succ]
        refine takeW 1 15 (.int .i64 (k : Int)) rfl rfl (by kernel_rfl) (by kernel_rfl) (by kernel_rfl) (fun _ _ _ h => h) (by kernel_rfl) (by (intro w hSw; go_simp)) (by assumption) ?_
        simp only [List.set_cons_zero, List.set_cons_succ]
        refine wpAnyH_all (rs := [2]) (by kernel_rfl) (by simp) ?_
        intro i hi; obtain rfl : i = 2 := by simpa using hi
        refine wpOp_step rfl (fun Kz hKz => ?_)
        rw [if_pos (by kernel_rfl)]
        go_simp
        go_at_call 43
        refine (passS adB capB Bs (some ⟨b, off, none⟩) capK K (k : Int) u0 (hNw u0 hb0)).mono ?_
        rintro e u1 ⟨⟨R1, rfl, hR1⟩, kq⟩
        have hb1 : Below wr.heap.size wr u1 := hb0.trans (kq.mono hb0.size)
        clear kq
        obtain rfl := bool_no hR1 (fun q => hop.out (hpp.out.2 q))
        clear hR1
        refine hKz _ _ ⟨hb1, ?_⟩
        clear hKz Kz hi
        refine takeW 3 17 (.bool false) rfl rfl (by kernel_rfl) (by kernel_rfl) (by kernel_rfl) (fun _ _ _ h => h) (by kernel_rfl) (by (intro w hSw; go_simp)) (by assumption) ?_
        simp only [List.set_cons_zero, List.set_cons_succ]
        refine takeS 4 18 rfl rfl (by kernel_rfl) (by kernel_rfl) (by kernel_rfl) (fun _ _ _ h => h) (by kernel_rfl) (by assumption) ?_
        simp only [List.set_cons_zero, List.set_cons_succ]
        refine takeS 5 19 rfl rfl (by kernel_rfl) (by kernel_rfl) (by kernel_rfl) (fun _ _ _ h => h) (by kernel_rfl) (by assumption) ?_
        simp only [List.set_cons_zero, List.set_cons_succ]
        refine takeS 6 20 rfl rfl (by kernel_rfl) (by kernel_rfl) (by kernel_rfl) (fun _ _ _ h => h) (by kernel_rfl) (by assumption) ?_
        simp only [List.set_cons_zero, List.set_cons_succ]
        refine takeS 7 21 rfl rfl (by kernel_rfl) (by kernel_rfl) (by kernel_rfl) (fun _ _ _ h => h) (by kernel_rfl) (by assumption) ?_
        simp only [List.set_cons_zero, List.set_cons_succ]
        refine takeS 8 22 rfl rfl (by kernel_rfl) (by kernel_rfl) (by kernel_rfl) (fun _ _ _ h => h) (by kernel_rfl) (by assumption) ?_
        simp only [List.set_cons_zero, List.set_cons_succ]
        refine takeS 9 23 rfl rfl (by kernel_rfl) (by kernel_rfl) (by kernel_rfl) (fun _ _ _ h => h) (by kernel_rfl) (by assumption) ?_
        simp only [List.set_cons_zero, List.set_cons_succ]
        refine takeS 10 24 rfl rfl (by kernel_rfl) (by kernel_rfl) (by kernel_rfl) (fun _ _ _ h => h) (by kernel_rfl) (by assumption) ?_
        simp only [List.set_cons_zero, List.set_cons_succ]
        refine takeS 11 25 rfl rfl (by kernel_rfl) (by kernel_rfl) (by kernel_rfl) (fun _ _ _ h => h) (by kernel_rfl) (by assumption) ?_
        simp only [List.set_cons_zero, List.set_cons_succ]
        refine takeS 12 26 rfl rfl (by kernel_rfl) (by kernel_rfl) (by kernel_rfl) (fun _ _ _ h => h) (by kernel_rfl) (by assumption) ?_
        simp only [List.set_cons_zero, List.set_cons_succ]
        refine takeS 13 27 rfl rfl (by kernel_rfl) (by kernel_rfl) (by kernel_rfl) (fun _ _ _ h => h) (by kernel_rfl) (by assumption) ?_
        simp only [List.set_cons_zero, List.set_cons_succ]
        refine takeS 14 28 rfl rfl (by kernel_rfl) (by kernel_rfl) (by kernel_rfl) (fun _ _ _ h => h) (by kernel_rfl) (by assumption) ?_
        simp only [List.set_cons_zero, List.set_cons_succ]
        refine takeS 15 29 rfl rfl (by kernel_rfl) (by kernel_rfl) (by kernel_rfl) (fun _ _ _ h => h) (by kernel_rfl) (by assumption) ?_
        simp only [List.set_cons_zero, List.set_cons_succ]
        refine takeS 16 30 rfl rfl (by kernel_rfl) (by kernel_rfl) (by kernel_rfl) (fun _ _ _ h => h) (by kernel_rfl) (by assumption) ?_
        simp only [List.set_cons_zero, List.set_cons_succ]
        refine takeS 17 31 rfl rfl (by kernel_rfl) (by kernel_rfl) (by kernel_rfl) (fun _ _ _ h => h) (by kernel_rfl) (by assumption) ?_
        simp only [List.set_cons_zero, List.set_cons_succ]
        refine takeS 18 32 rfl rfl (by kernel_rfl) (by kernel_rfl) (by kernel_rfl) (fun _ _ _ h => h) (by kernel_rfl) (by assumption) ?_
        simp only [List.set_cons_zero, List.set_cons_succ]
        refine takeS 19 33 rfl rfl (by kernel_rfl) (by kernel_rfl) (by kernel_rfl) (fun _ _ _ h => h) (by kernel_rfl) (by assumption) ?_
        simp only [List.set_cons_zero, List.set_cons_succ]
        refine takeW 20 34 (.bool false) rfl rfl (by kernel_rfl) (by kernel_rfl) (by kernel_rfl) (fun _ _ _ h => h) (by kernel_rfl) (by (intro w hSw; go_simp)) (by assumption) ?_
        simp only [List.set_cons_zero, List.set_cons_succ]
        refine wpAnyH_done (by kernel_rfl) ?_ _
        have bZ := kb.trans (hb1.mono kb.size)
        go_wp2
        go_roundw
        case rel =>
          refine ⟨k + 1, by omega, by go_num, fun j' hj ho => ?_, bZ⟩
          by_cases ej : j' = k
          · rw [ej, hh.out] at ho; exact absurd ho hop.out
          · exact hF.out j' (by omega) ho
        case measure => simp [intOf]; omega
      replace hop : Hid _ := hop
      go_upto_region 6 with fail
      clear a0 a1
      refine wp_region_held (S := fun Y => Below wr.heap.size wr Y) (by kernel_rfl) ?_
      change wpAnyH _ _ _ _ _ _ _ _ (World.drew _)
      have hb0 : Below wr.heap.size wr wr.drew := (Below.refl _ _).drew
      obtain ⟨u0, hy0⟩ : ∃ y_, y_ = wr.drew := ⟨_, rfl⟩
      rw [← hy0] at hb0 ⊢
      clear hy0
      refine takeW 0 14 (.agg #[.slice adB Bs.length capB, .slice (some ⟨b, off, none⟩) K.length capK]) rfl rfl (by kernel_rfl) (by kernel_rfl) (by kernel_rfl) (fun _ _ _ h => h) (by kernel_rfl) (by (intro Y hSw; obtain ⟨X0, X1⟩ := A.below hSw A.lt; go_simp)) (by assumption) ?_
      simp only [List.set_cons_zero, List.set_cons_succ]
      refine takeW 1 15 (.int .i64 (k : Int)) rfl rfl (by kernel_rfl) (by kernel_rfl) (by kernel_rfl) (fun _ _ _ h => h) (by kernel_rfl) (by (intro w hSw; go_simp)) (by assumption) ?_
      simp only [List.set_cons_zero, List.set_cons_succ]
      refine wpAnyH_all (rs := [2]) (by kernel_rfl) (by simp) ?_
      intro i hi; obtain rfl : i = 2 := by simpa using hi
      refine wpOp_step rfl (fun Kz hKz => ?_)
      rw [if_pos (by kernel_rfl)]
      go_simp
      go_at_call 43
      refine (passS adB capB Bs (some ⟨b, off, none⟩) capK K (k : Int) u0 (hNw u0 hb0)).mono ?_
      rintro e u1 ⟨⟨R1, rfl, hR1⟩, kq⟩
      have hb1 : Below wr.heap.size wr u1 := hb0.trans (kq.mono hb0.size)
      clear kq
      obtain rfl : R1 = true := hR1.2 (hpp.out.1 hop.out)
      clear hR1
      refine hKz _ _ ⟨hb1, ?_⟩
      clear hKz Kz hi
      refine takeW 3 17 (.bool true) rfl rfl (by kernel_rfl) (by kernel_rfl) (by kernel_rfl) (fun _ _ _ h => h) (by kernel_rfl) (by (intro w hSw; go_simp)) (by assumption) ?_
      simp only [List.set_cons_zero, List.set_cons_succ]
      refine takeW 4 18 (.agg #[.slice adB Bs.length capB, .slice (some ⟨b, off, none⟩) K.length capK]) rfl rfl (by kernel_rfl) (by kernel_rfl) (by kernel_rfl) (fun _ _ _ h => h) (by kernel_rfl) (by (intro Y hSw; obtain ⟨X0, X1⟩ := A.below hSw A.lt; go_simp)) (by assumption) ?_
      simp only [List.set_cons_zero, List.set_cons_succ]
      refine takeW 5 19 (.pointer (some ⟨w.heap.size, 1, none⟩)) rfl rfl (by kernel_rfl) (by kernel_rfl) (by kernel_rfl) (fun _ _ _ h => h) (by kernel_rfl) (by (intro w hSw; go_simp)) (by assumption) ?_
      simp only [List.set_cons_zero, List.set_cons_succ]
      refine takeW 6 20 (.slice (some ⟨b, off, none⟩) K.length capK) rfl rfl (by kernel_rfl) (by kernel_rfl) (by kernel_rfl) (fun _ _ _ h => h) (by kernel_rfl) (by (intro Y hSw; obtain ⟨X0, X1⟩ := A.below hSw A.lt; go_simp)) (by assumption) ?_
      simp only [List.set_cons_zero, List.set_cons_succ]
      refine takeW 7 21 (.int .i64 (k : Int)) rfl rfl (by kernel_rfl) (by kernel_rfl) (by kernel_rfl) (fun _ _ _ h => h) (by kernel_rfl) (by (intro w hSw; go_simp)) (by assumption) ?_
      simp only [List.set_cons_zero, List.set_cons_succ]
      refine takeW 8 22 (.pointer (some ⟨b, off + k * 4, none⟩)) rfl rfl (by kernel_rfl) (by kernel_rfl) (by kernel_rfl) (fun _ _ _ h => h) (by kernel_rfl) (by (intro Y hSw; go_simp; try omega)) (by assumption) ?_
      simp only [List.set_cons_zero, List.set_cons_succ]
      refine takeW 9 23 (.pointer (some ⟨b, off + k * 4, none⟩)) rfl rfl (by kernel_rfl) (by kernel_rfl) (by kernel_rfl) (fun _ _ _ h => h) (by kernel_rfl) (by (intro w hSw; go_simp)) (by assumption) ?_
      simp only [List.set_cons_zero, List.set_cons_succ]
      refine takeW 10 24 (.int .i64 (i : Int)) rfl rfl (by kernel_rfl) (by kernel_rfl) (by kernel_rfl) (fun _ _ _ h => h) (by kernel_rfl) (by (intro Y hSw; obtain ⟨X0, X1, X2, X3⟩ := hx Y hSw; go_simp)) (by assumption) ?_
      simp only [List.set_cons_zero, List.set_cons_succ]
      refine takeW 11 25 (.int .i64 (k : Int)) rfl rfl (by kernel_rfl) (by kernel_rfl) (by kernel_rfl) (fun _ _ _ h => h) (by kernel_rfl) (by (intro w hSw; go_simp)) (by assumption) ?_
      simp only [List.set_cons_zero, List.set_cons_succ]
      refine takeW 13 27 (.pointer (some ⟨w.heap.size, 1, none⟩)) rfl rfl (by kernel_rfl) (by kernel_rfl) (by kernel_rfl) (fun _ _ _ h => h) (by kernel_rfl) (by (intro w hSw; go_simp)) (by assumption) ?_
      simp only [List.set_cons_zero, List.set_cons_succ]
      refine takeW 14 28 (.slice (some ⟨b, off, none⟩) K.length capK) rfl rfl (by kernel_rfl) (by kernel_rfl) (by kernel_rfl) (fun _ _ _ h => h) (by kernel_rfl) (by (intro Y hSw; obtain ⟨X0, X1⟩ := A.below hSw A.lt; go_simp)) (by assumption) ?_
      simp only [List.set_cons_zero, List.set_cons_succ]
      refine takeW 15 29 (.int .i64 (k : Int)) rfl rfl (by kernel_rfl) (by kernel_rfl) (by kernel_rfl) (fun _ _ _ h => h) (by kernel_rfl) (by (intro w hSw; go_simp)) (by assumption) ?_
      simp only [List.set_cons_zero, List.set_cons_succ]
      refine takeW 16 30 (.pointer (some ⟨b, off + k * 4, none⟩)) rfl rfl (by kernel_rfl) (by kernel_rfl) (by kernel_rfl) (fun _ _ _ h => h) (by kernel_rfl) (by (intro Y hSw; go_simp; try omega)) (by assumption) ?_
      simp only [List.set_cons_zero, List.set_cons_succ]
      refine takeW 17 31 (.pointer (some ⟨b, off + k * 4 + 2, none⟩)) rfl rfl (by kernel_rfl) (by kernel_rfl) (by kernel_rfl) (fun _ _ _ h => h) (by kernel_rfl) (by (intro w hSw; go_simp)) (by assumption) ?_
      simp only [List.set_cons_zero, List.set_cons_succ]
      refine takeW 18 32 (.int .i64 (j : Int)) rfl rfl (by kernel_rfl) (by kernel_rfl) (by kernel_rfl) (fun _ _ _ h => h) (by kernel_rfl) (by (intro Y hSw; obtain ⟨X0, X1, X2, X3⟩ := hx Y hSw; go_simp)) (by assumption) ?_
      simp only [List.set_cons_zero, List.set_cons_succ]
      refine wpAnyH_all (rs := [12]) (by kernel_rfl) (by simp) ?_
      intro i hi; obtain rfl : i = 12 := by simpa using hi
      refine wpOp_step rfl (fun Kz hKz => ?_)
      rw [if_pos (by kernel_rfl)]
      go_simp
      go_at_call 22
      refine (reachL adB capB Bs (some ⟨b, off, none⟩) capK K i false (k : Int) u1 (hNw u1 hb1) hok (by omega)).mono ?_
      rintro e u2 ⟨M, aN, cN, hM, rfl, ON, kq⟩
      have hb2 : Below wr.heap.size wr u2 := hb1.trans (kq.mono hb1.size)
      clear kq
      replace hM : Hid _ := hM
      refine hKz _ _ ⟨hb2, ?_⟩
      clear hKz Kz hi
      refine wpAnyH_all (rs := [19]) (by kernel_rfl) (by simp) ?_
      intro i hi; obtain rfl : i = 19 := by simpa using hi
      refine wpOp_step rfl (fun Kz hKz => ?_)
      rw [if_pos (by kernel_rfl)]
      go_simp
      go_at_call 58
      refine (l4Has aN (idx 0 M).length cN (fun i => (idx 0 M).getD i 0) (j : Int) u2 ON.view.2.toI (by have := idx_len M 0; have := hM.out.len; unfold maxLen; omega)).mono ?_
      rintro e u3 ⟨rfl, hw3⟩
      obtain rfl := hw3.symm
      obtain ⟨R, hR⟩ : ∃ R, hasIn (fun i => (idx 0 M).getD i 0) (idx 0 M).length (j : Int) = R := ⟨_, rfl⟩
      have hcon : Hid (R = true ↔ Con (selL (pickF (dB Bs) false (k : Int)) 0 K) (i : Int) (j : Int)) := by unfold Hid; rw [← hR, has_mem, marks_in hM.out ⟨by omega, by omega⟩]
      rw [hR]
      clear hR ON hM
      refine hKz _ _ ⟨hb2, ?_⟩
      clear hKz Kz hi
      refine takeW 20 34 (.bool R) rfl rfl (by kernel_rfl) (by kernel_rfl) (by kernel_rfl) (fun _ _ _ h => h) (by kernel_rfl) (by (intro w hSw; go_simp)) (by assumption) ?_
      simp only [List.set_cons_zero, List.set_cons_succ]
      refine wpAnyH_done (by kernel_rfl) ?_ _
      have bZ := kb.trans (hb2.mono kb.size)
      clear hb0 hb1 hb2
      cases R
      · have hno : Hid (¬ Con (selL (pickF (dB Bs) false (k : Int)) 0 K) (i : Int) (j : Int)) := by
          unfold Hid
          intro q
          have := hcon.out.2 q
          cases this
        go_wp2
        go_roundw
        case rel =>
          refine ⟨k + 1, by omega, by go_num, fun j' hj ho => ?_, bZ⟩
          by_cases ej : j' = k
          · rw [ej, hh.out]; exact hno.out
          · exact hF.out j' (by omega) ho
        case measure => simp [intOf]; omega
      · have hyes : Hid (Con (selL (pickF (dB Bs) false (k : Int)) 0 K) (i : Int) (j : Int)) := hcon.out.1 rfl
        have BZ := B1.trans (bZ.mono B1.size)
        go_wp2
        go_ret
        refine ⟨YN.no (fun h => ?_), BZ⟩
        have := hQ.out.1 h k hlt (by rw [hh.out]; exact hop.out)
        rw [hh.out] at this
        exact this hyes.out
    · obtain rfl : k = K.length := by omega
      have BZ := B1.trans (kb.mono B1.size)
      go_wp2
      go_ret
      exact ⟨YN.yes (hQ.out.2 hF.out), BZ⟩

end Go.Proofs.Ytdfjfodfnildiab
namespace Go.Proofs.Ytdfjfodfnildiab
open Go.ChangeShapes Go.WideShapes Go.ChangeAt Go.RowKit
open Go.ChangeMaps (open_string shut_string)
set_option linter.unusedVariables false
set_option maxRecDepth 100000

theorem info4x : ∃ i, Try.prog.info? 4 = some i := by
  have h : (Try.prog.info? 4).isSome = true := by kernel_rfl
  exact Option.isSome_iff_exists.1 h
theorem eq5 (w : World) (a0 a1 a2 a3 a4 b0 b1 b2 b3 b4 : Bool) : (Op.equalIn 10000 46 (.agg #[.bool a0, .bool a1, .bool a2, .bool a3, .bool a4]) (.agg #[.bool b0, .bool b1, .bool b2, .bool b3, .bool b4])).run Try.prog w = .ok (a0 == b0 && (a1 == b1 && (a2 == b2 && (a3 == b3 && a4 == b4)))) w := by
  obtain ⟨i, hi⟩ := info4x
  have hc : Try.prog.cellsOf 4 = 1 := by kernel_rfl
  have hu : Try.prog.underlying 46 = some (.array 5 4) := by kernel_rfl
  rw [run_equalIn_array w 9999 _ _ hu hi, hc]
  have h4 : Try.prog.underlying 4 = some .bool := by kernel_rfl
  have hb0 : ∀ (d : Nat) (a b : Bool), (Op.equalIn (d + 1) 4 (.bool a) (.bool b)).run Try.prog w = .ok (a == b) w := fun d a b => by
    simp only [Op.equalIn, Sem.run_bind, run_underlying h4, Result.andThen_ok, Sem.run_pure]
  have hb : ∀ (a b : Bool), (Op.equalIn 9999 4 (.bool a) (.bool b)).run Try.prog w = .ok (a == b) w := hb0 9998
  have hp : Try.prog.plainKey 4 = true := by kernel_rfl
  have p0 : ∀ (x0 x1 x2 x3 x4 : Value), (part 4 #[x0, x1, x2, x3, x4] 0).run Try.prog w = .ok x0 w := fun x0 x1 x2 x3 x4 => run_part_plain w hp rfl
  have p1 : ∀ (x0 x1 x2 x3 x4 : Value), (part 4 #[x0, x1, x2, x3, x4] 1).run Try.prog w = .ok x1 w := fun x0 x1 x2 x3 x4 => run_part_plain w hp rfl
  have p2 : ∀ (x0 x1 x2 x3 x4 : Value), (part 4 #[x0, x1, x2, x3, x4] 2).run Try.prog w = .ok x2 w := fun x0 x1 x2 x3 x4 => run_part_plain w hp rfl
  have p3 : ∀ (x0 x1 x2 x3 x4 : Value), (part 4 #[x0, x1, x2, x3, x4] 3).run Try.prog w = .ok x3 w := fun x0 x1 x2 x3 x4 => run_part_plain w hp rfl
  have p4 : ∀ (x0 x1 x2 x3 x4 : Value), (part 4 #[x0, x1, x2, x3, x4] 4).run Try.prog w = .ok x4 w := fun x0 x1 x2 x3 x4 => run_part_plain w hp rfl
  simp only [show List.range 5 = [0, 1, 2, 3, 4] from rfl, Op.eqItems, Sem.run_bind, Nat.mul_one]
  rw [p0, Result.andThen_ok, p0, Result.andThen_ok, hb, Result.andThen_ok]
  cases a0 == b0
  · simp
  simp only [Bool.not_true, Bool.false_eq_true, if_false, Sem.run_bind, Bool.true_and]
  rw [p1, Result.andThen_ok, p1, Result.andThen_ok, hb, Result.andThen_ok]
  cases a1 == b1
  · simp
  simp only [Bool.not_true, Bool.false_eq_true, if_false, Sem.run_bind, Bool.true_and]
  rw [p2, Result.andThen_ok, p2, Result.andThen_ok, hb, Result.andThen_ok]
  cases a2 == b2
  · simp
  simp only [Bool.not_true, Bool.false_eq_true, if_false, Sem.run_bind, Bool.true_and]
  rw [p3, Result.andThen_ok, p3, Result.andThen_ok, hb, Result.andThen_ok]
  cases a3 == b3
  · simp
  simp only [Bool.not_true, Bool.false_eq_true, if_false, Sem.run_bind, Bool.true_and]
  rw [p4, Result.andThen_ok, p4, Result.andThen_ok, hb, Result.andThen_ok]
  cases a4 == b4 <;> simp
theorem eq5_is {M N : List Bool} (hM : M.length = 5) (hN : N.length = 5) : ((M.getD 0 false == N.getD 0 false && (M.getD 1 false == N.getD 1 false && (M.getD 2 false == N.getD 2 false && (M.getD 3 false == N.getD 3 false && M.getD 4 false == N.getD 4 false)))) = true ↔ M = N) := by
  constructor
  · intro h
    simp only [Bool.and_eq_true, beq_iff_eq] at h
    rw [list5 hM, list5 hN, h.1, h.2.1, h.2.2.1, h.2.2.2.1, h.2.2.2.2]
  · intro h
    subst h
    simp
/-- Where nobody can be left out, asked of one of them. -/
def SpanAt (p : Lk → Bool) (K : List Lk) (n i : Nat) : Prop := ∀ j : Nat, j < n → Con K (i : Int) (j : Int) → Con (K.filter p) (i : Int) (j : Int)
theorem span_five {p : Lk → Bool} {K : List Lk} {n i : Nat} {M N : List Bool} (hK : InN K n) (hn : n ≤ 5) (hi : i < n) (hM : Marks K 5 (i : Int) M) (hN : Marks (K.filter p) 5 (i : Int) N) : N = M ↔ SpanAt p K n i := by
  rw [span_eq hM hN]
  constructor
  · exact fun h j hj => h j (by omega)
  · intro h j hj q
    have := q.within hK ⟨by omega, by omega⟩
    exact h j (by omega) q

end Go.Proofs.Ytdfjfodfnildiab
namespace Go.Proofs.Ytdfjfodfnildiab
open Go.ChangeShapes Go.WideShapes Go.ChangeAt Go.RowKit
open Go.ChangeMaps (open_string shut_string)
set_option linter.unusedVariables false
set_option maxRecDepth 100000

set_option maxHeartbeats 16000000 in
theorem spanI (adB : Option Addr) (capB : Nat) (Bs : List Bd) (adK : Option Addr) (capK : Nat) (K : List Lk) (w : World) (h : NN w adB Bs adK K) (hcap : Bs.length ≤ capB) :
    Calls Try.prog 9 #[.agg #[.slice adB Bs.length capB, .slice adK K.length capK]] w fun e w' => YN e (NetP (dB Bs) K ∧ SpanP (openB (dB Bs)) K (dB Bs).length) ∧ Below w.heap.size w w' := by
  rw [dB_len]
  suffices H : ∀ PQ : Prop, Hid (PQ ↔ NetP (dB Bs) K ∧ SpanP (openB (dB Bs)) K Bs.length) → Calls Try.prog 9 #[.agg #[.slice adB Bs.length capB, .slice adK K.length capK]] w fun e w' => YN e PQ ∧ Below w.heap.size w w' from H _ Iff.rfl
  intro PQ hQ0
  obtain ⟨y, hy⟩ : ∃ y, y = w.alloc (Obj.cells #[.slice adB Bs.length capB, .slice adK K.length capK] 31) := ⟨_, rfl⟩
  have B0 : Below w.heap.size w y := by rw [hy]; exact below_new _
  have A : NeAt y w.heap.size (.slice adB Bs.length capB) (.slice adK K.length capK) := by rw [hy]; exact NeAt.new w _
  have hN := h.later B0
  have hk := h.hk
  have hlB := h.hl
  clear h
  by_cases hok : NetP (dB Bs) K
  rotate_left
  · replace hok : Hid _ := hok
    go_enter Try.func9, Try.ntmps9
    go_wp2_with fail
    go_at_call 25
    rw [← hy]
    clear hy
    refine (netOkI adB capB Bs adK capK K y hN hcap).mono ?_
    rintro e y1 ⟨⟨R1, rfl, hR1⟩, kq⟩
    obtain rfl := bool_no hR1 hok.out
    clear hR1
    have B1 := B0.trans (kq.mono B0.size)
    have A := A.below kq A.lt
    have hN := hN.later kq
    clear kq B0
    go_wp2
    go_ret
    exact ⟨YN.no (fun h => hok.out (hQ0.out.1 h).1), B1⟩
  replace hok : Hid _ := hok
  have hk6 : K.length ≤ 6 := hok.out.few
  have h5 : Bs.length ≤ 5 := by have := hok.out.many.2; rwa [dB_len] at this
  have hNn : Hid (InN K Bs.length) := by have := hok.out.inN; rw [dB_len] at this; exact this
  have hN5 : Hid (InN K 5) := fun l hl => by
    have := hNn.out l hl
    omega
  have hQ : Hid (PQ ↔ ∀ i, i < Bs.length → SpanAt (openB (dB Bs)) K Bs.length i) := by
    unfold Hid
    rw [hQ0.out]
    exact ⟨fun q => q.2, fun q => ⟨hok.out, q⟩⟩
  clear hQ0
  go_enter Try.func9, Try.ntmps9
  go_wp2_with fail
  go_at_call 25
  rw [← hy]
  clear hy
  refine (netOkI adB capB Bs adK capK K y hN hcap).mono ?_
  rintro e y1 ⟨⟨R1, rfl, hR1⟩, kq⟩
  obtain rfl : R1 = true := hR1.2 hok.out
  clear hR1
  have B1 := B0.trans (kq.mono B0.size)
  have A := A.below kq A.lt
  have hN := hN.later kq
  clear kq B0
  have cc := A
  obtain ⟨a0, a1⟩ := cc
  go_wp2_with fail
  go_at_call 26
  clear a0 a1
  refine (openLI adB capB Bs adK capK K y1 hN (fun l hl => netP_ports hok.out hl)).mono ?_
  rintro e y2 ⟨aO, cO, rfl, OO, k2⟩
  have B2 := B1.trans (k2.mono B1.size)
  have A := A.below k2 A.lt
  have vK := (hN.later k2).vk
  clear k2 B1 hN
  have hlO : (K.filter (openB (dB Bs))).length ≤ 6 := Nat.le_trans (List.length_filter_le _ _) hk6
  have hNO : Hid (InN (K.filter (openB (dB Bs))) 5) := hN5.out.sub (fun l hl => (List.mem_filter.1 hl).1)
  obtain ⟨p, hp⟩ : ∃ p, openB (dB Bs) = p := ⟨_, rfl⟩
  rw [hp] at OO hlO hQ hNO ⊢
  clear hp
  obtain ⟨O, hO⟩ : ∃ O, K.filter p = O := ⟨_, rfl⟩
  rw [hO] at OO hlO hNO ⊢
  replace hO : Hid _ := hO
  have vO := OO.view.2
  have bO := vO.lt lkEnc_len (by omega)
  have bK := vK.lt lkEnc_len (by omega)
  clear OO
  have cc := A
  obtain ⟨a0, a1⟩ := cc
  go_wp2
  clear a0 a1
  go_loopw [13] (fun q wr => ∃ k : Nat, k ≤ Bs.length ∧ q = .int .i64 (k : Int) ∧ Hid (∀ i, i < k → SpanAt p K Bs.length i) ∧ Below y2.heap.size y2 wr) (fun q _ => Bs.length - (intOf q).toNat)
  case atStart => exact ⟨0, Nat.zero_le _, rfl, fun j hj => absurd hj (by omega), Below.refl _ _⟩
  case round =>
    obtain ⟨k, hk1, rfl, hF, kb⟩ := hrel
    have A := A.below kb A.lt
    by_cases hlt : k < Bs.length
    · have vOw : ∀ Y, Below wr.heap.size wr Y → FView lkEnc Y aO O := fun Y hY => vO.below (kb.trans (hY.mono kb.size)) bO
      have vKw : ∀ Y, Below wr.heap.size wr Y → FView lkEnc Y adK K := fun Y hY => vK.below (kb.trans (hY.mono kb.size)) bK
      go_upto_region 7 with fail
      refine wp_region_held (S := fun Y => Below wr.heap.size wr Y) (by kernel_rfl) ?_
      change wpAnyH _ _ _ _ _ _ _ _ (World.drew _)
      have hb0 : Below wr.heap.size wr wr.drew := (Below.refl _ _).drew
      obtain ⟨u0, hy0⟩ : ∃ y_, y_ = wr.drew := ⟨_, rfl⟩
      rw [← hy0] at hb0 ⊢
      clear hy0
      refine takeW 0 16 (.slice aO O.length cO) rfl rfl (by kernel_rfl) (by kernel_rfl) (by kernel_rfl) (fun _ _ _ h => h) (by kernel_rfl) (by (intro w hSw; go_simp)) (by assumption) ?_
      simp only [List.set_cons_zero, List.set_cons_succ]
      refine takeW 1 17 (.int .i64 (k : Int)) rfl rfl (by kernel_rfl) (by kernel_rfl) (by kernel_rfl) (fun _ _ _ h => h) (by kernel_rfl) (by (intro w hSw; go_simp)) (by assumption) ?_
      simp only [List.set_cons_zero, List.set_cons_succ]
      refine takeW 3 19 (.pointer (some ⟨w.heap.size, 1, none⟩)) rfl rfl (by kernel_rfl) (by kernel_rfl) (by kernel_rfl) (fun _ _ _ h => h) (by kernel_rfl) (by (intro w hSw; go_simp)) (by assumption) ?_
      simp only [List.set_cons_zero, List.set_cons_succ]
      refine takeW 4 20 (.slice adK K.length capK) rfl rfl (by kernel_rfl) (by kernel_rfl) (by kernel_rfl) (fun _ _ _ h => h) (by kernel_rfl) (by (intro Y hSw; obtain ⟨X0, X1⟩ := A.below hSw A.lt; go_simp)) (by assumption) ?_
      simp only [List.set_cons_zero, List.set_cons_succ]
      refine takeW 5 21 (.int .i64 (k : Int)) rfl rfl (by kernel_rfl) (by kernel_rfl) (by kernel_rfl) (fun _ _ _ h => h) (by kernel_rfl) (by (intro w hSw; go_simp)) (by assumption) ?_
      simp only [List.set_cons_zero, List.set_cons_succ]
      refine wpAnyH_all (rs := [2]) (by kernel_rfl) (by simp) ?_
      intro i hi; obtain rfl : i = 2 := by simpa using hi
      refine wpOp_step rfl (fun Kz hKz => ?_)
      rw [if_pos (by kernel_rfl)]
      go_simp
      go_at_call 27
      refine (cameI aO cO O k u0 (vOw u0 hb0) (by omega) (by omega) hNO.out).mono ?_
      rintro e u1 ⟨N, hN1, rfl, kq⟩
      have hb1 : Below wr.heap.size wr u1 := hb0.trans (kq.mono hb0.size)
      clear kq
      obtain ⟨a0, g0⟩ : ∃ b, N.getD 0 false = b := ⟨_, rfl⟩
      obtain ⟨a1, g1⟩ : ∃ b, N.getD 1 false = b := ⟨_, rfl⟩
      obtain ⟨a2, g2⟩ : ∃ b, N.getD 2 false = b := ⟨_, rfl⟩
      obtain ⟨a3, g3⟩ : ∃ b, N.getD 3 false = b := ⟨_, rfl⟩
      obtain ⟨a4, g4⟩ : ∃ b, N.getD 4 false = b := ⟨_, rfl⟩
      rw [g0, g1, g2, g3, g4]
      refine hKz _ _ ⟨hb1, ?_⟩
      clear hKz Kz hi
      refine wpAnyH_all (rs := [6]) (by kernel_rfl) (by simp) ?_
      intro i hi; obtain rfl : i = 6 := by simpa using hi
      refine wpOp_step rfl (fun Kz hKz => ?_)
      rw [if_pos (by kernel_rfl)]
      go_simp
      go_at_call 27
      refine (cameI adK capK K k u1 (vKw u1 hb1) (by omega) (by omega) hN5.out).mono ?_
      rintro e u2 ⟨M, hM1, rfl, kq⟩
      have hb2 : Below wr.heap.size wr u2 := hb1.trans (kq.mono hb1.size)
      clear kq
      obtain ⟨b0, f0⟩ : ∃ b, M.getD 0 false = b := ⟨_, rfl⟩
      obtain ⟨b1, f1⟩ : ∃ b, M.getD 1 false = b := ⟨_, rfl⟩
      obtain ⟨b2, f2⟩ : ∃ b, M.getD 2 false = b := ⟨_, rfl⟩
      obtain ⟨b3, f3⟩ : ∃ b, M.getD 3 false = b := ⟨_, rfl⟩
      obtain ⟨b4, f4⟩ : ∃ b, M.getD 4 false = b := ⟨_, rfl⟩
      rw [f0, f1, f2, f3, f4]
      have hiff := eq5_is hN1.len hM1.len
      rw [g0, g1, g2, g3, g4, f0, f1, f2, f3, f4] at hiff
      clear g0 g1 g2 g3 g4 f0 f1 f2 f3 f4
      have q5 : ∀ w, (Op.equalIn 10000 46 (.agg #[.bool a0, .bool a1, .bool a2, .bool a3, .bool a4]) (.agg #[.bool b0, .bool b1, .bool b2, .bool b3, .bool b4])).run Try.prog w = .ok (a0 == b0 && (a1 == b1 && (a2 == b2 && (a3 == b3 && a4 == b4)))) w := fun w => eq5 w a0 a1 a2 a3 a4 b0 b1 b2 b3 b4
      obtain ⟨o, ho⟩ : ∃ o, (a0 == b0 && (a1 == b1 && (a2 == b2 && (a3 == b3 && a4 == b4)))) = o := ⟨_, rfl⟩
      rw [ho] at hiff
      simp only [ho] at q5
      clear ho
      have hsp : Hid (o = true ↔ SpanAt p K Bs.length k) := hiff.trans (span_five hNn.out (by omega) hlt hM1 (by rw [hO.out]; exact hN1))
      clear hiff hM1 hN1
      refine hKz _ _ ⟨hb2, ?_⟩
      clear hKz Kz hi
      refine takeW 7 23 (.bool (!o)) rfl rfl (by kernel_rfl) (by kernel_rfl) (by kernel_rfl) (fun _ _ _ h => h) (by kernel_rfl) (by (intro w hSw; go_simp)) (by assumption) ?_
      simp only [List.set_cons_zero, List.set_cons_succ]
      refine wpAnyH_done (by kernel_rfl) ?_ _
      have bZ := kb.trans (hb2.mono kb.size)
      clear hb0 hb1 hb2 q5 vOw vKw
      cases o
      · have BZ := B2.trans (bZ.mono B2.size)
        have hno : Hid (¬ SpanAt p K Bs.length k) := by
          unfold Hid
          intro q
          have := hsp.out.2 q
          cases this
        go_wp2
        go_ret
        exact ⟨YN.no (fun h => hno.out (hQ.out.1 h k hlt)), BZ⟩
      · have hyes : Hid (SpanAt p K Bs.length k) := hsp.out.1 rfl
        go_wp2
        go_roundw
        case rel =>
          refine ⟨k + 1, by omega, by go_num, fun i hi => ?_, bZ⟩
          by_cases ei : i = k
          · rw [ei]; exact hyes.out
          · exact hF.out i (by omega)
        case measure => simp [intOf]; omega
    · obtain rfl : k = Bs.length := by omega
      have BZ := B2.trans (kb.mono B2.size)
      go_wp2
      go_ret
      exact ⟨YN.yes (hQ.out.2 hF.out), BZ⟩

end Go.Proofs.Ytdfjfodfnildiab
namespace Go.Proofs.Ytdfjfodfnildiab
open Go.ChangeShapes Go.WideShapes Go.ChangeAt Go.RowKit
open Go.ChangeMaps (open_string shut_string)
set_option linter.unusedVariables false
set_option maxRecDepth 100000

set_option maxHeartbeats 16000000 in
theorem spanS (adB : Option Addr) (capB : Nat) (Bs : List Bd) (adK : Option Addr) (capK : Nat) (K : List Lk) (w : World) (h : NN w adB Bs adK K) :
    Calls Try.prog 7 #[.agg #[.slice adB Bs.length capB, .slice adK K.length capK]] w fun e w' => YN e (NetP (dB Bs) K ∧ SpanP (openB (dB Bs)) K (dB Bs).length) ∧ Below w.heap.size w w' := by
  rw [dB_len]
  suffices H : ∀ PQ : Prop, Hid (PQ ↔ NetP (dB Bs) K ∧ SpanP (openB (dB Bs)) K Bs.length) → Calls Try.prog 7 #[.agg #[.slice adB Bs.length capB, .slice adK K.length capK]] w fun e w' => YN e PQ ∧ Below w.heap.size w w' from H _ Iff.rfl
  intro PQ hQ0
  obtain ⟨y, hy⟩ : ∃ y, y = w.alloc (Obj.cells #[.slice adB Bs.length capB, .slice adK K.length capK] 31) := ⟨_, rfl⟩
  have B0 : Below w.heap.size w y := by rw [hy]; exact below_new _
  have A : NeAt y w.heap.size (.slice adB Bs.length capB) (.slice adK K.length capK) := by rw [hy]; exact NeAt.new w _
  have hN := h.later B0
  have hk := h.hk
  have hlB := h.hl
  clear h
  by_cases hok : NetP (dB Bs) K
  rotate_left
  · replace hok : Hid _ := hok
    go_enter Try.func7, Try.ntmps7
    go_wp2_with fail
    go_at_call 21
    rw [← hy]
    clear hy
    refine (netOkS adB capB Bs adK capK K y hN).mono ?_
    rintro e y1 ⟨⟨R1, rfl, hR1⟩, kq⟩
    obtain rfl := bool_no hR1 hok.out
    clear hR1
    have B1 := B0.trans (kq.mono B0.size)
    have A := A.below kq A.lt
    have hN := hN.later kq
    clear kq B0
    go_wp2
    go_ret
    exact ⟨YN.no (fun h => hok.out (hQ0.out.1 h).1), B1⟩
  replace hok : Hid _ := hok
  have hQ : Hid (PQ ↔ ∀ i, i < Bs.length → SpanAt (openB (dB Bs)) K Bs.length i) := by
    unfold Hid
    rw [hQ0.out]
    exact ⟨fun q => q.2, fun q => ⟨hok.out, q⟩⟩
  clear hQ0
  go_enter Try.func7, Try.ntmps7
  go_wp2_with fail
  go_at_call 21
  rw [← hy]
  clear hy
  refine (netOkS adB capB Bs adK capK K y hN).mono ?_
  rintro e y1 ⟨⟨R1, rfl, hR1⟩, kq⟩
  obtain rfl : R1 = true := hR1.2 hok.out
  clear hR1
  have B1 := B0.trans (kq.mono B0.size)
  have A := A.below kq A.lt
  have hN := hN.later kq
  clear kq B0
  have cc := A
  obtain ⟨a0, a1⟩ := cc
  go_wp2
  clear a0 a1
  go_loopw [3] (fun q wr => ∃ k : Nat, k ≤ Bs.length ∧ q = .int .i64 (k : Int) ∧ Hid (∀ i, i < k → SpanAt (openB (dB Bs)) K Bs.length i) ∧ Below y1.heap.size y1 wr) (fun q _ => Bs.length - (intOf q).toNat)
  case atStart => exact ⟨0, Nat.zero_le _, rfl, fun j hj => absurd hj (by omega), Below.refl _ _⟩
  case round =>
    obtain ⟨k, hk1, rfl, hF, kb⟩ := hrel
    have A := A.below kb A.lt
    have cc := A
    obtain ⟨a0, a1⟩ := cc
    by_cases hlt : k < Bs.length
    · have hNr := hN.later kb
      have hNw : ∀ Y, Below wr.heap.size wr Y → NN Y adB Bs adK K := fun Y hY => hNr.later hY
      go_upto_region 6 with fail
      clear a0 a1
      refine wp_region_held (S := fun Y => Below wr.heap.size wr Y) (by kernel_rfl) ?_
      change wpAnyH _ _ _ _ _ _ _ _ (World.drew _)
      have hb0 : Below wr.heap.size wr wr.drew := (Below.refl _ _).drew
      obtain ⟨u0, hy0⟩ : ∃ y_, y_ = wr.drew := ⟨_, rfl⟩
      rw [← hy0] at hb0 ⊢
      clear hy0
      refine takeW 0 14 (.agg #[.slice adB Bs.length capB, .slice adK K.length capK]) rfl rfl (by kernel_rfl) (by kernel_rfl) (by kernel_rfl) (fun _ _ _ h => h) (by kernel_rfl) (by (intro Y hSw; obtain ⟨X0, X1⟩ := A.below hSw A.lt; go_simp)) (by assumption) ?_
      simp only [List.set_cons_zero, List.set_cons_succ]
      refine takeW 1 15 (.int .i64 (k : Int)) rfl rfl (by kernel_rfl) (by kernel_rfl) (by kernel_rfl) (fun _ _ _ h => h) (by kernel_rfl) (by (intro w hSw; go_simp)) (by assumption) ?_
      simp only [List.set_cons_zero, List.set_cons_succ]
      refine takeW 4 18 (.agg #[.slice adB Bs.length capB, .slice adK K.length capK]) rfl rfl (by kernel_rfl) (by kernel_rfl) (by kernel_rfl) (fun _ _ _ h => h) (by kernel_rfl) (by (intro Y hSw; obtain ⟨X0, X1⟩ := A.below hSw A.lt; go_simp)) (by assumption) ?_
      simp only [List.set_cons_zero, List.set_cons_succ]
      refine takeW 5 19 (.int .i64 (k : Int)) rfl rfl (by kernel_rfl) (by kernel_rfl) (by kernel_rfl) (fun _ _ _ h => h) (by kernel_rfl) (by (intro w hSw; go_simp)) (by assumption) ?_
      simp only [List.set_cons_zero, List.set_cons_succ]
      refine wpAnyH_all (rs := [2]) (by kernel_rfl) (by simp) ?_
      intro i hi; obtain rfl : i = 2 := by simpa using hi
      refine wpOp_step rfl (fun Kz hKz => ?_)
      rw [if_pos (by kernel_rfl)]
      go_simp
      go_at_call 22
      refine (reachL adB capB Bs adK capK K k true (-1) u0 (hNw u0 hb0) hok hlt).mono ?_
      rintro e u1 ⟨M, aM, cM, hM, rfl, _, kq⟩
      have hb1 : Below wr.heap.size wr u1 := hb0.trans (kq.mono hb0.size)
      clear kq
      rw [sel_none, if_pos rfl] at hM
      replace hM : Hid _ := hM
      refine hKz _ _ ⟨hb1, ?_⟩
      clear hKz Kz hi
      refine takeW 3 17 (.int .i64 ((idx 0 M).length : Int)) rfl rfl (by kernel_rfl) (by kernel_rfl) (by kernel_rfl) (fun _ _ _ h => h) (by kernel_rfl) (by (intro w hSw; go_simp)) (by assumption) ?_
      simp only [List.set_cons_zero, List.set_cons_succ]
      refine wpAnyH_all (rs := [6]) (by kernel_rfl) (by simp) ?_
      intro i hi; obtain rfl : i = 6 := by simpa using hi
      refine wpOp_step rfl (fun Kz hKz => ?_)
      rw [if_pos (by kernel_rfl)]
      go_simp
      go_at_call 22
      refine (reachL adB capB Bs adK capK K k false (-1) u1 (hNw u1 hb1) hok hlt).mono ?_
      rintro e u2 ⟨N, aN, cN, hN1, rfl, _, kq⟩
      have hb2 : Below wr.heap.size wr u2 := hb1.trans (kq.mono hb1.size)
      clear kq
      rw [sel_none, if_neg (by decide)] at hN1
      replace hN1 : Hid _ := hN1
      have hsp : Hid ((idx 0 M).length = (idx 0 N).length ↔ SpanAt (openB (dB Bs)) K Bs.length k) := (span_len hM.out hN1.out).trans (span_eq hM.out hN1.out)
      obtain ⟨o, ho⟩ : ∃ o, decide ((idx 0 M).length = (idx 0 N).length) = o := ⟨_, rfl⟩
      have q1 : (((idx 0 M).length : Int) != ((idx 0 N).length : Int)) = !o := by rw [← ho]; by_cases e : (idx 0 M).length = (idx 0 N).length <;> simp [e, Int.natCast_inj]
      have q2 : decide (((idx 0 M).length : Int) = ((idx 0 N).length : Int)) = o := by rw [← ho]; simp [Int.natCast_inj]
      have hsp : Hid (o = true ↔ SpanAt (openB (dB Bs)) K Bs.length k) := by unfold Hid; rw [← hsp.out, ← ho]; exact decide_eq_true_iff
      replace ho : Hid _ := ho
      clear hM hN1
      refine hKz _ _ ⟨hb2, ?_⟩
      clear hKz Kz hi
      refine takeW 7 21 (.int .i64 ((idx 0 N).length : Int)) rfl rfl (by kernel_rfl) (by kernel_rfl) (by kernel_rfl) (fun _ _ _ h => h) (by kernel_rfl) (by (intro w hSw; go_simp)) (by assumption) ?_
      simp only [List.set_cons_zero, List.set_cons_succ]
      refine takeW 8 22 (.bool (!o)) rfl rfl (by kernel_rfl) (by kernel_rfl) (by kernel_rfl) (fun _ _ _ h => h) (by kernel_rfl) (by (intro w hSw; go_simp; first | done | exact congrArg (fun q => Result.ok (Next.value (Value.bool q)) w) q1 | simp [q1, q2] | simp [← q2])) (by assumption) ?_
      simp only [List.set_cons_zero, List.set_cons_succ]
      refine wpAnyH_done (by kernel_rfl) ?_ _
      have bZ := kb.trans (hb2.mono kb.size)
      clear hb0 hb1 hb2 q1 q2 hNw
      cases o
      · have BZ := B1.trans (bZ.mono B1.size)
        have hno : Hid (¬ SpanAt (openB (dB Bs)) K Bs.length k) := by
          unfold Hid
          intro q
          have := hsp.out.2 q
          cases this
        go_wp2
        go_ret
        exact ⟨YN.no (fun h => hno.out (hQ.out.1 h k hlt)), BZ⟩
      · have hyes : Hid (SpanAt (openB (dB Bs)) K Bs.length k) := hsp.out.1 rfl
        go_wp2
        go_roundw
        case rel =>
          refine ⟨k + 1, by omega, by go_num, fun i hi => ?_, bZ⟩
          by_cases ei : i = k
          · rw [ei]; exact hyes.out
          · exact hF.out i (by omega)
        case measure => simp [intOf]; omega
    · obtain rfl : k = Bs.length := by omega
      have BZ := B1.trans (kb.mono B1.size)
      go_wp2
      go_ret
      exact ⟨YN.yes (hQ.out.2 hF.out), BZ⟩

end Go.Proofs.Ytdfjfodfnildiab
namespace Go.Proofs.Ytdfjfodfnildiab
open Go.ChangeShapes Go.WideShapes Go.ChangeAt Go.RowKit
open Go.ChangeMaps (open_string shut_string)
set_option linter.unusedVariables false
set_option maxRecDepth 100000

/-- Who follows nobody. -/
def rootsL (B : List Bg) : List Int := idx 0 (B.map (fun b => !(rootO b.id b.L).isSome))
theorem rootFl_len (B : List Bg) : (B.map (fun b => !(rootO b.id b.L).isSome)).length = B.length := List.length_map ..
theorem rootFl_get (Bs : List Bd) {k : Nat} (hk : k < Bs.length) : ((dB Bs).map (fun b => !(rootO b.id b.L).isSome)).getD k false = !(rootO (Bs.getD k Bd.nil).id (Bs.getD k Bd.nil).L).isSome := by
  unfold dB
  simp [List.getD, hk, Bd.d]
theorem rootsL_in {B : List Bg} {x : Int} (h : x ∈ rootsL B) : 0 ≤ x ∧ x < (B.length : Int) := by
  obtain ⟨j, h1, _, h3⟩ := (idx_mem _ x 0).1 h
  rw [rootFl_len] at h1
  omega
theorem rootsL_len (B : List Bg) : (rootsL B).length ≤ B.length := by
  have := idx_len (B.map (fun b => !(rootO b.id b.L).isSome)) 0
  rwa [rootFl_len] at this
set_option maxHeartbeats 8000000 in
theorem rootsI (adB : Option Addr) (capB : Nat) (Bs : List Bd) (adK : Option Addr) (capK : Nat) (K : List Lk) (w : World) (h : NN w adB Bs adK K) :
    Calls Try.prog 12 #[.agg #[.slice adB Bs.length capB, .slice adK K.length capK]] w fun e w' => ∃ a c, e = .returned (.slice a (rootsL (dB Bs)).length c) ∧ FOwn ivEnc 1 3 w.heap.size w' (.slice a (rootsL (dB Bs)).length c) (rootsL (dB Bs)) ∧ Below w.heap.size w w' := by
  obtain ⟨j0, hj, hj0, hj1, hj2⟩ := info_parts ivInfo
  obtain ⟨y, hy⟩ : ∃ y, y = w.alloc (Obj.cells #[.slice adB Bs.length capB, .slice adK K.length capK] 31) := ⟨_, rfl⟩
  have B0 : Below w.heap.size w y := by rw [hy]; exact below_new _
  have A : NeAt y w.heap.size (.slice adB Bs.length capB) (.slice adK K.length capK) := by rw [hy]; exact NeAt.new w _
  have hN := h.later B0
  have hk := h.hk
  have hlB := h.hl
  have S0 := A.lt
  clear h
  have hFg := fun k hk => rootFl_get Bs (k := k) hk
  have hFl := rootFl_len (dB Bs)
  rw [dB_len] at hFl
  unfold rootsL
  obtain ⟨Fl, hFl0⟩ : ∃ F, (dB Bs).map (fun b => !(rootO b.id b.L).isSome) = F := ⟨_, rfl⟩
  simp only [hFl0] at hFg hFl ⊢
  clear hFl0
  replace hFg : Hid _ := hFg
  replace hFl : Hid _ := hFl
  go_enter Try.func12, Try.ntmps12
  go_upto_region 1 with fail
  rw [← hy]
  clear hy
  have cc := A
  obtain ⟨a0, a1'⟩ := cc
  go_wp2
  clear a0 a1'
  go_loopw [3, 11] (fun v q wr => ∃ k : Nat, k ≤ Bs.length ∧ q = .int .i64 (k : Int) ∧ FOwn ivEnc 1 3 y.heap.size wr v (idx 0 (Fl.take k)) ∧ Below y.heap.size y wr) (fun _ q _ => Bs.length - (intOf q).toNat)
  case atStart => exact ⟨0, Nat.zero_le _, rfl, FOwn.nil, Below.refl _ _⟩
  case round =>
    obtain ⟨k, hk1, rfl, O, kb⟩ := hrel
    by_cases hlt : k < Bs.length
    · have hst := idx_take Fl (i := k) (by rw [hFl.out]; exact hlt)
      rw [hFg.out k hlt] at hst
      obtain ⟨b, off, rfl⟩ := hN.vb.ad_ (by omega)
      have hNr := hN.later kb
      have hn := hNr.vb.nest k hlt
      have hck := hNr.vb.at_ hlt
      have hlk := hN.hls k hlt
      obtain ⟨⟨id, a1, c1, L1⟩, hh⟩ : ∃ q, Bs.getD k Bd.nil = q := ⟨_, rfl⟩
      rw [hh] at hst hn hlk
      dsimp only at hst hn hlk
      rw [hh] at hck
      obtain ⟨x1, x2⟩ := hck
      dsimp only at x1 x2
      clear hh hNr
      obtain ⟨Ro, hRo⟩ : ∃ R, rootO id L1 = R := ⟨_, rfl⟩
      rw [hRo] at hst
      obtain ⟨L, hL⟩ : ∃ L, idx 0 (Fl.take k) = L := ⟨_, rfl⟩
      have hLl : L.length ≤ k := by rw [← hL]; exact Nat.le_trans (idx_len _ _) (by simp; omega)
      rw [hL] at O hst
      clear hL
      obtain ⟨ak, ck2, rfl⟩ := O.open_
      replace hst : Hid _ := hst
      have bk := kb.size
      obtain ⟨u, hu⟩ : ∃ u, u = wr.alloc (Obj.cells #[.int .i64 id, .slice a1 L1.length c1] 54) := ⟨_, rfl⟩
      have ku : Below wr.heap.size wr u := by rw [hu]; exact below_new _
      have bu := kb.trans (ku.mono kb.size)
      have hx0 : BrAt u wr.heap.size id (.slice a1 L1.length c1) := by rw [hu]; exact BrAt.new wr _ _ _
      have hn := hn.below ku (hn.lt ptEnc_len (by omega))
      have O := O.later ku
      have su := ku.size
      clear ku
      go_upto_region 5 with fail
      rw [← hu]
      clear hu x1 x2
      obtain ⟨x1, x2⟩ := hx0
      go_wp2_with fail
      go_at_call 31
      clear x1 x2
      refine (rootPI id a1 c1 L1 u hn hlk).mono ?_
      rintro e z ⟨rfl, kz⟩
      rw [hRo]
      have bz := bu.trans (kz.mono bu.size)
      have O := O.later kz
      have sz := bz.size
      clear kz bu hRo hn
      cases Ro with
      | some r =>
        have hst : Hid (idx 0 (Fl.take (k + 1)) = L) := by have := hst.out; unfold Hid; simpa using this
        go_wp2
        go_roundw
        case rel => exact ⟨k + 1, by omega, by go_num, by rw [hst.out]; exact O, bz⟩
        case measure => simp [intOf]; omega
      | none =>
        have hst : Hid (idx 0 (Fl.take (k + 1)) = L ++ [(k : Int)]) := by have := hst.out; unfold Hid; simpa using this
        have V1 := FView.oneI z 3 (k : Int)
        have kx : Below z.heap.size z (z.alloc (Obj.cells #[.int .i64 (k : Int)] 3)) := below_new _
        have O4 := O.later kx
        have b4 := bz.trans (kx.mono bz.size)
        have s4 := b4.size
        clear kx
        go_wp2_with (first | (at_builtin; refine fappL ivEnc_len ivEnc_ones rfl _ _ 35 rfl y.heap.size 3 j0 (.int .i64 0) 8 Try.underlying35 hj hj0 hj1 hj2 rfl (by decide) (by decide) (.slice ak L.length ck2) L rfl O4 (some ⟨z.heap.size, 0, none⟩) 1 [(k : Int)] rfl (fun e => by cases e) V1 ?z0 ?z1 ?_) | go_in)
        case z0 => first | omega | (simp; omega)
        case z1 => first | omega | (simp; omega)
        intro vZ wZ hownZ hgrowZ _
        have hob : ∀ q, (Value.slice ak L.length ck2).ownBlock = some q → y.heap.size ≤ q := fun q e => (O4.lt q e).1
        have bZ : Below y.heap.size y wZ := b4.grown hgrowZ (by exact s4) hob
        clear hgrowZ V1 O4 hob O b4
        go_wp2
        go_roundw
        case rel => exact ⟨k + 1, by omega, by go_num, by rw [hst.out]; exact hownZ, bZ⟩
        case measure => simp [intOf]; omega
    · obtain rfl : k = Bs.length := by omega
      rw [show Fl.take Bs.length = Fl by rw [← hFl.out, List.take_length]] at O
      obtain ⟨ak, ck2, rfl⟩ := O.open_
      have OZ := O.base B0.size
      have bZ := B0.trans (kb.mono B0.size)
      go_wp2
      go_ret
      exact ⟨_, _, rfl, OZ, bZ⟩
set_option maxHeartbeats 8000000 in
theorem rootsS (adB : Option Addr) (capB : Nat) (Bs : List Bd) (adK : Option Addr) (capK : Nat) (K : List Lk) (w : World) (h : NN w adB Bs adK K) :
    Calls Try.prog 11 #[.agg #[.slice adB Bs.length capB, .slice adK K.length capK]] w fun e w' => ∃ a c, e = .returned (.slice a (rootsL (dB Bs)).length c) ∧ FOwn ivEnc 1 3 w.heap.size w' (.slice a (rootsL (dB Bs)).length c) (rootsL (dB Bs)) ∧ Below w.heap.size w w' := by
  obtain ⟨j0, hj, hj0, hj1, hj2⟩ := info_parts ivInfo
  obtain ⟨y, hy⟩ : ∃ y, y = w.alloc (Obj.cells #[.slice adB Bs.length capB, .slice adK K.length capK] 31) := ⟨_, rfl⟩
  have B0 : Below w.heap.size w y := by rw [hy]; exact below_new _
  have A : NeAt y w.heap.size (.slice adB Bs.length capB) (.slice adK K.length capK) := by rw [hy]; exact NeAt.new w _
  have hN := h.later B0
  have hk := h.hk
  have hlB := h.hl
  have S0 := A.lt
  clear h
  have hFg := fun k hk => rootFl_get Bs (k := k) hk
  have hFl := rootFl_len (dB Bs)
  rw [dB_len] at hFl
  unfold rootsL
  obtain ⟨Fl, hFl0⟩ : ∃ F, (dB Bs).map (fun b => !(rootO b.id b.L).isSome) = F := ⟨_, rfl⟩
  simp only [hFl0] at hFg hFl ⊢
  clear hFl0
  replace hFg : Hid _ := hFg
  replace hFl : Hid _ := hFl
  go_enter Try.func11, Try.ntmps11
  go_upto_region 1 with fail
  rw [← hy]
  clear hy
  obtain ⟨x0, hx0⟩ : ∃ x, x = y.alloc (Obj.cells #[] 3) := ⟨_, rfl⟩
  have kx0 : Below y.heap.size y x0 := by rw [hx0]; exact below_new _
  have O0 : FOwn ivEnc 1 3 y.heap.size x0 (.slice (some ⟨y.heap.size, 0, none⟩) 0 0) ([] : List Int) := by rw [hx0]; exact FOwn.empty y
  go_upto_region 2 with fail
  rw [← hx0]
  clear hx0
  go_wp2
  go_loopw [3, 4] (fun v q wr => ∃ k : Nat, k ≤ Bs.length ∧ q = .int .i64 (k : Int) ∧ FOwn ivEnc 1 3 y.heap.size wr v (idx 0 (Fl.take k)) ∧ Below y.heap.size y wr) (fun _ q _ => Bs.length - (intOf q).toNat)
  case atStart => exact ⟨0, Nat.zero_le _, rfl, O0, kx0⟩
  case round =>
    obtain ⟨k, hk1, rfl, O, kb⟩ := hrel
    clear O0 kx0
    have A1 := A.below kb A.lt
    obtain ⟨a0, a1'⟩ := A1
    by_cases hlt : k < Bs.length
    · have hst := idx_take Fl (i := k) (by rw [hFl.out]; exact hlt)
      rw [hFg.out k hlt] at hst
      obtain ⟨b, off, rfl⟩ := hN.vb.ad_ (by omega)
      have hNr := hN.later kb
      have hn := hNr.vb.nest k hlt
      have hck := hNr.vb.at_ hlt
      have hlk := hN.hls k hlt
      obtain ⟨⟨id, a1, c1, L1⟩, hh⟩ : ∃ q, Bs.getD k Bd.nil = q := ⟨_, rfl⟩
      rw [hh] at hst hn hlk
      dsimp only at hst hn hlk
      rw [hh] at hck
      obtain ⟨x1, x2⟩ := hck
      dsimp only at x1 x2
      clear hh hNr
      obtain ⟨Ro, hRo⟩ : ∃ R, rootO id L1 = R := ⟨_, rfl⟩
      rw [hRo] at hst
      obtain ⟨L, hL⟩ : ∃ L, idx 0 (Fl.take k) = L := ⟨_, rfl⟩
      have hLl : L.length ≤ k := by rw [← hL]; exact Nat.le_trans (idx_len _ _) (by simp; omega)
      rw [hL] at O hst
      clear hL
      obtain ⟨ak, ck2, rfl⟩ := O.open_
      replace hst : Hid _ := hst
      have bk := kb.size
      obtain ⟨u, hu⟩ : ∃ u, u = wr := ⟨_, rfl⟩
      rw [← hu] at x1 x2 kb O hn a0 a1' bk ⊢
      have bu := kb
      clear hu
      go_wp2_with fail
      go_at_call 30
      clear x1 x2 a0 a1'
      refine (rootPS id a1 c1 L1 u hn hlk).mono ?_
      rintro e z ⟨rfl, kz⟩
      rw [hRo]
      have bz := bu.trans (kz.mono bu.size)
      have O := O.later kz
      have sz := bz.size
      clear kz bu hRo hn
      cases Ro with
      | some r =>
        have hst : Hid (idx 0 (Fl.take (k + 1)) = L) := by have := hst.out; unfold Hid; simpa using this
        go_wp2
        go_roundw
        case rel => exact ⟨k + 1, by omega, by go_num, by rw [hst.out]; exact O, bz⟩
        case measure => simp [intOf]; omega
      | none =>
        have hst : Hid (idx 0 (Fl.take (k + 1)) = L ++ [(k : Int)]) := by have := hst.out; unfold Hid; simpa using this
        have V1 := FView.oneI z 3 (k : Int)
        have kx : Below z.heap.size z (z.alloc (Obj.cells #[.int .i64 (k : Int)] 3)) := below_new _
        have O4 := O.later kx
        have b4 := bz.trans (kx.mono bz.size)
        have s4 := b4.size
        clear kx
        go_wp2_with (first | (at_builtin; refine fappL ivEnc_len ivEnc_ones rfl _ _ 35 rfl y.heap.size 3 j0 (.int .i64 0) 8 Try.underlying35 hj hj0 hj1 hj2 rfl (by decide) (by decide) (.slice ak L.length ck2) L rfl O4 (some ⟨z.heap.size, 0, none⟩) 1 [(k : Int)] rfl (fun e => by cases e) V1 ?z0 ?z1 ?_) | go_in)
        case z0 => first | omega | (simp; omega)
        case z1 => first | omega | (simp; omega)
        intro vZ wZ hownZ hgrowZ _
        have hob : ∀ q, (Value.slice ak L.length ck2).ownBlock = some q → y.heap.size ≤ q := fun q e => (O4.lt q e).1
        have bZ : Below y.heap.size y wZ := b4.grown hgrowZ (by exact s4) hob
        clear hgrowZ V1 O4 hob O b4
        go_wp2
        go_roundw
        case rel => exact ⟨k + 1, by omega, by go_num, by rw [hst.out]; exact hownZ, bZ⟩
        case measure => simp [intOf]; omega
    · obtain rfl : k = Bs.length := by omega
      rw [show Fl.take Bs.length = Fl by rw [← hFl.out, List.take_length]] at O
      obtain ⟨ak, ck2, rfl⟩ := O.open_
      have OZ := O.base B0.size
      have bZ := B0.trans (kb.mono B0.size)
      go_wp2
      go_ret
      exact ⟨_, _, rfl, OZ, bZ⟩

end Go.Proofs.Ytdfjfodfnildiab
namespace Go.Proofs.Ytdfjfodfnildiab
open Go.ChangeShapes Go.WideShapes Go.ChangeAt Go.RowKit
open Go.ChangeMaps (open_string shut_string)
set_option linter.unusedVariables false
set_option maxRecDepth 100000

/-- It is the least of whom it is linked with. -/
def Good (B : List Bg) (K : List Lk) (f : Nat) : Prop := ∀ j : Nat, j < B.length → Con K (f : Int) (j : Int) → ¬ (B.getD j Bg.nil).id < (B.getD f Bg.nil).id
theorem least_iff {B : List Bg} {K : List Lk} {R : List Int} (hR : ∀ x, x ∈ R → 0 ≤ x ∧ x < (B.length : Int)) : LeastP B K R ↔ ∀ i, i < R.length → Good B K (R.getD i 0).toNat := by
  have hg : ∀ i, i < R.length → R.getD i 0 ∈ R := fun i hi => by
    rw [show R.getD i 0 = R[i] by simp [List.getD, hi]]
    exact List.getElem_mem hi
  constructor
  · intro h i hi j hj c
    have := h _ (hg i hi) j hj
    rw [Int.toNat_of_nonneg (hR _ (hg i hi)).1] at c
    exact this c
  · intro h r hr j hj c
    obtain ⟨i, hi, rfl⟩ := List.getElem_of_mem hr
    have := h i hi j hj
    have e : R.getD i 0 = R[i] := by simp [List.getD, hi]
    rw [e, Int.toNat_of_nonneg (hR _ hr).1] at this
    exact this c
theorem good_iff {B : List Bg} {K : List Lk} {f : Nat} {M : List Bool} (hM : Marks K B.length (f : Int) M) : Good B K f ↔ ∀ i, i < (idx 0 M).length → ¬ (B.getD ((idx 0 M).getD i 0).toNat Bg.nil).id < (B.getD f Bg.nil).id := by
  constructor
  · intro h i hi
    have hm : (idx 0 M).getD i 0 ∈ idx 0 M := by
      rw [show (idx 0 M).getD i 0 = (idx 0 M)[i] by simp [List.getD, hi]]
      exact List.getElem_mem hi
    obtain ⟨j, h1, h2, h3⟩ := (idx_mem _ _ 0).1 hm
    rw [hM.len] at h1
    rw [Nat.zero_add] at h3
    rw [h3, Int.toNat_natCast]
    exact h j h1 ((hM.is j h1).1 h2)
  · intro h j hj c
    have hm : (j : Int) ∈ idx 0 M := (idx_mem _ _ 0).2 ⟨j, by rw [hM.len]; exact hj, (hM.is j hj).2 c, by simp⟩
    obtain ⟨i, hi, e⟩ := List.getElem_of_mem hm
    have := h i hi
    rw [show (idx 0 M).getD i 0 = (j : Int) by rw [← e]; simp [List.getD, hi], Int.toNat_natCast] at this
    exact this
theorem idx_in {M : List Bool} {n i : Nat} (hl : M.length = n) (hi : i < (idx 0 M).length) : 0 ≤ (idx 0 M).getD i 0 ∧ (idx 0 M).getD i 0 < (n : Int) := by
  have hm : (idx 0 M).getD i 0 ∈ idx 0 M := by
    rw [show (idx 0 M).getD i 0 = (idx 0 M)[i] by simp [List.getD, hi]]
    exact List.getElem_mem hi
  obtain ⟨j, h1, _, h3⟩ := (idx_mem _ _ 0).1 hm
  omega
theorem getD_memI {R : List Int} {i : Nat} (hi : i < R.length) : R.getD i 0 ∈ R := by
  rw [show R.getD i 0 = R[i] by simp [List.getD, hi]]
  exact List.getElem_mem hi
/-- It is not below. -/
def Fine (B : List Bg) (x : Int) (f : Nat) : Prop := ¬ (B.getD x.toNat Bg.nil).id < (B.getD f Bg.nil).id
/-- What is a tree. -/
def TreeP (B : List Bg) (K : List Lk) : Prop := (NetP B K ∧ RingP (openB B) K) ∧ (NetP B K ∧ SpanP (openB B) K B.length) ∧ LeastP B K (rootsL B)
set_option maxHeartbeats 16000000 in
theorem leastI (adB : Option Addr) (capB : Nat) (Bs : List Bd) (adK : Option Addr) (capK : Nat) (K : List Lk) (w : World) (h : NN w adB Bs adK K) (hcap : Bs.length ≤ capB) (hok : Hid (NetP (dB Bs) K)) :
    Calls Try.prog 36 #[.agg #[.slice adB Bs.length capB, .slice adK K.length capK]] w fun e w' => YN e (LeastP (dB Bs) K (rootsL (dB Bs))) ∧ Below w.heap.size w w' := by
  suffices H : ∀ PQ : Prop, Hid (PQ ↔ LeastP (dB Bs) K (rootsL (dB Bs))) → Calls Try.prog 36 #[.agg #[.slice adB Bs.length capB, .slice adK K.length capK]] w fun e w' => YN e PQ ∧ Below w.heap.size w w' from H _ Iff.rfl
  intro PQ hQ0
  obtain ⟨y, hy⟩ : ∃ y, y = w.alloc (Obj.cells #[.slice adB Bs.length capB, .slice adK K.length capK] 31) := ⟨_, rfl⟩
  have B0 : Below w.heap.size w y := by rw [hy]; exact below_new _
  have A : NeAt y w.heap.size (.slice adB Bs.length capB) (.slice adK K.length capK) := by rw [hy]; exact NeAt.new w _
  have hN := h.later B0
  have hk := h.hk
  have hlB := h.hl
  clear h
  have h5 : Bs.length ≤ 5 := by have := hok.out.many.2; rwa [dB_len] at this
  have hRin : Hid (∀ i, i < (rootsL (dB Bs)).length → 0 ≤ (rootsL (dB Bs)).getD i 0 ∧ (rootsL (dB Bs)).getD i 0 < (Bs.length : Int)) := fun i hi => by
    have := rootsL_in (getD_memI hi)
    rwa [dB_len] at this
  have hQ : Hid (PQ ↔ ∀ i, i < (rootsL (dB Bs)).length → Good (dB Bs) K ((rootsL (dB Bs)).getD i 0).toNat) := hQ0.out.trans (least_iff (fun x hx => rootsL_in hx))
  have hRl := rootsL_len (dB Bs)
  rw [dB_len] at hRl
  clear hQ0
  go_enter Try.func36, Try.ntmps36
  go_wp2_with fail
  go_at_call 12
  rw [← hy]
  clear hy
  refine (rootsI adB capB Bs adK capK K y hN).mono ?_
  rintro e y1 ⟨aR, cR, rfl, OR, kq⟩
  have B1 := B0.trans (kq.mono B0.size)
  have A := A.below kq A.lt
  have hN := hN.later kq
  have vR := OR.view.2
  clear kq B0 OR
  obtain ⟨R, hR⟩ : ∃ R, rootsL (dB Bs) = R := ⟨_, rfl⟩
  rw [hR] at hRin hQ hRl vR ⊢
  clear hR
  go_wp2
  have vRi := vR.toI
  go_loopw [10] (fun q wr => ∃ k : Nat, k ≤ R.length ∧ q = .int .i64 (k : Int) ∧ Hid (∀ i, i < k → Good (dB Bs) K (R.getD i 0).toNat) ∧ Below y1.heap.size y1 wr) (fun q _ => R.length - (intOf q).toNat)
  case atStart => exact ⟨0, Nat.zero_le _, rfl, fun j hj => absurd hj (by omega), Below.refl _ _⟩
  case round =>
    obtain ⟨k, hk1, rfl, hF, kb⟩ := hrel
    by_cases hlt : k < R.length
    · obtain ⟨bR, oR, rfl, hcR⟩ := vRi (by omega)
      have hbR : bR < y1.heap.size := World.block_lt_of_cell? y1 _ (hcR k hlt)
      have ckR : wr.cell? ⟨bR, oR + k, none⟩ = some (.int .i64 (R.getD k 0)) := (World.cell?_of_block (a := ⟨bR, oR + k, none⟩) (kb.block bR hbR)).trans (hcR k hlt)
      obtain ⟨f0, f1⟩ := hRin.out k hlt
      have hFk : Hid ((∀ i, i < k → Good (dB Bs) K (R.getD i 0).toNat) → Good (dB Bs) K (R.getD k 0).toNat → ∀ i, i < k + 1 → Good (dB Bs) K (R.getD i 0).toNat) := fun h1 h2 i hi => by
        by_cases e : i = k
        · rw [e]; exact h2
        · exact h1 i (by omega)
      have hQk : Hid (¬ Good (dB Bs) K (R.getD k 0).toNat → ¬ PQ) := fun h1 h2 => h1 (hQ.out.1 h2 k hlt)
      obtain ⟨x, hx⟩ : ∃ x, R.getD k 0 = x := ⟨_, rfl⟩
      rw [hx] at ckR f0 f1 hFk hQk
      clear hx
      obtain ⟨f, rfl⟩ := Int.eq_ofNat_of_zero_le f0
      have hf : f < Bs.length := by omega
      simp only [Int.toNat_natCast] at hFk hQk
      have A1 := A.below kb A.lt
      have hN1 := hN.later kb
      obtain ⟨b, off, rfl⟩ := hN.vb.ad_ (by omega)
      have cc := A1
      obtain ⟨a0, a1⟩ := cc
      go_wp2_with fail
      go_at_call 60
      clear a0 a1 ckR
      refine (reachI (some ⟨b, off, none⟩) capB Bs adK capK K (f : Int) true wr hN1 hcap).mono ?_
      rintro e z ⟨L, aL, cL, hRI, rfl, OL, kz⟩
      have hM : ∃ M, Marks K (dB Bs).length (f : Int) M ∧ L = idx 0 M := by
        rcases hRI with ⟨q, _⟩ | ⟨_, f', e, _, M, hM, rfl⟩
        · exact absurd ⟨hok.out, by omega, by rw [dB_len]; omega⟩ q
        · obtain rfl : f = f' := by omega
          exact ⟨M, hM, rfl⟩
      obtain ⟨M, hM, hLM⟩ := hM
      clear hRI
      have bz := kb.trans (kz.mono kb.size)
      have hGd : Hid (Good (dB Bs) K f ↔ ∀ i, i < L.length → Fine (dB Bs) (L.getD i 0) f) := by unfold Hid; rw [hLM]; exact good_iff hM
      have hLin : Hid (∀ i, i < L.length → 0 ≤ L.getD i 0 ∧ L.getD i 0 < (Bs.length : Int)) := by unfold Hid; rw [hLM]; exact fun i hi => by have := idx_in (hM.len.trans (dB_len Bs)) hi; exact this
      have hLs : L.length ≤ 1048576 := by rw [hLM]; have h1 := idx_len M 0; have h2 := hM.len; rw [dB_len] at h2; omega
      have A2 := A1.below kz A1.lt
      have hN2 := hN1.later kz
      have vL := OL.view.2.toI
      clear hLM hM OL A1 hN1 kz
      go_wp2
      go_loopw [18] (fun q wr => ∃ n : Nat, n ≤ L.length ∧ q = .int .i64 (n : Int) ∧ Hid (∀ i, i < n → Fine (dB Bs) (L.getD i 0) f) ∧ Below z.heap.size z wr) (fun q _ => L.length - (intOf q).toNat)
      case atStart => exact ⟨0, Nat.zero_le _, rfl, fun j hj => absurd hj (by omega), Below.refl _ _⟩
      case round =>
        obtain ⟨q, hq1, rfl, hG, kv⟩ := hrel
        by_cases hlq : q < L.length
        · obtain ⟨bL, oL, rfl, hcL⟩ := vL (by omega)
          have hbL : bL < z.heap.size := World.block_lt_of_cell? z _ (hcL q hlq)
          have ckL : wr.cell? ⟨bL, oL + q, none⟩ = some (.int .i64 (L.getD q 0)) := (World.cell?_of_block (a := ⟨bL, oL + q, none⟩) (kv.block bL hbL)).trans (hcL q hlq)
          obtain ⟨j0, j1⟩ := hLin.out q hlq
          have hGn : Hid (Fine (dB Bs) (L.getD q 0) f → ∀ i, i < q + 1 → Fine (dB Bs) (L.getD i 0) f) := fun h i hi => by
            by_cases e : i = q
            · rw [e]; exact h
            · exact hG.out i (by omega)
          have hGb : Hid (¬ Fine (dB Bs) (L.getD q 0) f → ¬ Good (dB Bs) K f) := fun h g => h (hGd.out.1 g q hlq)
          obtain ⟨x, hx⟩ : ∃ x, L.getD q 0 = x := ⟨_, rfl⟩
          rw [hx] at ckL j0 j1 hGn hGb
          clear hx
          obtain ⟨j, rfl⟩ := Int.eq_ofNat_of_zero_le j0
          have hjB : j < Bs.length := by omega
          have ej : ((dB Bs).getD j Bg.nil).id = (Bs.getD j Bd.nil).id := by rw [show dB Bs = Bs.map Bd.d from rfl, bd_get]; rfl
          have ef : ((dB Bs).getD f Bg.nil).id = (Bs.getD f Bd.nil).id := by rw [show dB Bs = Bs.map Bd.d from rfl, bd_get]; rfl
          have hfi : Fine (dB Bs) (j : Int) f ↔ ¬ (Bs.getD j Bd.nil).id < (Bs.getD f Bd.nil).id := by unfold Fine; rw [Int.toNat_natCast, ej, ef]
          clear ej ef
          obtain ⟨v, hv⟩ : ∃ v, v = wr := ⟨_, rfl⟩
          rw [← hv] at kv ckL ⊢
          clear hv
          have A2 := A2.below kv A2.lt
          have hNv := hN2.later kv
          have hcj : ∀ Y, Below v.heap.size v Y → Y.cell? ⟨b, off + j * 2, none⟩ = some (.int .i64 (Bs.getD j Bd.nil).id) := fun Y hY => ((hNv.later hY).vb.at_ hjB).c0
          have hcf : ∀ Y, Below v.heap.size v Y → Y.cell? ⟨b, off + f * 2, none⟩ = some (.int .i64 (Bs.getD f Bd.nil).id) := fun Y hY => ((hNv.later hY).vb.at_ hf).c0
          obtain ⟨idj, hdj⟩ : ∃ d, (Bs.getD j Bd.nil).id = d := ⟨_, rfl⟩
          obtain ⟨idf, hdf⟩ : ∃ d, (Bs.getD f Bd.nil).id = d := ⟨_, rfl⟩
          rw [hdj, hdf] at hfi
          simp only [hdj, hdf] at hcj hcf
          clear hdj hdf hNv
          obtain ⟨o, ho⟩ : ∃ o, decide (idj < idf) = o := ⟨_, rfl⟩
          have hoF : Hid (o = false → Fine (dB Bs) (j : Int) f) := fun e => hfi.2 (by rw [← ho] at e; exact of_decide_eq_false e)
          have hoT : Hid (o = true → ¬ Fine (dB Bs) (j : Int) f) := fun e h => hfi.1 h (by rw [← ho] at e; exact of_decide_eq_true e)
          clear hfi
          go_upto_region 7 with fail
          refine wp_region_held (S := fun Y => Below v.heap.size v Y) (by kernel_rfl) ?_
          change wpAnyH _ _ _ _ _ _ _ _ (World.drew _)
          have hb0 : Below v.heap.size v v.drew := (Below.refl _ _).drew
          obtain ⟨u0, hy0⟩ : ∃ y_, y_ = v.drew := ⟨_, rfl⟩
          rw [← hy0] at hb0 ⊢
          clear hy0
          refine takeW 0 22 (.pointer (some ⟨w.heap.size, 0, none⟩)) rfl rfl (by kernel_rfl) (by kernel_rfl) (by kernel_rfl) (fun _ _ _ h => h) (by kernel_rfl) (by (intro w hSw; go_simp)) (by assumption) ?_
          simp only [List.set_cons_zero, List.set_cons_succ]
          refine takeW 1 23 (.slice (some ⟨b, off, none⟩) Bs.length capB) rfl rfl (by kernel_rfl) (by kernel_rfl) (by kernel_rfl) (fun _ _ _ h => h) (by kernel_rfl) (by (intro Y hSw; obtain ⟨X0, X1⟩ := A2.below hSw A2.lt; go_simp)) (by assumption) ?_
          simp only [List.set_cons_zero, List.set_cons_succ]
          refine takeW 2 24 (.int .i64 (j : Int)) rfl rfl (by kernel_rfl) (by kernel_rfl) (by kernel_rfl) (fun _ _ _ h => h) (by kernel_rfl) (by (intro w hSw; go_simp)) (by assumption) ?_
          simp only [List.set_cons_zero, List.set_cons_succ]
          refine takeW 3 25 (.pointer (some ⟨b, off + j * 2, none⟩)) rfl rfl (by kernel_rfl) (by kernel_rfl) (by kernel_rfl) (fun _ _ _ h => h) (by kernel_rfl) (by (intro Y hSw; go_simp; try omega)) (by assumption) ?_
          simp only [List.set_cons_zero, List.set_cons_succ]
          refine takeW 4 26 (.pointer (some ⟨b, off + j * 2, none⟩)) rfl rfl (by kernel_rfl) (by kernel_rfl) (by kernel_rfl) (fun _ _ _ h => h) (by kernel_rfl) (by (intro w hSw; go_simp)) (by assumption) ?_
          simp only [List.set_cons_zero, List.set_cons_succ]
          refine takeW 5 27 (.int .i64 idj) rfl rfl (by kernel_rfl) (by kernel_rfl) (by kernel_rfl) (fun _ _ _ h => h) (by kernel_rfl) (by (intro Y hSw; have X0 := hcj Y hSw; go_simp)) (by assumption) ?_
          simp only [List.set_cons_zero, List.set_cons_succ]
          refine takeW 6 28 (.pointer (some ⟨w.heap.size, 0, none⟩)) rfl rfl (by kernel_rfl) (by kernel_rfl) (by kernel_rfl) (fun _ _ _ h => h) (by kernel_rfl) (by (intro w hSw; go_simp)) (by assumption) ?_
          simp only [List.set_cons_zero, List.set_cons_succ]
          refine takeW 7 29 (.slice (some ⟨b, off, none⟩) Bs.length capB) rfl rfl (by kernel_rfl) (by kernel_rfl) (by kernel_rfl) (fun _ _ _ h => h) (by kernel_rfl) (by (intro Y hSw; obtain ⟨X0, X1⟩ := A2.below hSw A2.lt; go_simp)) (by assumption) ?_
          simp only [List.set_cons_zero, List.set_cons_succ]
          refine takeW 8 30 (.int .i64 (f : Int)) rfl rfl (by kernel_rfl) (by kernel_rfl) (by kernel_rfl) (fun _ _ _ h => h) (by kernel_rfl) (by (intro w hSw; go_simp)) (by assumption) ?_
          simp only [List.set_cons_zero, List.set_cons_succ]
          refine takeW 9 31 (.pointer (some ⟨b, off + f * 2, none⟩)) rfl rfl (by kernel_rfl) (by kernel_rfl) (by kernel_rfl) (fun _ _ _ h => h) (by kernel_rfl) (by (intro Y hSw; go_simp; try omega)) (by assumption) ?_
          simp only [List.set_cons_zero, List.set_cons_succ]
          refine takeW 10 32 (.pointer (some ⟨b, off + f * 2, none⟩)) rfl rfl (by kernel_rfl) (by kernel_rfl) (by kernel_rfl) (fun _ _ _ h => h) (by kernel_rfl) (by (intro w hSw; go_simp)) (by assumption) ?_
          simp only [List.set_cons_zero, List.set_cons_succ]
          refine takeW 11 33 (.int .i64 idf) rfl rfl (by kernel_rfl) (by kernel_rfl) (by kernel_rfl) (fun _ _ _ h => h) (by kernel_rfl) (by (intro Y hSw; have X0 := hcf Y hSw; go_simp)) (by assumption) ?_
          simp only [List.set_cons_zero, List.set_cons_succ]
          refine takeW 12 34 (.bool o) rfl rfl (by kernel_rfl) (by kernel_rfl) (by kernel_rfl) (fun _ _ _ h => h) (by kernel_rfl) (by (intro w hSw; go_simp)) (by assumption) ?_
          simp only [List.set_cons_zero, List.set_cons_succ]
          refine wpAnyH_done (by kernel_rfl) ?_ _
          have bv := kv.trans (hb0.mono kv.size)
          clear hb0 hcj hcf ho ckL
          cases o
          · have hno : Hid (Fine (dB Bs) (j : Int) f) := hoF.out rfl
            go_wp2
            go_roundw
            case rel => exact ⟨q + 1, by omega, by go_num, hGn.out hno.out, bv⟩
            case measure => simp [intOf]; omega
          · have hyes : Hid (¬ Fine (dB Bs) (j : Int) f) := hoT.out rfl
            have BZ := B1.trans ((bz.trans (bv.mono bz.size)).mono B1.size)
            go_wp2
            go_ret
            exact ⟨YN.no (hQk.out (hGb.out hyes.out)), BZ⟩
        · obtain rfl : q = L.length := by omega
          have bv := bz.trans (kv.mono bz.size)
          have hgood : Hid (Good (dB Bs) K f) := hGd.out.2 hG.out
          go_wp2
          go_roundw
          case rel => exact ⟨k + 1, by omega, by go_num, hFk.out hF.out hgood.out, bv⟩
          case measure => simp [intOf]; omega
    · obtain rfl : k = R.length := by omega
      have BZ := B1.trans (kb.mono B1.size)
      go_wp2
      go_ret
      exact ⟨YN.yes (hQ.out.2 hF.out), BZ⟩

end Go.Proofs.Ytdfjfodfnildiab
namespace Go.Proofs.Ytdfjfodfnildiab
open Go.ChangeShapes Go.WideShapes Go.ChangeAt Go.RowKit
open Go.ChangeMaps (open_string shut_string)
set_option linter.unusedVariables false
set_option maxRecDepth 100000

set_option maxHeartbeats 4000000 in
theorem treeI (adB : Option Addr) (capB : Nat) (Bs : List Bd) (adK : Option Addr) (capK : Nat) (K : List Lk) (w : World) (h : NN w adB Bs adK K) (hcap : Bs.length ≤ capB) :
    Calls Try.prog 18 #[.agg #[.slice adB Bs.length capB, .slice adK K.length capK]] w fun e w' => YN e (TreeP (dB Bs) K) ∧ Below w.heap.size w w' := by
  suffices H : ∀ PQ : Prop, Hid (PQ ↔ TreeP (dB Bs) K) → Calls Try.prog 18 #[.agg #[.slice adB Bs.length capB, .slice adK K.length capK]] w fun e w' => YN e PQ ∧ Below w.heap.size w w' from H _ Iff.rfl
  intro PQ hQ
  obtain ⟨y, hy⟩ : ∃ y, y = w.alloc (Obj.cells #[.slice adB Bs.length capB, .slice adK K.length capK] 31) := ⟨_, rfl⟩
  have B0 : Below w.heap.size w y := by rw [hy]; exact below_new _
  have A : NeAt y w.heap.size (.slice adB Bs.length capB) (.slice adK K.length capK) := by rw [hy]; exact NeAt.new w _
  have hN := h.later B0
  have hk := h.hk
  have hlB := h.hl
  clear h
  go_enter Try.func18, Try.ntmps18
  go_wp2_with fail
  go_at_call 35
  rw [← hy]
  clear hy
  refine (ringI adB capB Bs adK capK K y hN hcap).mono ?_
  rintro e y1 ⟨⟨R1, rfl, hR1⟩, kq⟩
  have B1 := B0.trans (kq.mono B0.size)
  have A := A.below kq A.lt
  have hN := hN.later kq
  clear kq B0
  by_cases h1 : NetP (dB Bs) K ∧ RingP (openB (dB Bs)) K
  rotate_left
  · obtain rfl := bool_no hR1 h1
    clear hR1
    replace h1 : Hid _ := h1
    go_wp2
    go_ret
    exact ⟨YN.no (fun h => h1.out (hQ.out.1 h).1), B1⟩
  obtain rfl : R1 = true := hR1.2 h1
  clear hR1
  replace h1 : Hid _ := h1
  have cc := A
  obtain ⟨a0, a1⟩ := cc
  go_wp2_with fail
  go_at_call 9
  clear a0 a1
  refine (spanI adB capB Bs adK capK K y1 hN hcap).mono ?_
  rintro e y2 ⟨⟨R2, rfl, hR2⟩, kq⟩
  have B2 := B1.trans (kq.mono B1.size)
  have A := A.below kq A.lt
  have hN := hN.later kq
  clear kq B1
  by_cases h2 : NetP (dB Bs) K ∧ SpanP (openB (dB Bs)) K (dB Bs).length
  rotate_left
  · obtain rfl := bool_no hR2 h2
    clear hR2
    replace h2 : Hid _ := h2
    go_wp2
    go_ret
    exact ⟨YN.no (fun h => h2.out (hQ.out.1 h).2.1), B2⟩
  obtain rfl : R2 = true := hR2.2 h2
  clear hR2
  replace h2 : Hid _ := h2
  have cc := A
  obtain ⟨a0, a1⟩ := cc
  go_wp2_with fail
  go_at_call 36
  clear a0 a1
  refine (leastI adB capB Bs adK capK K y2 hN hcap h1.out.1).mono ?_
  rintro e y3 ⟨⟨R3, rfl, hR3⟩, kq⟩
  have B3 := B2.trans (kq.mono B2.size)
  clear kq B2
  go_wp2
  go_ret
  exact ⟨YN.is (by rw [hR3, hQ.out]; exact ⟨fun q => ⟨h1.out, h2.out, q⟩, fun q => q.2.2⟩), B3⟩

end Go.Proofs.Ytdfjfodfnildiab
namespace Go.Proofs.Ytdfjfodfnildiab
open Go.ChangeShapes Go.WideShapes Go.ChangeAt Go.RowKit
open Go.ChangeMaps (open_string shut_string)
set_option linter.unusedVariables false
set_option maxRecDepth 100000

set_option maxHeartbeats 16000000 in
theorem treeS (adB : Option Addr) (capB : Nat) (Bs : List Bd) (adK : Option Addr) (capK : Nat) (K : List Lk) (w : World) (h : NN w adB Bs adK K) :
    Calls Try.prog 17 #[.agg #[.slice adB Bs.length capB, .slice adK K.length capK]] w fun e w' => YN e (TreeP (dB Bs) K) ∧ Below w.heap.size w w' := by
  suffices H : ∀ PQ : Prop, Hid (PQ ↔ TreeP (dB Bs) K) → Calls Try.prog 17 #[.agg #[.slice adB Bs.length capB, .slice adK K.length capK]] w fun e w' => YN e PQ ∧ Below w.heap.size w w' from H _ Iff.rfl
  intro PQ hQ
  obtain ⟨y, hy⟩ : ∃ y, y = w.alloc (Obj.cells #[.slice adB Bs.length capB, .slice adK K.length capK] 31) := ⟨_, rfl⟩
  have B0 : Below w.heap.size w y := by rw [hy]; exact below_new _
  have A : NeAt y w.heap.size (.slice adB Bs.length capB) (.slice adK K.length capK) := by rw [hy]; exact NeAt.new w _
  have hN := h.later B0
  have hk := h.hk
  have hlB := h.hl
  clear h
  go_enter Try.func17, Try.ntmps17
  go_wp2_with fail
  go_at_call 34
  rw [← hy]
  clear hy
  refine (ringS adB capB Bs adK capK K y hN).mono ?_
  rintro e y1 ⟨⟨R1, rfl, hR1⟩, kq⟩
  have B1 := B0.trans (kq.mono B0.size)
  have A := A.below kq A.lt
  have hN := hN.later kq
  clear kq B0
  by_cases h1 : NetP (dB Bs) K ∧ RingP (openB (dB Bs)) K
  rotate_left
  · obtain rfl := bool_no hR1 h1
    clear hR1
    replace h1 : Hid _ := h1
    go_wp2
    go_ret
    exact ⟨YN.no (fun h => h1.out (hQ.out.1 h).1), B1⟩
  obtain rfl : R1 = true := hR1.2 h1
  clear hR1
  replace h1 : Hid _ := h1
  have cc := A
  obtain ⟨a0, a1⟩ := cc
  go_wp2_with fail
  go_at_call 7
  clear a0 a1
  refine (spanS adB capB Bs adK capK K y1 hN).mono ?_
  rintro e y2 ⟨⟨R2, rfl, hR2⟩, kq⟩
  have B2 := B1.trans (kq.mono B1.size)
  have A := A.below kq A.lt
  have hN := hN.later kq
  clear kq B1
  by_cases h2 : NetP (dB Bs) K ∧ SpanP (openB (dB Bs)) K (dB Bs).length
  rotate_left
  · obtain rfl := bool_no hR2 h2
    clear hR2
    replace h2 : Hid _ := h2
    go_wp2
    go_ret
    exact ⟨YN.no (fun h => h2.out (hQ.out.1 h).2.1), B2⟩
  obtain rfl : R2 = true := hR2.2 h2
  clear hR2
  replace h2 : Hid _ := h2
  have hok : Hid (NetP (dB Bs) K) := h1.out.1
  have h5 : Bs.length ≤ 5 := by have := hok.out.many.2; rwa [dB_len] at this
  have hRin : Hid (∀ i, i < (rootsL (dB Bs)).length → 0 ≤ (rootsL (dB Bs)).getD i 0 ∧ (rootsL (dB Bs)).getD i 0 < (Bs.length : Int)) := fun i hi => by
    have := rootsL_in (getD_memI hi)
    rwa [dB_len] at this
  have hQ : Hid (PQ ↔ ∀ i, i < (rootsL (dB Bs)).length → Good (dB Bs) K ((rootsL (dB Bs)).getD i 0).toNat) := by
    unfold Hid
    rw [← least_iff (fun x hx => rootsL_in hx), hQ.out]
    exact ⟨fun q => q.2.2, fun q => ⟨h1.out, h2.out, q⟩⟩
  have hRl := rootsL_len (dB Bs)
  rw [dB_len] at hRl
  clear h1 h2
  have cc := A
  obtain ⟨a0, a1⟩ := cc
  go_wp2_with fail
  go_at_call 11
  clear a0 a1
  refine (rootsS adB capB Bs adK capK K y2 hN).mono ?_
  rintro e y3 ⟨aR, cR, rfl, OR, kq⟩
  have B3 := B2.trans (kq.mono B2.size)
  have A := A.below kq A.lt
  have hN := hN.later kq
  have vR := OR.view.2
  clear kq B2 OR
  obtain ⟨R, hR⟩ : ∃ R, rootsL (dB Bs) = R := ⟨_, rfl⟩
  rw [hR] at hRin hQ hRl vR ⊢
  clear hR
  obtain ⟨y1, hy1⟩ : ∃ x, x = y3 := ⟨_, rfl⟩
  rw [← hy1] at B3 A hN vR ⊢
  have B1 := B3
  clear hy1 B3
  go_wp2
  have vRi := vR.toI
  go_loopw [4] (fun q wr => ∃ k : Nat, k ≤ R.length ∧ q = .int .i64 (k : Int) ∧ Hid (∀ i, i < k → Good (dB Bs) K (R.getD i 0).toNat) ∧ Below y1.heap.size y1 wr) (fun q _ => R.length - (intOf q).toNat)
  case atStart => exact ⟨0, Nat.zero_le _, rfl, fun j hj => absurd hj (by omega), Below.refl _ _⟩
  case round =>
    obtain ⟨k, hk1, rfl, hF, kb⟩ := hrel
    by_cases hlt : k < R.length
    · obtain ⟨bR, oR, rfl, hcR⟩ := vRi (by omega)
      have hbR : bR < y1.heap.size := World.block_lt_of_cell? y1 _ (hcR k hlt)
      have ckR : wr.cell? ⟨bR, oR + k, none⟩ = some (.int .i64 (R.getD k 0)) := (World.cell?_of_block (a := ⟨bR, oR + k, none⟩) (kb.block bR hbR)).trans (hcR k hlt)
      obtain ⟨f0, f1⟩ := hRin.out k hlt
      have hFk : Hid ((∀ i, i < k → Good (dB Bs) K (R.getD i 0).toNat) → Good (dB Bs) K (R.getD k 0).toNat → ∀ i, i < k + 1 → Good (dB Bs) K (R.getD i 0).toNat) := fun h1 h2 i hi => by
        by_cases e : i = k
        · rw [e]; exact h2
        · exact h1 i (by omega)
      have hQk : Hid (¬ Good (dB Bs) K (R.getD k 0).toNat → ¬ PQ) := fun h1 h2 => h1 (hQ.out.1 h2 k hlt)
      obtain ⟨x, hx⟩ : ∃ x, R.getD k 0 = x := ⟨_, rfl⟩
      have hckf : y1.cell? ⟨bR, oR + k, none⟩ = some (.int .i64 (R.getD k 0)) := hcR k hlt
      rw [hx] at ckR f0 f1 hFk hQk hckf
      replace hckf : Hid _ := hckf
      clear hx
      obtain ⟨f, rfl⟩ := Int.eq_ofNat_of_zero_le f0
      have hf : f < Bs.length := by omega
      simp only [Int.toNat_natCast] at hFk hQk
      have hRf : ∀ Y, Below y1.heap.size y1 Y → Y.cell? ⟨bR, oR + k, none⟩ = some (.int .i64 (f : Int)) := fun Y hY => (World.cell?_of_block (a := ⟨bR, oR + k, none⟩) (hY.block bR hbR)).trans hckf.out
      have A1 := A.below kb A.lt
      have hN1 := hN.later kb
      obtain ⟨b, off, rfl⟩ := hN.vb.ad_ (by omega)
      have cc := A1
      obtain ⟨a0, a1⟩ := cc
      have hbw : bR < wr.heap.size := Nat.lt_of_lt_of_le hbR kb.size
      have hRc0 : ∀ Y, Below wr.heap.size wr Y → Y.cell? ⟨bR, oR + k, none⟩ = some (.int .i64 (f : Int)) := fun Y hY => (World.cell?_of_block (a := ⟨bR, oR + k, none⟩) (hY.block bR hbw)).trans ckR
      go_upto_region 7 with fail
      clear a0 a1
      refine wp_region_held (S := fun Y => Below wr.heap.size wr Y) (by kernel_rfl) ?_
      change wpAnyH _ _ _ _ _ _ _ _ (World.drew _)
      have hb0 : Below wr.heap.size wr wr.drew := (Below.refl _ _).drew
      obtain ⟨u0, hy0⟩ : ∃ y_, y_ = wr.drew := ⟨_, rfl⟩
      rw [← hy0] at hb0 ⊢
      clear hy0
      refine takeW 0 23 (.agg #[.slice (some ⟨b, off, none⟩) Bs.length capB, .slice adK K.length capK]) rfl rfl (by kernel_rfl) (by kernel_rfl) (by kernel_rfl) (fun _ _ _ h => h) (by kernel_rfl) (by (intro Y hSw; obtain ⟨X0, X1⟩ := A1.below hSw A1.lt; go_simp)) (by assumption) ?_
      simp only [List.set_cons_zero, List.set_cons_succ]
      refine takeW 1 24 (.slice (some ⟨bR, oR, none⟩) R.length cR) rfl rfl (by kernel_rfl) (by kernel_rfl) (by kernel_rfl) (fun _ _ _ h => h) (by kernel_rfl) (by (intro w hSw; go_simp)) (by assumption) ?_
      simp only [List.set_cons_zero, List.set_cons_succ]
      refine takeW 2 25 (.int .i64 (k : Int)) rfl rfl (by kernel_rfl) (by kernel_rfl) (by kernel_rfl) (fun _ _ _ h => h) (by kernel_rfl) (by (intro w hSw; go_simp)) (by assumption) ?_
      simp only [List.set_cons_zero, List.set_cons_succ]
      refine takeW 3 26 (.pointer (some ⟨bR, oR + k, none⟩)) rfl rfl (by kernel_rfl) (by kernel_rfl) (by kernel_rfl) (fun _ _ _ h => h) (by kernel_rfl) (by (intro Y hSw; go_simp; try omega)) (by assumption) ?_
      simp only [List.set_cons_zero, List.set_cons_succ]
      refine takeW 4 27 (.int .i64 (f : Int)) rfl rfl (by kernel_rfl) (by kernel_rfl) (by kernel_rfl) (fun _ _ _ h => h) (by kernel_rfl) (by (intro Y hSw; have X0 := hRc0 Y hSw; go_simp)) (by assumption) ?_
      simp only [List.set_cons_zero, List.set_cons_succ]
      refine wpAnyH_all (rs := [5]) (by kernel_rfl) (by simp) ?_
      intro i hi; obtain rfl : i = 5 := by simpa using hi
      refine wpOp_step rfl (fun Kz hKz => ?_)
      rw [if_pos (by kernel_rfl)]
      go_simp
      go_at_call 22
      refine (reachL (some ⟨b, off, none⟩) capB Bs adK capK K f true (-1) u0 (hN1.later hb0) hok hf).mono ?_
      rintro e u1 ⟨M, aL, cL, hM, rfl, OL, kq⟩
      have hb1 : Below wr.heap.size wr u1 := hb0.trans (kq.mono hb0.size)
      clear kq
      rw [sel_none, if_pos rfl] at hM
      refine hKz _ _ ⟨hb1, ?_⟩
      clear hKz Kz hi
      refine takeW 6 5 (.slice aL (idx 0 M).length cL) rfl rfl (by kernel_rfl) (by kernel_rfl) (by kernel_rfl) (fun _ _ _ h => h) (by kernel_rfl) (by (intro w hSw; go_simp)) (by assumption) ?_
      simp only [List.set_cons_zero, List.set_cons_succ]
      refine wpAnyH_done (by kernel_rfl) ?_ _
      have OL := OL
      rw [← dB_len Bs] at hM
      have bz := kb.trans (hb1.mono kb.size)
      have kz := hb1
      clear hb0 hb1 ckR
      obtain ⟨z, hz⟩ : ∃ z, z = u1 := ⟨_, rfl⟩
      rw [← hz] at OL bz kz ⊢
      clear hz
      obtain ⟨L, hLM⟩ : ∃ L, L = idx 0 M := ⟨_, rfl⟩
      rw [← hLM] at OL ⊢
      have hGd : Hid (Good (dB Bs) K f ↔ ∀ i, i < L.length → Fine (dB Bs) (L.getD i 0) f) := by unfold Hid; rw [hLM]; exact good_iff hM
      have hLin : Hid (∀ i, i < L.length → 0 ≤ L.getD i 0 ∧ L.getD i 0 < (Bs.length : Int)) := by unfold Hid; rw [hLM]; exact fun i hi => by have := idx_in (hM.len.trans (dB_len Bs)) hi; exact this
      have hLs : L.length ≤ 1048576 := by rw [hLM]; have h1 := idx_len M 0; have h2 := hM.len; rw [dB_len] at h2; omega
      have A2 := A1.below kz A1.lt
      have hN2 := hN1.later kz
      have vL := OL.view.2.toI
      clear hLM hM OL A1 hN1 kz
      clear hRc0
      have hRz : ∀ Y, Below z.heap.size z Y → Y.cell? ⟨bR, oR + k, none⟩ = some (.int .i64 (f : Int)) := fun Y hY => (hRf Y (bz.trans (hY.mono bz.size)))
      go_wp2
      go_loopw [6] (fun q wr => ∃ n : Nat, n ≤ L.length ∧ q = .int .i64 (n : Int) ∧ Hid (∀ i, i < n → Fine (dB Bs) (L.getD i 0) f) ∧ Below z.heap.size z wr) (fun q _ => L.length - (intOf q).toNat)
      case atStart => exact ⟨0, Nat.zero_le _, rfl, fun j hj => absurd hj (by omega), Below.refl _ _⟩
      case round =>
        obtain ⟨q, hq1, rfl, hG, kv⟩ := hrel
        by_cases hlq : q < L.length
        · obtain ⟨bL, oL, rfl, hcL⟩ := vL (by omega)
          have hbL : bL < z.heap.size := World.block_lt_of_cell? z _ (hcL q hlq)
          have ckL : wr.cell? ⟨bL, oL + q, none⟩ = some (.int .i64 (L.getD q 0)) := (World.cell?_of_block (a := ⟨bL, oL + q, none⟩) (kv.block bL hbL)).trans (hcL q hlq)
          obtain ⟨j0, j1⟩ := hLin.out q hlq
          have hGn : Hid (Fine (dB Bs) (L.getD q 0) f → ∀ i, i < q + 1 → Fine (dB Bs) (L.getD i 0) f) := fun h i hi => by
            by_cases e : i = q
            · rw [e]; exact h
            · exact hG.out i (by omega)
          have hGb : Hid (¬ Fine (dB Bs) (L.getD q 0) f → ¬ Good (dB Bs) K f) := fun h g => h (hGd.out.1 g q hlq)
          obtain ⟨x, hx⟩ : ∃ x, L.getD q 0 = x := ⟨_, rfl⟩
          rw [hx] at ckL j0 j1 hGn hGb
          clear hx
          obtain ⟨j, rfl⟩ := Int.eq_ofNat_of_zero_le j0
          have hjB : j < Bs.length := by omega
          have ej : ((dB Bs).getD j Bg.nil).id = (Bs.getD j Bd.nil).id := by rw [show dB Bs = Bs.map Bd.d from rfl, bd_get]; rfl
          have ef : ((dB Bs).getD f Bg.nil).id = (Bs.getD f Bd.nil).id := by rw [show dB Bs = Bs.map Bd.d from rfl, bd_get]; rfl
          have hfi : Fine (dB Bs) (j : Int) f ↔ ¬ (Bs.getD j Bd.nil).id < (Bs.getD f Bd.nil).id := by unfold Fine; rw [Int.toNat_natCast, ej, ef]
          clear ej ef
          obtain ⟨v, hv⟩ : ∃ v, v = wr := ⟨_, rfl⟩
          rw [← hv] at kv ckL ⊢
          clear hv
          have A2 := A2.below kv A2.lt
          have hNv := hN2.later kv
          have hcj : ∀ Y, Below v.heap.size v Y → Y.cell? ⟨b, off + j * 2, none⟩ = some (.int .i64 (Bs.getD j Bd.nil).id) := fun Y hY => ((hNv.later hY).vb.at_ hjB).c0
          have hcf : ∀ Y, Below v.heap.size v Y → Y.cell? ⟨b, off + f * 2, none⟩ = some (.int .i64 (Bs.getD f Bd.nil).id) := fun Y hY => ((hNv.later hY).vb.at_ hf).c0
          obtain ⟨idj, hdj⟩ : ∃ d, (Bs.getD j Bd.nil).id = d := ⟨_, rfl⟩
          obtain ⟨idf, hdf⟩ : ∃ d, (Bs.getD f Bd.nil).id = d := ⟨_, rfl⟩
          rw [hdj, hdf] at hfi
          simp only [hdj, hdf] at hcj hcf
          clear hdj hdf hNv
          have hbv : bL < v.heap.size := Nat.lt_of_lt_of_le hbL kv.size
          have hLc : ∀ Y, Below v.heap.size v Y → Y.cell? ⟨bL, oL + q, none⟩ = some (.int .i64 (j : Int)) := fun Y hY => (World.cell?_of_block (a := ⟨bL, oL + q, none⟩) (hY.block bL hbv)).trans ckL
          have hRc : ∀ Y, Below v.heap.size v Y → Y.cell? ⟨bR, oR + k, none⟩ = some (.int .i64 (f : Int)) := fun Y hY => hRz Y (kv.trans (hY.mono kv.size))
          obtain ⟨o, ho⟩ : ∃ o, decide (idj < idf) = o := ⟨_, rfl⟩
          have hoF : Hid (o = false → Fine (dB Bs) (j : Int) f) := fun e => hfi.2 (by rw [← ho] at e; exact of_decide_eq_false e)
          have hoT : Hid (o = true → ¬ Fine (dB Bs) (j : Int) f) := fun e h => hfi.1 h (by rw [← ho] at e; exact of_decide_eq_true e)
          clear hfi
          go_upto_region 11 with fail
          refine wp_region_held (S := fun Y => Below v.heap.size v Y) (by kernel_rfl) ?_
          change wpAnyH _ _ _ _ _ _ _ _ (World.drew _)
          have hb0 : Below v.heap.size v v.drew := (Below.refl _ _).drew
          obtain ⟨u0, hy0⟩ : ∃ y_, y_ = v.drew := ⟨_, rfl⟩
          rw [← hy0] at hb0 ⊢
          clear hy0
          refine takeW 0 35 (.pointer (some ⟨w.heap.size, 0, none⟩)) rfl rfl (by kernel_rfl) (by kernel_rfl) (by kernel_rfl) (fun _ _ _ h => h) (by kernel_rfl) (by (intro w hSw; go_simp)) (by assumption) ?_
          simp only [List.set_cons_zero, List.set_cons_succ]
          refine takeW 1 36 (.slice (some ⟨b, off, none⟩) Bs.length capB) rfl rfl (by kernel_rfl) (by kernel_rfl) (by kernel_rfl) (fun _ _ _ h => h) (by kernel_rfl) (by (intro Y hSw; obtain ⟨X0, X1⟩ := A2.below hSw A2.lt; go_simp)) (by assumption) ?_
          simp only [List.set_cons_zero, List.set_cons_succ]
          refine takeW 2 37 (.slice (some ⟨bL, oL, none⟩) L.length cL) rfl rfl (by kernel_rfl) (by kernel_rfl) (by kernel_rfl) (fun _ _ _ h => h) (by kernel_rfl) (by (intro w hSw; go_simp)) (by assumption) ?_
          simp only [List.set_cons_zero, List.set_cons_succ]
          refine takeW 3 38 (.int .i64 (q : Int)) rfl rfl (by kernel_rfl) (by kernel_rfl) (by kernel_rfl) (fun _ _ _ h => h) (by kernel_rfl) (by (intro w hSw; go_simp)) (by assumption) ?_
          simp only [List.set_cons_zero, List.set_cons_succ]
          refine takeW 4 39 (.pointer (some ⟨bL, oL + q, none⟩)) rfl rfl (by kernel_rfl) (by kernel_rfl) (by kernel_rfl) (fun _ _ _ h => h) (by kernel_rfl) (by (intro Y hSw; go_simp; try omega)) (by assumption) ?_
          simp only [List.set_cons_zero, List.set_cons_succ]
          refine takeW 5 40 (.int .i64 (j : Int)) rfl rfl (by kernel_rfl) (by kernel_rfl) (by kernel_rfl) (fun _ _ _ h => h) (by kernel_rfl) (by (intro Y hSw; have X0 := hLc Y hSw; go_simp)) (by assumption) ?_
          simp only [List.set_cons_zero, List.set_cons_succ]
          refine takeW 6 41 (.pointer (some ⟨b, off + j * 2, none⟩)) rfl rfl (by kernel_rfl) (by kernel_rfl) (by kernel_rfl) (fun _ _ _ h => h) (by kernel_rfl) (by (intro Y hSw; go_simp; try omega)) (by assumption) ?_
          simp only [List.set_cons_zero, List.set_cons_succ]
          refine takeW 7 42 (.pointer (some ⟨b, off + j * 2, none⟩)) rfl rfl (by kernel_rfl) (by kernel_rfl) (by kernel_rfl) (fun _ _ _ h => h) (by kernel_rfl) (by (intro w hSw; go_simp)) (by assumption) ?_
          simp only [List.set_cons_zero, List.set_cons_succ]
          refine takeW 8 43 (.int .i64 idj) rfl rfl (by kernel_rfl) (by kernel_rfl) (by kernel_rfl) (fun _ _ _ h => h) (by kernel_rfl) (by (intro Y hSw; have X0 := hcj Y hSw; go_simp)) (by assumption) ?_
          simp only [List.set_cons_zero, List.set_cons_succ]
          refine takeW 9 44 (.pointer (some ⟨w.heap.size, 0, none⟩)) rfl rfl (by kernel_rfl) (by kernel_rfl) (by kernel_rfl) (fun _ _ _ h => h) (by kernel_rfl) (by (intro w hSw; go_simp)) (by assumption) ?_
          simp only [List.set_cons_zero, List.set_cons_succ]
          refine takeW 10 45 (.slice (some ⟨b, off, none⟩) Bs.length capB) rfl rfl (by kernel_rfl) (by kernel_rfl) (by kernel_rfl) (fun _ _ _ h => h) (by kernel_rfl) (by (intro Y hSw; obtain ⟨X0, X1⟩ := A2.below hSw A2.lt; go_simp)) (by assumption) ?_
          simp only [List.set_cons_zero, List.set_cons_succ]
          refine takeW 11 46 (.slice (some ⟨bR, oR, none⟩) R.length cR) rfl rfl (by kernel_rfl) (by kernel_rfl) (by kernel_rfl) (fun _ _ _ h => h) (by kernel_rfl) (by (intro w hSw; go_simp)) (by assumption) ?_
          simp only [List.set_cons_zero, List.set_cons_succ]
          refine takeW 12 47 (.int .i64 (k : Int)) rfl rfl (by kernel_rfl) (by kernel_rfl) (by kernel_rfl) (fun _ _ _ h => h) (by kernel_rfl) (by (intro w hSw; go_simp)) (by assumption) ?_
          simp only [List.set_cons_zero, List.set_cons_succ]
          refine takeW 13 48 (.pointer (some ⟨bR, oR + k, none⟩)) rfl rfl (by kernel_rfl) (by kernel_rfl) (by kernel_rfl) (fun _ _ _ h => h) (by kernel_rfl) (by (intro Y hSw; go_simp; try omega)) (by assumption) ?_
          simp only [List.set_cons_zero, List.set_cons_succ]
          refine takeW 14 49 (.int .i64 (f : Int)) rfl rfl (by kernel_rfl) (by kernel_rfl) (by kernel_rfl) (fun _ _ _ h => h) (by kernel_rfl) (by (intro Y hSw; have X0 := hRc Y hSw; go_simp)) (by assumption) ?_
          simp only [List.set_cons_zero, List.set_cons_succ]
          refine takeW 15 50 (.pointer (some ⟨b, off + f * 2, none⟩)) rfl rfl (by kernel_rfl) (by kernel_rfl) (by kernel_rfl) (fun _ _ _ h => h) (by kernel_rfl) (by (intro Y hSw; go_simp; try omega)) (by assumption) ?_
          simp only [List.set_cons_zero, List.set_cons_succ]
          refine takeW 16 51 (.pointer (some ⟨b, off + f * 2, none⟩)) rfl rfl (by kernel_rfl) (by kernel_rfl) (by kernel_rfl) (fun _ _ _ h => h) (by kernel_rfl) (by (intro w hSw; go_simp)) (by assumption) ?_
          simp only [List.set_cons_zero, List.set_cons_succ]
          refine takeW 17 52 (.int .i64 idf) rfl rfl (by kernel_rfl) (by kernel_rfl) (by kernel_rfl) (fun _ _ _ h => h) (by kernel_rfl) (by (intro Y hSw; have X0 := hcf Y hSw; go_simp)) (by assumption) ?_
          simp only [List.set_cons_zero, List.set_cons_succ]
          refine takeW 18 53 (.bool o) rfl rfl (by kernel_rfl) (by kernel_rfl) (by kernel_rfl) (fun _ _ _ h => h) (by kernel_rfl) (by (intro w hSw; go_simp)) (by assumption) ?_
          simp only [List.set_cons_zero, List.set_cons_succ]
          refine wpAnyH_done (by kernel_rfl) ?_ _
          have bv := kv.trans (hb0.mono kv.size)
          clear hb0 hcj hcf ho ckL hLc hRc
          cases o
          · have hno : Hid (Fine (dB Bs) (j : Int) f) := hoF.out rfl
            go_wp2
            go_roundw
            case rel => exact ⟨q + 1, by omega, by go_num, hGn.out hno.out, bv⟩
            case measure => simp [intOf]; omega
          · have hyes : Hid (¬ Fine (dB Bs) (j : Int) f) := hoT.out rfl
            have BZ := B1.trans ((bz.trans (bv.mono bz.size)).mono B1.size)
            go_wp2
            go_ret
            exact ⟨YN.no (hQk.out (hGb.out hyes.out)), BZ⟩
        · obtain rfl : q = L.length := by omega
          have bv := bz.trans (kv.mono bz.size)
          have hgood : Hid (Good (dB Bs) K f) := hGd.out.2 hG.out
          go_wp2
          go_roundw
          case rel => exact ⟨k + 1, by omega, by go_num, hFk.out hF.out hgood.out, bv⟩
          case measure => simp [intOf]; omega
    · obtain rfl : k = R.length := by omega
      have BZ := B1.trans (kb.mono B1.size)
      go_wp2
      go_ret
      exact ⟨YN.yes (hQ.out.2 hF.out), BZ⟩

end Go.Proofs.Ytdfjfodfnildiab
