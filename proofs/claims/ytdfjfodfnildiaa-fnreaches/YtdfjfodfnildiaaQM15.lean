/- How much is said. What is said is small. Many bridges, in plain lists. Many bridges, in plain lists. Many bridges, in plain lists. Many bridges, in plain lists. Many bridges, in plain lists. Many bridges, in plain lists. impl.isOpen, walked. -/
import Derived.Test.YtdfjfodfnildiaaRows
import Derived.WalkKit
import Derived.ProofKit
import Derived.OpenShut
import Derived.ShutString
import Derived.ChangeOld
import Derived.Below
import Derived.Deep.QuietTactic
import Derived.BigQuiet
import Derived.WalkSmall
import Derived.Laws.OwnMore
import Derived.WalkSpells
import Derived.WalkLawsBesides
import Derived.Test.YtdfjfodfnildiaaQKRe5
import Derived.Test.YtdfjfodfnildiaaQM6
import Derived.Deep.Cut
import Derived.Laws.StructEq
import Derived.Test.YtdfjfodfnildiaaQM9
namespace Go.Proofs.Ytdfjfodfnildiaa
open Go.ChangeShapes Go.WideShapes Go.ChangeAt Go.RowKit
open Go.ChangeMaps (open_string shut_string)
set_option linter.unusedVariables false
set_option maxRecDepth 100000

theorem bOk_len4 {id : Int} {L : List Pt} (h : bOk id L = true) : L.length ≤ 4 := (bOk_all h).2.1.2
theorem reactO_len (id : Int) (L : List Pt) (x : Ik) : (reactO id L x).length ≤ 8 := by
  unfold reactO
  split
  · rename_i h
    unfold goes at h
    simp only [Bool.and_eq_true] at h
    have h4 := bOk_len4 h.1
    have h1 := gates_len L (afterL id L x) L.length
    have h2 := told_len id (afterL id L x) L.length
    rw [List.length_append]
    split
    · omega
    · simp; omega
  · simp

end Go.Proofs.Ytdfjfodfnildiaa
namespace Go.Proofs.Ytdfjfodfnildiaa
open Go.ChangeShapes Go.WideShapes Go.ChangeAt Go.RowKit
open Go.ChangeMaps (open_string shut_string)
set_option linter.unusedVariables false
set_option maxRecDepth 100000

end Go.Proofs.Ytdfjfodfnildiaa
namespace Go.Proofs.Ytdfjfodfnildiaa
open Go.ChangeShapes Go.WideShapes Go.ChangeAt Go.RowKit
open Go.ChangeMaps (open_string shut_string)
set_option linter.unusedVariables false
set_option maxRecDepth 100000

def tickIk : Ik := ⟨2, 0, 0, 0, 0, 0, 0, false⟩
def claimIk (q : Int) (o : Ou) : Ik := ⟨1, q, o.r, o.c, o.b, o.p, o.h, false⟩
def tickB (B : List Bg) (i : Nat) : List Bg := B.set i ⟨(B.getD i Bg.nil).id, reactL (B.getD i Bg.nil).id (B.getD i Bg.nil).L tickIk⟩
end Go.Proofs.Ytdfjfodfnildiaa
namespace Go.Proofs.Ytdfjfodfnildiaa
open Go.ChangeShapes Go.WideShapes Go.ChangeAt Go.RowKit
open Go.ChangeMaps (open_string shut_string)
set_option linter.unusedVariables false
set_option maxRecDepth 100000

section
variable {N : Nat} {ids : Nat → Int} {nb : Nat → Nat → Option (Nat × Nat)} {rt d : Nat → Nat}
end

end Go.Proofs.Ytdfjfodfnildiaa
namespace Go.Proofs.Ytdfjfodfnildiaa
open Go.ChangeShapes Go.WideShapes Go.ChangeAt Go.RowKit
open Go.ChangeMaps (open_string shut_string)
set_option linter.unusedVariables false
set_option maxRecDepth 100000

section
variable {N : Nat} {ids : Nat → Int} {nb : Nat → Nat → Option (Nat × Nat)} {rt d : Nat → Nat}
end

end Go.Proofs.Ytdfjfodfnildiaa
namespace Go.Proofs.Ytdfjfodfnildiaa
open Go.ChangeShapes Go.WideShapes Go.ChangeAt Go.RowKit
open Go.ChangeMaps (open_string shut_string)
set_option linter.unusedVariables false
set_option maxRecDepth 100000

section
variable {N : Nat} {ids : Nat → Int} {nb : Nat → Nat → Option (Nat × Nat)} {rt d : Nat → Nat}
end

end Go.Proofs.Ytdfjfodfnildiaa
namespace Go.Proofs.Ytdfjfodfnildiaa
open Go.ChangeShapes Go.WideShapes Go.ChangeAt Go.RowKit
open Go.ChangeMaps (open_string shut_string)
set_option linter.unusedVariables false
set_option maxRecDepth 100000

section
variable {N : Nat} {ids : Nat → Int} {nb : Nat → Nat → Option (Nat × Nat)} {rt d : Nat → Nat}
end

end Go.Proofs.Ytdfjfodfnildiaa
namespace Go.Proofs.Ytdfjfodfnildiaa
open Go.ChangeShapes Go.WideShapes Go.ChangeAt Go.RowKit
open Go.ChangeMaps (open_string shut_string)
set_option linter.unusedVariables false
set_option maxRecDepth 100000

section
variable {N : Nat} {ids : Nat → Int} {nb : Nat → Nat → Option (Nat × Nat)} {rt d : Nat → Nat}
end

end Go.Proofs.Ytdfjfodfnildiaa
namespace Go.Proofs.Ytdfjfodfnildiaa
open Go.ChangeShapes Go.WideShapes Go.ChangeAt Go.RowKit
open Go.ChangeMaps (open_string shut_string)
set_option linter.unusedVariables false
set_option maxRecDepth 100000

theorem portGet {w : World} {adB : Option Addr} {Bs : List Bd} {adK : Option Addr} {K : List Lk} {a p : Int} (h : NN w adB Bs adK K) (hp : PortP (dB Bs) a p) :
    ∃ (i j b off b2 off2 n cp : Nat) (id : Int), a = (i : Int) ∧ p = (j : Int) ∧ adB = some ⟨b, off, none⟩ ∧ i < Bs.length ∧ j < n ∧
      ∀ Y, Below w.heap.size w Y → Y.cell? ⟨b, off + i * 2, none⟩ = some (.int .i64 id) ∧ Y.cell? ⟨b, off + i * 2 + 1, none⟩ = some (.slice (some ⟨b2, off2, none⟩) n cp) ∧ Y.cell? ⟨b2, off2 + j * 11 + 10, none⟩ = some (.bool (pt (dB Bs) i j).op) := by
  obtain ⟨⟨a0, a1⟩, p0, p1⟩ := portP_iff.1 hp
  obtain ⟨i, rfl⟩ := Int.eq_ofNat_of_zero_le a0
  obtain ⟨j, rfl⟩ := Int.eq_ofNat_of_zero_le p0
  have hi : i < Bs.length := by omega
  simp only [Int.toNat_natCast] at p1
  have hj : j < (Bs.getD i Bd.nil).L.length := by omega
  obtain ⟨b, off, rfl⟩ := h.vb.ad_ (by omega)
  obtain ⟨b2, off2, e2, _⟩ := (h.vb.nest i hi) (by omega)
  refine ⟨i, j, b, off, b2, off2, (Bs.getD i Bd.nil).L.length, (Bs.getD i Bd.nil).cap, (Bs.getD i Bd.nil).id, rfl, rfl, rfl, hi, hj, fun Y hY => ?_⟩
  have V := (h.later hY).vb
  have c := V.at_ hi
  have vn := V.nest i hi
  rw [e2] at vn
  have q := ptAtO_of (vn.at_ ptEnc_len Pt.nil hj)
  refine ⟨c.c0, ?_, ?_⟩
  · rw [c.c1, e2]
  · unfold pt
    rw [bd_get]
    exact q.c10
set_option maxHeartbeats 8000000 in
theorem isOpenI (adB : Option Addr) (capB : Nat) (Bs : List Bd) (adK : Option Addr) (capK : Nat) (K : List Lk) (l : Lk) (w : World) (h : NN w adB Bs adK K) (h1 : PortP (dB Bs) l.a l.p) (h2 : PortP (dB Bs) l.b l.q) :
    Calls Try.prog 45 #[.agg #[.slice adB Bs.length capB, .slice adK K.length capK], .agg #[.int .i64 l.a, .int .i64 l.p, .int .i64 l.b, .int .i64 l.q]] w fun e w' => e = .returned (.bool (openB (dB Bs) l)) ∧ Below w.heap.size w w' := by
  obtain ⟨i, j, b, off, b2, off2, n, cp, id, e1, e2, rfl, hi, hj, G⟩ := portGet h h1
  obtain ⟨i2, j2, b', off', b22, off22, n2, cp2, id2, e3, e4, e5, hi2, hj2, G2⟩ := portGet h h2
  obtain ⟨rfl, rfl⟩ : b = b' ∧ off = off' := by cases e5; exact ⟨rfl, rfl⟩
  clear e5
  obtain ⟨la, lp, lb, lq⟩ := l
  dsimp only at e1 e2 e3 e4
  subst e1 e2 e3 e4
  have hR : Hid (openB (dB Bs) ⟨i, j, i2, j2⟩ = ((pt (dB Bs) i j).op && (pt (dB Bs) i2 j2).op)) := by unfold Hid openB; simp
  obtain ⟨o, ho⟩ : ∃ o, (pt (dB Bs) i j).op = o := ⟨_, rfl⟩
  obtain ⟨o2, ho2⟩ : ∃ o, (pt (dB Bs) i2 j2).op = o := ⟨_, rfl⟩
  rw [ho, ho2] at hR
  simp only [ho] at G
  simp only [ho2] at G2
  clear ho ho2 h1 h2
  rw [hR.out]
  clear hR
  obtain ⟨y, hy⟩ : ∃ y, y = (w.alloc (Obj.cells #[.slice (some ⟨b, off, none⟩) Bs.length capB, .slice adK K.length capK] 27)).alloc (Obj.cells #[.int .i64 (i : Int), .int .i64 (j : Int), .int .i64 (i2 : Int), .int .i64 (j2 : Int)] 64) := ⟨_, rfl⟩
  have B0 : Below w.heap.size w y := by rw [hy]; exact ((Below.refl _ _).alloc (Nat.le_refl _) _).alloc (by simp) _
  have A : NeAt y w.heap.size (.slice (some ⟨b, off, none⟩) Bs.length capB) (.slice adK K.length capK) := by rw [hy]; constructor <;> simp [go_sem]
  go_enter Try.func45, Try.ntmps45
  go_wp2_with fail
  go_at_call 70
  rw [← hy]
  clear hy
  refine (endsI ⟨i, j, i2, j2⟩ y).mono ?_
  rintro e z ⟨rfl, k1⟩
  have bz := B0.trans (k1.mono B0.size)
  have A := A.below k1 A.lt
  have ix0 := ixEnd0 ⟨i, j, i2, j2⟩
  have ix1 := ixEnd1 ⟨i, j, i2, j2⟩
  dsimp only at ix0 ix1
  clear k1 B0
  go_wp2
  refine wp_loop_rounds 3 ?_
  rw [rounds_succ]
  obtain ⟨t, ht⟩ : ∃ t, t = z.alloc (Obj.cells #[.int .i64 (i : Int), .int .i64 (j : Int)] 95) := ⟨_, rfl⟩
  have E : EnAt t z.heap.size (i : Int) (j : Int) := by rw [ht]; exact EnAt.new z _ _ _
  have kt : Below z.heap.size z t := by rw [ht]; exact below_new _
  have bt : Below w.heap.size w t := bz.trans (kt.mono bz.size)
  have A := A.below kt A.lt
  have g : ∀ Y, Below t.heap.size t Y → Y.cell? ⟨b, off + i * 2, none⟩ = some (.int .i64 id) ∧ Y.cell? ⟨b, off + i * 2 + 1, none⟩ = some (.slice (some ⟨b2, off2, none⟩) n cp) ∧ Y.cell? ⟨b2, off2 + j * 11 + 10, none⟩ = some (.bool o) := fun Y hY => G Y (bt.trans (hY.mono bt.size))
  clear kt bz
  go_upto_region 4 with fail
  rw [← ht]
  clear ht
  refine wp_region_held (S := fun Y => Below t.heap.size t Y) (by kernel_rfl) ?_
  change wpAnyH _ _ _ _ _ _ _ _ (World.drew _)
  have hb0 : Below t.heap.size t t.drew := (Below.refl _ _).drew
  obtain ⟨u0, hy0⟩ : ∃ y_, y_ = t.drew := ⟨_, rfl⟩
  rw [← hy0] at hb0 ⊢
  clear hy0
  refine takeW 0 12 (.pointer (some ⟨w.heap.size, 0, none⟩)) rfl rfl (by kernel_rfl) (by kernel_rfl) (by kernel_rfl) (fun _ _ _ h => h) (by kernel_rfl) (by (intro w hSw; go_simp)) (by assumption) ?_
  simp only [List.set_cons_zero, List.set_cons_succ]
  refine takeW 1 13 (.slice (some ⟨b, off, none⟩) Bs.length capB) rfl rfl (by kernel_rfl) (by kernel_rfl) (by kernel_rfl) (fun _ _ _ h => h) (by kernel_rfl) (by (intro Y hSw; obtain ⟨X0, X1⟩ := A.below hSw A.lt; go_simp)) (by assumption) ?_
  simp only [List.set_cons_zero, List.set_cons_succ]
  refine takeW 2 14 (.pointer (some ⟨z.heap.size, 0, none⟩)) rfl rfl (by kernel_rfl) (by kernel_rfl) (by kernel_rfl) (fun _ _ _ h => h) (by kernel_rfl) (by (intro w hSw; go_simp)) (by assumption) ?_
  simp only [List.set_cons_zero, List.set_cons_succ]
  refine takeW 3 15 (.int .i64 (i : Int)) rfl rfl (by kernel_rfl) (by kernel_rfl) (by kernel_rfl) (fun _ _ _ h => h) (by kernel_rfl) (by (intro Y hSw; obtain ⟨X0, X1⟩ := E.below hSw E.lt; go_simp)) (by assumption) ?_
  simp only [List.set_cons_zero, List.set_cons_succ]
  refine takeW 4 16 (.pointer (some ⟨b, off + i * 2, none⟩)) rfl rfl (by kernel_rfl) (by kernel_rfl) (by kernel_rfl) (fun _ _ _ h => h) (by kernel_rfl) (by (intro Y hSw; go_simp; try omega)) (by assumption) ?_
  simp only [List.set_cons_zero, List.set_cons_succ]
  refine takeW 5 17 (.pointer (some ⟨b, off + i * 2 + 1, none⟩)) rfl rfl (by kernel_rfl) (by kernel_rfl) (by kernel_rfl) (fun _ _ _ h => h) (by kernel_rfl) (by (intro w hSw; go_simp)) (by assumption) ?_
  simp only [List.set_cons_zero, List.set_cons_succ]
  refine takeW 6 18 (.slice (some ⟨b2, off2, none⟩) n cp) rfl rfl (by kernel_rfl) (by kernel_rfl) (by kernel_rfl) (fun _ _ _ h => h) (by kernel_rfl) (by (intro Y hSw; obtain ⟨X0, X1, X2⟩ := g Y hSw; go_simp)) (by assumption) ?_
  simp only [List.set_cons_zero, List.set_cons_succ]
  refine takeW 7 19 (.pointer (some ⟨z.heap.size, 1, none⟩)) rfl rfl (by kernel_rfl) (by kernel_rfl) (by kernel_rfl) (fun _ _ _ h => h) (by kernel_rfl) (by (intro w hSw; go_simp)) (by assumption) ?_
  simp only [List.set_cons_zero, List.set_cons_succ]
  refine takeW 8 20 (.int .i64 (j : Int)) rfl rfl (by kernel_rfl) (by kernel_rfl) (by kernel_rfl) (fun _ _ _ h => h) (by kernel_rfl) (by (intro Y hSw; obtain ⟨X0, X1⟩ := E.below hSw E.lt; go_simp)) (by assumption) ?_
  simp only [List.set_cons_zero, List.set_cons_succ]
  refine takeW 9 21 (.pointer (some ⟨b2, off2 + j * 11, none⟩)) rfl rfl (by kernel_rfl) (by kernel_rfl) (by kernel_rfl) (fun _ _ _ h => h) (by kernel_rfl) (by (intro Y hSw; go_simp; try omega)) (by assumption) ?_
  simp only [List.set_cons_zero, List.set_cons_succ]
  refine takeW 10 22 (.pointer (some ⟨b2, off2 + j * 11 + 10, none⟩)) rfl rfl (by kernel_rfl) (by kernel_rfl) (by kernel_rfl) (fun _ _ _ h => h) (by kernel_rfl) (by (intro w hSw; go_simp)) (by assumption) ?_
  simp only [List.set_cons_zero, List.set_cons_succ]
  refine takeW 11 23 (.bool o) rfl rfl (by kernel_rfl) (by kernel_rfl) (by kernel_rfl) (fun _ _ _ h => h) (by kernel_rfl) (by (intro Y hSw; obtain ⟨X0, X1, X2⟩ := g Y hSw; go_simp)) (by assumption) ?_
  simp only [List.set_cons_zero, List.set_cons_succ]
  refine takeW 12 24 (.bool (!o)) rfl rfl (by kernel_rfl) (by kernel_rfl) (by kernel_rfl) (fun _ _ _ h => h) (by kernel_rfl) (by (intro w hSw; go_simp)) (by assumption) ?_
  simp only [List.set_cons_zero, List.set_cons_succ]
  refine wpAnyH_done (by kernel_rfl) ?_ _
  have bz := bt.trans (hb0.mono bt.size)
  have A := A.below hb0 A.lt
  clear hb0 bt E
  cases o
  · go_wp2
    go_ret
    exact ⟨rfl, bz⟩
  go_wp2_with fail
  rw [rounds_succ]
  obtain ⟨z2, hz2⟩ : ∃ z, z = u0 := ⟨_, rfl⟩
  rw [← hz2] at bz A ⊢
  clear hz2
  obtain ⟨t2, ht2⟩ : ∃ t, t = z2.alloc (Obj.cells #[.int .i64 (i2 : Int), .int .i64 (j2 : Int)] 95) := ⟨_, rfl⟩
  have E : EnAt t2 z2.heap.size (i2 : Int) (j2 : Int) := by rw [ht2]; exact EnAt.new z2 _ _ _
  have kt : Below z2.heap.size z2 t2 := by rw [ht2]; exact below_new _
  have bt : Below w.heap.size w t2 := bz.trans (kt.mono bz.size)
  have A := A.below kt A.lt
  have g2 : ∀ Y, Below t2.heap.size t2 Y → Y.cell? ⟨b, off + i2 * 2, none⟩ = some (.int .i64 id2) ∧ Y.cell? ⟨b, off + i2 * 2 + 1, none⟩ = some (.slice (some ⟨b22, off22, none⟩) n2 cp2) ∧ Y.cell? ⟨b22, off22 + j2 * 11 + 10, none⟩ = some (.bool o2) := fun Y hY => G2 Y (bt.trans (hY.mono bt.size))
  clear kt bz
  go_upto_region 4 with fail
  rw [← ht2]
  clear ht2
  refine wp_region_held (S := fun Y => Below t2.heap.size t2 Y) (by kernel_rfl) ?_
  change wpAnyH _ _ _ _ _ _ _ _ (World.drew _)
  have hb0 : Below t2.heap.size t2 t2.drew := (Below.refl _ _).drew
  obtain ⟨u0, hy0⟩ : ∃ y_, y_ = t2.drew := ⟨_, rfl⟩
  rw [← hy0] at hb0 ⊢
  clear hy0
  refine takeW 0 12 (.pointer (some ⟨w.heap.size, 0, none⟩)) rfl rfl (by kernel_rfl) (by kernel_rfl) (by kernel_rfl) (fun _ _ _ h => h) (by kernel_rfl) (by (intro w hSw; go_simp)) (by assumption) ?_
  simp only [List.set_cons_zero, List.set_cons_succ]
  refine takeW 1 13 (.slice (some ⟨b, off, none⟩) Bs.length capB) rfl rfl (by kernel_rfl) (by kernel_rfl) (by kernel_rfl) (fun _ _ _ h => h) (by kernel_rfl) (by (intro Y hSw; obtain ⟨X0, X1⟩ := A.below hSw A.lt; go_simp)) (by assumption) ?_
  simp only [List.set_cons_zero, List.set_cons_succ]
  refine takeW 2 14 (.pointer (some ⟨z2.heap.size, 0, none⟩)) rfl rfl (by kernel_rfl) (by kernel_rfl) (by kernel_rfl) (fun _ _ _ h => h) (by kernel_rfl) (by (intro w hSw; go_simp)) (by assumption) ?_
  simp only [List.set_cons_zero, List.set_cons_succ]
  refine takeW 3 15 (.int .i64 (i2 : Int)) rfl rfl (by kernel_rfl) (by kernel_rfl) (by kernel_rfl) (fun _ _ _ h => h) (by kernel_rfl) (by (intro Y hSw; obtain ⟨X0, X1⟩ := E.below hSw E.lt; go_simp)) (by assumption) ?_
  simp only [List.set_cons_zero, List.set_cons_succ]
  refine takeW 4 16 (.pointer (some ⟨b, off + i2 * 2, none⟩)) rfl rfl (by kernel_rfl) (by kernel_rfl) (by kernel_rfl) (fun _ _ _ h => h) (by kernel_rfl) (by (intro Y hSw; go_simp; try omega)) (by assumption) ?_
  simp only [List.set_cons_zero, List.set_cons_succ]
  refine takeW 5 17 (.pointer (some ⟨b, off + i2 * 2 + 1, none⟩)) rfl rfl (by kernel_rfl) (by kernel_rfl) (by kernel_rfl) (fun _ _ _ h => h) (by kernel_rfl) (by (intro w hSw; go_simp)) (by assumption) ?_
  simp only [List.set_cons_zero, List.set_cons_succ]
  refine takeW 6 18 (.slice (some ⟨b22, off22, none⟩) n2 cp2) rfl rfl (by kernel_rfl) (by kernel_rfl) (by kernel_rfl) (fun _ _ _ h => h) (by kernel_rfl) (by (intro Y hSw; obtain ⟨X0, X1, X2⟩ := g2 Y hSw; go_simp)) (by assumption) ?_
  simp only [List.set_cons_zero, List.set_cons_succ]
  refine takeW 7 19 (.pointer (some ⟨z2.heap.size, 1, none⟩)) rfl rfl (by kernel_rfl) (by kernel_rfl) (by kernel_rfl) (fun _ _ _ h => h) (by kernel_rfl) (by (intro w hSw; go_simp)) (by assumption) ?_
  simp only [List.set_cons_zero, List.set_cons_succ]
  refine takeW 8 20 (.int .i64 (j2 : Int)) rfl rfl (by kernel_rfl) (by kernel_rfl) (by kernel_rfl) (fun _ _ _ h => h) (by kernel_rfl) (by (intro Y hSw; obtain ⟨X0, X1⟩ := E.below hSw E.lt; go_simp)) (by assumption) ?_
  simp only [List.set_cons_zero, List.set_cons_succ]
  refine takeW 9 21 (.pointer (some ⟨b22, off22 + j2 * 11, none⟩)) rfl rfl (by kernel_rfl) (by kernel_rfl) (by kernel_rfl) (fun _ _ _ h => h) (by kernel_rfl) (by (intro Y hSw; go_simp; try omega)) (by assumption) ?_
  simp only [List.set_cons_zero, List.set_cons_succ]
  refine takeW 10 22 (.pointer (some ⟨b22, off22 + j2 * 11 + 10, none⟩)) rfl rfl (by kernel_rfl) (by kernel_rfl) (by kernel_rfl) (fun _ _ _ h => h) (by kernel_rfl) (by (intro w hSw; go_simp)) (by assumption) ?_
  simp only [List.set_cons_zero, List.set_cons_succ]
  refine takeW 11 23 (.bool o2) rfl rfl (by kernel_rfl) (by kernel_rfl) (by kernel_rfl) (fun _ _ _ h => h) (by kernel_rfl) (by (intro Y hSw; obtain ⟨X0, X1, X2⟩ := g2 Y hSw; go_simp)) (by assumption) ?_
  simp only [List.set_cons_zero, List.set_cons_succ]
  refine takeW 12 24 (.bool (!o2)) rfl rfl (by kernel_rfl) (by kernel_rfl) (by kernel_rfl) (fun _ _ _ h => h) (by kernel_rfl) (by (intro w hSw; go_simp)) (by assumption) ?_
  simp only [List.set_cons_zero, List.set_cons_succ]
  refine wpAnyH_done (by kernel_rfl) ?_ _
  have bz := bt.trans (hb0.mono bt.size)
  have A := A.below hb0 A.lt
  clear hb0 bt E
  cases o2
  · go_wp2
    go_ret
    exact ⟨rfl, bz⟩
  go_wp2_with fail
  rw [rounds_succ]
  go_wp2
  go_ret
  exact ⟨rfl, bz⟩

end Go.Proofs.Ytdfjfodfnildiaa
