/- impl.portsFit, walked. -/
import Derived.Test.YtdfjfodfnildiaaRows
import Derived.WalkKit
import Derived.ProofKit
import Derived.OpenShut
import Derived.ShutString
import Derived.ChangeOld
import Derived.Below
import Derived.Deep.QuietTactic
import Derived.BigQuiet
import Derived.WalkSmall
import Derived.Laws.OwnMore
import Derived.WalkSpells
import Derived.WalkLawsBesides
import Derived.Deep.Cut
import Derived.Laws.StructEq
import Derived.Test.YtdfjfodfnildiaaQM9
namespace Go.Proofs.Ytdfjfodfnildiaa
open Go.ChangeShapes Go.WideShapes Go.ChangeAt Go.RowKit
open Go.ChangeMaps (open_string shut_string)
set_option linter.unusedVariables false
set_option maxRecDepth 100000

def PortsTo (B : List Bg) (K : List Lk) (n : Nat) : Prop := ∀ i x, i < n → x < (B.getD i Bg.nil).L.length → onceL K i x = if (pt B i x).up then 1 else 0
set_option maxHeartbeats 8000000 in
theorem pFitI (adB : Option Addr) (capB : Nat) (Bs : List Bd) (adK : Option Addr) (capK : Nat) (K : List Lk) (w : World) (hN : NN w adB Bs adK K) :
    Calls Try.prog 53 #[.agg #[.slice adB Bs.length capB, .slice adK K.length capK]] w fun e w' => YN e (PortsTo (dB Bs) K (dB Bs).length) ∧ Below w.heap.size w w' := by
  rw [dB_len]
  suffices H : ∀ Q : Prop, Hid (Q ↔ PortsTo (dB Bs) K Bs.length) → Calls Try.prog 53 #[.agg #[.slice adB Bs.length capB, .slice adK K.length capK]] w fun e w' => YN e Q ∧ Below w.heap.size w w' from H _ Iff.rfl
  intro Q hQ
  obtain ⟨vb, vk, hl, hls, hlk⟩ := hN
  have hkB := vk.lt lkEnc_len (by omega)
  obtain ⟨y, hy⟩ : ∃ y, y = w.alloc (Obj.cells #[.slice adB Bs.length capB, .slice adK K.length capK] 27) := ⟨_, rfl⟩
  have B0 : Below w.heap.size w y := by rw [hy]; exact below_new _
  have A0 : NeAt y w.heap.size (.slice adB Bs.length capB) (.slice adK K.length capK) := by rw [hy]; exact NeAt.new w _
  go_enter Try.func53, Try.ntmps53
  go_wp2
  rw [← hy]
  clear hy
  go_loopw [10] (fun i wr => ∃ k : Nat, k ≤ Bs.length ∧ i = .int .i64 k ∧ Hid (PortsTo (dB Bs) K k) ∧ Below w.heap.size w wr ∧ NeAt wr w.heap.size (.slice adB Bs.length capB) (.slice adK K.length capK)) (fun i _ => Bs.length - (intOf i).toNat)
  case atStart => exact ⟨0, Nat.zero_le _, rfl, fun i x hi => absurd hi (by omega), B0, A0⟩
  case round =>
    obtain ⟨i, hi, rfl, hF, hb, A⟩ := hrel
    clear B0 A0
    by_cases hlt : i < Bs.length
    · obtain ⟨b, off, rfl⟩ := vb.ad_ (by omega)
      have hck := (vb.below hb (Nat.le_refl _)).at_ hlt
      have hll := hls i hlt
      have hg : Hid ((dB Bs).getD i Bg.nil = (Bs.getD i Bd.nil).d) := bd_get Bs i
      have nest := vb.nest i hlt
      obtain ⟨⟨id, a1, c1, L1⟩, hh⟩ : ∃ q, Bs.getD i Bd.nil = q := ⟨_, rfl⟩
      rw [hh] at hck hll hg nest
      dsimp only at hll nest
      obtain ⟨x1, x2⟩ := hck
      dsimp only at x1 x2
      have hnB := nest.lt ptEnc_len (by omega)
      clear hh vb
      go_wp2
      go_loopw [18] (fun q wr => ∃ j : Nat, j ≤ L1.length ∧ q = .int .i64 j ∧ Hid (∀ x, x < j → onceL K i x = if (L1.getD x Pt.nil).up then 1 else 0) ∧ Below w.heap.size w wr ∧ NeAt wr w.heap.size (.slice (some ⟨b, off, none⟩) Bs.length capB) (.slice adK K.length capK)) (fun q _ => L1.length - (intOf q).toNat)
      case atStart => exact ⟨0, Nat.zero_le _, rfl, fun x hx => absurd hx (by omega), hb.alloc hb.size _, A.below (below_new _) A.lt⟩
      case round =>
        obtain ⟨j, hj, rfl, hG, hv, Av⟩ := hrel
        by_cases hjt : j < L1.length
        · obtain ⟨b2, off2, rfl, _⟩ := nest (by omega)
          have hcp := ptAtO_of ((nest.below hv hnB).at_ ptEnc_len Pt.nil hjt)
          obtain ⟨⟨up, has, pr, pc, pb, pp, ph, pl, pro, pwa, pop⟩, hq⟩ : ∃ q, L1.getD j Pt.nil = q := ⟨_, rfl⟩
          rw [hq] at hcp
          replace hq : Hid _ := hq
          obtain ⟨p0, p1, p2, p3, p4, p5, p6, p7, p8, p9, p10⟩ := hcp
          dsimp only at p0 p1 p2 p3 p4 p5 p6 p7 p8 p9 p10
          obtain ⟨u, hu⟩ : ∃ u, u = wr.alloc (Obj.cells #[.bool up, .bool has, .int .i64 pr, .int .i64 pc, .int .i64 pb, .int .i64 pp, .int .i64 ph, .int .i64 pl, .int .i64 pro, .int .i64 pwa, .bool pop] 68) := ⟨_, rfl⟩
          have bu : Below w.heap.size w u := by rw [hu]; exact hv.alloc hv.size _
          have Au : NeAt u w.heap.size (.slice (some ⟨b, off, none⟩) Bs.length capB) (.slice adK K.length capK) := by rw [hu]; exact Av.below (below_new _) Av.lt
          have hp0 : u.cell? ⟨wr.heap.size, 0, none⟩ = some (.bool up) := by rw [hu]; simp [go_sem]
          have ul : wr.heap.size < u.heap.size := World.block_lt_of_cell? u _ hp0
          have hp : ∀ Y, Below u.heap.size u Y → Y.cell? ⟨wr.heap.size, 0, none⟩ = some (.bool up) := fun Y hY => (World.cell?_of_block (a := ⟨wr.heap.size, 0, none⟩) (hY.block wr.heap.size ul)).trans hp0
          have hA : ∀ Y, Below u.heap.size u Y → NeAt Y w.heap.size (.slice (some ⟨b, off, none⟩) Bs.length capB) (.slice adK K.length capK) := fun Y hY => Au.below hY Au.lt
          have vk' : ∀ Y, Below u.heap.size u Y → FView lkEnc Y adK K := fun Y hY => vk.below (bu.trans (hY.mono bu.size)) hkB
          obtain ⟨o, ho⟩ : ∃ o, Hid (onceL K i j = o) := ⟨_, rfl⟩
          obtain ⟨m, hm⟩ : ∃ m, Hid ((if up = true then (1 : Int) else 0) = m) := ⟨_, rfl⟩
          clear Av hv hp0
          by_cases hom : o = m
          · have e1 : (o != m) = false := by simp [hom]
            have e2 : decide (o = m) = true := decide_eq_true hom
            replace hom : Hid _ := hom
            go_upto_region 7 with fail
            rw [← hu]
            clear hu p0 p1 p2 p3 p4 p5 p6 p7 p8 p9 p10
            refine wp_region_held (S := fun Y => Below u.heap.size u Y) (by kernel_rfl) ?_
            change wpAnyH _ _ _ _ _ _ _ _ (World.drew _)
            have hb0 : Below u.heap.size u u.drew := (Below.refl _ _).drew
            obtain ⟨u0, hy0⟩ : ∃ y_, y_ = u.drew := ⟨_, rfl⟩
            rw [← hy0] at hb0 ⊢
            clear hy0
            refine takeW 0 23 (.pointer (some ⟨w.heap.size, 1, none⟩)) rfl rfl (by kernel_rfl) (by kernel_rfl) (by kernel_rfl) (fun _ _ _ h => h) (by kernel_rfl) (by (intro w hSw; go_simp)) (by assumption) ?_
            simp only [List.set_cons_zero, List.set_cons_succ]
            refine takeW 1 24 (.slice adK K.length capK) rfl rfl (by kernel_rfl) (by kernel_rfl) (by kernel_rfl) (fun _ _ _ h => h) (by kernel_rfl) (by (intro Y hSw; obtain ⟨X0, X1⟩ := hA Y hSw; go_simp)) (by assumption) ?_
            simp only [List.set_cons_zero, List.set_cons_succ]
            refine takeW 2 25 (.int .i64 (i : Int)) rfl rfl (by kernel_rfl) (by kernel_rfl) (by kernel_rfl) (fun _ _ _ h => h) (by kernel_rfl) (by (intro w hSw; go_simp)) (by assumption) ?_
            simp only [List.set_cons_zero, List.set_cons_succ]
            refine takeW 3 26 (.int .i64 (j : Int)) rfl rfl (by kernel_rfl) (by kernel_rfl) (by kernel_rfl) (fun _ _ _ h => h) (by kernel_rfl) (by (intro w hSw; go_simp)) (by assumption) ?_
            simp only [List.set_cons_zero, List.set_cons_succ]
            refine takeW 4 27 (.agg #[.int .i64 (i : Int), .int .i64 (j : Int)]) rfl rfl (by kernel_rfl) (by kernel_rfl) (by kernel_rfl) (fun _ _ _ h => h) (by kernel_rfl) (by (intro w hSw; go_simp)) (by assumption) ?_
            simp only [List.set_cons_zero, List.set_cons_succ]
            refine takeW 6 29 (.pointer (some ⟨wr.heap.size, 0, none⟩)) rfl rfl (by kernel_rfl) (by kernel_rfl) (by kernel_rfl) (fun _ _ _ h => h) (by kernel_rfl) (by (intro w hSw; go_simp)) (by assumption) ?_
            simp only [List.set_cons_zero, List.set_cons_succ]
            refine takeW 7 30 (.bool up) rfl rfl (by kernel_rfl) (by kernel_rfl) (by kernel_rfl) (fun _ _ _ h => h) (by kernel_rfl) (by (intro Y hSw; have X0 := hp Y hSw; go_simp)) (by assumption) ?_
            simp only [List.set_cons_zero, List.set_cons_succ]
            refine wpAnyH_all (rs := [5]) (by kernel_rfl) (by simp) ?_
            intro i hi; obtain rfl : i = 5 := by simpa using hi
            refine wpOp_step rfl (fun Kz hKz => ?_)
            rw [if_pos (by kernel_rfl)]
            go_simp
            go_at_call 78
            refine (linksAtI adK capK K i j u0 (vk' u0 hb0) hlk).mono ?_
            rintro e u1 ⟨rfl, kq⟩
            have hb1 : Below u.heap.size u u1 := hb0.trans (kq.mono hb0.size)
            clear kq
            rw [ho.out]
            refine hKz _ _ ⟨hb1, ?_⟩
            clear hKz Kz hi
            refine wpAnyH_all (rs := [8]) (by kernel_rfl) (by simp) ?_
            intro i hi; obtain rfl : i = 8 := by simpa using hi
            refine wpOp_step rfl (fun Kz hKz => ?_)
            rw [if_pos (by kernel_rfl)]
            go_simp
            go_at_call 79
            refine (oneIfI up m hm.out _).mono ?_
            rintro e u2 ⟨rfl, rfl⟩
            refine hKz _ _ ⟨hb1, ?_⟩
            clear hKz Kz hi
            refine takeW 9 32 (.bool false) rfl rfl (by kernel_rfl) (by kernel_rfl) (by kernel_rfl) (fun _ _ _ h => h) (by kernel_rfl) (by (intro w hSw; go_simp)) (by assumption) ?_
            simp only [List.set_cons_zero, List.set_cons_succ]
            refine wpAnyH_done (by kernel_rfl) ?_ _
            go_wp2
            go_roundw
            case rel =>
              refine ⟨j + 1, by omega, by go_num, fun x hx => ?_, bu.trans (hb1.mono bu.size), hA _ hb1⟩
              by_cases ex : x = j
              · rw [ex, hq.out, ho.out, hom.out]; exact hm.out.symm
              · exact hG.out x (by omega)
            case measure => simp [intOf]; omega
          · have e1 : (o != m) = true := by simp [hom]
            have e2 : decide (o = m) = false := decide_eq_false hom
            replace hom : Hid _ := hom
            go_upto_region 7 with fail
            rw [← hu]
            clear hu p0 p1 p2 p3 p4 p5 p6 p7 p8 p9 p10
            refine wp_region_held (S := fun Y => Below u.heap.size u Y) (by kernel_rfl) ?_
            change wpAnyH _ _ _ _ _ _ _ _ (World.drew _)
            have hb0 : Below u.heap.size u u.drew := (Below.refl _ _).drew
            obtain ⟨u0, hy0⟩ : ∃ y_, y_ = u.drew := ⟨_, rfl⟩
            rw [← hy0] at hb0 ⊢
            clear hy0
            refine takeW 0 23 (.pointer (some ⟨w.heap.size, 1, none⟩)) rfl rfl (by kernel_rfl) (by kernel_rfl) (by kernel_rfl) (fun _ _ _ h => h) (by kernel_rfl) (by (intro w hSw; go_simp)) (by assumption) ?_
            simp only [List.set_cons_zero, List.set_cons_succ]
            refine takeW 1 24 (.slice adK K.length capK) rfl rfl (by kernel_rfl) (by kernel_rfl) (by kernel_rfl) (fun _ _ _ h => h) (by kernel_rfl) (by (intro Y hSw; obtain ⟨X0, X1⟩ := hA Y hSw; go_simp)) (by assumption) ?_
            simp only [List.set_cons_zero, List.set_cons_succ]
            refine takeW 2 25 (.int .i64 (i : Int)) rfl rfl (by kernel_rfl) (by kernel_rfl) (by kernel_rfl) (fun _ _ _ h => h) (by kernel_rfl) (by (intro w hSw; go_simp)) (by assumption) ?_
            simp only [List.set_cons_zero, List.set_cons_succ]
            refine takeW 3 26 (.int .i64 (j : Int)) rfl rfl (by kernel_rfl) (by kernel_rfl) (by kernel_rfl) (fun _ _ _ h => h) (by kernel_rfl) (by (intro w hSw; go_simp)) (by assumption) ?_
            simp only [List.set_cons_zero, List.set_cons_succ]
            refine takeW 4 27 (.agg #[.int .i64 (i : Int), .int .i64 (j : Int)]) rfl rfl (by kernel_rfl) (by kernel_rfl) (by kernel_rfl) (fun _ _ _ h => h) (by kernel_rfl) (by (intro w hSw; go_simp)) (by assumption) ?_
            simp only [List.set_cons_zero, List.set_cons_succ]
            refine takeW 6 29 (.pointer (some ⟨wr.heap.size, 0, none⟩)) rfl rfl (by kernel_rfl) (by kernel_rfl) (by kernel_rfl) (fun _ _ _ h => h) (by kernel_rfl) (by (intro w hSw; go_simp)) (by assumption) ?_
            simp only [List.set_cons_zero, List.set_cons_succ]
            refine takeW 7 30 (.bool up) rfl rfl (by kernel_rfl) (by kernel_rfl) (by kernel_rfl) (fun _ _ _ h => h) (by kernel_rfl) (by (intro Y hSw; have X0 := hp Y hSw; go_simp)) (by assumption) ?_
            simp only [List.set_cons_zero, List.set_cons_succ]
            refine wpAnyH_all (rs := [5]) (by kernel_rfl) (by simp) ?_
            intro i hi; obtain rfl : i = 5 := by simpa using hi
            refine wpOp_step rfl (fun Kz hKz => ?_)
            rw [if_pos (by kernel_rfl)]
            go_simp
            go_at_call 78
            refine (linksAtI adK capK K i j u0 (vk' u0 hb0) hlk).mono ?_
            rintro e u1 ⟨rfl, kq⟩
            have hb1 : Below u.heap.size u u1 := hb0.trans (kq.mono hb0.size)
            clear kq
            rw [ho.out]
            refine hKz _ _ ⟨hb1, ?_⟩
            clear hKz Kz hi
            refine wpAnyH_all (rs := [8]) (by kernel_rfl) (by simp) ?_
            intro i hi; obtain rfl : i = 8 := by simpa using hi
            refine wpOp_step rfl (fun Kz hKz => ?_)
            rw [if_pos (by kernel_rfl)]
            go_simp
            go_at_call 79
            refine (oneIfI up m hm.out _).mono ?_
            rintro e u2 ⟨rfl, rfl⟩
            refine hKz _ _ ⟨hb1, ?_⟩
            clear hKz Kz hi
            refine takeW 9 32 (.bool true) rfl rfl (by kernel_rfl) (by kernel_rfl) (by kernel_rfl) (fun _ _ _ h => h) (by kernel_rfl) (by (intro w hSw; go_simp)) (by assumption) ?_
            simp only [List.set_cons_zero, List.set_cons_succ]
            refine wpAnyH_done (by kernel_rfl) ?_ _
            go_wp2
            go_ret
            refine ⟨YN.no (fun h => ?_), bu.trans (hb1.mono bu.size)⟩
            have := (hQ.out.1 h) i j hlt (by rw [hg.out]; exact hjt)
            unfold pt at this
            rw [hg.out] at this
            have e := congrArg (fun q : Pt => if q.up = true then (1 : Int) else 0) hq.out
            exact hom.out (ho.out.symm.trans (this.trans (e.trans hm.out)))
        · obtain rfl : j = L1.length := by omega
          go_wp2
          go_roundw
          case rel =>
            refine ⟨i + 1, by omega, by go_num, fun x q hx hq => ?_, hv, Av⟩
            by_cases ex : x = i
            · subst ex
              unfold pt
              rw [hg.out] at hq ⊢
              exact hG.out q hq
            · exact hF.out x q (by omega) hq
          case measure => simp [intOf]; omega
    · obtain rfl : i = Bs.length := by omega
      go_wp2
      go_ret
      exact ⟨YN.yes (hQ.out.2 hF.out), hb⟩

end Go.Proofs.Ytdfjfodfnildiaa
