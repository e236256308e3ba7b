/- Wires drawn: the walk. The state of spec.Settle. spec.Settle and spec.Round, walked. spec.Round, walked. Nets drawn. Nets that are drawn: states. -/
import Derived.Test.YtdfjfodfnildiaaRows
import Derived.WalkKit
import Derived.ProofKit
import Derived.OpenShut
import Derived.ShutString
import Derived.ChangeOld
import Derived.Below
import Derived.Deep.QuietTactic
import Derived.BigQuiet
import Derived.WalkSmall
import Derived.Laws.OwnMore
import Derived.WalkSpells
import Derived.WalkLawsBesides
import Derived.Deep.Cut
import Derived.Laws.StructEq
import Derived.Maps.AppendAt
import Derived.Deep.RegionHeld
import Derived.Test.YtdfjfodfnildiaaQM12
import Derived.Test.YtdfjfodfnildiaaQM1
import Derived.Test.YtdfjfodfnildiaaQKSp5
import Derived.Test.YtdfjfodfnildiaaQKNs1
import Derived.Test.YtdfjfodfnildiaaQM7
import Derived.Test.YtdfjfodfnildiaaQKBDraw3
import Derived.Test.YtdfjfodfnildiaaQKNw5
namespace Go.Proofs.Ytdfjfodfnildiaa
open Go.ChangeShapes Go.WideShapes Go.ChangeAt Go.RowKit
open Go.ChangeMaps (open_string shut_string)
set_option linter.unusedVariables false
set_option maxRecDepth 100000

theorem FView.oneL (w : World) (t : TypeId) (x : Lk) : FView lkEnc (w.alloc (Obj.cells #[.int .i64 x.a, .int .i64 x.p, .int .i64 x.b, .int .i64 x.q] t)) (some ⟨w.heap.size, 0, none⟩) [x] := by
  intro _
  refine ⟨w.heap.size, 0, rfl, fun j v hv => ?_⟩
  match j, hv with
  | 0, hv => cases hv; simp [go_sem]
  | 1, hv => cases hv; simp [go_sem]
  | 2, hv => cases hv; simp [go_sem]
  | 3, hv => cases hv; simp [go_sem]
  | j + 4, hv => simp [fcells, lkEnc] at hv
set_option maxHeartbeats 16000000 in
theorem drawWires {cb : Nat} {ad : Option Addr} {len cap : Nat} {f : Nat → Int} {w : World} (hs : Src w cb ad len cap f) (hcb : cb < w.heap.size) (n : Nat) (h1 : 1 ≤ n) (h5 : n ≤ 5) :
    Calls Try.prog 88 #[.pointer (some ⟨cb, 0, none⟩), .int .i64 (n : Int)] w fun e w' => ∃ a c K nx, e = .returned (.slice a (List.length K) c) ∧ K.length ≤ 6 ∧ WiOk n nx K ∧ FOwn lkEnc 4 64 w.heap.size w' (.slice a K.length c) K ∧ Src w' cb ad len cap f ∧ w.grownBy w' (some cb) := by
  obtain ⟨j0, hj, hj0, hj1, hj2⟩ := info_parts lkInfo
  obtain ⟨y, hy⟩ : ∃ y, y = (w.alloc (Obj.cells #[] 64)).alloc (Obj.cells #[.int .i64 0, .int .i64 0, .int .i64 0, .int .i64 0, .int .i64 0] 3) := ⟨_, rfl⟩
  obtain ⟨NB, hNB⟩ : ∃ NB, w.heap.size + 1 = NB := ⟨_, rfl⟩
  have S0 : WiSt cb ad len cap f NB w y (some ⟨w.heap.size, 0, none⟩) 0 [] (fun _ => 0) := by
    have B1 : Below w.heap.size w (w.alloc (Obj.cells #[] 64)) := below_new _
    have B2 : Below (w.alloc (Obj.cells #[] 64)).heap.size (w.alloc (Obj.cells #[] 64)) y := by rw [hy]; exact below_new _
    have B0 : Below w.heap.size w y := B1.trans (B2.mono B1.size)
    refine ⟨(FOwn.empty w : FOwn lkEnc 4 64 _ _ _ _).later B2, ?_, hs.later B0, grown_of B0, fun q e => ?_, by omega, hcb, fun q e hp => ?_⟩
    · rw [hy, ← hNB]
      refine ⟨fun i hi => ?_, fun o => by simp [go_sem]⟩
      rcases (by omega : i = 0 ∨ i = 1 ∨ i = 2 ∨ i = 3 ∨ i = 4) with rfl | rfl | rfl | rfl | rfl <;> simp [go_sem]
    · have : w.heap.size = q := by simpa [Value.ownBlock] using e
      omega
    · obtain ⟨b, off, e2, hc⟩ := hs.view hp
      have := World.block_lt_of_cell? w _ (hc 0 hp)
      rw [e2] at e
      cases e
      exact this
  go_enter Try.func88, Try.ntmps88
  go_upto_region 3 with fail
  rw [← hy]
  try rw [hNB]
  clear hy
  replace hNB : Hid _ := hNB
  go_wp2
  go_loopw [5, 7] (fun v q wr => ∃ (k : Nat) (a : Option Addr) (c : Nat) (K : List Lk) (nx : Nat → Int), k ≤ 6 ∧ v = .slice a K.length c ∧ q = .int .i64 k ∧ K.length ≤ k ∧ Hid (WiOk n nx K) ∧ WiSt cb ad len cap f NB w wr a c K nx) (fun _ q _ => 6 - (intOf q).toNat)
  case atStart => exact ⟨0, _, 0, [], _, by omega, rfl, rfl, Nat.le_refl _, WiOk.nil n, S0⟩
  case round =>
    clear S0
    obtain ⟨k, a, c, K, nx, hk, rfl, rfl, hKk, hW, S⟩ := hrel
    go_wp2_with fail
    go_at_call 38
    refine (drawBelow S.src 7 (by omega) (by omega)).mono ?_
    rintro e u1 ⟨x, rfl, x0, x1, s2, g2⟩
    have S := S.drawn s2 g2
    clear s2 g2
    by_cases hc : (k : Int) < x
    rotate_left
    · have d1 : decide ((k : Int) < x) = false := decide_eq_false hc
      have hc2 : x ≤ (k : Int) := by omega
      replace hc : Hid _ := hc
      have O := S.own
      have s3 := S.src
      have g3 := S.gr
      go_wp2
      go_ret
      exact ⟨a, c, K, nx, rfl, by omega, hW.out, O, s3, g3⟩
    have d1 : decide ((k : Int) < x) = true := decide_eq_true hc
    have hk6 : k < 6 := by omega
    go_wp2_with fail
    go_at_call 38
    refine (drawBelow S.src (n : Int) (by omega) (by omega)).mono ?_
    rintro e u2 ⟨i, rfl, i0, i1, s3, g3⟩
    have S := S.drawn s3 g3
    clear s3 g3
    obtain ⟨i, rfl⟩ := Int.eq_ofNat_of_zero_le i0
    go_wp2_with fail
    go_at_call 38
    refine (drawBelow S.src (n : Int) (by omega) (by omega)).mono ?_
    rintro e z ⟨j, rfl, jz0, jz1, s4, g4⟩
    have S := S.drawn s4 g4
    clear s4 g4
    obtain ⟨j, rfl⟩ := Int.eq_ofNat_of_zero_le jz0
    have hi5 : i < 5 := by omega
    have hj5 : j < 5 := by omega
    have hin : i < n := by omega
    have hjn : j < n := by omega
    have ci := S.nxt.c i hi5
    have cj := S.nxt.c j hj5
    by_cases hij : (i : Int) = (j : Int)
    · have z1 : ((i : Int) == (j : Int)) = true := by simp [hij]
      have z2 : decide ((i : Int) = (j : Int)) = true := decide_eq_true hij
      replace hij : Hid _ := hij
      go_wp2
      go_roundw
      case rel => exact ⟨k + 1, _, _, _, _, by omega, rfl, by go_num, by omega, hW, S⟩
      case measure => simp [intOf]; omega
    have z1 : ((i : Int) == (j : Int)) = false := by simp; omega
    have z2 : decide ((i : Int) = (j : Int)) = false := decide_eq_false hij
    have hne : i ≠ j := fun e => hij (by rw [e])
    replace hij : Hid _ := hij
    replace hne : Hid _ := hne
    by_cases hp : 4 ≤ nx i
    · have z3 : decide (4 ≤ nx i) = true := decide_eq_true hp
      go_wp2
      go_roundw
      case rel => exact ⟨k + 1, _, _, _, _, by omega, rfl, by go_num, by omega, hW, S⟩
      case measure => simp [intOf]; omega
    have z3 : decide (4 ≤ nx i) = false := decide_eq_false hp
    have y3 : nx i < 4 := by omega
    by_cases hq : 4 ≤ nx j
    · have z4 : decide (4 ≤ nx j) = true := decide_eq_true hq
      go_wp2
      go_roundw
      case rel => exact ⟨k + 1, _, _, _, _, by omega, rfl, by go_num, by omega, hW, S⟩
      case measure => simp [intOf]; omega
    have z4 : decide (4 ≤ nx j) = false := decide_eq_false hq
    have y4 : nx j < 4 := by omega
    have b3 := hW.out.bd i
    have b4 := hW.out.bd j
    have hW2 : Hid (WiOk n (fun m => if m = i then nx i + 1 else if m = j then nx j + 1 else nx m) (K ++ [⟨i, nx i, j, nx j⟩])) := hW.out.push hin hjn hne.out y3 y4
    go_upto_region 9 with fail
    clear ci cj
    refine wp_region_held (S := fun Y => NxAt Y NB nx) (by kernel_rfl) ?_
    change wpAnyH _ _ _ _ _ _ _ _ (World.drew _)
    have hb0 : Below z.heap.size z z.drew := (Below.refl _ _).drew
    obtain ⟨u0, hy0⟩ : ∃ y_, y_ = z.drew := ⟨_, rfl⟩
    rw [← hy0] at hb0 ⊢
    clear hy0
    have S0 := S.later hb0
    have hn0 := S0.nxt
    clear hb0 S
    refine takeW 0 41 (.slice a K.length c) rfl rfl (by kernel_rfl) (by kernel_rfl) (by kernel_rfl) (fun _ _ _ h => h) (by kernel_rfl) (by (intro w hSw; go_simp)) (by assumption) ?_
    simp only [List.set_cons_zero, List.set_cons_succ]
    refine takeW 1 42 (.int .i64 (i : Int)) rfl rfl (by kernel_rfl) (by kernel_rfl) (by kernel_rfl) (fun _ _ _ h => h) (by kernel_rfl) (by (intro w hSw; go_simp)) (by assumption) ?_
    simp only [List.set_cons_zero, List.set_cons_succ]
    refine takeW 2 43 (.slice (some ⟨NB, 0, none⟩) 5 5) rfl rfl (by kernel_rfl) (by kernel_rfl) (by kernel_rfl) (fun _ _ _ h => h) (by kernel_rfl) (by (intro w hSw; go_simp)) (by assumption) ?_
    simp only [List.set_cons_zero, List.set_cons_succ]
    refine takeW 3 44 (.int .i64 (i : Int)) rfl rfl (by kernel_rfl) (by kernel_rfl) (by kernel_rfl) (fun _ _ _ h => h) (by kernel_rfl) (by (intro w hSw; go_simp)) (by assumption) ?_
    simp only [List.set_cons_zero, List.set_cons_succ]
    refine takeW 4 45 (.pointer (some ⟨NB, i, none⟩)) rfl rfl (by kernel_rfl) (by kernel_rfl) (by kernel_rfl) (fun _ _ _ h => h) (by kernel_rfl) (by (intro Y hSw; go_simp; try omega)) (by assumption) ?_
    simp only [List.set_cons_zero, List.set_cons_succ]
    refine takeW 5 46 (.int .i64 (nx i)) rfl rfl (by kernel_rfl) (by kernel_rfl) (by kernel_rfl) (fun _ _ _ h => h) (by kernel_rfl) (by (intro Y hSw; have z := hSw.c i (by omega); go_simp)) (by assumption) ?_
    simp only [List.set_cons_zero, List.set_cons_succ]
    refine takeW 6 47 (.int .i64 (j : Int)) rfl rfl (by kernel_rfl) (by kernel_rfl) (by kernel_rfl) (fun _ _ _ h => h) (by kernel_rfl) (by (intro w hSw; go_simp)) (by assumption) ?_
    simp only [List.set_cons_zero, List.set_cons_succ]
    refine takeW 7 48 (.slice (some ⟨NB, 0, none⟩) 5 5) rfl rfl (by kernel_rfl) (by kernel_rfl) (by kernel_rfl) (fun _ _ _ h => h) (by kernel_rfl) (by (intro w hSw; go_simp)) (by assumption) ?_
    simp only [List.set_cons_zero, List.set_cons_succ]
    refine takeW 8 49 (.int .i64 (j : Int)) rfl rfl (by kernel_rfl) (by kernel_rfl) (by kernel_rfl) (fun _ _ _ h => h) (by kernel_rfl) (by (intro w hSw; go_simp)) (by assumption) ?_
    simp only [List.set_cons_zero, List.set_cons_succ]
    refine takeW 9 50 (.pointer (some ⟨NB, j, none⟩)) rfl rfl (by kernel_rfl) (by kernel_rfl) (by kernel_rfl) (fun _ _ _ h => h) (by kernel_rfl) (by (intro Y hSw; go_simp; try omega)) (by assumption) ?_
    simp only [List.set_cons_zero, List.set_cons_succ]
    refine takeW 10 51 (.int .i64 (nx j)) rfl rfl (by kernel_rfl) (by kernel_rfl) (by kernel_rfl) (fun _ _ _ h => h) (by kernel_rfl) (by (intro Y hSw; have z := hSw.c j (by omega); go_simp)) (by assumption) ?_
    simp only [List.set_cons_zero, List.set_cons_succ]
    refine takeW 11 52 (.agg #[.int .i64 (i : Int), .int .i64 (nx i), .int .i64 (j : Int), .int .i64 (nx j)]) rfl rfl (by kernel_rfl) (by kernel_rfl) (by kernel_rfl) (fun _ _ _ h => h) (by kernel_rfl) (by (intro w hSw; go_simp)) (by assumption) ?_
    simp only [List.set_cons_zero, List.set_cons_succ]
    refine wpAnyH_all (rs := [12]) (by kernel_rfl) (by simp) ?_
    intro i_ hi_; obtain rfl : i_ = 12 := by simpa using hi_
    refine wpOp_step rfl (fun Kz hKz => ?_)
    rw [if_pos (by kernel_rfl)]
    go_simp
    obtain ⟨u1, hu1⟩ : ∃ y_, y_ = u0.alloc (Obj.cells #[.int .i64 (i : Int), .int .i64 (nx i), .int .i64 (j : Int), .int .i64 (nx j)] 64) := ⟨_, rfl⟩
    have kq : Below u0.heap.size u0 u1 := by rw [hu1]; exact below_new _
    have V1 : FView lkEnc u1 (some ⟨u0.heap.size, 0, none⟩) [(⟨i, nx i, j, nx j⟩ : Lk)] := by rw [hu1]; exact FView.oneL u0 64 ⟨i, nx i, j, nx j⟩
    have S1 := S0.later kq
    have hn1 := S1.nxt
    rw [← hu1]
    clear kq hu1 S0 hn0
    generalize u0.heap.size = q9 at V1 ⊢
    refine hKz _ _ ⟨hn1, ?_⟩
    clear hKz Kz hi_
    refine wpAnyH_all (rs := [13]) (by kernel_rfl) (by simp) ?_
    intro i_ hi_; obtain rfl : i_ = 13 := by simpa using hi_
    refine wpOp_step rfl (fun Kz hKz => ?_)
    rw [if_pos (by kernel_rfl)]
    have hz1 := S1.gr.size
    refine fapp lkEnc_len lkEnc_ones 54 _ _ 25 rfl rfl w.heap.size 64 j0 (.agg #[.int .i64 0, .int .i64 0, .int .i64 0, .int .i64 0]) 32 Try.underlying25 hj hj0 hj1 hj2 rfl (by decide) (by decide) (.slice a K.length c) K rfl S1.own (some ⟨q9, 0, none⟩) 1 [(⟨i, nx i, j, nx j⟩ : Lk)] rfl (fun e => by cases e) V1 (by simp; omega) (by omega) ?_
    intro vZ wZ hownZ hgrowZ hvZ
    obtain ⟨adZ, cZ, rfl⟩ := hownZ.open_
    have S2 := S1.app hownZ hgrowZ hvZ
    have hn2 := S2.nxt
    simp only [List.set_cons_zero, List.set_cons_succ]
    refine hKz _ _ ⟨hn2, ?_⟩
    clear hKz Kz hi_ hownZ hgrowZ hvZ V1 S1 hn1 hz1
    refine takeW 14 5 (.slice adZ (K ++ [(⟨i, nx i, j, nx j⟩ : Lk)]).length cZ) rfl rfl (by kernel_rfl) (by kernel_rfl) (by kernel_rfl) (fun _ _ _ h => h) (by kernel_rfl) (by (intro w hSw; go_simp)) (by assumption) ?_
    simp only [List.set_cons_zero, List.set_cons_succ]
    refine wpAnyH_done (by kernel_rfl) ?_ _
    have hl2 : (K ++ [(⟨i, nx i, j, nx j⟩ : Lk)]).length ≤ k + 1 := by simp; omega
    generalize K ++ [(⟨i, nx i, j, nx j⟩ : Lk)] = K2 at S2 hW2 hl2 ⊢
    have S3 := S2.put hi5 (nx i + 1)
    have S4 := S3.put hj5 (nx j + 1)
    have ci := S2.nxt.c i hi5
    have fi := S2.nxt.fz i
    have cj := S3.nxt.c j hj5
    have fj := S3.nxt.fz j
    rw [if_neg (Ne.symm hne.out)] at cj
    have ef : Hid ((fun m => if m = j then nx j + 1 else if m = i then nx i + 1 else nx m) = (fun m => if m = i then nx i + 1 else if m = j then nx j + 1 else nx m)) := by
      unfold Hid
      funext m
      have := hne.out
      by_cases q1 : m = i
      · subst q1
        rw [if_neg this, if_pos rfl, if_pos rfl]
      · rw [if_neg q1, if_neg q1]
    rw [ef.out] at S4
    clear S2 S3 hn2 ef
    go_wp2
    go_roundw
    case rel => exact ⟨k + 1, _, _, K2, _, by omega, rfl, by go_num, hl2, hW2, S4⟩
    case measure => simp [intOf]; omega

end Go.Proofs.Ytdfjfodfnildiaa
namespace Go.Proofs.Ytdfjfodfnildiaa
open Go.ChangeShapes Go.WideShapes Go.ChangeAt Go.RowKit
open Go.ChangeMaps (open_string shut_string)
set_option linter.unusedVariables false
set_option maxRecDepth 100000

def setL (K : List Lk) (X : List Bg) : Nat → List Bg
  | 0 => X
  | k + 1 => roundL K (setL K X k) X.length
theorem setL_len (K : List Lk) (X : List Bg) : ∀ k, (setL K X k).length = X.length
  | 0 => rfl
  | k + 1 => by
    show (roundL K (setL K X k) X.length).length = _
    rw [roundL_len, setL_len K X k]
structure SeSt (R M n lo mid : Nat) (adB : Option Addr) (cB : Nat) (adL : Option Addr) (cL : Nat) (K : List Lk) (w wr : World) (Cs : List Bd) : Prop where
  own : NetOwn lo mid wr.heap.size wr (.slice adB n cB) Cs (.slice adL K.length cL) K
  mb : NeBox wr M (.slice adB n cB) (.slice adL K.length cL)
  rb : NeBox wr R (.slice none 0 0) (.slice none 0 0)
  bel : Below w.heap.size w wr
  wR : w.heap.size ≤ R
  Rl : R < lo
  hM : ∀ q, (Value.slice adB n cB).ownBlock = some q → q < M
  kM : ∀ q, (Value.slice adL K.length cL).ownBlock = some q → q < M
  lM : lo ≤ M
  hl : Cs.length = n
  ls : ∀ i, i < Cs.length → (Cs.getD i Bd.nil).L.length ≤ 1048576
  np : ∀ i, i < Cs.length → ∀ q, (Cs.getD i Bd.nil).v.ownBlock = some q → q ≠ M
theorem SeSt.later {R M n lo mid : Nat} {adB : Option Addr} {cB : Nat} {adL : Option Addr} {cL : Nat} {K : List Lk} {w wr : World} {Cs : List Bd} {w2 : World} (h : SeSt R M n lo mid adB cB adL cL K w wr Cs) (k : Below wr.heap.size wr w2) : SeSt R M n lo mid adB cB adL cL K w w2 Cs := by
  have := h.own.later k
  exact ⟨⟨this.own.wide (Nat.le_refl _) k.size, this.own2, this.khi, this.lm, Nat.le_trans this.mh k.size, Nat.le_refl _⟩, h.mb.later k, h.rb.later k, h.bel.trans (k.mono (by have := h.bel.size; omega)), h.wR, h.Rl, h.hM, h.kM, h.lM, h.hl, h.ls, h.np⟩
theorem SeSt.step {R M n lo mid : Nat} {adB : Option Addr} {cB : Nat} {adL : Option Addr} {cL : Nat} {K : List Lk} {w wr : World} {Cs : List Bd} {v : World} {Ds : List Bd} (h : SeSt R M n lo mid adB cB adL cL K w wr Cs) (own : NetOwn lo mid v.heap.size v (.slice adB n cB) Ds (.slice adL K.length cL) K) (gr : wr.grownBy v (Value.slice adB n cB).ownBlock)
    (hl : Ds.length = n) (ls : ∀ i, i < Ds.length → (Ds.getD i Bd.nil).L.length ≤ 1048576)
    (np : ∀ i, i < Ds.length → ∀ q, (Ds.getD i Bd.nil).v.ownBlock = some q → (∃ j, j < Cs.length ∧ (Cs.getD j Bd.nil).v.ownBlock = some q) ∨ wr.heap.size < q) :
    NeBox v M (.slice adB n cB) (.slice adL K.length cL) ∧ SeSt R M n lo mid adB cB adL cL K w ((v.setCell ⟨M, 0, none⟩ (.slice adB n cB)).setCell ⟨M, 1, none⟩ (.slice adL K.length cL)) Ds := by
  have hm := h.mb.lt
  have hr := h.rb.lt
  have hR := h.Rl
  have hlM := h.lM
  have hwR := h.wR
  have lm := h.own.lm
  have sz := gr.size
  have hb : ∀ q, (Value.slice adB n cB).ownBlock = some q → mid ≤ q := fun q e => (h.own.own.row.lt q e).1
  have mb : NeBox v M (.slice adB n cB) (.slice adL K.length cL) := h.mb.keep (gr.block M hm (fun e => by have := h.hM M e.symm; omega))
  have rb : NeBox v R (.slice none 0 0) (.slice none 0 0) := h.rb.keep (gr.block R hr (fun e => by have := hb R e.symm; omega))
  have bl : ∀ j, j ≠ M → ((v.setCell ⟨M, 0, none⟩ (.slice adB n cB)).setCell ⟨M, 1, none⟩ (.slice adL K.length cL)).heap[j]? = v.heap[j]? := fun j hj => by rw [Below.heap_setCell _ _ _ _ hj, Below.heap_setCell _ _ _ _ hj]
  have ss : ((v.setCell ⟨M, 0, none⟩ (.slice adB n cB)).setCell ⟨M, 1, none⟩ (.slice adL K.length cL)).heap.size = v.heap.size := by simp
  have np2 : ∀ i, i < Ds.length → ∀ q, (Ds.getD i Bd.nil).v.ownBlock = some q → q ≠ M := fun i hi q e => by
    rcases np i hi q e with ⟨j, hj, e2⟩ | z
    · exact h.np j hj q e2
    · omega
  have Bv : Below w.heap.size w v := h.bel.grown gr (by omega) (fun q e => by have := hb q e; omega)
  have ho := own.own
  have hN : NOwn mid v.heap.size ((v.setCell ⟨M, 0, none⟩ (.slice adB n cB)).setCell ⟨M, 1, none⟩ (.slice adL K.length cL)) (.slice adB n cB) Ds :=
    ⟨ho.row.keep (fun q e => bl q (by have := h.hM q e; omega)), fun i hi => (ho.nest i hi).keep (fun q e => bl q (np2 i hi q e)), ho.rhi, ho.nhi, ho.apart, ho.aparts⟩
  refine ⟨mb, ⟨by rw [ss]; exact hN, own.own2.keep (fun q e => bl q (by have := h.kM q e; omega)), own.khi, own.lm, by rw [ss]; exact own.mh, by rw [ss]; exact Nat.le_refl _⟩, mb.put _ _, rb.keep (bl R (by omega)), (Bv.setCell (by show w.heap.size ≤ M; omega) _).setCell (by show w.heap.size ≤ M; omega) _, hwR, hR, h.hM, h.kM, hlM, hl, ls, np2⟩
theorem SeSt.done {R M n lo mid : Nat} {adB : Option Addr} {cB : Nat} {adL : Option Addr} {cL : Nat} {K : List Lk} {w wr : World} {Cs : List Bd} (h : SeSt R M n lo mid adB cB adL cL K w wr Cs) : NetOwn w.heap.size mid ((wr.setCell ⟨R, 0, none⟩ (.slice adB n cB)).setCell ⟨R, 1, none⟩ (.slice adL K.length cL)).heap.size ((wr.setCell ⟨R, 0, none⟩ (.slice adB n cB)).setCell ⟨R, 1, none⟩ (.slice adL K.length cL)) (.slice adB n cB) Cs (.slice adL K.length cL) K ∧ Below w.heap.size w ((wr.setCell ⟨R, 0, none⟩ (.slice adB n cB)).setCell ⟨R, 1, none⟩ (.slice adL K.length cL)) ∧ NeBox ((wr.setCell ⟨R, 0, none⟩ (.slice adB n cB)).setCell ⟨R, 1, none⟩ (.slice adL K.length cL)) R (.slice adB n cB) (.slice adL K.length cL) := by
  have hR := h.Rl
  have hwR := h.wR
  have bl : ∀ j, j ≠ R → ((wr.setCell ⟨R, 0, none⟩ (.slice adB n cB)).setCell ⟨R, 1, none⟩ (.slice adL K.length cL)).heap[j]? = wr.heap[j]? := fun j hj => by rw [Below.heap_setCell _ _ _ _ hj, Below.heap_setCell _ _ _ _ hj]
  have ss : ((wr.setCell ⟨R, 0, none⟩ (.slice adB n cB)).setCell ⟨R, 1, none⟩ (.slice adL K.length cL)).heap.size = wr.heap.size := by simp
  have hk := h.own.keep (w' := ((wr.setCell ⟨R, 0, none⟩ (.slice adB n cB)).setCell ⟨R, 1, none⟩ (.slice adL K.length cL))) (fun q h1 _ => bl q (by omega)) (by rw [ss]; exact Nat.le_refl _)
  refine ⟨⟨by rw [ss]; exact hk.own, hk.own2.base (by omega), hk.khi, by have := hk.lm; omega, by rw [ss]; exact hk.mh, Nat.le_refl _⟩, (h.bel.setCell hwR _).setCell hwR _, h.rb.put _ _⟩
theorem NetP.ends {B : List Bg} {K : List Lk} (h : NetP B K) {n : Nat} (hn : B.length = n) : ∀ (i : Nat) (p : Int) (z : Int × Int), otherL K i p = some z → 0 ≤ z.1 ∧ z.1 < (n : Int) := fun i p z e => by
  obtain ⟨_, h2, _⟩ := h.end_ (a := (i : Int)) (p := p) (b := z.1) (q := z.2) e
  subst hn
  exact h2.1
theorem roundNSn (adB : Option Addr) (capB : Nat) (Bs : List Bd) (adK : Option Addr) (capK : Nat) (K : List Lk) (n lo mid hi : Nat) (hn : Bs.length = n) (w : World) (hO : NetOwn lo mid hi w (.slice adB n capB) Bs (.slice adK K.length capK) K) (h0 : 0 < n) (hl : n ≤ 1048576) (hls : ∀ i, i < Bs.length → (Bs.getD i Bd.nil).L.length ≤ 1048576) (hk : K.length ≤ 1048576)
    (hE : ∀ (i : Nat) (p : Int) (z : Int × Int), otherL K i p = some z → 0 ≤ z.1 ∧ z.1 < (n : Int)) :
    Calls Try.prog 107 #[.agg #[.slice adB n capB, .slice adK K.length capK]] w fun e w' => e = .returned (.agg #[.slice adB n capB, .slice adK K.length capK]) ∧ ∃ Cs, dB Cs = roundL K (dB Bs) n ∧ Cs.length = n ∧ (∀ i, i < Cs.length → (Cs.getD i Bd.nil).L.length ≤ 1048576) ∧ (∀ i, i < Cs.length → ∀ q, (Cs.getD i Bd.nil).v.ownBlock = some q → (∃ j, j < Bs.length ∧ (Bs.getD j Bd.nil).v.ownBlock = some q) ∨ w.heap.size < q) ∧ NetOwn lo mid w'.heap.size w' (.slice adB n capB) Cs (.slice adK K.length capK) K ∧ w.grownBy w' (Value.slice adB n capB).ownBlock := by
  subst hn
  refine (roundNS adB capB Bs adK capK K lo mid hi w hO h0 hl hls hk hE).mono ?_
  rintro e w' ⟨Cs, h1, h2, h3, h4, h5, h6, h7⟩
  rw [h3] at h1 h6
  exact ⟨h1, Cs, h2, h3, h4, h5, h6, h7⟩

end Go.Proofs.Ytdfjfodfnildiaa
namespace Go.Proofs.Ytdfjfodfnildiaa
open Go.ChangeShapes Go.WideShapes Go.ChangeAt Go.RowKit
open Go.ChangeMaps (open_string shut_string)
set_option linter.unusedVariables false
set_option maxRecDepth 100000

theorem len_of_d {Cs Bs : List Bd} (h : dB Cs = dB Bs) (hls : ∀ i, i < Bs.length → (Bs.getD i Bd.nil).L.length ≤ 1048576) : ∀ i, i < Cs.length → (Cs.getD i Bd.nil).L.length ≤ 1048576 := fun i hi => by
  have hl : Cs.length = Bs.length := by have := congrArg List.length h; simpa [dB] using this
  have e : (Cs.getD i Bd.nil).L = (Bs.getD i Bd.nil).L := by
    show (Cs.getD i Bd.nil).d.L = (Bs.getD i Bd.nil).d.L
    have h' : List.map Bd.d Cs = List.map Bd.d Bs := h
    rw [← bd_get Cs i, ← bd_get Bs i, h']
  rw [e]
  exact hls i (by omega)
def rdN (r : Int) : Nat := (if r < 100 then r else 100).toNat
set_option maxHeartbeats 16000000 in
theorem settleS (adB : Option Addr) (capB : Nat) (Bs : List Bd) (adK : Option Addr) (capK : Nat) (K : List Lk) (r : Int) (w : World) (hN : NN w adB Bs adK K) (hcn : adK = none → capK = 0) :
    Calls Try.prog 89 #[.agg #[.slice adB Bs.length capB, .slice adK K.length capK], .int .i64 r] w fun e w' => ∃ D, ((NetP (dB Bs) K ∧ D = setL K (dB Bs) (rdN r)) ∨ (¬ NetP (dB Bs) K ∧ D = dB Bs)) ∧ CpRet D K w e w' := by
  obtain ⟨y, hy⟩ : ∃ y, y = (w.alloc (Obj.cells #[.slice adB Bs.length capB, .slice adK K.length capK] 27)).alloc (Obj.cells #[.slice none 0 0, .slice none 0 0] 27) := ⟨_, rfl⟩
  have B0 : Below w.heap.size w y := by rw [hy]; exact ((Below.refl _ _).alloc (Nat.le_refl _) _).alloc (by simp) _
  have A0 : NeAt y w.heap.size (.slice adB Bs.length capB) (.slice adK K.length capK) := by rw [hy]; constructor <;> simp [go_sem]
  have R0 : NeBox y (w.heap.size + 1) (.slice none 0 0) (.slice none 0 0) := by
    rw [hy]; refine ⟨?_, fun i => ?_⟩
    · constructor <;> simp [go_sem]
    · simp [go_sem]
  have hk := hN.hk
  have hBl := hN.hl
  go_enter Try.func89, Try.ntmps89
  have cc := A0
  obtain ⟨a0, a1⟩ := cc
  go_wp2_with fail
  go_at_call 105
  rw [← hy]
  clear hy
  refine (copyNS adB capB Bs adK capK K y (hN.later B0) hcn).mono ?_
  rintro e u1 ⟨adC, cC, Cs, adL, cL, mid, rfl, hdC, N1, k1⟩
  have hCn : Cs.length = Bs.length := by have := congrArg List.length hdC; simpa [dB] using this
  have hls1 := len_of_d hdC hN.hls
  obtain ⟨n, hn⟩ : ∃ n, Bs.length = n := ⟨_, rfl⟩
  rw [hn] at hCn hBl
  rw [hCn] at N1 ⊢
  have A1 := A0.below k1 A0.lt
  have R1 := R0.later k1
  have s0 := B0.size
  have s1 := R0.lt
  have s2 := k1.size
  obtain ⟨x, hx⟩ : ∃ x, x = u1.alloc (Obj.cells #[(.slice adC n cC), .slice adL K.length cL] 27) := ⟨_, rfl⟩
  have kx : Below u1.heap.size u1 x := by rw [hx]; exact below_new _
  have S0 : SeSt (w.heap.size + 1) u1.heap.size n y.heap.size mid adC cC adL cL K w x Cs := by
    have N2 := N1.later kx
    refine ⟨⟨N2.own.wide (Nat.le_refl _) kx.size, N2.own2, N2.khi, N2.lm, Nat.le_trans N2.mh kx.size, Nat.le_refl _⟩, by rw [hx]; exact NeBox.new u1 _, R1.later kx, B0.trans ((k1.trans (kx.mono k1.size)).mono s0), by omega, s1, N1.own.rhi, fun q e => Nat.lt_of_lt_of_le (N1.khi q e) N1.mh, s2, hCn, hls1, fun i hi q e => ?_⟩
    have := N1.own.nhi i hi q e
    omega
  have hNx := (((hN.later B0).later k1).later kx)
  have Ax := A1.below kx A1.lt
  clear a0 a1
  go_upto_region 2 with fail
  rw [← hx]
  clear hx kx N1 k1 A1 R1 A0 R0 s2
  generalize u1.heap.size = M at S0 ⊢
  generalize y.heap.size = lo at S0 s1
  obtain ⟨R, hR⟩ : ∃ R, w.heap.size + 1 = R := ⟨_, rfl⟩
  rw [hR] at S0 s1 ⊢
  replace hR : Hid _ := hR
  replace hn : Hid _ := hn
  replace hCn : Hid _ := hCn
  replace hdC : Hid _ := hdC
  obtain ⟨a0, a1⟩ := Ax
  go_wp2_with fail
  go_at_call 42
  refine (netOkS adB capB Bs adK capK K x hNx).mono ?_
  rintro e x1 ⟨⟨b, rfl, hb⟩, kx1⟩
  have S1 := S0.later kx1
  clear S0 kx1 a0 a1 hNx
  by_cases hP : NetP (dB Bs) K
  rotate_left
  · obtain rfl := bool_no hb hP
    replace hP : Hid _ := hP
    clear hb
    have DD := S1.done
    obtain ⟨N9, B9, R9⟩ := DD
    obtain ⟨⟨m0, m1⟩, mf⟩ := S1.mb
    obtain ⟨⟨r0, r1⟩, rf⟩ := S1.rb
    have rf0 := rf 0
    have rf1 := rf 1
    have hl9 : Hid (_ = n) := S1.hl
    clear mf rf S1
    go_wp2
    obtain ⟨⟨t0, t1⟩, _⟩ := R9
    refine bodyPost_ret (v := .agg #[(.slice adC n cC), .slice adL K.length cL]) (by simp [results, Try.results89, go_sem, *]) rfl ?_
    exact ⟨dB Bs, .inr ⟨hP.out, rfl⟩, adC, cC, Cs, adL, cL, mid, by rw [hl9.out], hdC.out, by rw [hl9.out]; exact N9, B9⟩
  obtain rfl : b = true := hb.2 hP
  have hE : Hid _ := hP.ends (n := n) (by rw [dB_len]; exact hn.out)
  have h0 : 0 < n := by have h1 := hP.many.1; rw [dB_len] at h1; have h2 := hn.out; omega
  replace hP : Hid _ := hP
  clear hb
  have hz : Hid (rdN r = (if r < 100 then r else 100).toNat) := rfl
  have hz2 : (if r < 100 then r else 100) ≤ 100 := by split <;> omega
  obtain ⟨z, hzz⟩ : ∃ z, (if r < 100 then r else 100) = z := ⟨_, rfl⟩
  rw [hzz] at hz hz2
  replace hzz : Hid _ := hzz
  have hrn : Hid ((rdN r : Int) = max z 0) := by unfold Hid; rw [hz.out]; omega
  obtain ⟨N, hNr⟩ : ∃ N, rdN r = N := ⟨_, rfl⟩
  rw [hNr] at hrn
  replace hNr : Hid _ := hNr
  clear hz
  go_wp2
  go_loopw [6] (fun q wr => ∃ (k : Nat) (Cs : List Bd), k ≤ N ∧ q = .int .i64 k ∧ Hid (dB Cs = setL K (dB Bs) k) ∧ SeSt R M n lo mid adC cC adL cL K w wr Cs) (fun q _ => N - (intOf q).toNat)
  case atStart => exact ⟨0, Cs, Nat.zero_le _, rfl, hdC, S1⟩
  case round =>
    clear S1
    obtain ⟨k, Ds, hkN, rfl, hd, S⟩ := hrel
    go_wp2_with fail
    go_at_call 106
    refine (minS r 100 wr).mono ?_
    rintro e v ⟨rfl, rfl⟩
    rw [hzz.out]
    by_cases hlt : (k : Int) < z
    · have d1 : decide ((k : Int) < z) = true := decide_eq_true hlt
      have hk2 : k < N := by have := hrn.out; omega
      have mb := S.mb
      obtain ⟨⟨m0, m1⟩, mf⟩ := mb
      clear mf
      go_wp2_with fail
      go_at_call 107
      refine (roundNSn adC cC Ds adL cL K n lo mid v.heap.size S.hl v S.own h0 hBl S.ls hk hE).mono ?_
      rintro e v1 ⟨rfl, Es, hdE, hlE, lsE, npE, NE, gE⟩
      obtain ⟨mb, S2⟩ := S.step NE gE hlE lsE npE
      have hd2 : Hid (dB Es = setL K (dB Bs) (k + 1)) := by
        unfold Hid
        rw [hdE, hd.out]
        show _ = roundL K _ _
        rw [dB_len, hn.out]
      clear hdE hlE lsE npE NE gE m0 m1 S
      obtain ⟨⟨m0, m1⟩, mf⟩ := mb
      have mf0 := mf 0
      have mf1 := mf 1
      clear mf
      go_wp2
      go_roundw
      case rel => exact ⟨k + 1, Es, by omega, by go_num, hd2, S2⟩
      case measure => simp [intOf]; omega
    · have d1 : decide ((k : Int) < z) = false := decide_eq_false hlt
      have hk2 : Hid (k = N) := by have := hrn.out; unfold Hid; omega
      have hlt' : z ≤ (k : Int) := by omega
      replace hlt : Hid _ := hlt
      have DD := S.done
      obtain ⟨N9, B9, R9⟩ := DD
      obtain ⟨⟨m0, m1⟩, mf⟩ := S.mb
      obtain ⟨⟨r0, r1⟩, rf⟩ := S.rb
      have rf0 := rf 0
      have rf1 := rf 1
      have hl9 : Hid (_ = n) := S.hl
      clear mf rf S
      go_wp2
      obtain ⟨⟨t0, t1⟩, _⟩ := R9
      refine bodyPost_ret (v := .agg #[(.slice adC n cC), .slice adL K.length cL]) (by simp [results, Try.results89, go_sem, *]) rfl ?_
      exact ⟨setL K (dB Bs) (rdN r), .inl ⟨hP.out, rfl⟩, adC, cC, Ds, adL, cL, mid, by rw [hl9.out], by rw [hd.out, hNr.out, hk2.out], by rw [hl9.out]; exact N9, B9⟩

end Go.Proofs.Ytdfjfodfnildiaa
namespace Go.Proofs.Ytdfjfodfnildiaa
open Go.ChangeShapes Go.WideShapes Go.ChangeAt Go.RowKit
open Go.ChangeMaps (open_string shut_string)
set_option linter.unusedVariables false
set_option maxRecDepth 100000

end Go.Proofs.Ytdfjfodfnildiaa
namespace Go.Proofs.Ytdfjfodfnildiaa
open Go.ChangeShapes Go.WideShapes Go.ChangeAt Go.RowKit
open Go.ChangeMaps (open_string shut_string)
set_option linter.unusedVariables false
set_option maxRecDepth 100000

def DrewN (w : World) (cb : Nat) (ad : Option Addr) (len cap : Nat) (f : Nat → Int) (e : Ending) (w' : World) : Prop :=
  ∃ adB cB Cs adL cL K mid, e = .returned (.agg #[.slice adB (List.length Cs) cB, .slice adL (List.length K) cL]) ∧ 1 ≤ Cs.length ∧ Cs.length ≤ 5 ∧ K.length ≤ 7 ∧ (∀ i, i < Cs.length → (Cs.getD i Bd.nil).L.length ≤ 6) ∧ NetOwn w.heap.size mid w'.heap.size w' (.slice adB Cs.length cB) Cs (.slice adL K.length cL) K ∧ Src w' cb ad len cap f ∧ w.grownBy w' (some cb)

end Go.Proofs.Ytdfjfodfnildiaa
namespace Go.Proofs.Ytdfjfodfnildiaa
open Go.ChangeShapes Go.WideShapes Go.ChangeAt Go.RowKit
open Go.ChangeMaps (open_string shut_string)
set_option linter.unusedVariables false
set_option maxRecDepth 100000

theorem setL_ls (K : List Lk) (X : List Bg) (i : Nat) : ∀ k, ((setL K X k).getD i Bg.nil).L.length = (X.getD i Bg.nil).L.length := by
  have hset : ∀ (Y : List Bg) (j : Nat) (x : Bg), x.L.length = (Y.getD j Bg.nil).L.length → ((Y.set j x).getD i Bg.nil).L.length = (Y.getD i Bg.nil).L.length := fun Y j x hx => by
    by_cases hj : j < Y.length
    · by_cases e : j = i
      · subst e
        rw [show (Y.set j x).getD j Bg.nil = x by simp [List.getD, hj]]
        exact hx
      · rw [show (Y.set j x).getD i Bg.nil = Y.getD i Bg.nil by simp [List.getD, List.getElem?_set_ne e]]
    · rw [List.set_eq_of_length_le (Nat.le_of_not_lt hj)]
  have hhand : ∀ (k : Nat) (O : List Ou) (Y : List Bg), ((O.foldl (handL K k) Y).getD i Bg.nil).L.length = (Y.getD i Bg.nil).L.length := by
    intro k O
    induction O with
    | nil => intro Y; rfl
    | cons o O ih =>
      intro Y
      rw [List.foldl_cons, ih]
      unfold handL
      split
      · split
        · exact hset _ _ _ (reactL_len _ _ _)
        · rfl
      · rfl
  have hstep : ∀ (Y : List Bg) (k : Nat), ((stepL K Y k).getD i Bg.nil).L.length = (Y.getD i Bg.nil).L.length := fun Y k => by
    unfold stepL tickB
    rw [hhand]
    exact hset _ _ _ (reactL_len _ _ _)
  have hround : ∀ (Y : List Bg) (k : Nat), ((roundL K Y k).getD i Bg.nil).L.length = (Y.getD i Bg.nil).L.length := by
    intro Y k
    induction k with
    | zero => rfl
    | succ k ih =>
      show ((stepL K (roundL K Y k) k).getD i Bg.nil).L.length = _
      rw [hstep, ih]
  intro k
  induction k with
  | zero => rfl
  | succ k ih =>
    show ((roundL K (setL K X k) X.length).getD i Bg.nil).L.length = _
    rw [hround, ih]
theorem NetOwn.grew {lo mid hi cb : Nat} {w w' : World} {vB : Value} {Cs : List Bd} {vK : Value} {K : List Lk} (h : NetOwn lo mid hi w vB Cs vK K) (g : w.grownBy w' (some cb)) (hc : cb < lo) : NetOwn lo mid hi w' vB Cs vK K :=
  h.keep (fun b h1 h2 => g.block b (Nat.lt_of_lt_of_le h2 h.hs) (fun e => by cases e; omega)) g.size
theorem NetOwn.to_ {lo mid hi hi' : Nat} {w : World} {vB : Value} {Cs : List Bd} {vK : Value} {K : List Lk} (h : NetOwn lo mid hi w vB Cs vK K) (h1 : hi ≤ hi') (h2 : hi' ≤ w.heap.size) : NetOwn lo mid hi' w vB Cs vK K :=
  ⟨h.own.wide (Nat.le_refl _) h1, h.own2, h.khi, h.lm, Nat.le_trans h.mh h1, h2⟩
theorem NetOwn.from_ {lo lo' mid hi : Nat} {w : World} {vB : Value} {Cs : List Bd} {vK : Value} {K : List Lk} (h : NetOwn lo mid hi w vB Cs vK K) (h1 : lo' ≤ lo) : NetOwn lo' mid hi w vB Cs vK K :=
  ⟨h.own, h.own2.base h1, h.khi, Nat.le_trans h1 h.lm, h.mh, h.hs⟩
theorem NeBox.grew {w w' : World} {q cb : Nat} {v0 v1 : Value} (h : NeBox w q v0 v1) (g : w.grownBy w' (some cb)) (hc : cb ≠ q) : NeBox w' q v0 v1 := h.keep (g.block q h.lt (fun e => by cases e; exact hc rfl))
theorem Src.at_ {cb : Nat} {ad : Option Addr} {len cap : Nat} {f : Nat → Int} {w w' : World} (h : Src w cb ad len cap f) (hc : w'.heap[cb]? = w.heap[cb]?) (ha : ∀ a, ad = some a → 0 < len → w'.heap[a.block]? = w.heap[a.block]?) : Src w' cb ad len cap f :=
  ⟨h.cur.carry hc, h.view.carry ha, h.ne, h.small, h.bytes⟩
structure PnSt (R N lo mid hi : Nat) (adB : Option Addr) (cB : Nat) (adK : Option Addr) (cK : Nat) (K : List Lk) (cb : Nat) (ad : Option Addr) (len cap : Nat) (f : Nat → Int) (w y : World) (C : List Bd) : Prop where
  own : NetOwn lo mid hi y (.slice adB C.length cB) C (.slice adK K.length cK) K
  nb : NeBox y N (.slice adB C.length cB) (.slice adK K.length cK)
  rb : NeBox y R (.slice none 0 0) (.slice none 0 0)
  src : Src y cb ad len cap f
  gr : w.grownBy y (some cb)
  wR : w.heap.size ≤ R
  RN : R < N
  hcb : cb < w.heap.size
  wlo : w.heap.size ≤ lo
theorem PnSt.later {R N lo mid hi cB : Nat} {adB : Option Addr} {adK : Option Addr} {cK : Nat} {K : List Lk} {cb : Nat} {ad : Option Addr} {len cap : Nat} {f : Nat → Int} {w y : World} {C : List Bd} {w2 : World} (h : PnSt R N lo mid hi adB cB adK cK K cb ad len cap f w y C) (k : Below y.heap.size y w2) : PnSt R N lo mid hi adB cB adK cK K cb ad len cap f w w2 C :=
  ⟨h.own.later k, h.nb.later k, h.rb.later k, h.src.later k, grown_trans h.gr (grown_of k), h.wR, h.RN, h.hcb, h.wlo⟩
theorem PnSt.drawn {R N lo mid hi cB : Nat} {adB : Option Addr} {adK : Option Addr} {cK : Nat} {K : List Lk} {cb : Nat} {ad : Option Addr} {len cap : Nat} {f : Nat → Int} {w y : World} {C : List Bd} {w2 : World} (h : PnSt R N lo mid hi adB cB adK cK K cb ad len cap f w y C) (s : Src w2 cb ad len cap f) (g : y.grownBy w2 (some cb)) : PnSt R N lo mid hi adB cB adK cK K cb ad len cap f w w2 C := by
  have h1 := h.hcb
  have h2 := h.wR
  have h3 := h.RN
  have h4 := h.wlo
  exact ⟨h.own.grew g (by omega), h.nb.grew g (by omega), h.rb.grew g (by omega), s, grown_trans h.gr g, h.wR, h.RN, h.hcb, h.wlo⟩
structure DnSt (R N g n lo mid cB : Nat) (adK : Option Addr) (cK : Nat) (K : List Lk) (cb : Nat) (ad : Option Addr) (len cap : Nat) (f : Nat → Int) (w wr : World) (Cs : List Bd) : Prop where
  own : NetOwn lo mid wr.heap.size wr (.slice (some ⟨g, 0, none⟩) n cB) Cs (.slice adK K.length cK) K
  nb : NeBox wr N (.slice (some ⟨g, 0, none⟩) n cB) (.slice adK K.length cK)
  rb : NeBox wr R (.slice none 0 0) (.slice none 0 0)
  src : Src wr cb ad len cap f
  gr : w.grownBy wr (some cb)
  wR : w.heap.size ≤ R
  Rl : R < lo
  wN : w.heap.size ≤ N
  Nl : N < lo
  NR : N ≠ R
  hcb : cb < w.heap.size
  had : ∀ a, ad = some a → 0 < len → a.block < w.heap.size
  hl : Cs.length = n
  ls : ∀ i, i < Cs.length → (Cs.getD i Bd.nil).L.length ≤ 6
theorem DnSt.later {R N g n lo mid cB : Nat} {adK : Option Addr} {cK : Nat} {K : List Lk} {cb : Nat} {ad : Option Addr} {len cap : Nat} {f : Nat → Int} {w wr : World} {Cs : List Bd} {w2 : World} (h : DnSt R N g n lo mid cB adK cK K cb ad len cap f w wr Cs) (k : Below wr.heap.size wr w2) : DnSt R N g n lo mid cB adK cK K cb ad len cap f w w2 Cs :=
  ⟨(h.own.later k).to_ k.size (Nat.le_refl _), h.nb.later k, h.rb.later k, h.src.later k, grown_trans h.gr (grown_of k), h.wR, h.Rl, h.wN, h.Nl, h.NR, h.hcb, h.had, h.hl, h.ls⟩
theorem DnSt.drawn {R N g n lo mid cB : Nat} {adK : Option Addr} {cK : Nat} {K : List Lk} {cb : Nat} {ad : Option Addr} {len cap : Nat} {f : Nat → Int} {w wr : World} {Cs : List Bd} {w2 : World} (h : DnSt R N g n lo mid cB adK cK K cb ad len cap f w wr Cs) (s : Src w2 cb ad len cap f) (g2 : wr.grownBy w2 (some cb)) : DnSt R N g n lo mid cB adK cK K cb ad len cap f w w2 Cs := by
  have h1 := h.hcb
  have h2 := h.wR
  have h3 := h.Rl
  have h4 := h.wN
  exact ⟨(h.own.grew g2 (by omega)).to_ g2.size (Nat.le_refl _), h.nb.grew g2 (by omega), h.rb.grew g2 (by omega), s, grown_trans h.gr g2, h.wR, h.Rl, h.wN, h.Nl, h.NR, h.hcb, h.had, h.hl, h.ls⟩
theorem DnSt.midg {R N g n lo mid cB : Nat} {adK : Option Addr} {cK : Nat} {K : List Lk} {cb : Nat} {ad : Option Addr} {len cap : Nat} {f : Nat → Int} {w wr : World} {Cs : List Bd} (h : DnSt R N g n lo mid cB adK cK K cb ad len cap f w wr Cs) : lo ≤ g ∧ g < wr.heap.size := ⟨Nat.le_trans h.own.lm (h.own.own.row.lt g rfl).1, (h.own.own.row.lt g rfl).2⟩
theorem DnSt.set {R N g n lo mid cB : Nat} {adK : Option Addr} {cK : Nat} {K : List Lk} {cb : Nat} {ad : Option Addr} {len cap : Nat} {f : Nat → Int} {w wr : World} {Cs : List Bd} {w2 : World} {i : Nat} (h : DnSt R N g n lo mid cB adK cK K cb ad len cap f w wr Cs) (w1 : World) (k : Below w1.heap.size w1 w2) (h1 : DnSt R N g n lo mid cB adK cK K cb ad len cap f w w1 Cs) (hi : i < Cs.length) (x : Bd)
    (nx : FOwn ptEnc 11 68 w1.heap.size w2 x.v x.L) (hx : x.L.length ≤ 6) :
    DnSt R N g n lo mid cB adK cK K cb ad len cap f w ((w2.setCell ⟨g, i * 2, none⟩ (.int .i64 x.id)).setCell ⟨g, i * 2 + 1, none⟩ (.slice x.ad x.L.length x.cap)) (Cs.set i x) := by
  have h2 := h1.later k
  have hm := h.midg
  have hmw : mid ≤ w1.heap.size := h1.own.mh
  have hl := h.hl
  have ho := h1.own.own.below k (Nat.le_refl _)
  rw [← hl] at ho
  have hs := ho.set k.size hi x (nx.base hmw) (fun q e => nx.lt q e)
  rw [bdPut, List.length_set, hl] at hs
  have bl : ∀ j, j ≠ g → ((w2.setCell ⟨g, i * 2, none⟩ (.int .i64 x.id)).setCell ⟨g, i * 2 + 1, none⟩ (.slice x.ad x.L.length x.cap)).heap[j]? = w2.heap[j]? := fun j hj => by rw [Below.heap_setCell _ _ _ _ hj, Below.heap_setCell _ _ _ _ hj]
  have ss : ((w2.setCell ⟨g, i * 2, none⟩ (.int .i64 x.id)).setCell ⟨g, i * 2 + 1, none⟩ (.slice x.ad x.L.length x.cap)).heap.size = w2.heap.size := by simp
  have q1 := h.hcb
  have q2 := h.wR
  have q3 := h.Rl
  have q4 := h.wN
  have q5 := h.Nl
  have q6 := (h.own.own.row.lt g rfl).1
  refine ⟨⟨by rw [ss]; exact hs, h2.own.own2.keep (fun q e => bl q (by have := h.own.khi q e; omega)), h.own.khi, h.own.lm, by rw [ss]; exact h2.own.mh, by rw [ss]; exact Nat.le_refl _⟩,
    h2.nb.keep (bl N (by omega)), h2.rb.keep (bl R (by omega)), h2.src.at_ (bl cb (by omega)) (fun a e p => bl _ (by have := h.had a e p; omega)), ?_, h.wR, h.Rl, h.wN, h.Nl, h.NR, h.hcb, h.had, by rw [List.length_set]; exact hl, fun j hj => ?_⟩
  · exact ⟨h2.gr.os, h2.gr.tape, h2.gr.output, by rw [ss]; exact h2.gr.size, fun j hj hn => (bl j (by omega)).trans (h2.gr.block j hj hn)⟩
  · rw [List.length_set] at hj
    by_cases e : j = i
    · subst e
      rw [show (Cs.set j x).getD j Bd.nil = x by simp [List.getD, hj]]
      exact hx
    · rw [show (Cs.set i x).getD j Bd.nil = Cs.getD j Bd.nil by simp [List.getD, List.getElem?_set_ne (Ne.symm e)]]
      exact h.ls j hj
theorem DnSt.done {R N g n lo mid cB : Nat} {adK : Option Addr} {cK : Nat} {K : List Lk} {cb : Nat} {ad : Option Addr} {len cap : Nat} {f : Nat → Int} {w wr : World} {Cs : List Bd} (h : DnSt R N g n lo mid cB adK cK K cb ad len cap f w wr Cs) (v0 v1 : Value) : ∃ v, v = (wr.setCell ⟨R, 0, none⟩ v0).setCell ⟨R, 1, none⟩ v1 ∧ NetOwn w.heap.size mid v.heap.size v (.slice (some ⟨g, 0, none⟩) n cB) Cs (.slice adK K.length cK) K ∧ Src v cb ad len cap f ∧ w.grownBy v (some cb) := by
  refine ⟨_, rfl, ?_, ?_, ?_⟩
  all_goals have q1 := h.hcb
  all_goals have q2 := h.wR
  all_goals have q3 := h.Rl
  all_goals have bl : ∀ j, j ≠ R → ((wr.setCell ⟨R, 0, none⟩ v0).setCell ⟨R, 1, none⟩ v1).heap[j]? = wr.heap[j]? := fun j hj => by rw [Below.heap_setCell _ _ _ _ hj, Below.heap_setCell _ _ _ _ hj]
  all_goals have ss : ((wr.setCell ⟨R, 0, none⟩ v0).setCell ⟨R, 1, none⟩ v1).heap.size = wr.heap.size := by simp
  · rw [ss]
    exact ((h.own.keep (fun b h1 _ => bl b (by omega)) (by rw [ss]; exact Nat.le_refl _)).from_ (by omega))
  · exact h.src.at_ (bl cb (by omega)) (fun a e p => bl _ (by have := h.had a e p; omega))
  · exact ⟨h.gr.os, h.gr.tape, h.gr.output, by rw [ss]; exact h.gr.size, fun j hj hn => (bl j (by omega)).trans (h.gr.block j hj hn)⟩
theorem PnSt.settled {R N lo mid hi cB : Nat} {adB : Option Addr} {adK : Option Addr} {cK : Nat} {K : List Lk} {cb : Nat} {ad : Option Addr} {len cap : Nat} {f : Nat → Int} {w y : World} {C : List Bd} {v' : World} {gB n2 cB2 mid2 : Nat} {adK2 : Option Addr} {cK2 : Nat} {Cs : List Bd} (h : PnSt R N lo mid hi adB cB adK cK K cb ad len cap f w y C) (k : Below y.heap.size y v') (had : ∀ a, ad = some a → 0 < len → a.block < w.heap.size)
    (o : NetOwn y.heap.size mid2 v'.heap.size v' (.slice (some ⟨gB, 0, none⟩) n2 cB2) Cs (.slice adK2 K.length cK2) K) (hl : Cs.length = n2) (ls : ∀ i, i < Cs.length → (Cs.getD i Bd.nil).L.length ≤ 6) :
    DnSt R N gB n2 y.heap.size mid2 cB2 adK2 cK2 K cb ad len cap f w ((v'.setCell ⟨N, 0, none⟩ (.slice (some ⟨gB, 0, none⟩) n2 cB2)).setCell ⟨N, 1, none⟩ (.slice adK2 K.length cK2)) Cs := by
  have h2 := h.later k
  have q1 := h.hcb
  have q2 := h.wR
  have q3 := h.RN
  have q4 := h.nb.lt
  have bl : ∀ j, j ≠ N → ((v'.setCell ⟨N, 0, none⟩ (.slice (some ⟨gB, 0, none⟩) n2 cB2)).setCell ⟨N, 1, none⟩ (.slice adK2 K.length cK2)).heap[j]? = v'.heap[j]? := fun j hj => by rw [Below.heap_setCell _ _ _ _ hj, Below.heap_setCell _ _ _ _ hj]
  have ss : ((v'.setCell ⟨N, 0, none⟩ (.slice (some ⟨gB, 0, none⟩) n2 cB2)).setCell ⟨N, 1, none⟩ (.slice adK2 K.length cK2)).heap.size = v'.heap.size := by simp
  refine ⟨?_, h2.nb.put _ _, h2.rb.keep (bl R (by omega)), h2.src.at_ (bl cb (by omega)) (fun a e p => bl _ (by have := had a e p; omega)), ?_, q2, by omega, by omega, q4, by omega, q1, had, hl, ls⟩
  · rw [ss]
    exact o.keep (fun b h1 _ => bl b (by omega)) (by rw [ss]; exact Nat.le_refl _)
  · exact ⟨h2.gr.os, h2.gr.tape, h2.gr.output, by rw [ss]; exact h2.gr.size, fun j hj hn => (bl j (by omega)).trans (h2.gr.block j hj hn)⟩

end Go.Proofs.Ytdfjfodfnildiaa
