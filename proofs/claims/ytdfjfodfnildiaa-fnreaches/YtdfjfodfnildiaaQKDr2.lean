/- spec.l10DrawRight, walked. -/
import Derived.Test.YtdfjfodfnildiaaRows
import Derived.WalkKit
import Derived.ProofKit
import Derived.OpenShut
import Derived.ShutString
import Derived.ChangeOld
import Derived.Below
import Derived.Deep.QuietTactic
import Derived.BigQuiet
import Derived.WalkSmall
import Derived.Laws.OwnMore
import Derived.WalkSpells
import Derived.WalkLawsBesides
import Derived.Deep.Cut
import Derived.Laws.StructEq
import Derived.Deep.RegionHeld
import Derived.Test.YtdfjfodfnildiaaQM13
import Derived.Test.YtdfjfodfnildiaaQKRe5
import Derived.Test.YtdfjfodfnildiaaQM1
import Derived.Test.YtdfjfodfnildiaaQM10
namespace Go.Proofs.Ytdfjfodfnildiaa
open Go.ChangeShapes Go.WideShapes Go.ChangeAt Go.RowKit
open Go.ChangeMaps (open_string shut_string)
set_option linter.unusedVariables false
set_option maxRecDepth 100000

set_option maxHeartbeats 16000000 in
theorem drawRightN {cb : Nat} {ad : Option Addr} {len cap : Nat} {f : Nat → Int} {w : World} (hs : Src w cb ad len cap f) (hcb : cb < w.heap.size) :
    Calls Try.prog 62 #[.pointer (some ⟨cb, 0, none⟩)] w fun e w' => DrewN w cb ad len cap f e w' := by
  have had : ∀ a, ad = some a → 0 < len → a.block < w.heap.size := fun q e hp => by
    obtain ⟨b, off, e2, hc⟩ := hs.view hp
    have := World.block_lt_of_cell? w _ (hc 0 hp)
    rw [e2] at e
    cases e
    exact this
  obtain ⟨R, hRe⟩ : ∃ R, R = w.heap.size := ⟨_, rfl⟩
  have hR : w.heap.size ≤ R := by omega
  have hRc : cb ≠ R := by omega
  obtain ⟨x0, hx0⟩ : ∃ x, x = w.alloc (Obj.cells #[.slice none 0 0, .slice none 0 0] 27) := ⟨_, rfl⟩
  have B0 : Below w.heap.size w x0 := by rw [hx0]; exact below_new _
  have R0 : NeBox x0 R (.slice none 0 0) (.slice none 0 0) := by rw [hx0, hRe]; exact NeBox.new w _
  have s0 := hs.later B0
  have G0 : w.grownBy x0 (some cb) := grown_of B0
  have z0 := B0.size
  have zR := R0.lt
  go_enter Try.func62, Try.ntmps62
  go_wp2_with fail
  go_at_call 86
  rw [← hx0, ← hRe]
  clear hx0 hRe B0
  refine (drawIds s0 (by omega)).mono ?_
  rintro e x1 ⟨aI, cI, ids, rfl, i1, i4, hI, OI, s1, g1⟩
  have R1 := R0.grew g1 hRc
  have G1 := grown_trans G0 g1
  have z1 := g1.size
  clear g1 s0 R0 G0
  go_wp2_with fail
  go_at_call 88
  refine (drawWires s1 (by omega) ids.length i1 (by omega)).mono ?_
  rintro e x2 ⟨aK, cK, K, nx, rfl, k6, hW, OK, s2, g2⟩
  have R2 := R1.grew g2 hRc
  have G2 := grown_trans G1 g2
  have z2 := g2.size
  have OI2 := OI.grown g2 (by omega)
  clear g2 s1 R1 G1 OI
  have hP := newP_of hI i1 (by omega) k6 hW
  clear hI hW
  go_wp2_with fail
  go_at_call 87
  refine (newNS aI cI ids aK cK K x2 OI2.view.2.toI (fun a e p => (OI2.lt a.block (by rw [e]; rfl)).2) OK.view.2 (by omega) (by omega) OK.capn).mono ?_
  rintro e x3 ⟨adB, cB, C0, adL, cL, KL, ok, mid0, rfl, O3, N3, k3⟩
  obtain rfl : ok = true := O3.yn.2 hP
  have hC1 : C0.length = ids.length := by
    have e1 := congrArg List.length (O3.yes rfl).1
    rw [dB_len, netN_len] at e1
    exact e1
  have sm : ∀ i, i < C0.length → (C0.getD i Bd.nil).L.length ≤ 4 := O3.small.2.1
  obtain rfl : K = KL := (O3.yes rfl).2.symm
  have hC1a : 1 ≤ C0.length := by omega
  have hC4 : C0.length ≤ 4 := by omega
  clear O3 hP hC1 OI2
  have R3 := R2.later k3
  have s3 := s2.later k3
  have G3 := grown_trans G2 (grown_of k3)
  have z3 := k3.size
  clear k3 R2 s2 G2 OK
  obtain ⟨x4, hx4⟩ : ∃ y_, y_ = x3.alloc (Obj.cells #[.slice adB C0.length cB, .slice adL K.length cL] 27) := ⟨_, rfl⟩
  have k4 : Below x3.heap.size x3 x4 := by rw [hx4]; exact below_new _
  obtain ⟨N, hNe⟩ : ∃ N, N = x3.heap.size := ⟨_, rfl⟩
  have nb : NeBox x4 N (.slice adB C0.length cB) (.slice adL K.length cL) := by rw [hx4, hNe]; exact NeBox.new x3 _
  have hRN : R < N := by have := R3.lt; omega
  have S : PnSt R N x2.heap.size mid0 x3.heap.size adB cB adL cL K cb ad len cap f w x4 C0 :=
    ⟨N3.later k4, nb, R3.later k4, s3.later k4, grown_trans G3 (grown_of k4), hR, hRN, hcb, by omega⟩
  clear k4 nb R3 s3 G3 N3
  go_upto_region 3 with fail
  rw [← hx4]
  rw [← hNe]
  clear hx4 hNe
  generalize x2.heap.size = lo0 at S
  generalize x3.heap.size = hi0 at S
  refine join_region (fun l l' W' => ∃ (us : List Value) (g n cB mid lo : Nat) (adK : Option Addr) (cK : Nat) (Cs : List Bd), us.length = 5 ∧ l' = l.take 20 ++ us ++ l.drop 25 ∧ DnSt R N g n lo mid cB adK cK K cb ad len cap f w W' Cs ∧ (1 ≤ n ∧ n ≤ 4)) ?_ ?_
  rotate_left
  · intro K2 hT
    refine wp_region_held (S := fun _ => True) (by kernel_rfl) ?_
    change wpAnyH _ _ _ _ _ _ _ _ (World.drew _)
    have S := S.later (w2 := x4.drew) ((Below.refl _ _).drew)
    obtain ⟨u0, hy0⟩ : ∃ y_, y_ = x4.drew := ⟨_, rfl⟩
    rw [← hy0] at S ⊢
    clear hy0
    have ht0 : True := trivial
    refine takeW 1 21 (.pointer (some ⟨cb, 0, none⟩)) rfl rfl (by kernel_rfl) (by kernel_rfl) (by kernel_rfl) (fun _ _ _ h => h) (by kernel_rfl) (by (intro w hSw; go_simp)) (by assumption) ?_
    simp only [List.set_cons_zero, List.set_cons_succ]
    refine wpAnyH_all (rs := [0, 2]) (by kernel_rfl) (by simp) ?_
    intro i hi
    rcases (by simpa using hi : i = 0 ∨ i = 2) with rfl | rfl
    · refine wpOp_step rfl (fun Kz hKz => ?_)
      rw [if_pos (by kernel_rfl)]
      obtain ⟨X0, X1⟩ := S.nb.at_
      go_simp
      refine hKz _ _ ⟨trivial, ?_⟩
      clear hKz Kz hi
      clear X0 X1
      refine wpAnyH_all (rs := [2]) (by kernel_rfl) (by simp) ?_
      intro i hi; obtain rfl : i = 2 := by simpa using hi
      refine wpOp_step rfl (fun Kz hKz => ?_)
      rw [if_pos (by kernel_rfl)]
      go_simp
      refine hKz _ _ ⟨trivial, ?_⟩
      clear hKz Kz hi
      obtain ⟨v2, hv2⟩ : ∃ y_, y_ = u0.alloc (Obj.cells #[.int .i64 0, .int .i64 1, .int .i64 5, .int .i64 30] 3) := ⟨_, rfl⟩
      have kv2 : Below u0.heap.size u0 v2 := by rw [hv2]; exact below_new _
      have Fv2 : ∀ i, i < 4 → ∃ y, v2.cell? ⟨u0.heap.size, i, none⟩ = some (.int .i64 y) ∧ (0 ≤ y ∧ y ≤ 100) := by
        rw [hv2]
        intro i hi
        rcases (by omega : i = 0 ∨ i = 1 ∨ i = 2 ∨ i = 3) with rfl | rfl | rfl | rfl
        · exact ⟨0, by simp [go_sem], by decide, by decide⟩
        · exact ⟨1, by simp [go_sem], by decide, by decide⟩
        · exact ⟨5, by simp [go_sem], by decide, by decide⟩
        · exact ⟨30, by simp [go_sem], by decide, by decide⟩
      rw [← hv2]
      clear hv2
      have Sv := S.later kv2
      refine wpAnyH_all (rs := [3]) (by kernel_rfl) (by simp) ?_
      intro i hi; obtain rfl : i = 3 := by simpa using hi
      refine wpOp_step rfl (fun Kz hKz => ?_)
      rw [if_pos (by kernel_rfl)]
      go_simp
      go_at_call 90
      refine (pickIntP Sv.src (fun y => 0 ≤ y ∧ y ≤ 100) u0.heap.size 4 4 (by have := S.hcb; have := S.gr.size; omega) (by decide) (by decide) Fv2).mono ?_
      rintro e v3 ⟨r, rfl, r01, s2, g2⟩
      have Svw := Sv.drawn s2 g2
      clear s2 g2
      refine hKz _ _ ⟨trivial, ?_⟩
      clear hKz Kz hi
      refine wpAnyH_all (rs := [4]) (by kernel_rfl) (by simp) ?_
      intro i hi; obtain rfl : i = 4 := by simpa using hi
      refine wpOp_step rfl (fun Kz hKz => ?_)
      rw [if_pos (by kernel_rfl)]
      go_simp
      go_at_call 89
      refine (settleS adB cB C0 adL cL K r _ (Svw.own.nn (by omega) (fun i hi => Nat.le_trans (sm i hi) (by decide)) (by omega)) Svw.own.own2.capn).mono ?_
      rintro e v4 ⟨D, hD, a2, cB2, Cs, aL2, cL2, mid2, rfl, hdC, O2, k2⟩
      refine hKz _ _ ⟨trivial, ?_⟩
      clear hKz Kz hi
      have hCl : Hid (Cs.length = C0.length) := by
        unfold Hid
        have e1 := congrArg List.length hdC
        rw [dB_len] at e1
        rcases hD with ⟨_, e⟩ | ⟨_, e⟩
        · rw [e1, e, setL_len, dB_len]
        · rw [e1, e, dB_len]
      have hCs : ∀ i, i < Cs.length → (Cs.getD i Bd.nil).L.length ≤ 6 := fun i hi => by
        have e1 : ((dB Cs).getD i Bg.nil).L = (Cs.getD i Bd.nil).L := by rw [show dB Cs = Cs.map Bd.d from rfl, bd_get]; rfl
        have e2 : ((dB C0).getD i Bg.nil).L = (C0.getD i Bd.nil).L := by rw [show dB C0 = C0.map Bd.d from rfl, bd_get]; rfl
        have h4 := sm i (by have := hCl.out; omega)
        rw [← e1, hdC]
        rcases hD with ⟨_, e⟩ | ⟨_, e⟩
        · rw [e, setL_ls, e2]; omega
        · rw [e, e2]; omega
      obtain ⟨g2, rfl⟩ : ∃ g2, a2 = some ⟨g2, 0, none⟩ := by
        rcases O2.own.row.2 with ⟨_, q⟩ | ⟨g, c, cur, q, _⟩
        · have := hCl.out; omega
        · simp only [Value.slice.injEq] at q
          exact ⟨g, q.1⟩
      have DS := Svw.settled k2 had O2 rfl hCs
      have Svwz := Svw.later k2
      clear hD hdC O2 k2 hCs
      refine wpAnyH_all (rs := [5]) (by kernel_rfl) (by simp) ?_
      intro i hi; obtain rfl : i = 5 := by simpa using hi
      refine wpOp_step rfl (fun Kz hKz => ?_)
      rw [if_pos (by kernel_rfl)]
      obtain ⟨X0, X1⟩ := Svwz.nb.at_
      have f0 := Svwz.nb.fr 0
      have f1 := Svwz.nb.fr 1
      go_simp
      refine hKz _ _ ⟨trivial, ?_⟩
      clear hKz Kz hi X0 X1 f0 f1
      refine wpAnyH_done (by kernel_rfl) ?_ _
      exact hT.out _ _ ⟨[(.agg #[.slice adB C0.length cB, .slice adL K.length cL]), .pointer (some ⟨cb, 0, none⟩), .slice (some ⟨u0.heap.size, 0, none⟩) 4 4, .int .i64 r, .agg #[.slice (some ⟨g2, 0, none⟩) Cs.length cB2, .slice aL2 K.length cL2]], g2, Cs.length, cB2, mid2, _, aL2, cL2, Cs, rfl, by kernel_rfl, DS, by have := hCl.out; omega⟩
    · refine wpOp_step rfl (fun Kz hKz => ?_)
      rw [if_pos (by kernel_rfl)]
      go_simp
      refine hKz _ _ ⟨trivial, ?_⟩
      clear hKz Kz hi
      obtain ⟨v2, hv2⟩ : ∃ y_, y_ = u0.alloc (Obj.cells #[.int .i64 0, .int .i64 1, .int .i64 5, .int .i64 30] 3) := ⟨_, rfl⟩
      have kv2 : Below u0.heap.size u0 v2 := by rw [hv2]; exact below_new _
      have Fv2 : ∀ i, i < 4 → ∃ y, v2.cell? ⟨u0.heap.size, i, none⟩ = some (.int .i64 y) ∧ (0 ≤ y ∧ y ≤ 100) := by
        rw [hv2]
        intro i hi
        rcases (by omega : i = 0 ∨ i = 1 ∨ i = 2 ∨ i = 3) with rfl | rfl | rfl | rfl
        · exact ⟨0, by simp [go_sem], by decide, by decide⟩
        · exact ⟨1, by simp [go_sem], by decide, by decide⟩
        · exact ⟨5, by simp [go_sem], by decide, by decide⟩
        · exact ⟨30, by simp [go_sem], by decide, by decide⟩
      rw [← hv2]
      clear hv2
      have Sv := S.later kv2
      refine wpAnyH_all (rs := [0, 3]) (by kernel_rfl) (by simp) ?_
      intro i hi
      rcases (by simpa using hi : i = 0 ∨ i = 3) with rfl | rfl
      · refine wpOp_step rfl (fun Kz hKz => ?_)
        rw [if_pos (by kernel_rfl)]
        obtain ⟨X0, X1⟩ := Sv.nb.at_
        go_simp
        refine hKz _ _ ⟨trivial, ?_⟩
        clear hKz Kz hi
        clear X0 X1
        refine wpAnyH_all (rs := [3]) (by kernel_rfl) (by simp) ?_
        intro i hi; obtain rfl : i = 3 := by simpa using hi
        refine wpOp_step rfl (fun Kz hKz => ?_)
        rw [if_pos (by kernel_rfl)]
        go_simp
        go_at_call 90
        refine (pickIntP Sv.src (fun y => 0 ≤ y ∧ y ≤ 100) u0.heap.size 4 4 (by have := S.hcb; have := S.gr.size; omega) (by decide) (by decide) Fv2).mono ?_
        rintro e v3 ⟨r, rfl, r01, s2, g2⟩
        have Svw := Sv.drawn s2 g2
        clear s2 g2
        refine hKz _ _ ⟨trivial, ?_⟩
        clear hKz Kz hi
        refine wpAnyH_all (rs := [4]) (by kernel_rfl) (by simp) ?_
        intro i hi; obtain rfl : i = 4 := by simpa using hi
        refine wpOp_step rfl (fun Kz hKz => ?_)
        rw [if_pos (by kernel_rfl)]
        go_simp
        go_at_call 89
        refine (settleS adB cB C0 adL cL K r _ (Svw.own.nn (by omega) (fun i hi => Nat.le_trans (sm i hi) (by decide)) (by omega)) Svw.own.own2.capn).mono ?_
        rintro e v4 ⟨D, hD, a2, cB2, Cs, aL2, cL2, mid2, rfl, hdC, O2, k2⟩
        refine hKz _ _ ⟨trivial, ?_⟩
        clear hKz Kz hi
        have hCl : Hid (Cs.length = C0.length) := by
          unfold Hid
          have e1 := congrArg List.length hdC
          rw [dB_len] at e1
          rcases hD with ⟨_, e⟩ | ⟨_, e⟩
          · rw [e1, e, setL_len, dB_len]
          · rw [e1, e, dB_len]
        have hCs : ∀ i, i < Cs.length → (Cs.getD i Bd.nil).L.length ≤ 6 := fun i hi => by
          have e1 : ((dB Cs).getD i Bg.nil).L = (Cs.getD i Bd.nil).L := by rw [show dB Cs = Cs.map Bd.d from rfl, bd_get]; rfl
          have e2 : ((dB C0).getD i Bg.nil).L = (C0.getD i Bd.nil).L := by rw [show dB C0 = C0.map Bd.d from rfl, bd_get]; rfl
          have h4 := sm i (by have := hCl.out; omega)
          rw [← e1, hdC]
          rcases hD with ⟨_, e⟩ | ⟨_, e⟩
          · rw [e, setL_ls, e2]; omega
          · rw [e, e2]; omega
        obtain ⟨g2, rfl⟩ : ∃ g2, a2 = some ⟨g2, 0, none⟩ := by
          rcases O2.own.row.2 with ⟨_, q⟩ | ⟨g, c, cur, q, _⟩
          · have := hCl.out; omega
          · simp only [Value.slice.injEq] at q
            exact ⟨g, q.1⟩
        have DS := Svw.settled k2 had O2 rfl hCs
        have Svwz := Svw.later k2
        clear hD hdC O2 k2 hCs
        refine wpAnyH_all (rs := [5]) (by kernel_rfl) (by simp) ?_
        intro i hi; obtain rfl : i = 5 := by simpa using hi
        refine wpOp_step rfl (fun Kz hKz => ?_)
        rw [if_pos (by kernel_rfl)]
        obtain ⟨X0, X1⟩ := Svwz.nb.at_
        have f0 := Svwz.nb.fr 0
        have f1 := Svwz.nb.fr 1
        go_simp
        refine hKz _ _ ⟨trivial, ?_⟩
        clear hKz Kz hi X0 X1 f0 f1
        refine wpAnyH_done (by kernel_rfl) ?_ _
        exact hT.out _ _ ⟨[(.agg #[.slice adB C0.length cB, .slice adL K.length cL]), .pointer (some ⟨cb, 0, none⟩), .slice (some ⟨u0.heap.size, 0, none⟩) 4 4, .int .i64 r, .agg #[.slice (some ⟨g2, 0, none⟩) Cs.length cB2, .slice aL2 K.length cL2]], g2, Cs.length, cB2, mid2, _, aL2, cL2, Cs, rfl, by kernel_rfl, DS, by have := hCl.out; omega⟩
      · refine wpOp_step rfl (fun Kz hKz => ?_)
        rw [if_pos (by kernel_rfl)]
        go_simp
        go_at_call 90
        refine (pickIntP Sv.src (fun y => 0 ≤ y ∧ y ≤ 100) u0.heap.size 4 4 (by have := S.hcb; have := S.gr.size; omega) (by decide) (by decide) Fv2).mono ?_
        rintro e v3 ⟨r, rfl, r01, s2, g2⟩
        have Svw := Sv.drawn s2 g2
        clear s2 g2
        refine hKz _ _ ⟨trivial, ?_⟩
        clear hKz Kz hi
        refine wpAnyH_all (rs := [0]) (by kernel_rfl) (by simp) ?_
        intro i hi; obtain rfl : i = 0 := by simpa using hi
        refine wpOp_step rfl (fun Kz hKz => ?_)
        rw [if_pos (by kernel_rfl)]
        obtain ⟨X0, X1⟩ := Svw.nb.at_
        go_simp
        refine hKz _ _ ⟨trivial, ?_⟩
        clear hKz Kz hi
        clear X0 X1
        refine wpAnyH_all (rs := [4]) (by kernel_rfl) (by simp) ?_
        intro i hi; obtain rfl : i = 4 := by simpa using hi
        refine wpOp_step rfl (fun Kz hKz => ?_)
        rw [if_pos (by kernel_rfl)]
        go_simp
        go_at_call 89
        refine (settleS adB cB C0 adL cL K r _ (Svw.own.nn (by omega) (fun i hi => Nat.le_trans (sm i hi) (by decide)) (by omega)) Svw.own.own2.capn).mono ?_
        rintro e v4 ⟨D, hD, a2, cB2, Cs, aL2, cL2, mid2, rfl, hdC, O2, k2⟩
        refine hKz _ _ ⟨trivial, ?_⟩
        clear hKz Kz hi
        have hCl : Hid (Cs.length = C0.length) := by
          unfold Hid
          have e1 := congrArg List.length hdC
          rw [dB_len] at e1
          rcases hD with ⟨_, e⟩ | ⟨_, e⟩
          · rw [e1, e, setL_len, dB_len]
          · rw [e1, e, dB_len]
        have hCs : ∀ i, i < Cs.length → (Cs.getD i Bd.nil).L.length ≤ 6 := fun i hi => by
          have e1 : ((dB Cs).getD i Bg.nil).L = (Cs.getD i Bd.nil).L := by rw [show dB Cs = Cs.map Bd.d from rfl, bd_get]; rfl
          have e2 : ((dB C0).getD i Bg.nil).L = (C0.getD i Bd.nil).L := by rw [show dB C0 = C0.map Bd.d from rfl, bd_get]; rfl
          have h4 := sm i (by have := hCl.out; omega)
          rw [← e1, hdC]
          rcases hD with ⟨_, e⟩ | ⟨_, e⟩
          · rw [e, setL_ls, e2]; omega
          · rw [e, e2]; omega
        obtain ⟨g2, rfl⟩ : ∃ g2, a2 = some ⟨g2, 0, none⟩ := by
          rcases O2.own.row.2 with ⟨_, q⟩ | ⟨g, c, cur, q, _⟩
          · have := hCl.out; omega
          · simp only [Value.slice.injEq] at q
            exact ⟨g, q.1⟩
        have DS := Svw.settled k2 had O2 rfl hCs
        have Svwz := Svw.later k2
        clear hD hdC O2 k2 hCs
        refine wpAnyH_all (rs := [5]) (by kernel_rfl) (by simp) ?_
        intro i hi; obtain rfl : i = 5 := by simpa using hi
        refine wpOp_step rfl (fun Kz hKz => ?_)
        rw [if_pos (by kernel_rfl)]
        obtain ⟨X0, X1⟩ := Svwz.nb.at_
        have f0 := Svwz.nb.fr 0
        have f1 := Svwz.nb.fr 1
        go_simp
        refine hKz _ _ ⟨trivial, ?_⟩
        clear hKz Kz hi X0 X1 f0 f1
        refine wpAnyH_done (by kernel_rfl) ?_ _
        exact hT.out _ _ ⟨[(.agg #[.slice adB C0.length cB, .slice adL K.length cL]), .pointer (some ⟨cb, 0, none⟩), .slice (some ⟨u0.heap.size, 0, none⟩) 4 4, .int .i64 r, .agg #[.slice (some ⟨g2, 0, none⟩) Cs.length cB2, .slice aL2 K.length cL2]], g2, Cs.length, cB2, mid2, _, aL2, cL2, Cs, rfl, by kernel_rfl, DS, by have := hCl.out; omega⟩
  rintro l' W ⟨us, g, n, cB, mid, lo, adK, cK, Cs, hul, rfl, S, hn1, hn4⟩
  obtain ⟨s20, us, rfl⟩ : ∃ a b, us = a :: b := List.exists_cons_of_length_eq_add_one hul
  replace hul := Nat.succ.inj hul
  obtain ⟨s21, us, rfl⟩ : ∃ a b, us = a :: b := List.exists_cons_of_length_eq_add_one hul
  replace hul := Nat.succ.inj hul
  obtain ⟨s22, us, rfl⟩ : ∃ a b, us = a :: b := List.exists_cons_of_length_eq_add_one hul
  replace hul := Nat.succ.inj hul
  obtain ⟨s23, us, rfl⟩ : ∃ a b, us = a :: b := List.exists_cons_of_length_eq_add_one hul
  replace hul := Nat.succ.inj hul
  obtain ⟨s24, us, rfl⟩ : ∃ a b, us = a :: b := List.exists_cons_of_length_eq_add_one hul
  replace hul := Nat.succ.inj hul
  obtain rfl : us = [] := List.eq_nil_of_length_eq_zero hul
  clear hul
  simp only [List.take, List.drop, List.cons_append, List.nil_append]
  clear sm hC1a hC4
  go_wp2
  go_loopw [6] (fun q wr => ∃ (k : Nat) (Cs : List Bd), k ≤ 4 ∧ q = .int .i64 (k : Int) ∧ DnSt R N g n lo mid cB adK cK K cb ad len cap f w wr Cs) (fun q _ => 4 - (intOf q).toNat)
  case atStart => exact ⟨0, Cs, by omega, rfl, S⟩
  case round =>
    clear S Cs
    obtain ⟨k, Cs, hk, rfl, S⟩ := hrel
    go_wp2_with fail
    go_at_call 38
    refine (drawBelow S.src 4 (by decide) (by decide)).mono ?_
    rintro e y ⟨x, rfl, x0_, x1_, s1, g1⟩
    have S := S.drawn s1 g1
    clear s1 g1
    by_cases hc : (k : Int) < x
    rotate_left
    · have d1 : decide ((k : Int) < x) = false := decide_eq_false hc
      have hc2 : x ≤ (k : Int) := by omega
      replace hc : Hid _ := hc
      obtain ⟨v, hv, O5, s5, g5⟩ := S.done (.slice (some ⟨g, 0, none⟩) n cB) (.slice adK K.length cK)
      have hls := S.ls
      have hll := S.hl
      obtain ⟨n0, n1⟩ := S.nb.at_
      obtain ⟨r0, r1⟩ := S.rb.at_
      have f0 := S.rb.fr 0
      have f1 := S.rb.fr 1
      go_wp2
      rw [← hv]
      refine bodyPost_ret (v := .agg #[.slice (some ⟨g, 0, none⟩) n cB, .slice adK K.length cK]) (by simp [results, Try.results62, go_sem, *]) rfl ?_
      subst hll
      exact ⟨_, _, Cs, _, _, K, mid, rfl, hn1, by omega, by omega, hls, O5, s5, g5⟩
    have d1 : decide ((k : Int) < x) = true := decide_eq_true hc
    have hk4 : k < 4 := by omega
    have cc := S.nb.at_
    obtain ⟨n0, n1⟩ := cc
    have d2 : decide (0 < (n : Int)) = true := decide_eq_true (by omega)
    have d3 : 0 < (n : Int) := by omega
    go_wp2_with fail
    go_at_call 38
    clear n0 n1
    refine (drawBelow S.src (n : Int) (by omega) (by omega)).mono ?_
    rintro e y2 ⟨j, rfl, j0, j1, s1, g1⟩
    have S := S.drawn s1 g1
    clear s1 g1
    obtain ⟨j, rfl⟩ := Int.eq_ofNat_of_zero_le j0
    have hjn : j < n := by omega
    go_wp2_with fail
    go_at_call 91
    refine (drawI8 y2 S.src (by have := S.hcb; have := S.gr.size; omega)).mono ?_
    rintro e y3 ⟨x, rfl, s1, g1⟩
    have S := S.drawn s1 g1
    clear s1 g1
    obtain ⟨z, hz⟩ : ∃ z, z = y3.alloc (Obj.cells #[.int .i64 x.k, .int .i64 x.q, .int .i64 x.r, .int .i64 x.c, .int .i64 x.b, .int .i64 x.p, .int .i64 x.h, .bool x.up] 122) := ⟨_, rfl⟩
    have kz : Below y3.heap.size y3 z := by rw [hz]; exact below_new _
    have X : InAt z y3.heap.size x := by rw [hz]; exact InAt.new y3 _ x
    have hQg : y3.heap.size ≠ g := by have := S.midg; omega
    have S := S.later kz
    go_upto_region 9 with fail
    rw [← hz]
    clear hz kz
    obtain ⟨Q, hQ⟩ : ∃ Q, y3.heap.size = Q := ⟨_, rfl⟩
    rw [hQ] at X hQg ⊢
    clear hQ
    have cc := X
    obtain ⟨q0, q1, q2, q3, q4, q5, q6, q7⟩ := cc
    by_cases hx : x.k = 1
    rotate_left
    · have d5 : (x.k == 1) = false := by simp [hx]
      have d6 : decide (x.k = 1) = false := decide_eq_false hx
      replace hx : Hid _ := hx
      go_wp2
      go_roundw
      case rel => exact ⟨k + 1, Cs, by omega, by go_num, S⟩
      case measure => simp [intOf]; omega
    have d5 : (x.k == 1) = true := by simp [hx]
    have d6 : decide (x.k = 1) = true := decide_eq_true hx
    replace hx : Hid _ := hx
    have hjC : j < Cs.length := by rw [S.hl]; exact hjn
    have hNg : N ≠ g := by have := S.midg; have := S.Nl; omega
    have hNB : ∀ Y, z.grownBy Y (some g) → NeAt Y N (.slice (some ⟨g, 0, none⟩) n cB) (.slice adK K.length cK) := fun Y hY => S.nb.at_.keep (hY.block _ S.nb.lt (fun e => by cases e; exact hNg rfl))
    have hXB : ∀ Y, z.grownBy Y (some g) → InAt Y Q x := fun Y hY => X.keep (hY.block _ X.lt (fun e => by cases e; exact hQg rfl))
    have hcr : ∀ Y, Below z.heap.size z Y → BdAtO Y g (j * 2) (Cs.getD j Bd.nil) := fun Y hY => by
      have h2 := (S.later hY).own.own
      rw [← S.hl] at h2
      have := h2.view.2.at_ hjC
      rw [Nat.zero_add] at this
      exact this
    have hfz : ∀ Y, Below z.heap.size z Y → ∀ o, Y.frozen? ⟨g, o, none⟩ = false := fun Y hY o => by
      have h2 := (S.later hY).own.own
      rw [← S.hl] at h2
      exact h2.row.frozen o
    have hn : ∀ Y, Below z.heap.size z Y → FView ptEnc Y (Cs.getD j Bd.nil).ad (Cs.getD j Bd.nil).L := fun Y hY => (S.later hY).own.own.view.2.nest j hjC
    have hnil := S.own.own.view.2.nil0 j hjC
    have hlk6 := S.ls j hjC
    have hlk : (Cs.getD j Bd.nil).L.length ≤ 1048576 := by omega
    obtain ⟨⟨id, a1, c1, L1⟩, hh⟩ : ∃ q, Cs.getD j Bd.nil = q := ⟨_, rfl⟩
    rw [hh] at hlk hnil hlk6
    simp only [hh] at hcr hn
    dsimp only at hlk hnil hlk6 hn
    clear hh
    go_upto_region 10 with fail
    clear q0 q1 q2 q3 q4 q5 q6 q7
    refine wp_region_held (S := fun Y => z.grownBy Y (some g)) (by kernel_rfl) ?_
    change wpAnyH _ _ _ _ _ _ _ _ (World.drew _)
    have hb0 : z.grownBy z.drew (some g) := ⟨rfl, rfl, rfl, Nat.le_refl _, fun _ _ _ => rfl⟩
    obtain ⟨u0, hy0⟩ : ∃ y_, y_ = z.drew := ⟨_, rfl⟩
    have hd0 : Below z.heap.size z u0 := by rw [hy0]; exact (Below.refl _ _).drew
    rw [← hy0] at hb0 ⊢
    clear hy0
    refine takeW 0 48 (.pointer (some ⟨N, 0, none⟩)) rfl rfl (by kernel_rfl) (by kernel_rfl) (by kernel_rfl) (fun _ _ _ h => h) (by kernel_rfl) (by (intro w hSw; go_simp)) (by assumption) ?_
    simp only [List.set_cons_zero, List.set_cons_succ]
    refine takeW 1 49 (.slice (some ⟨g, 0, none⟩) n cB) rfl rfl (by kernel_rfl) (by kernel_rfl) (by kernel_rfl) (fun _ _ _ h => h) (by kernel_rfl) (by (intro Y hSw; obtain ⟨X0, X1⟩ := hNB Y hSw; go_simp)) (by assumption) ?_
    simp only [List.set_cons_zero, List.set_cons_succ]
    refine takeW 2 50 (.int .i64 (j : Int)) rfl rfl (by kernel_rfl) (by kernel_rfl) (by kernel_rfl) (fun _ _ _ h => h) (by kernel_rfl) (by (intro w hSw; go_simp)) (by assumption) ?_
    simp only [List.set_cons_zero, List.set_cons_succ]
    refine takeW 3 51 (.pointer (some ⟨N, 0, none⟩)) rfl rfl (by kernel_rfl) (by kernel_rfl) (by kernel_rfl) (fun _ _ _ h => h) (by kernel_rfl) (by (intro w hSw; go_simp)) (by assumption) ?_
    simp only [List.set_cons_zero, List.set_cons_succ]
    refine takeW 4 52 (.slice (some ⟨g, 0, none⟩) n cB) rfl rfl (by kernel_rfl) (by kernel_rfl) (by kernel_rfl) (fun _ _ _ h => h) (by kernel_rfl) (by (intro Y hSw; obtain ⟨X0, X1⟩ := hNB Y hSw; go_simp)) (by assumption) ?_
    simp only [List.set_cons_zero, List.set_cons_succ]
    refine takeW 5 53 (.int .i64 (j : Int)) rfl rfl (by kernel_rfl) (by kernel_rfl) (by kernel_rfl) (fun _ _ _ h => h) (by kernel_rfl) (by (intro w hSw; go_simp)) (by assumption) ?_
    simp only [List.set_cons_zero, List.set_cons_succ]
    refine takeW 6 54 (.pointer (some ⟨g, j * 2, none⟩)) rfl rfl (by kernel_rfl) (by kernel_rfl) (by kernel_rfl) (fun _ _ _ h => h) (by kernel_rfl) (by (intro Y hSw; go_simp; try omega)) (by assumption) ?_
    simp only [List.set_cons_zero, List.set_cons_succ]
    refine takeW 8 56 (.agg #[.int .i64 x.k, .int .i64 x.q, .int .i64 x.r, .int .i64 x.c, .int .i64 x.b, .int .i64 x.p, .int .i64 x.h, .bool x.up]) rfl rfl (by kernel_rfl) (by kernel_rfl) (by kernel_rfl) (fun _ _ _ h => h) (by kernel_rfl) (by (intro Y hSw; obtain ⟨X0, X1, X2, X3, X4, X5, X6, X7⟩ := hXB Y hSw; go_simp)) (by assumption) ?_
    simp only [List.set_cons_zero, List.set_cons_succ]
    refine wpAnyH_all (rs := [7]) (by kernel_rfl) (by simp) ?_
    intro i_ hi_; obtain rfl : i_ = 7 := by simpa using hi_
    refine wpOp_step rfl (fun Kz hKz => ?_)
    rw [if_pos (by kernel_rfl)]
    obtain ⟨X0, X1⟩ := hcr u0 hd0
    dsimp only at X0 X1
    go_simp
    refine hKz _ _ ⟨hb0, ?_⟩
    clear hKz Kz hi_ X0 X1
    refine wpAnyH_all (rs := [9]) (by kernel_rfl) (by simp) ?_
    intro i_ hi_; obtain rfl : i_ = 9 := by simpa using hi_
    refine wpOp_step rfl (fun Kz hKz => ?_)
    rw [if_pos (by kernel_rfl)]
    go_simp
    go_at_call 92
    refine (reactS id a1 c1 L1 x u0 (hn u0 hd0) hlk hnil).mono ?_
    rintro e u1 ⟨a2, c2, ao, co, rfl, o2, _, _, kq⟩
    obtain ⟨M, hM⟩ : ∃ M, reactL id L1 x = M := ⟨_, rfl⟩
    rw [hM] at o2 ⊢
    have hMl : M.length ≤ 6 := by rw [← hM, reactL_len]; exact hlk6
    clear hM
    generalize (reactO id L1 x).length = no
    have hd1 : Below z.heap.size z u1 := hd0.trans (kq.mono hd0.size)
    have hz1 := kq.size
    have hz0 := hd0.size
    have hb1 : z.grownBy u1 (some g) := grown_of hd1
    clear kq
    refine hKz _ _ ⟨hb1, ?_⟩
    clear hKz Kz hi_
    refine takeW 10 47 (.tuple #[.agg #[.int .i64 id, .slice a2 M.length c2], .slice ao no co]) rfl rfl (by kernel_rfl) (by kernel_rfl) (by kernel_rfl) (fun _ _ _ h => h) (by kernel_rfl) (by (intro w hSw; go_simp)) (by assumption) ?_
    simp only [List.set_cons_zero, List.set_cons_succ]
    refine takeW 11 58 (.agg #[.int .i64 id, .slice a2 M.length c2]) rfl rfl (by kernel_rfl) (by kernel_rfl) (by kernel_rfl) (fun _ _ _ h => h) (by kernel_rfl) (by (intro w hSw; go_simp)) (by assumption) ?_
    simp only [List.set_cons_zero, List.set_cons_succ]
    refine takeW 12 59 (.slice ao no co) rfl rfl (by kernel_rfl) (by kernel_rfl) (by kernel_rfl) (fun _ _ _ h => h) (by kernel_rfl) (by (intro w hSw; go_simp)) (by assumption) ?_
    simp only [List.set_cons_zero, List.set_cons_succ]
    refine takeW 13 60 (.pointer (some ⟨g, j * 2, none⟩)) rfl rfl (by kernel_rfl) (by kernel_rfl) (by kernel_rfl) (fun _ _ _ h => h) (by kernel_rfl) (by (intro Y hSw; go_simp; try omega)) (by assumption) ?_
    simp only [List.set_cons_zero, List.set_cons_succ]
    refine wpAnyH_all (rs := [14]) (by kernel_rfl) (by simp) ?_
    intro i_ hi_; obtain rfl : i_ = 14 := by simpa using hi_
    refine wpOp_step rfl (fun Kz hKz => ?_)
    rw [if_pos (by kernel_rfl)]
    obtain ⟨X0, X1⟩ := hcr u1 hd1
    dsimp only at X0 X1
    have f0 := hfz u1 hd1 (j * 2)
    have f1 := hfz u1 hd1 (j * 2 + 1)
    go_simp
    refine hKz _ _ ⟨grown_set _ (grown_set _ hb1), ?_⟩
    clear hKz Kz hi_ X0 X1 f0 f1
    refine wpAnyH_done (by kernel_rfl) ?_ _
    have S5 := S.set z hd1 S hjC ⟨id, a2, c2, M⟩ (o2.base (by omega)) hMl
    dsimp only at S5
    clear hcr hfz hn hXB hNB o2 hb0 hb1 hd0 hd1 X S
    go_wp2
    go_roundw
    case rel => exact ⟨k + 1, _, by omega, by go_num, S5⟩
    case measure => simp [intOf]; omega

end Go.Proofs.Ytdfjfodfnildiaa
