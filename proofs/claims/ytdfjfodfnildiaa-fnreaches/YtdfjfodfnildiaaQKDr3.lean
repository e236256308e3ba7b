/- spec.l10Draw, walked. -/
import Derived.Test.YtdfjfodfnildiaaRows
import Derived.WalkKit
import Derived.ProofKit
import Derived.OpenShut
import Derived.ShutString
import Derived.ChangeOld
import Derived.Below
import Derived.Deep.QuietTactic
import Derived.BigQuiet
import Derived.WalkSmall
import Derived.Laws.OwnMore
import Derived.WalkSpells
import Derived.WalkLawsBesides
import Derived.Deep.Cut
import Derived.Laws.StructEq
import Derived.Deep.RegionHeld
import Derived.Maps.AppendAt
import Derived.Test.YtdfjfodfnildiaaQKDr2
namespace Go.Proofs.Ytdfjfodfnildiaa
open Go.ChangeShapes Go.WideShapes Go.ChangeAt Go.RowKit
open Go.ChangeMaps (open_string shut_string)
set_option linter.unusedVariables false
set_option maxRecDepth 100000

theorem join_regionQ {P : Program} {reg : Code} {Q : Exit → Act → World → Prop} {l : List Value} {ds : List Deferred} {W : World} (R : List Value → List Value → World → Prop) (h1 : ∀ l' W', R l l' W' → Q .normal ⟨l'.toArray, ds⟩ W') (h2 : ∀ K2 : Act → World → Prop, Hid (∀ l' W', R l l' W' → K2 ⟨l'.toArray, ds⟩ W') → Code.wp P reg (Exit.then K2 Q) ⟨l.toArray, ds⟩ W) : Code.wp P reg Q ⟨l.toArray, ds⟩ W := by
  have e : Q = Exit.then (fun a w => Q .normal a w) Q := by
    funext e a w
    cases e <;> rfl
  rw [e]
  exact join_region R h1 h2
theorem NeBox.put1 {w : World} {q : Nat} {v0 v1 : Value} (h : NeBox w q v0 v1) (v : Value) : NeBox (w.setCell ⟨q, 1, none⟩ v) q v0 v :=
  ⟨⟨(pset_else (by decide)).trans h.at_.c0, pset_same h.at_.c1⟩, fun i => by rw [World.frozen?_setCell]; exact h.fr i⟩
structure NetLo (lo : Nat) (w : World) (vB : Value) (Cs : List Bd) (vK : Value) (K : List Lk) : Prop where
  own : NOwn lo w.heap.size w vB Cs
  own2 : FOwn lkEnc 4 64 lo w vK K
theorem NetLo.keep {lo : Nat} {w w' : World} {vB : Value} {Cs : List Bd} {vK : Value} {K : List Lk} (h : NetLo lo w vB Cs vK K) (k : ∀ b, lo ≤ b → b < w.heap.size → w'.heap[b]? = w.heap[b]?) (hs : w.heap.size ≤ w'.heap.size) : NetLo lo w' vB Cs vK K :=
  ⟨(h.own.keep k).wide (Nat.le_refl _) hs, h.own2.keep (fun q e => k q (h.own2.lt q e).1 (h.own2.lt q e).2)⟩
theorem NetLo.later {lo : Nat} {w w' : World} {vB : Value} {Cs : List Bd} {vK : Value} {K : List Lk} (h : NetLo lo w vB Cs vK K) (k : Below w.heap.size w w') : NetLo lo w' vB Cs vK K := h.keep (fun b _ hb => k.block b hb) k.size
theorem NetLo.grew {lo cb : Nat} {w w' : World} {vB : Value} {Cs : List Bd} {vK : Value} {K : List Lk} (h : NetLo lo w vB Cs vK K) (g : w.grownBy w' (some cb)) (hc : cb < lo) : NetLo lo w' vB Cs vK K := h.keep (fun b h1 hb => g.block b hb (fun e => by cases e; omega)) g.size
theorem NetLo.nn {lo : Nat} {w : World} {adB : Option Addr} {cB : Nat} {Cs : List Bd} {adK : Option Addr} {cK : Nat} {K : List Lk} (h : NetLo lo w (.slice adB Cs.length cB) Cs (.slice adK K.length cK) K) (hl : Cs.length ≤ 1048576) (hls : ∀ i, i < Cs.length → (Cs.getD i Bd.nil).L.length ≤ 1048576) (hk : K.length ≤ 1048576) : NN w adB Cs adK K :=
  ⟨h.own.view.2, h.own2.view.2, hl, hls, hk⟩
def DrewW (w : World) (cb : Nat) (ad : Option Addr) (len cap : Nat) (f : Nat → Int) (e : Ending) (w' : World) : Prop :=
  ∃ adB cB Cs adL cL K, e = .returned (.agg #[.slice adB (List.length Cs) cB, .slice adL (List.length K) cL]) ∧ (1 ≤ Cs.length ∧ Cs.length ≤ 5 ∧ K.length ≤ 8 ∧ (∀ i, i < Cs.length → (Cs.getD i Bd.nil).L.length ≤ 6)) ∧ NetLo w.heap.size w' (.slice adB Cs.length cB) Cs (.slice adL K.length cL) K ∧ Src w' cb ad len cap f ∧ w.grownBy w' (some cb)
theorem lastBox {cb : Nat} {ad : Option Addr} {len cap : Nat} {f : Nat → Int} {lo R : Nat} {w y : World} {vB vK : Value} {Cs : List Bd} {K : List Lk} (o : NetLo lo y vB Cs vK K) (s : Src y cb ad len cap f) (g : w.grownBy y (some cb)) (v0 v1 : Value) (wR : w.heap.size ≤ R) (Rl : R < lo) (hcb : cb < w.heap.size) (had : ∀ a, ad = some a → 0 < len → a.block < w.heap.size) :
    ∃ v, v = (y.setCell ⟨R, 0, none⟩ v0).setCell ⟨R, 1, none⟩ v1 ∧ NetLo w.heap.size v vB Cs vK K ∧ Src v cb ad len cap f ∧ w.grownBy v (some cb) := by
  refine ⟨_, rfl, ?_, ?_, ?_⟩
  all_goals have bl : ∀ j, j ≠ R → ((y.setCell ⟨R, 0, none⟩ v0).setCell ⟨R, 1, none⟩ v1).heap[j]? = y.heap[j]? := fun j hj => by rw [Below.heap_setCell _ _ _ _ hj, Below.heap_setCell _ _ _ _ hj]
  all_goals have ss : ((y.setCell ⟨R, 0, none⟩ v0).setCell ⟨R, 1, none⟩ v1).heap.size = y.heap.size := by simp
  · have := o.keep (w' := (y.setCell ⟨R, 0, none⟩ v0).setCell ⟨R, 1, none⟩ v1) (fun b h1 _ => bl b (by omega)) (by rw [ss]; exact Nat.le_refl _)
    exact ⟨this.own.wide (by omega) (Nat.le_refl _), this.own2.base (by omega)⟩
  · exact s.at_ (bl cb (by omega)) (fun a e p => bl _ (by have := had a e p; omega))
  · exact ⟨g.os, g.tape, g.output, by rw [ss]; exact g.size, fun j hj hn => (bl j (by omega)).trans (g.block j hj hn)⟩
theorem PnSt.lo_ {R N lo mid hi cB : Nat} {adB : Option Addr} {adK : Option Addr} {cK : Nat} {K : List Lk} {cb : Nat} {ad : Option Addr} {len cap : Nat} {f : Nat → Int} {w y : World} {C : List Bd} (h : PnSt R N lo mid hi adB cB adK cK K cb ad len cap f w y C) : NetLo lo y (.slice adB C.length cB) C (.slice adK K.length cK) K := ⟨h.own.own.wide h.own.lm h.own.hs, h.own.own2⟩
set_option maxHeartbeats 16000000 in
theorem drawN {cb : Nat} {ad : Option Addr} {len cap : Nat} {f : Nat → Int} {w : World} (hs : Src w cb ad len cap f) (hcb : cb < w.heap.size) :
    Calls Try.prog 37 #[.pointer (some ⟨cb, 0, none⟩)] w fun e w' => DrewW w cb ad len cap f e w' := by
  obtain ⟨j0, hj, hj0, hj1, hj2⟩ := info_parts lkInfo
  have had : ∀ a, ad = some a → 0 < len → a.block < w.heap.size := fun q e hp => by
    obtain ⟨b, off, e2, hc⟩ := hs.view hp
    have := World.block_lt_of_cell? w _ (hc 0 hp)
    rw [e2] at e
    cases e
    exact this
  obtain ⟨R, hRe⟩ : ∃ R, R = w.heap.size := ⟨_, rfl⟩
  have hwR : w.heap.size ≤ R := by omega
  obtain ⟨x0, hx0⟩ : ∃ x, x = w.alloc (Obj.cells #[.slice none 0 0, .slice none 0 0] 27) := ⟨_, rfl⟩
  have B0 : Below w.heap.size w x0 := by rw [hx0]; exact below_new _
  have R0 : NeBox x0 R (.slice none 0 0) (.slice none 0 0) := by rw [hx0, hRe]; exact NeBox.new w _
  have s0 := hs.later B0
  have G0 : w.grownBy x0 (some cb) := grown_of B0
  have z0 := B0.size
  have hRl := R0.lt
  go_enter Try.func37, Try.ntmps37
  go_wp2_with fail
  go_at_call 62
  rw [← hx0, ← hRe]
  clear hx0 hRe B0
  refine (drawRightN s0 (by omega)).mono ?_
  rintro e x1 ⟨adB, cB, Cs, adK, cK, K, mid, rfl, c1, c5, k7, ls, O1, s1, g1⟩
  obtain ⟨g, rfl⟩ : ∃ g, adB = some ⟨g, 0, none⟩ := by
    rcases O1.own.row.2 with ⟨_, q⟩ | ⟨g, c, cur, q, _⟩
    · omega
    · simp only [Value.slice.injEq] at q
      exact ⟨g, q.1⟩
  have R1 := R0.grew g1 (by omega)
  have G1 := grown_trans G0 g1
  have z1 := g1.size
  clear g1 s0 R0 G0
  obtain ⟨x2, hx2⟩ : ∃ y_, y_ = x1.alloc (Obj.cells #[.slice (some ⟨g, 0, none⟩) Cs.length cB, .slice adK K.length cK] 27) := ⟨_, rfl⟩
  have k2 : Below x1.heap.size x1 x2 := by rw [hx2]; exact below_new _
  obtain ⟨N, hNe⟩ : ∃ N, N = x1.heap.size := ⟨_, rfl⟩
  have nb : NeBox x2 N (.slice (some ⟨g, 0, none⟩) Cs.length cB) (.slice adK K.length cK) := by rw [hx2, hNe]; exact NeBox.new x1 _
  have S : PnSt R N x0.heap.size mid x1.heap.size (some ⟨g, 0, none⟩) cB adK cK K cb ad len cap f w x2 Cs :=
    ⟨O1.later k2, nb, R1.later k2, s1.later k2, grown_trans G1 (grown_of k2), hwR, by have := R1.lt; omega, hcb, z0⟩
  have hgN : g ≠ N := by have := O1.own.rhi g rfl; omega
  have hhN : x1.heap.size ≤ N := by omega
  have hne : Hid (Cs ≠ []) := fun e => by rw [e] at c1; simp at c1
  have hkq : ∀ q, (Value.slice adK K.length cK).ownBlock = some q → q ≠ N := fun q e => by have := O1.khi q e; have := O1.mh; omega
  go_upto_region 2 with fail
  rw [← hx2]
  rw [← hNe]
  clear hx2 hNe k2 nb R1 s1 G1 O1
  generalize x0.heap.size = lo at S hRl
  generalize x1.heap.size = hi0 at S hhN
  go_wp2_with fail
  go_at_call 38
  refine (drawBelow S.src 10 (by decide) (by decide)).mono ?_
  rintro e y ⟨t, rfl, t0, t1, s1, g1⟩
  have S := S.drawn s1 g1
  clear s1 g1
  by_cases h0 : t = 0
  · have d1 : (t == 0) = true := by simp [h0]
    have d2 : decide (t = 0) = true := decide_eq_true h0
    replace h0 : Hid _ := h0
    go_upto_region 4 with fail
    refine wp_region_held (S := fun Y => NeAt Y N (.slice (some ⟨g, 0, none⟩) Cs.length cB) (.slice adK K.length cK)) (by kernel_rfl) ?_
    change wpAnyH _ _ _ _ _ _ _ _ (World.drew _)
    have S := S.later (w2 := y.drew) ((Below.refl _ _).drew)
    obtain ⟨u0, hy0⟩ : ∃ y_, y_ = y.drew := ⟨_, rfl⟩
    rw [← hy0] at S ⊢
    clear hy0
    have hb0 := S.nb.at_
    refine takeW 0 10 (.pointer (some ⟨N, 0, none⟩)) rfl rfl (by kernel_rfl) (by kernel_rfl) (by kernel_rfl) (fun _ _ _ h => h) (by kernel_rfl) (by (intro w hSw; go_simp)) (by assumption) ?_
    simp only [List.set_cons_zero, List.set_cons_succ]
    refine takeW 1 11 (.slice (some ⟨g, 0, none⟩) Cs.length cB) rfl rfl (by kernel_rfl) (by kernel_rfl) (by kernel_rfl) (fun _ _ _ h => h) (by kernel_rfl) (by (intro Y hSw; obtain ⟨X0, X1⟩ := hSw; go_simp)) (by assumption) ?_
    simp only [List.set_cons_zero, List.set_cons_succ]
    refine takeW 2 12 (.pointer (some ⟨cb, 0, none⟩)) rfl rfl (by kernel_rfl) (by kernel_rfl) (by kernel_rfl) (fun _ _ _ h => h) (by kernel_rfl) (by (intro w hSw; go_simp)) (by assumption) ?_
    simp only [List.set_cons_zero, List.set_cons_succ]
    refine wpAnyH_all (rs := [3]) (by kernel_rfl) (by simp) ?_
    intro i hi; obtain rfl : i = 3 := by simpa using hi
    refine wpOp_step rfl (fun Kz hKz => ?_)
    rw [if_pos (by kernel_rfl)]
    go_simp
    go_at_call 63
    refine (drawL8 u0 S.src (by have := S.hcb; have := S.gr.size; omega)).mono ?_
    rintro e u1 ⟨id, a2, c2, M, rfl, ⟨hM1, hM6⟩, o2, s1, g1⟩
    have z1 := g1.size
    have S1 := S.drawn s1 g1
    have hb1 := S1.nb.at_
    clear s1 g1
    refine hKz _ _ ⟨hb1, ?_⟩
    clear hKz Kz hi
    refine takeW 4 14 (.pointer (some ⟨g, 0, none⟩)) rfl rfl (by kernel_rfl) (by kernel_rfl) (by kernel_rfl) (fun _ _ _ h => h) (by kernel_rfl) (by (intro Y hSw; go_simp; first | done | (intro e; exact absurd e hne.out))) (by assumption) ?_
    simp only [List.set_cons_zero, List.set_cons_succ]
    refine wpAnyH_all (rs := [5]) (by kernel_rfl) (by simp) ?_
    intro i hi; obtain rfl : i = 5 := by simpa using hi
    refine wpOp_step rfl (fun Kz hKz => ?_)
    rw [if_pos (by kernel_rfl)]
    obtain ⟨X0, X1⟩ := S1.own.own.view.2.at_ (i := 0) (by omega)
    rw [Nat.zero_mul, Nat.zero_add] at X0 X1
    have f0 := S1.own.own.row.frozen 0
    have f1 := S1.own.own.row.frozen 1
    have hNb : NeAt ((u1.setCell ⟨g, 0, none⟩ (.int .i64 id)).setCell ⟨g, 1, none⟩ (.slice a2 M.length c2)) N (.slice (some ⟨g, 0, none⟩) Cs.length cB) (.slice adK K.length cK) := S1.nb.at_.keep (by rw [Below.heap_setCell _ _ _ _ (fun e => hgN e.symm), Below.heap_setCell _ _ _ _ (fun e => hgN e.symm)])
    go_simp
    refine hKz _ _ ⟨hNb, ?_⟩
    clear hKz Kz hi X0 X1 f0 f1
    refine wpAnyH_done (by kernel_rfl) ?_ _
    have hml := S1.own.lm
    have hmg := (S1.own.own.row.lt g rfl).1
    have hOs := ((S1.own.own.wide (Nat.le_refl _) (show hi0 ≤ u0.heap.size from S.own.hs)).set z1 (i := 0) (by omega) ⟨id, a2, c2, M⟩ (o2.base (by have := S.own.mh; have := S.own.hs; omega)) (fun q e => o2.lt q e))
    rw [bdPut] at hOs
    rw [Nat.zero_mul, Nat.zero_add] at hOs
    dsimp only at hOs
    have bl : ∀ j, j ≠ g → ((u1.setCell ⟨g, 0, none⟩ (.int .i64 id)).setCell ⟨g, 1, none⟩ (.slice a2 M.length c2)).heap[j]? = u1.heap[j]? := fun j hj => by rw [Below.heap_setCell _ _ _ _ hj, Below.heap_setCell _ _ _ _ hj]
    have ss : ((u1.setCell ⟨g, 0, none⟩ (.int .i64 id)).setCell ⟨g, 1, none⟩ (.slice a2 M.length c2)).heap.size = u1.heap.size := by simp
    obtain ⟨v0, hv0⟩ : ∃ v, v = (u1.setCell ⟨g, 0, none⟩ (.int .i64 id)).setCell ⟨g, 1, none⟩ (.slice a2 M.length c2) := ⟨_, rfl⟩
    have q1 := S1.hcb
    have q2 := S1.wlo
    have OL : NetLo lo v0 (.slice (some ⟨g, 0, none⟩) (Cs.set 0 ⟨id, a2, c2, M⟩).length cB) (Cs.set 0 ⟨id, a2, c2, M⟩) (.slice adK K.length cK) K := by
      rw [hv0]
      exact ⟨(by rw [ss]; exact hOs.wide hml (Nat.le_refl _)), S1.own.own2.keep (fun q e => bl q (by have := S1.own.khi q e; omega))⟩
    have nF : NeBox v0 N (.slice (some ⟨g, 0, none⟩) Cs.length cB) (.slice adK K.length cK) := by rw [hv0]; exact S1.nb.keep (bl N (fun e => hgN e.symm))
    have rF : NeBox v0 R (.slice none 0 0) (.slice none 0 0) := by rw [hv0]; exact S1.rb.keep (bl R (by omega))
    have sF : Src v0 cb ad len cap f := by rw [hv0]; exact S1.src.at_ (bl cb (by omega)) (fun a e p => bl _ (by have := had a e p; omega))
    have gF : w.grownBy v0 (some cb) := by
      rw [hv0]
      exact ⟨S1.gr.os, S1.gr.tape, S1.gr.output, by rw [ss]; exact S1.gr.size, fun j hj hn => (bl j (by omega)).trans (S1.gr.block j hj hn)⟩
    have hls : ∀ i, i < (Cs.set 0 ⟨id, a2, c2, M⟩).length → ((Cs.set 0 ⟨id, a2, c2, M⟩).getD i Bd.nil).L.length ≤ 6 := fun i hi => by
      rw [List.length_set] at hi
      by_cases e : i = 0
      · subst e
        rw [show (Cs.set 0 ⟨id, a2, c2, M⟩).getD 0 Bd.nil = ⟨id, a2, c2, M⟩ by simp [List.getD, hi]]
        exact hM6
      · rw [show (Cs.set 0 ⟨id, a2, c2, M⟩).getD i Bd.nil = Cs.getD i Bd.nil by simp [List.getD, List.getElem?_set_ne (Ne.symm e)]]
        exact ls i hi
    have hln : Hid ((Cs.set 0 (⟨id, a2, c2, M⟩ : Bd)).length = Cs.length) := List.length_set
    generalize Cs.set 0 ⟨id, a2, c2, M⟩ = Ds at OL hls hln
    rw [← hv0]
    clear hv0 bl ss hOs S S1 hb0 hb1 o2 hNb
    have c1d : 1 ≤ Ds.length ∧ Ds.length ≤ 5 ∧ K.length ≤ 8 := by rw [hln.out]; omega
    have OL : NetLo lo v0 (.slice (some ⟨g, 0, none⟩) Ds.length cB) Ds (.slice adK K.length cK) K := OL
    rw [← hln.out] at nF
    obtain ⟨v, hv, O5, s5, g5⟩ := lastBox OL sF gF (.slice (some ⟨g, 0, none⟩) Ds.length cB) (.slice adK K.length cK) hwR hRl hcb had
    obtain ⟨n0, n1⟩ := nF.at_
    obtain ⟨r0, r1⟩ := rF.at_
    have f0 := rF.fr 0
    have f1 := rF.fr 1
    go_wp2
    rw [← hv]
    refine bodyPost_ret (v := .agg #[.slice (some ⟨g, 0, none⟩) Ds.length cB, .slice adK K.length cK]) (by simp [results, Try.results37, go_sem, *]) rfl ?_
    exact ⟨_, _, Ds, _, _, K, rfl, ⟨c1d.1, c1d.2.1, c1d.2.2, hls⟩, O5, s5, g5⟩
  have d1 : (t == 0) = false := by simp [h0]
  have d2 : decide (t = 0) = false := decide_eq_false h0
  replace h0 : Hid _ := h0
  by_cases h1 : t = 1
  rotate_left
  · have d3 : (t == 1) = false := by simp [h1]
    have d4 : decide (t = 1) = false := decide_eq_false h1
    replace h1 : Hid _ := h1
    have OL := S.lo_
    have nF := S.nb
    have rF := S.rb
    have sF := S.src
    have gF := S.gr
    obtain ⟨v, hv, O5, s5, g5⟩ := lastBox OL sF gF (.slice (some ⟨g, 0, none⟩) Cs.length cB) (.slice adK K.length cK) hwR hRl hcb had
    obtain ⟨n0, n1⟩ := nF.at_
    obtain ⟨r0, r1⟩ := rF.at_
    have f0 := rF.fr 0
    have f1 := rF.fr 1
    go_wp2
    rw [← hv]
    refine bodyPost_ret (v := .agg #[.slice (some ⟨g, 0, none⟩) Cs.length cB, .slice adK K.length cK]) (by simp [results, Try.results37, go_sem, *]) rfl ?_
    exact ⟨_, _, Cs, _, _, K, rfl, ⟨c1, c5, by omega, ls⟩, O5, s5, g5⟩
  have hRN := S.RN
  have d3 : (t == 1) = true := by simp [h1]
  have d4 : decide (t = 1) = true := decide_eq_true h1
  replace h1 : Hid _ := h1
  go_upto_region 6 with fail
  refine join_regionQ (fun l l' W' => ∃ (us : List Value) (adZ : Option Addr) (cZ : Nat) (KZ : List Lk), us.length = 16 ∧ l' = l.take 17 ++ us ++ l.drop 33 ∧ NetLo lo W' (.slice (some ⟨g, 0, none⟩) Cs.length cB) Cs (.slice adZ KZ.length cZ) KZ ∧ NeBox W' N (.slice (some ⟨g, 0, none⟩) Cs.length cB) (.slice adZ KZ.length cZ) ∧ NeBox W' R (.slice none 0 0) (.slice none 0 0) ∧ Src W' cb ad len cap f ∧ w.grownBy W' (some cb) ∧ KZ.length ≤ 8) ?_ ?_
  rotate_left
  · intro K2 hT
    refine wp_region_held (S := fun _ => True) (by kernel_rfl) ?_
    change wpAnyH _ _ _ _ _ _ _ _ (World.drew _)
    have S := S.later (w2 := y.drew) ((Below.refl _ _).drew)
    obtain ⟨u0, hy0⟩ : ∃ y_, y_ = y.drew := ⟨_, rfl⟩
    rw [← hy0] at S ⊢
    clear hy0
    have ht0 : True := trivial
    refine takeW 0 17 (.pointer (some ⟨N, 1, none⟩)) rfl rfl (by kernel_rfl) (by kernel_rfl) (by kernel_rfl) (fun _ _ _ h => h) (by kernel_rfl) (by (intro w hSw; go_simp)) (by assumption) ?_
    simp only [List.set_cons_zero, List.set_cons_succ]
    refine takeW 2 19 (.pointer (some ⟨cb, 0, none⟩)) rfl rfl (by kernel_rfl) (by kernel_rfl) (by kernel_rfl) (fun _ _ _ h => h) (by kernel_rfl) (by (intro w hSw; go_simp)) (by assumption) ?_
    simp only [List.set_cons_zero, List.set_cons_succ]
    refine takeW 5 22 (.pointer (some ⟨cb, 0, none⟩)) rfl rfl (by kernel_rfl) (by kernel_rfl) (by kernel_rfl) (fun _ _ _ h => h) (by kernel_rfl) (by (intro w hSw; go_simp)) (by assumption) ?_
    simp only [List.set_cons_zero, List.set_cons_succ]
    refine takeW 7 24 (.pointer (some ⟨cb, 0, none⟩)) rfl rfl (by kernel_rfl) (by kernel_rfl) (by kernel_rfl) (fun _ _ _ h => h) (by kernel_rfl) (by (intro w hSw; go_simp)) (by assumption) ?_
    simp only [List.set_cons_zero, List.set_cons_succ]
    refine takeW 9 26 (.pointer (some ⟨cb, 0, none⟩)) rfl rfl (by kernel_rfl) (by kernel_rfl) (by kernel_rfl) (fun _ _ _ h => h) (by kernel_rfl) (by (intro w hSw; go_simp)) (by assumption) ?_
    simp only [List.set_cons_zero, List.set_cons_succ]
    refine wpAnyH_all (rs := [1, 3]) (by kernel_rfl) (by simp) ?_
    intro i hi
    rcases (by simpa using hi : i = 1 ∨ i = 3) with rfl | rfl
    · refine wpOp_step rfl (fun Kz hKz => ?_)
      rw [if_pos (by kernel_rfl)]
      obtain ⟨X0, X1⟩ := S.nb.at_
      go_simp
      refine hKz _ _ ⟨trivial, ?_⟩
      clear hKz Kz hi X0 X1
      refine wpAnyH_all (rs := [3]) (by kernel_rfl) (by simp) ?_
      intro i hi; obtain rfl : i = 3 := by simpa using hi
      refine wpOp_step rfl (fun Kz hKz => ?_)
      rw [if_pos (by kernel_rfl)]
      go_simp
      go_at_call 38
      refine (drawBelow S.src 6 (by decide) (by decide)).mono ?_
      rintro e u1 ⟨p0, rfl, p00, p01, s1, g1⟩
      have S1 := S.drawn s1 g1
      clear s1 g1
      refine hKz _ _ ⟨trivial, ?_⟩
      clear hKz Kz hi
      have ht0 : True := trivial
      refine takeW 4 21 (.int .i64 (p0 - 1)) rfl rfl (by kernel_rfl) (by kernel_rfl) (by kernel_rfl) (fun _ _ _ h => h) (by kernel_rfl) (by (intro w hSw; go_simp; first | done | (rw [IntKind.wrap_i64]; omega) | omega)) (by assumption) ?_
      simp only [List.set_cons_zero, List.set_cons_succ]
      refine wpAnyH_all (rs := [6]) (by kernel_rfl) (by simp) ?_
      intro i hi; obtain rfl : i = 6 := by simpa using hi
      refine wpOp_step rfl (fun Kz hKz => ?_)
      rw [if_pos (by kernel_rfl)]
      go_simp
      go_at_call 38
      refine (drawBelow S1.src 5 (by decide) (by decide)).mono ?_
      rintro e u2 ⟨p1, rfl, p10, p11, s1, g1⟩
      have S2 := S1.drawn s1 g1
      clear s1 g1
      refine hKz _ _ ⟨trivial, ?_⟩
      clear hKz Kz hi
      refine wpAnyH_all (rs := [8]) (by kernel_rfl) (by simp) ?_
      intro i hi; obtain rfl : i = 8 := by simpa using hi
      refine wpOp_step rfl (fun Kz hKz => ?_)
      rw [if_pos (by kernel_rfl)]
      go_simp
      go_at_call 38
      refine (drawBelow S2.src 4 (by decide) (by decide)).mono ?_
      rintro e u3 ⟨p2, rfl, p20, p21, s1, g1⟩
      have S3 := S2.drawn s1 g1
      clear s1 g1
      refine hKz _ _ ⟨trivial, ?_⟩
      clear hKz Kz hi
      refine wpAnyH_all (rs := [10]) (by kernel_rfl) (by simp) ?_
      intro i hi; obtain rfl : i = 10 := by simpa using hi
      refine wpOp_step rfl (fun Kz hKz => ?_)
      rw [if_pos (by kernel_rfl)]
      go_simp
      go_at_call 38
      refine (drawBelow S3.src 5 (by decide) (by decide)).mono ?_
      rintro e u4 ⟨p3, rfl, p30, p31, s1, g1⟩
      have S4 := S3.drawn s1 g1
      clear s1 g1
      refine hKz _ _ ⟨trivial, ?_⟩
      clear hKz Kz hi
      refine takeW 11 28 (.int .i64 (p3 - 1)) rfl rfl (by kernel_rfl) (by kernel_rfl) (by kernel_rfl) (fun _ _ _ h => h) (by kernel_rfl) (by (intro w hSw; go_simp; first | done | (rw [IntKind.wrap_i64]; omega) | omega)) (by assumption) ?_
      simp only [List.set_cons_zero, List.set_cons_succ]
      refine takeW 12 29 (.agg #[.int .i64 (p0 - 1), .int .i64 p1, .int .i64 p2, .int .i64 (p3 - 1)]) rfl rfl (by kernel_rfl) (by kernel_rfl) (by kernel_rfl) (fun _ _ _ h => h) (by kernel_rfl) (by (intro w hSw; go_simp)) (by assumption) ?_
      simp only [List.set_cons_zero, List.set_cons_succ]
      refine wpAnyH_all (rs := [13]) (by kernel_rfl) (by simp) ?_
      intro i hi; obtain rfl : i = 13 := by simpa using hi
      refine wpOp_step rfl (fun Kz hKz => ?_)
      rw [if_pos (by kernel_rfl)]
      go_simp
      refine hKz _ _ ⟨trivial, ?_⟩
      clear hKz Kz hi
      obtain ⟨u5, hu⟩ : ∃ y_, y_ = u4.alloc (Obj.cells #[.int .i64 (p0 - 1), .int .i64 p1, .int .i64 p2, .int .i64 (p3 - 1)] 64) := ⟨_, rfl⟩
      have ku : Below u4.heap.size u4 u5 := by rw [hu]; exact below_new _
      have V1 : FView lkEnc u5 (some ⟨u4.heap.size, 0, none⟩) [(⟨p0 - 1, p1, p2, p3 - 1⟩ : Lk)] := by rw [hu]; exact FView.oneL u4 _ (⟨p0 - 1, p1, p2, p3 - 1⟩ : Lk)
      rw [← hu]
      clear hu
      have S5 := S4.later ku
      clear ku
      generalize u4.heap.size = q9 at V1 ⊢
      refine wpAnyH_all (rs := [14]) (by kernel_rfl) (by simp) ?_
      intro i hi; obtain rfl : i = 14 := by simpa using hi
      refine wpOp_step rfl (fun Kz hKz => ?_)
      rw [if_pos (by kernel_rfl)]
      have z9 := S5.gr.size
      refine fapp lkEnc_len lkEnc_ones 31 _ _ 25 rfl rfl lo 64 j0 (.agg #[.int .i64 0, .int .i64 0, .int .i64 0, .int .i64 0]) 32 Try.underlying25 hj hj0 hj1 hj2 rfl (by decide) (by decide) (.slice adK K.length cK) K rfl S5.own.own2 (some ⟨q9, 0, none⟩) 1 [(⟨p0 - 1, p1, p2, p3 - 1⟩ : Lk)] rfl (fun e => by cases e) V1 (by simp; omega) (by have := S5.own.lm; have := S5.own.mh; have := S5.own.hs; omega) ?_
      intro vZ wZ hownZ hgrowZ hvZ
      obtain ⟨adZ, cZ, rfl⟩ := hownZ.open_
      obtain ⟨KZ, hKZ⟩ : ∃ M, K ++ [(⟨p0 - 1, p1, p2, p3 - 1⟩ : Lk)] = M := ⟨_, rfl⟩
      rw [hKZ] at hownZ hvZ ⊢
      have hkz8 : KZ.length ≤ 8 := by rw [← hKZ, List.length_append]; simp; omega
      clear hKZ
      simp only [List.set_cons_zero, List.set_cons_succ]
      refine hKz _ _ ⟨trivial, ?_⟩
      clear hKz Kz hi
      have hq : ∀ q, (Value.slice adK K.length cK).ownBlock = some q → lo ≤ q ∧ q < mid := fun q e => ⟨(S5.own.own2.lt q e).1, S5.own.khi q e⟩
      have bZ : ∀ b, b < u5.heap.size → (b < lo ∨ mid ≤ b) → wZ.heap[b]? = u5.heap[b]? := fun b h1 h2 => hgrowZ.block b h1 (fun e => by have := hq b e.symm; omega)
      have OB : NOwn mid hi0 wZ (.slice (some ⟨g, 0, none⟩) Cs.length cB) Cs := S5.own.own.keep (fun b h1 h2 => bZ b (by have := S5.own.hs; omega) (.inr h1))
      have NZ := S5.nb.keep (bZ N S5.nb.lt (.inr (by have := S5.own.mh; omega)))
      have RZ := S5.rb.keep (bZ R S5.rb.lt (.inl hRl))
      have sZ := S5.src.at_ (bZ cb (by have := S5.hcb; omega) (.inl (by have := S5.hcb; have := S5.wlo; omega))) (fun a e p => bZ _ (by have := had a e p; omega) (.inl (by have := had a e p; have := S5.wlo; omega)))
      have GZ : w.grownBy wZ (some cb) := ⟨hgrowZ.os.trans S5.gr.os, hgrowZ.tape.trans S5.gr.tape, hgrowZ.output.trans S5.gr.output, Nat.le_trans z9 hgrowZ.size, fun b h1 h2 => (bZ b (by omega) (.inl (by have := S5.wlo; omega))).trans (S5.gr.block b h1 h2)⟩
      have hZs : hi0 ≤ wZ.heap.size := by have := S5.own.hs; have := hgrowZ.size; omega
      have hml : lo ≤ mid := S5.own.lm
      have hqN : ∀ q, (Value.slice adZ KZ.length cZ).ownBlock = some q → q ≠ N := fun q e => by
        rcases hvZ with h | h
        · rw [h] at e; exact hkq q e
        · rw [h] at e; have h9 := S5.nb.lt; simp only [Option.some.injEq] at e; omega
      clear hgrowZ hvZ V1 bZ hq z9
      refine takeW 15 32 (.pointer (some ⟨N, 1, none⟩)) rfl rfl (by kernel_rfl) (by kernel_rfl) (by kernel_rfl) (fun _ _ _ h => h) (by kernel_rfl) (by (intro w hSw; go_simp)) (by assumption) ?_
      simp only [List.set_cons_zero, List.set_cons_succ]
      refine wpAnyH_all (rs := [16]) (by kernel_rfl) (by simp) ?_
      intro i hi; obtain rfl : i = 16 := by simpa using hi
      refine wpOp_step rfl (fun Kz hKz => ?_)
      rw [if_pos (by kernel_rfl)]
      obtain ⟨X0, X1⟩ := NZ.at_
      have f1 := NZ.fr 1
      go_simp
      refine hKz _ _ ⟨trivial, ?_⟩
      clear hKz Kz hi X0 X1 f1
      refine wpAnyH_done (by kernel_rfl) ?_ _
      have NF : NeBox (wZ.setCell ⟨N, 1, none⟩ (.slice adZ KZ.length cZ)) N (.slice (some ⟨g, 0, none⟩) Cs.length cB) (.slice adZ KZ.length cZ) := NZ.put1 _
      have bN : ∀ b, b ≠ N → (wZ.setCell ⟨N, 1, none⟩ (.slice adZ KZ.length cZ)).heap[b]? = wZ.heap[b]? := fun b hb => Below.heap_setCell _ _ _ _ hb
      have sN : (wZ.setCell ⟨N, 1, none⟩ (.slice adZ KZ.length cZ)).heap.size = wZ.heap.size := by simp
      have OF : NetLo lo (wZ.setCell ⟨N, 1, none⟩ (.slice adZ KZ.length cZ)) (.slice (some ⟨g, 0, none⟩) Cs.length cB) Cs (.slice adZ KZ.length cZ) KZ := by
        refine ⟨(OB.keep (fun b _ h2 => bN b (by omega))).wide hml (by rw [sN]; exact hZs), hownZ.keep (fun q e => bN q (hqN q e))⟩
      exact hT.out _ _ ⟨[.pointer (some ⟨N, 1, none⟩), (.slice adK K.length cK), .pointer (some ⟨cb, 0, none⟩), .int .i64 p0, .int .i64 (p0 - 1), .pointer (some ⟨cb, 0, none⟩), .int .i64 p1, .pointer (some ⟨cb, 0, none⟩), .int .i64 p2, .pointer (some ⟨cb, 0, none⟩), .int .i64 p3, .int .i64 (p3 - 1), .agg #[.int .i64 (p0 - 1), .int .i64 p1, .int .i64 p2, .int .i64 (p3 - 1)], .slice (some ⟨q9, 0, none⟩) 1 1, .slice adZ KZ.length cZ, .pointer (some ⟨N, 1, none⟩)], adZ, cZ, KZ, rfl, by kernel_rfl, OF, NF, RZ.keep (bN R (by omega)), sZ.at_ (bN cb (by omega)) (fun a e p => bN _ (by have := had a e p; omega)), ⟨GZ.os, GZ.tape, GZ.output, by rw [sN]; exact GZ.size, fun b h1 h2 => (bN b (by omega)).trans (GZ.block b h1 h2)⟩, hkz8⟩
    · refine wpOp_step rfl (fun Kz hKz => ?_)
      rw [if_pos (by kernel_rfl)]
      go_simp
      go_at_call 38
      refine (drawBelow S.src 6 (by decide) (by decide)).mono ?_
      rintro e u1 ⟨p0, rfl, p00, p01, s1, g1⟩
      have S1 := S.drawn s1 g1
      clear s1 g1
      refine hKz _ _ ⟨trivial, ?_⟩
      clear hKz Kz hi
      have ht0 : True := trivial
      refine takeW 4 21 (.int .i64 (p0 - 1)) rfl rfl (by kernel_rfl) (by kernel_rfl) (by kernel_rfl) (fun _ _ _ h => h) (by kernel_rfl) (by (intro w hSw; go_simp; first | done | (rw [IntKind.wrap_i64]; omega) | omega)) (by assumption) ?_
      simp only [List.set_cons_zero, List.set_cons_succ]
      refine wpAnyH_all (rs := [1, 6]) (by kernel_rfl) (by simp) ?_
      intro i hi
      rcases (by simpa using hi : i = 1 ∨ i = 6) with rfl | rfl
      · refine wpOp_step rfl (fun Kz hKz => ?_)
        rw [if_pos (by kernel_rfl)]
        obtain ⟨X0, X1⟩ := S1.nb.at_
        go_simp
        refine hKz _ _ ⟨trivial, ?_⟩
        clear hKz Kz hi X0 X1
        refine wpAnyH_all (rs := [6]) (by kernel_rfl) (by simp) ?_
        intro i hi; obtain rfl : i = 6 := by simpa using hi
        refine wpOp_step rfl (fun Kz hKz => ?_)
        rw [if_pos (by kernel_rfl)]
        go_simp
        go_at_call 38
        refine (drawBelow S1.src 5 (by decide) (by decide)).mono ?_
        rintro e u2 ⟨p1, rfl, p10, p11, s1, g1⟩
        have S2 := S1.drawn s1 g1
        clear s1 g1
        refine hKz _ _ ⟨trivial, ?_⟩
        clear hKz Kz hi
        refine wpAnyH_all (rs := [8]) (by kernel_rfl) (by simp) ?_
        intro i hi; obtain rfl : i = 8 := by simpa using hi
        refine wpOp_step rfl (fun Kz hKz => ?_)
        rw [if_pos (by kernel_rfl)]
        go_simp
        go_at_call 38
        refine (drawBelow S2.src 4 (by decide) (by decide)).mono ?_
        rintro e u3 ⟨p2, rfl, p20, p21, s1, g1⟩
        have S3 := S2.drawn s1 g1
        clear s1 g1
        refine hKz _ _ ⟨trivial, ?_⟩
        clear hKz Kz hi
        refine wpAnyH_all (rs := [10]) (by kernel_rfl) (by simp) ?_
        intro i hi; obtain rfl : i = 10 := by simpa using hi
        refine wpOp_step rfl (fun Kz hKz => ?_)
        rw [if_pos (by kernel_rfl)]
        go_simp
        go_at_call 38
        refine (drawBelow S3.src 5 (by decide) (by decide)).mono ?_
        rintro e u4 ⟨p3, rfl, p30, p31, s1, g1⟩
        have S4 := S3.drawn s1 g1
        clear s1 g1
        refine hKz _ _ ⟨trivial, ?_⟩
        clear hKz Kz hi
        refine takeW 11 28 (.int .i64 (p3 - 1)) rfl rfl (by kernel_rfl) (by kernel_rfl) (by kernel_rfl) (fun _ _ _ h => h) (by kernel_rfl) (by (intro w hSw; go_simp; first | done | (rw [IntKind.wrap_i64]; omega) | omega)) (by assumption) ?_
        simp only [List.set_cons_zero, List.set_cons_succ]
        refine takeW 12 29 (.agg #[.int .i64 (p0 - 1), .int .i64 p1, .int .i64 p2, .int .i64 (p3 - 1)]) rfl rfl (by kernel_rfl) (by kernel_rfl) (by kernel_rfl) (fun _ _ _ h => h) (by kernel_rfl) (by (intro w hSw; go_simp)) (by assumption) ?_
        simp only [List.set_cons_zero, List.set_cons_succ]
        refine wpAnyH_all (rs := [13]) (by kernel_rfl) (by simp) ?_
        intro i hi; obtain rfl : i = 13 := by simpa using hi
        refine wpOp_step rfl (fun Kz hKz => ?_)
        rw [if_pos (by kernel_rfl)]
        go_simp
        refine hKz _ _ ⟨trivial, ?_⟩
        clear hKz Kz hi
        obtain ⟨u5, hu⟩ : ∃ y_, y_ = u4.alloc (Obj.cells #[.int .i64 (p0 - 1), .int .i64 p1, .int .i64 p2, .int .i64 (p3 - 1)] 64) := ⟨_, rfl⟩
        have ku : Below u4.heap.size u4 u5 := by rw [hu]; exact below_new _
        have V1 : FView lkEnc u5 (some ⟨u4.heap.size, 0, none⟩) [(⟨p0 - 1, p1, p2, p3 - 1⟩ : Lk)] := by rw [hu]; exact FView.oneL u4 _ (⟨p0 - 1, p1, p2, p3 - 1⟩ : Lk)
        rw [← hu]
        clear hu
        have S5 := S4.later ku
        clear ku
        generalize u4.heap.size = q9 at V1 ⊢
        refine wpAnyH_all (rs := [14]) (by kernel_rfl) (by simp) ?_
        intro i hi; obtain rfl : i = 14 := by simpa using hi
        refine wpOp_step rfl (fun Kz hKz => ?_)
        rw [if_pos (by kernel_rfl)]
        have z9 := S5.gr.size
        refine fapp lkEnc_len lkEnc_ones 31 _ _ 25 rfl rfl lo 64 j0 (.agg #[.int .i64 0, .int .i64 0, .int .i64 0, .int .i64 0]) 32 Try.underlying25 hj hj0 hj1 hj2 rfl (by decide) (by decide) (.slice adK K.length cK) K rfl S5.own.own2 (some ⟨q9, 0, none⟩) 1 [(⟨p0 - 1, p1, p2, p3 - 1⟩ : Lk)] rfl (fun e => by cases e) V1 (by simp; omega) (by have := S5.own.lm; have := S5.own.mh; have := S5.own.hs; omega) ?_
        intro vZ wZ hownZ hgrowZ hvZ
        obtain ⟨adZ, cZ, rfl⟩ := hownZ.open_
        obtain ⟨KZ, hKZ⟩ : ∃ M, K ++ [(⟨p0 - 1, p1, p2, p3 - 1⟩ : Lk)] = M := ⟨_, rfl⟩
        rw [hKZ] at hownZ hvZ ⊢
        have hkz8 : KZ.length ≤ 8 := by rw [← hKZ, List.length_append]; simp; omega
        clear hKZ
        simp only [List.set_cons_zero, List.set_cons_succ]
        refine hKz _ _ ⟨trivial, ?_⟩
        clear hKz Kz hi
        have hq : ∀ q, (Value.slice adK K.length cK).ownBlock = some q → lo ≤ q ∧ q < mid := fun q e => ⟨(S5.own.own2.lt q e).1, S5.own.khi q e⟩
        have bZ : ∀ b, b < u5.heap.size → (b < lo ∨ mid ≤ b) → wZ.heap[b]? = u5.heap[b]? := fun b h1 h2 => hgrowZ.block b h1 (fun e => by have := hq b e.symm; omega)
        have OB : NOwn mid hi0 wZ (.slice (some ⟨g, 0, none⟩) Cs.length cB) Cs := S5.own.own.keep (fun b h1 h2 => bZ b (by have := S5.own.hs; omega) (.inr h1))
        have NZ := S5.nb.keep (bZ N S5.nb.lt (.inr (by have := S5.own.mh; omega)))
        have RZ := S5.rb.keep (bZ R S5.rb.lt (.inl hRl))
        have sZ := S5.src.at_ (bZ cb (by have := S5.hcb; omega) (.inl (by have := S5.hcb; have := S5.wlo; omega))) (fun a e p => bZ _ (by have := had a e p; omega) (.inl (by have := had a e p; have := S5.wlo; omega)))
        have GZ : w.grownBy wZ (some cb) := ⟨hgrowZ.os.trans S5.gr.os, hgrowZ.tape.trans S5.gr.tape, hgrowZ.output.trans S5.gr.output, Nat.le_trans z9 hgrowZ.size, fun b h1 h2 => (bZ b (by omega) (.inl (by have := S5.wlo; omega))).trans (S5.gr.block b h1 h2)⟩
        have hZs : hi0 ≤ wZ.heap.size := by have := S5.own.hs; have := hgrowZ.size; omega
        have hml : lo ≤ mid := S5.own.lm
        have hqN : ∀ q, (Value.slice adZ KZ.length cZ).ownBlock = some q → q ≠ N := fun q e => by
          rcases hvZ with h | h
          · rw [h] at e; exact hkq q e
          · rw [h] at e; have h9 := S5.nb.lt; simp only [Option.some.injEq] at e; omega
        clear hgrowZ hvZ V1 bZ hq z9
        refine takeW 15 32 (.pointer (some ⟨N, 1, none⟩)) rfl rfl (by kernel_rfl) (by kernel_rfl) (by kernel_rfl) (fun _ _ _ h => h) (by kernel_rfl) (by (intro w hSw; go_simp)) (by assumption) ?_
        simp only [List.set_cons_zero, List.set_cons_succ]
        refine wpAnyH_all (rs := [16]) (by kernel_rfl) (by simp) ?_
        intro i hi; obtain rfl : i = 16 := by simpa using hi
        refine wpOp_step rfl (fun Kz hKz => ?_)
        rw [if_pos (by kernel_rfl)]
        obtain ⟨X0, X1⟩ := NZ.at_
        have f1 := NZ.fr 1
        go_simp
        refine hKz _ _ ⟨trivial, ?_⟩
        clear hKz Kz hi X0 X1 f1
        refine wpAnyH_done (by kernel_rfl) ?_ _
        have NF : NeBox (wZ.setCell ⟨N, 1, none⟩ (.slice adZ KZ.length cZ)) N (.slice (some ⟨g, 0, none⟩) Cs.length cB) (.slice adZ KZ.length cZ) := NZ.put1 _
        have bN : ∀ b, b ≠ N → (wZ.setCell ⟨N, 1, none⟩ (.slice adZ KZ.length cZ)).heap[b]? = wZ.heap[b]? := fun b hb => Below.heap_setCell _ _ _ _ hb
        have sN : (wZ.setCell ⟨N, 1, none⟩ (.slice adZ KZ.length cZ)).heap.size = wZ.heap.size := by simp
        have OF : NetLo lo (wZ.setCell ⟨N, 1, none⟩ (.slice adZ KZ.length cZ)) (.slice (some ⟨g, 0, none⟩) Cs.length cB) Cs (.slice adZ KZ.length cZ) KZ := by
          refine ⟨(OB.keep (fun b _ h2 => bN b (by omega))).wide hml (by rw [sN]; exact hZs), hownZ.keep (fun q e => bN q (hqN q e))⟩
        exact hT.out _ _ ⟨[.pointer (some ⟨N, 1, none⟩), (.slice adK K.length cK), .pointer (some ⟨cb, 0, none⟩), .int .i64 p0, .int .i64 (p0 - 1), .pointer (some ⟨cb, 0, none⟩), .int .i64 p1, .pointer (some ⟨cb, 0, none⟩), .int .i64 p2, .pointer (some ⟨cb, 0, none⟩), .int .i64 p3, .int .i64 (p3 - 1), .agg #[.int .i64 (p0 - 1), .int .i64 p1, .int .i64 p2, .int .i64 (p3 - 1)], .slice (some ⟨q9, 0, none⟩) 1 1, .slice adZ KZ.length cZ, .pointer (some ⟨N, 1, none⟩)], adZ, cZ, KZ, rfl, by kernel_rfl, OF, NF, RZ.keep (bN R (by omega)), sZ.at_ (bN cb (by omega)) (fun a e p => bN _ (by have := had a e p; omega)), ⟨GZ.os, GZ.tape, GZ.output, by rw [sN]; exact GZ.size, fun b h1 h2 => (bN b (by omega)).trans (GZ.block b h1 h2)⟩, hkz8⟩
      · refine wpOp_step rfl (fun Kz hKz => ?_)
        rw [if_pos (by kernel_rfl)]
        go_simp
        go_at_call 38
        refine (drawBelow S1.src 5 (by decide) (by decide)).mono ?_
        rintro e u2 ⟨p1, rfl, p10, p11, s1, g1⟩
        have S2 := S1.drawn s1 g1
        clear s1 g1
        refine hKz _ _ ⟨trivial, ?_⟩
        clear hKz Kz hi
        refine wpAnyH_all (rs := [1, 8]) (by kernel_rfl) (by simp) ?_
        intro i hi
        rcases (by simpa using hi : i = 1 ∨ i = 8) with rfl | rfl
        · refine wpOp_step rfl (fun Kz hKz => ?_)
          rw [if_pos (by kernel_rfl)]
          obtain ⟨X0, X1⟩ := S2.nb.at_
          go_simp
          refine hKz _ _ ⟨trivial, ?_⟩
          clear hKz Kz hi X0 X1
          refine wpAnyH_all (rs := [8]) (by kernel_rfl) (by simp) ?_
          intro i hi; obtain rfl : i = 8 := by simpa using hi
          refine wpOp_step rfl (fun Kz hKz => ?_)
          rw [if_pos (by kernel_rfl)]
          go_simp
          go_at_call 38
          refine (drawBelow S2.src 4 (by decide) (by decide)).mono ?_
          rintro e u3 ⟨p2, rfl, p20, p21, s1, g1⟩
          have S3 := S2.drawn s1 g1
          clear s1 g1
          refine hKz _ _ ⟨trivial, ?_⟩
          clear hKz Kz hi
          refine wpAnyH_all (rs := [10]) (by kernel_rfl) (by simp) ?_
          intro i hi; obtain rfl : i = 10 := by simpa using hi
          refine wpOp_step rfl (fun Kz hKz => ?_)
          rw [if_pos (by kernel_rfl)]
          go_simp
          go_at_call 38
          refine (drawBelow S3.src 5 (by decide) (by decide)).mono ?_
          rintro e u4 ⟨p3, rfl, p30, p31, s1, g1⟩
          have S4 := S3.drawn s1 g1
          clear s1 g1
          refine hKz _ _ ⟨trivial, ?_⟩
          clear hKz Kz hi
          refine takeW 11 28 (.int .i64 (p3 - 1)) rfl rfl (by kernel_rfl) (by kernel_rfl) (by kernel_rfl) (fun _ _ _ h => h) (by kernel_rfl) (by (intro w hSw; go_simp; first | done | (rw [IntKind.wrap_i64]; omega) | omega)) (by assumption) ?_
          simp only [List.set_cons_zero, List.set_cons_succ]
          refine takeW 12 29 (.agg #[.int .i64 (p0 - 1), .int .i64 p1, .int .i64 p2, .int .i64 (p3 - 1)]) rfl rfl (by kernel_rfl) (by kernel_rfl) (by kernel_rfl) (fun _ _ _ h => h) (by kernel_rfl) (by (intro w hSw; go_simp)) (by assumption) ?_
          simp only [List.set_cons_zero, List.set_cons_succ]
          refine wpAnyH_all (rs := [13]) (by kernel_rfl) (by simp) ?_
          intro i hi; obtain rfl : i = 13 := by simpa using hi
          refine wpOp_step rfl (fun Kz hKz => ?_)
          rw [if_pos (by kernel_rfl)]
          go_simp
          refine hKz _ _ ⟨trivial, ?_⟩
          clear hKz Kz hi
          obtain ⟨u5, hu⟩ : ∃ y_, y_ = u4.alloc (Obj.cells #[.int .i64 (p0 - 1), .int .i64 p1, .int .i64 p2, .int .i64 (p3 - 1)] 64) := ⟨_, rfl⟩
          have ku : Below u4.heap.size u4 u5 := by rw [hu]; exact below_new _
          have V1 : FView lkEnc u5 (some ⟨u4.heap.size, 0, none⟩) [(⟨p0 - 1, p1, p2, p3 - 1⟩ : Lk)] := by rw [hu]; exact FView.oneL u4 _ (⟨p0 - 1, p1, p2, p3 - 1⟩ : Lk)
          rw [← hu]
          clear hu
          have S5 := S4.later ku
          clear ku
          generalize u4.heap.size = q9 at V1 ⊢
          refine wpAnyH_all (rs := [14]) (by kernel_rfl) (by simp) ?_
          intro i hi; obtain rfl : i = 14 := by simpa using hi
          refine wpOp_step rfl (fun Kz hKz => ?_)
          rw [if_pos (by kernel_rfl)]
          have z9 := S5.gr.size
          refine fapp lkEnc_len lkEnc_ones 31 _ _ 25 rfl rfl lo 64 j0 (.agg #[.int .i64 0, .int .i64 0, .int .i64 0, .int .i64 0]) 32 Try.underlying25 hj hj0 hj1 hj2 rfl (by decide) (by decide) (.slice adK K.length cK) K rfl S5.own.own2 (some ⟨q9, 0, none⟩) 1 [(⟨p0 - 1, p1, p2, p3 - 1⟩ : Lk)] rfl (fun e => by cases e) V1 (by simp; omega) (by have := S5.own.lm; have := S5.own.mh; have := S5.own.hs; omega) ?_
          intro vZ wZ hownZ hgrowZ hvZ
          obtain ⟨adZ, cZ, rfl⟩ := hownZ.open_
          obtain ⟨KZ, hKZ⟩ : ∃ M, K ++ [(⟨p0 - 1, p1, p2, p3 - 1⟩ : Lk)] = M := ⟨_, rfl⟩
          rw [hKZ] at hownZ hvZ ⊢
          have hkz8 : KZ.length ≤ 8 := by rw [← hKZ, List.length_append]; simp; omega
          clear hKZ
          simp only [List.set_cons_zero, List.set_cons_succ]
          refine hKz _ _ ⟨trivial, ?_⟩
          clear hKz Kz hi
          have hq : ∀ q, (Value.slice adK K.length cK).ownBlock = some q → lo ≤ q ∧ q < mid := fun q e => ⟨(S5.own.own2.lt q e).1, S5.own.khi q e⟩
          have bZ : ∀ b, b < u5.heap.size → (b < lo ∨ mid ≤ b) → wZ.heap[b]? = u5.heap[b]? := fun b h1 h2 => hgrowZ.block b h1 (fun e => by have := hq b e.symm; omega)
          have OB : NOwn mid hi0 wZ (.slice (some ⟨g, 0, none⟩) Cs.length cB) Cs := S5.own.own.keep (fun b h1 h2 => bZ b (by have := S5.own.hs; omega) (.inr h1))
          have NZ := S5.nb.keep (bZ N S5.nb.lt (.inr (by have := S5.own.mh; omega)))
          have RZ := S5.rb.keep (bZ R S5.rb.lt (.inl hRl))
          have sZ := S5.src.at_ (bZ cb (by have := S5.hcb; omega) (.inl (by have := S5.hcb; have := S5.wlo; omega))) (fun a e p => bZ _ (by have := had a e p; omega) (.inl (by have := had a e p; have := S5.wlo; omega)))
          have GZ : w.grownBy wZ (some cb) := ⟨hgrowZ.os.trans S5.gr.os, hgrowZ.tape.trans S5.gr.tape, hgrowZ.output.trans S5.gr.output, Nat.le_trans z9 hgrowZ.size, fun b h1 h2 => (bZ b (by omega) (.inl (by have := S5.wlo; omega))).trans (S5.gr.block b h1 h2)⟩
          have hZs : hi0 ≤ wZ.heap.size := by have := S5.own.hs; have := hgrowZ.size; omega
          have hml : lo ≤ mid := S5.own.lm
          have hqN : ∀ q, (Value.slice adZ KZ.length cZ).ownBlock = some q → q ≠ N := fun q e => by
            rcases hvZ with h | h
            · rw [h] at e; exact hkq q e
            · rw [h] at e; have h9 := S5.nb.lt; simp only [Option.some.injEq] at e; omega
          clear hgrowZ hvZ V1 bZ hq z9
          refine takeW 15 32 (.pointer (some ⟨N, 1, none⟩)) rfl rfl (by kernel_rfl) (by kernel_rfl) (by kernel_rfl) (fun _ _ _ h => h) (by kernel_rfl) (by (intro w hSw; go_simp)) (by assumption) ?_
          simp only [List.set_cons_zero, List.set_cons_succ]
          refine wpAnyH_all (rs := [16]) (by kernel_rfl) (by simp) ?_
          intro i hi; obtain rfl : i = 16 := by simpa using hi
          refine wpOp_step rfl (fun Kz hKz => ?_)
          rw [if_pos (by kernel_rfl)]
          obtain ⟨X0, X1⟩ := NZ.at_
          have f1 := NZ.fr 1
          go_simp
          refine hKz _ _ ⟨trivial, ?_⟩
          clear hKz Kz hi X0 X1 f1
          refine wpAnyH_done (by kernel_rfl) ?_ _
          have NF : NeBox (wZ.setCell ⟨N, 1, none⟩ (.slice adZ KZ.length cZ)) N (.slice (some ⟨g, 0, none⟩) Cs.length cB) (.slice adZ KZ.length cZ) := NZ.put1 _
          have bN : ∀ b, b ≠ N → (wZ.setCell ⟨N, 1, none⟩ (.slice adZ KZ.length cZ)).heap[b]? = wZ.heap[b]? := fun b hb => Below.heap_setCell _ _ _ _ hb
          have sN : (wZ.setCell ⟨N, 1, none⟩ (.slice adZ KZ.length cZ)).heap.size = wZ.heap.size := by simp
          have OF : NetLo lo (wZ.setCell ⟨N, 1, none⟩ (.slice adZ KZ.length cZ)) (.slice (some ⟨g, 0, none⟩) Cs.length cB) Cs (.slice adZ KZ.length cZ) KZ := by
            refine ⟨(OB.keep (fun b _ h2 => bN b (by omega))).wide hml (by rw [sN]; exact hZs), hownZ.keep (fun q e => bN q (hqN q e))⟩
          exact hT.out _ _ ⟨[.pointer (some ⟨N, 1, none⟩), (.slice adK K.length cK), .pointer (some ⟨cb, 0, none⟩), .int .i64 p0, .int .i64 (p0 - 1), .pointer (some ⟨cb, 0, none⟩), .int .i64 p1, .pointer (some ⟨cb, 0, none⟩), .int .i64 p2, .pointer (some ⟨cb, 0, none⟩), .int .i64 p3, .int .i64 (p3 - 1), .agg #[.int .i64 (p0 - 1), .int .i64 p1, .int .i64 p2, .int .i64 (p3 - 1)], .slice (some ⟨q9, 0, none⟩) 1 1, .slice adZ KZ.length cZ, .pointer (some ⟨N, 1, none⟩)], adZ, cZ, KZ, rfl, by kernel_rfl, OF, NF, RZ.keep (bN R (by omega)), sZ.at_ (bN cb (by omega)) (fun a e p => bN _ (by have := had a e p; omega)), ⟨GZ.os, GZ.tape, GZ.output, by rw [sN]; exact GZ.size, fun b h1 h2 => (bN b (by omega)).trans (GZ.block b h1 h2)⟩, hkz8⟩
        · refine wpOp_step rfl (fun Kz hKz => ?_)
          rw [if_pos (by kernel_rfl)]
          go_simp
          go_at_call 38
          refine (drawBelow S2.src 4 (by decide) (by decide)).mono ?_
          rintro e u3 ⟨p2, rfl, p20, p21, s1, g1⟩
          have S3 := S2.drawn s1 g1
          clear s1 g1
          refine hKz _ _ ⟨trivial, ?_⟩
          clear hKz Kz hi
          refine wpAnyH_all (rs := [1, 10]) (by kernel_rfl) (by simp) ?_
          intro i hi
          rcases (by simpa using hi : i = 1 ∨ i = 10) with rfl | rfl
          · refine wpOp_step rfl (fun Kz hKz => ?_)
            rw [if_pos (by kernel_rfl)]
            obtain ⟨X0, X1⟩ := S3.nb.at_
            go_simp
            refine hKz _ _ ⟨trivial, ?_⟩
            clear hKz Kz hi X0 X1
            refine wpAnyH_all (rs := [10]) (by kernel_rfl) (by simp) ?_
            intro i hi; obtain rfl : i = 10 := by simpa using hi
            refine wpOp_step rfl (fun Kz hKz => ?_)
            rw [if_pos (by kernel_rfl)]
            go_simp
            go_at_call 38
            refine (drawBelow S3.src 5 (by decide) (by decide)).mono ?_
            rintro e u4 ⟨p3, rfl, p30, p31, s1, g1⟩
            have S4 := S3.drawn s1 g1
            clear s1 g1
            refine hKz _ _ ⟨trivial, ?_⟩
            clear hKz Kz hi
            refine takeW 11 28 (.int .i64 (p3 - 1)) rfl rfl (by kernel_rfl) (by kernel_rfl) (by kernel_rfl) (fun _ _ _ h => h) (by kernel_rfl) (by (intro w hSw; go_simp; first | done | (rw [IntKind.wrap_i64]; omega) | omega)) (by assumption) ?_
            simp only [List.set_cons_zero, List.set_cons_succ]
            refine takeW 12 29 (.agg #[.int .i64 (p0 - 1), .int .i64 p1, .int .i64 p2, .int .i64 (p3 - 1)]) rfl rfl (by kernel_rfl) (by kernel_rfl) (by kernel_rfl) (fun _ _ _ h => h) (by kernel_rfl) (by (intro w hSw; go_simp)) (by assumption) ?_
            simp only [List.set_cons_zero, List.set_cons_succ]
            refine wpAnyH_all (rs := [13]) (by kernel_rfl) (by simp) ?_
            intro i hi; obtain rfl : i = 13 := by simpa using hi
            refine wpOp_step rfl (fun Kz hKz => ?_)
            rw [if_pos (by kernel_rfl)]
            go_simp
            refine hKz _ _ ⟨trivial, ?_⟩
            clear hKz Kz hi
            obtain ⟨u5, hu⟩ : ∃ y_, y_ = u4.alloc (Obj.cells #[.int .i64 (p0 - 1), .int .i64 p1, .int .i64 p2, .int .i64 (p3 - 1)] 64) := ⟨_, rfl⟩
            have ku : Below u4.heap.size u4 u5 := by rw [hu]; exact below_new _
            have V1 : FView lkEnc u5 (some ⟨u4.heap.size, 0, none⟩) [(⟨p0 - 1, p1, p2, p3 - 1⟩ : Lk)] := by rw [hu]; exact FView.oneL u4 _ (⟨p0 - 1, p1, p2, p3 - 1⟩ : Lk)
            rw [← hu]
            clear hu
            have S5 := S4.later ku
            clear ku
            generalize u4.heap.size = q9 at V1 ⊢
            refine wpAnyH_all (rs := [14]) (by kernel_rfl) (by simp) ?_
            intro i hi; obtain rfl : i = 14 := by simpa using hi
            refine wpOp_step rfl (fun Kz hKz => ?_)
            rw [if_pos (by kernel_rfl)]
            have z9 := S5.gr.size
            refine fapp lkEnc_len lkEnc_ones 31 _ _ 25 rfl rfl lo 64 j0 (.agg #[.int .i64 0, .int .i64 0, .int .i64 0, .int .i64 0]) 32 Try.underlying25 hj hj0 hj1 hj2 rfl (by decide) (by decide) (.slice adK K.length cK) K rfl S5.own.own2 (some ⟨q9, 0, none⟩) 1 [(⟨p0 - 1, p1, p2, p3 - 1⟩ : Lk)] rfl (fun e => by cases e) V1 (by simp; omega) (by have := S5.own.lm; have := S5.own.mh; have := S5.own.hs; omega) ?_
            intro vZ wZ hownZ hgrowZ hvZ
            obtain ⟨adZ, cZ, rfl⟩ := hownZ.open_
            obtain ⟨KZ, hKZ⟩ : ∃ M, K ++ [(⟨p0 - 1, p1, p2, p3 - 1⟩ : Lk)] = M := ⟨_, rfl⟩
            rw [hKZ] at hownZ hvZ ⊢
            have hkz8 : KZ.length ≤ 8 := by rw [← hKZ, List.length_append]; simp; omega
            clear hKZ
            simp only [List.set_cons_zero, List.set_cons_succ]
            refine hKz _ _ ⟨trivial, ?_⟩
            clear hKz Kz hi
            have hq : ∀ q, (Value.slice adK K.length cK).ownBlock = some q → lo ≤ q ∧ q < mid := fun q e => ⟨(S5.own.own2.lt q e).1, S5.own.khi q e⟩
            have bZ : ∀ b, b < u5.heap.size → (b < lo ∨ mid ≤ b) → wZ.heap[b]? = u5.heap[b]? := fun b h1 h2 => hgrowZ.block b h1 (fun e => by have := hq b e.symm; omega)
            have OB : NOwn mid hi0 wZ (.slice (some ⟨g, 0, none⟩) Cs.length cB) Cs := S5.own.own.keep (fun b h1 h2 => bZ b (by have := S5.own.hs; omega) (.inr h1))
            have NZ := S5.nb.keep (bZ N S5.nb.lt (.inr (by have := S5.own.mh; omega)))
            have RZ := S5.rb.keep (bZ R S5.rb.lt (.inl hRl))
            have sZ := S5.src.at_ (bZ cb (by have := S5.hcb; omega) (.inl (by have := S5.hcb; have := S5.wlo; omega))) (fun a e p => bZ _ (by have := had a e p; omega) (.inl (by have := had a e p; have := S5.wlo; omega)))
            have GZ : w.grownBy wZ (some cb) := ⟨hgrowZ.os.trans S5.gr.os, hgrowZ.tape.trans S5.gr.tape, hgrowZ.output.trans S5.gr.output, Nat.le_trans z9 hgrowZ.size, fun b h1 h2 => (bZ b (by omega) (.inl (by have := S5.wlo; omega))).trans (S5.gr.block b h1 h2)⟩
            have hZs : hi0 ≤ wZ.heap.size := by have := S5.own.hs; have := hgrowZ.size; omega
            have hml : lo ≤ mid := S5.own.lm
            have hqN : ∀ q, (Value.slice adZ KZ.length cZ).ownBlock = some q → q ≠ N := fun q e => by
              rcases hvZ with h | h
              · rw [h] at e; exact hkq q e
              · rw [h] at e; have h9 := S5.nb.lt; simp only [Option.some.injEq] at e; omega
            clear hgrowZ hvZ V1 bZ hq z9
            refine takeW 15 32 (.pointer (some ⟨N, 1, none⟩)) rfl rfl (by kernel_rfl) (by kernel_rfl) (by kernel_rfl) (fun _ _ _ h => h) (by kernel_rfl) (by (intro w hSw; go_simp)) (by assumption) ?_
            simp only [List.set_cons_zero, List.set_cons_succ]
            refine wpAnyH_all (rs := [16]) (by kernel_rfl) (by simp) ?_
            intro i hi; obtain rfl : i = 16 := by simpa using hi
            refine wpOp_step rfl (fun Kz hKz => ?_)
            rw [if_pos (by kernel_rfl)]
            obtain ⟨X0, X1⟩ := NZ.at_
            have f1 := NZ.fr 1
            go_simp
            refine hKz _ _ ⟨trivial, ?_⟩
            clear hKz Kz hi X0 X1 f1
            refine wpAnyH_done (by kernel_rfl) ?_ _
            have NF : NeBox (wZ.setCell ⟨N, 1, none⟩ (.slice adZ KZ.length cZ)) N (.slice (some ⟨g, 0, none⟩) Cs.length cB) (.slice adZ KZ.length cZ) := NZ.put1 _
            have bN : ∀ b, b ≠ N → (wZ.setCell ⟨N, 1, none⟩ (.slice adZ KZ.length cZ)).heap[b]? = wZ.heap[b]? := fun b hb => Below.heap_setCell _ _ _ _ hb
            have sN : (wZ.setCell ⟨N, 1, none⟩ (.slice adZ KZ.length cZ)).heap.size = wZ.heap.size := by simp
            have OF : NetLo lo (wZ.setCell ⟨N, 1, none⟩ (.slice adZ KZ.length cZ)) (.slice (some ⟨g, 0, none⟩) Cs.length cB) Cs (.slice adZ KZ.length cZ) KZ := by
              refine ⟨(OB.keep (fun b _ h2 => bN b (by omega))).wide hml (by rw [sN]; exact hZs), hownZ.keep (fun q e => bN q (hqN q e))⟩
            exact hT.out _ _ ⟨[.pointer (some ⟨N, 1, none⟩), (.slice adK K.length cK), .pointer (some ⟨cb, 0, none⟩), .int .i64 p0, .int .i64 (p0 - 1), .pointer (some ⟨cb, 0, none⟩), .int .i64 p1, .pointer (some ⟨cb, 0, none⟩), .int .i64 p2, .pointer (some ⟨cb, 0, none⟩), .int .i64 p3, .int .i64 (p3 - 1), .agg #[.int .i64 (p0 - 1), .int .i64 p1, .int .i64 p2, .int .i64 (p3 - 1)], .slice (some ⟨q9, 0, none⟩) 1 1, .slice adZ KZ.length cZ, .pointer (some ⟨N, 1, none⟩)], adZ, cZ, KZ, rfl, by kernel_rfl, OF, NF, RZ.keep (bN R (by omega)), sZ.at_ (bN cb (by omega)) (fun a e p => bN _ (by have := had a e p; omega)), ⟨GZ.os, GZ.tape, GZ.output, by rw [sN]; exact GZ.size, fun b h1 h2 => (bN b (by omega)).trans (GZ.block b h1 h2)⟩, hkz8⟩
          · refine wpOp_step rfl (fun Kz hKz => ?_)
            rw [if_pos (by kernel_rfl)]
            go_simp
            go_at_call 38
            refine (drawBelow S3.src 5 (by decide) (by decide)).mono ?_
            rintro e u4 ⟨p3, rfl, p30, p31, s1, g1⟩
            have S4 := S3.drawn s1 g1
            clear s1 g1
            refine hKz _ _ ⟨trivial, ?_⟩
            clear hKz Kz hi
            refine takeW 11 28 (.int .i64 (p3 - 1)) rfl rfl (by kernel_rfl) (by kernel_rfl) (by kernel_rfl) (fun _ _ _ h => h) (by kernel_rfl) (by (intro w hSw; go_simp; first | done | (rw [IntKind.wrap_i64]; omega) | omega)) (by assumption) ?_
            simp only [List.set_cons_zero, List.set_cons_succ]
            refine takeW 12 29 (.agg #[.int .i64 (p0 - 1), .int .i64 p1, .int .i64 p2, .int .i64 (p3 - 1)]) rfl rfl (by kernel_rfl) (by kernel_rfl) (by kernel_rfl) (fun _ _ _ h => h) (by kernel_rfl) (by (intro w hSw; go_simp)) (by assumption) ?_
            simp only [List.set_cons_zero, List.set_cons_succ]
            refine wpAnyH_all (rs := [1, 13]) (by kernel_rfl) (by simp) ?_
            intro i hi
            rcases (by simpa using hi : i = 1 ∨ i = 13) with rfl | rfl
            · refine wpOp_step rfl (fun Kz hKz => ?_)
              rw [if_pos (by kernel_rfl)]
              obtain ⟨X0, X1⟩ := S4.nb.at_
              go_simp
              refine hKz _ _ ⟨trivial, ?_⟩
              clear hKz Kz hi X0 X1
              refine wpAnyH_all (rs := [13]) (by kernel_rfl) (by simp) ?_
              intro i hi; obtain rfl : i = 13 := by simpa using hi
              refine wpOp_step rfl (fun Kz hKz => ?_)
              rw [if_pos (by kernel_rfl)]
              go_simp
              refine hKz _ _ ⟨trivial, ?_⟩
              clear hKz Kz hi
              obtain ⟨u5, hu⟩ : ∃ y_, y_ = u4.alloc (Obj.cells #[.int .i64 (p0 - 1), .int .i64 p1, .int .i64 p2, .int .i64 (p3 - 1)] 64) := ⟨_, rfl⟩
              have ku : Below u4.heap.size u4 u5 := by rw [hu]; exact below_new _
              have V1 : FView lkEnc u5 (some ⟨u4.heap.size, 0, none⟩) [(⟨p0 - 1, p1, p2, p3 - 1⟩ : Lk)] := by rw [hu]; exact FView.oneL u4 _ (⟨p0 - 1, p1, p2, p3 - 1⟩ : Lk)
              rw [← hu]
              clear hu
              have S5 := S4.later ku
              clear ku
              generalize u4.heap.size = q9 at V1 ⊢
              refine wpAnyH_all (rs := [14]) (by kernel_rfl) (by simp) ?_
              intro i hi; obtain rfl : i = 14 := by simpa using hi
              refine wpOp_step rfl (fun Kz hKz => ?_)
              rw [if_pos (by kernel_rfl)]
              have z9 := S5.gr.size
              refine fapp lkEnc_len lkEnc_ones 31 _ _ 25 rfl rfl lo 64 j0 (.agg #[.int .i64 0, .int .i64 0, .int .i64 0, .int .i64 0]) 32 Try.underlying25 hj hj0 hj1 hj2 rfl (by decide) (by decide) (.slice adK K.length cK) K rfl S5.own.own2 (some ⟨q9, 0, none⟩) 1 [(⟨p0 - 1, p1, p2, p3 - 1⟩ : Lk)] rfl (fun e => by cases e) V1 (by simp; omega) (by have := S5.own.lm; have := S5.own.mh; have := S5.own.hs; omega) ?_
              intro vZ wZ hownZ hgrowZ hvZ
              obtain ⟨adZ, cZ, rfl⟩ := hownZ.open_
              obtain ⟨KZ, hKZ⟩ : ∃ M, K ++ [(⟨p0 - 1, p1, p2, p3 - 1⟩ : Lk)] = M := ⟨_, rfl⟩
              rw [hKZ] at hownZ hvZ ⊢
              have hkz8 : KZ.length ≤ 8 := by rw [← hKZ, List.length_append]; simp; omega
              clear hKZ
              simp only [List.set_cons_zero, List.set_cons_succ]
              refine hKz _ _ ⟨trivial, ?_⟩
              clear hKz Kz hi
              have hq : ∀ q, (Value.slice adK K.length cK).ownBlock = some q → lo ≤ q ∧ q < mid := fun q e => ⟨(S5.own.own2.lt q e).1, S5.own.khi q e⟩
              have bZ : ∀ b, b < u5.heap.size → (b < lo ∨ mid ≤ b) → wZ.heap[b]? = u5.heap[b]? := fun b h1 h2 => hgrowZ.block b h1 (fun e => by have := hq b e.symm; omega)
              have OB : NOwn mid hi0 wZ (.slice (some ⟨g, 0, none⟩) Cs.length cB) Cs := S5.own.own.keep (fun b h1 h2 => bZ b (by have := S5.own.hs; omega) (.inr h1))
              have NZ := S5.nb.keep (bZ N S5.nb.lt (.inr (by have := S5.own.mh; omega)))
              have RZ := S5.rb.keep (bZ R S5.rb.lt (.inl hRl))
              have sZ := S5.src.at_ (bZ cb (by have := S5.hcb; omega) (.inl (by have := S5.hcb; have := S5.wlo; omega))) (fun a e p => bZ _ (by have := had a e p; omega) (.inl (by have := had a e p; have := S5.wlo; omega)))
              have GZ : w.grownBy wZ (some cb) := ⟨hgrowZ.os.trans S5.gr.os, hgrowZ.tape.trans S5.gr.tape, hgrowZ.output.trans S5.gr.output, Nat.le_trans z9 hgrowZ.size, fun b h1 h2 => (bZ b (by omega) (.inl (by have := S5.wlo; omega))).trans (S5.gr.block b h1 h2)⟩
              have hZs : hi0 ≤ wZ.heap.size := by have := S5.own.hs; have := hgrowZ.size; omega
              have hml : lo ≤ mid := S5.own.lm
              have hqN : ∀ q, (Value.slice adZ KZ.length cZ).ownBlock = some q → q ≠ N := fun q e => by
                rcases hvZ with h | h
                · rw [h] at e; exact hkq q e
                · rw [h] at e; have h9 := S5.nb.lt; simp only [Option.some.injEq] at e; omega
              clear hgrowZ hvZ V1 bZ hq z9
              refine takeW 15 32 (.pointer (some ⟨N, 1, none⟩)) rfl rfl (by kernel_rfl) (by kernel_rfl) (by kernel_rfl) (fun _ _ _ h => h) (by kernel_rfl) (by (intro w hSw; go_simp)) (by assumption) ?_
              simp only [List.set_cons_zero, List.set_cons_succ]
              refine wpAnyH_all (rs := [16]) (by kernel_rfl) (by simp) ?_
              intro i hi; obtain rfl : i = 16 := by simpa using hi
              refine wpOp_step rfl (fun Kz hKz => ?_)
              rw [if_pos (by kernel_rfl)]
              obtain ⟨X0, X1⟩ := NZ.at_
              have f1 := NZ.fr 1
              go_simp
              refine hKz _ _ ⟨trivial, ?_⟩
              clear hKz Kz hi X0 X1 f1
              refine wpAnyH_done (by kernel_rfl) ?_ _
              have NF : NeBox (wZ.setCell ⟨N, 1, none⟩ (.slice adZ KZ.length cZ)) N (.slice (some ⟨g, 0, none⟩) Cs.length cB) (.slice adZ KZ.length cZ) := NZ.put1 _
              have bN : ∀ b, b ≠ N → (wZ.setCell ⟨N, 1, none⟩ (.slice adZ KZ.length cZ)).heap[b]? = wZ.heap[b]? := fun b hb => Below.heap_setCell _ _ _ _ hb
              have sN : (wZ.setCell ⟨N, 1, none⟩ (.slice adZ KZ.length cZ)).heap.size = wZ.heap.size := by simp
              have OF : NetLo lo (wZ.setCell ⟨N, 1, none⟩ (.slice adZ KZ.length cZ)) (.slice (some ⟨g, 0, none⟩) Cs.length cB) Cs (.slice adZ KZ.length cZ) KZ := by
                refine ⟨(OB.keep (fun b _ h2 => bN b (by omega))).wide hml (by rw [sN]; exact hZs), hownZ.keep (fun q e => bN q (hqN q e))⟩
              exact hT.out _ _ ⟨[.pointer (some ⟨N, 1, none⟩), (.slice adK K.length cK), .pointer (some ⟨cb, 0, none⟩), .int .i64 p0, .int .i64 (p0 - 1), .pointer (some ⟨cb, 0, none⟩), .int .i64 p1, .pointer (some ⟨cb, 0, none⟩), .int .i64 p2, .pointer (some ⟨cb, 0, none⟩), .int .i64 p3, .int .i64 (p3 - 1), .agg #[.int .i64 (p0 - 1), .int .i64 p1, .int .i64 p2, .int .i64 (p3 - 1)], .slice (some ⟨q9, 0, none⟩) 1 1, .slice adZ KZ.length cZ, .pointer (some ⟨N, 1, none⟩)], adZ, cZ, KZ, rfl, by kernel_rfl, OF, NF, RZ.keep (bN R (by omega)), sZ.at_ (bN cb (by omega)) (fun a e p => bN _ (by have := had a e p; omega)), ⟨GZ.os, GZ.tape, GZ.output, by rw [sN]; exact GZ.size, fun b h1 h2 => (bN b (by omega)).trans (GZ.block b h1 h2)⟩, hkz8⟩
            · refine wpOp_step rfl (fun Kz hKz => ?_)
              rw [if_pos (by kernel_rfl)]
              go_simp
              refine hKz _ _ ⟨trivial, ?_⟩
              clear hKz Kz hi
              obtain ⟨u5, hu⟩ : ∃ y_, y_ = u4.alloc (Obj.cells #[.int .i64 (p0 - 1), .int .i64 p1, .int .i64 p2, .int .i64 (p3 - 1)] 64) := ⟨_, rfl⟩
              have ku : Below u4.heap.size u4 u5 := by rw [hu]; exact below_new _
              have V1 : FView lkEnc u5 (some ⟨u4.heap.size, 0, none⟩) [(⟨p0 - 1, p1, p2, p3 - 1⟩ : Lk)] := by rw [hu]; exact FView.oneL u4 _ (⟨p0 - 1, p1, p2, p3 - 1⟩ : Lk)
              rw [← hu]
              clear hu
              have S5 := S4.later ku
              clear ku
              generalize u4.heap.size = q9 at V1 ⊢
              refine wpAnyH_all (rs := [1]) (by kernel_rfl) (by simp) ?_
              intro i hi; obtain rfl : i = 1 := by simpa using hi
              refine wpOp_step rfl (fun Kz hKz => ?_)
              rw [if_pos (by kernel_rfl)]
              obtain ⟨X0, X1⟩ := S5.nb.at_
              go_simp
              refine hKz _ _ ⟨trivial, ?_⟩
              clear hKz Kz hi X0 X1
              refine wpAnyH_all (rs := [14]) (by kernel_rfl) (by simp) ?_
              intro i hi; obtain rfl : i = 14 := by simpa using hi
              refine wpOp_step rfl (fun Kz hKz => ?_)
              rw [if_pos (by kernel_rfl)]
              have z9 := S5.gr.size
              refine fapp lkEnc_len lkEnc_ones 31 _ _ 25 rfl rfl lo 64 j0 (.agg #[.int .i64 0, .int .i64 0, .int .i64 0, .int .i64 0]) 32 Try.underlying25 hj hj0 hj1 hj2 rfl (by decide) (by decide) (.slice adK K.length cK) K rfl S5.own.own2 (some ⟨q9, 0, none⟩) 1 [(⟨p0 - 1, p1, p2, p3 - 1⟩ : Lk)] rfl (fun e => by cases e) V1 (by simp; omega) (by have := S5.own.lm; have := S5.own.mh; have := S5.own.hs; omega) ?_
              intro vZ wZ hownZ hgrowZ hvZ
              obtain ⟨adZ, cZ, rfl⟩ := hownZ.open_
              obtain ⟨KZ, hKZ⟩ : ∃ M, K ++ [(⟨p0 - 1, p1, p2, p3 - 1⟩ : Lk)] = M := ⟨_, rfl⟩
              rw [hKZ] at hownZ hvZ ⊢
              have hkz8 : KZ.length ≤ 8 := by rw [← hKZ, List.length_append]; simp; omega
              clear hKZ
              simp only [List.set_cons_zero, List.set_cons_succ]
              refine hKz _ _ ⟨trivial, ?_⟩
              clear hKz Kz hi
              have hq : ∀ q, (Value.slice adK K.length cK).ownBlock = some q → lo ≤ q ∧ q < mid := fun q e => ⟨(S5.own.own2.lt q e).1, S5.own.khi q e⟩
              have bZ : ∀ b, b < u5.heap.size → (b < lo ∨ mid ≤ b) → wZ.heap[b]? = u5.heap[b]? := fun b h1 h2 => hgrowZ.block b h1 (fun e => by have := hq b e.symm; omega)
              have OB : NOwn mid hi0 wZ (.slice (some ⟨g, 0, none⟩) Cs.length cB) Cs := S5.own.own.keep (fun b h1 h2 => bZ b (by have := S5.own.hs; omega) (.inr h1))
              have NZ := S5.nb.keep (bZ N S5.nb.lt (.inr (by have := S5.own.mh; omega)))
              have RZ := S5.rb.keep (bZ R S5.rb.lt (.inl hRl))
              have sZ := S5.src.at_ (bZ cb (by have := S5.hcb; omega) (.inl (by have := S5.hcb; have := S5.wlo; omega))) (fun a e p => bZ _ (by have := had a e p; omega) (.inl (by have := had a e p; have := S5.wlo; omega)))
              have GZ : w.grownBy wZ (some cb) := ⟨hgrowZ.os.trans S5.gr.os, hgrowZ.tape.trans S5.gr.tape, hgrowZ.output.trans S5.gr.output, Nat.le_trans z9 hgrowZ.size, fun b h1 h2 => (bZ b (by omega) (.inl (by have := S5.wlo; omega))).trans (S5.gr.block b h1 h2)⟩
              have hZs : hi0 ≤ wZ.heap.size := by have := S5.own.hs; have := hgrowZ.size; omega
              have hml : lo ≤ mid := S5.own.lm
              have hqN : ∀ q, (Value.slice adZ KZ.length cZ).ownBlock = some q → q ≠ N := fun q e => by
                rcases hvZ with h | h
                · rw [h] at e; exact hkq q e
                · rw [h] at e; have h9 := S5.nb.lt; simp only [Option.some.injEq] at e; omega
              clear hgrowZ hvZ V1 bZ hq z9
              refine takeW 15 32 (.pointer (some ⟨N, 1, none⟩)) rfl rfl (by kernel_rfl) (by kernel_rfl) (by kernel_rfl) (fun _ _ _ h => h) (by kernel_rfl) (by (intro w hSw; go_simp)) (by assumption) ?_
              simp only [List.set_cons_zero, List.set_cons_succ]
              refine wpAnyH_all (rs := [16]) (by kernel_rfl) (by simp) ?_
              intro i hi; obtain rfl : i = 16 := by simpa using hi
              refine wpOp_step rfl (fun Kz hKz => ?_)
              rw [if_pos (by kernel_rfl)]
              obtain ⟨X0, X1⟩ := NZ.at_
              have f1 := NZ.fr 1
              go_simp
              refine hKz _ _ ⟨trivial, ?_⟩
              clear hKz Kz hi X0 X1 f1
              refine wpAnyH_done (by kernel_rfl) ?_ _
              have NF : NeBox (wZ.setCell ⟨N, 1, none⟩ (.slice adZ KZ.length cZ)) N (.slice (some ⟨g, 0, none⟩) Cs.length cB) (.slice adZ KZ.length cZ) := NZ.put1 _
              have bN : ∀ b, b ≠ N → (wZ.setCell ⟨N, 1, none⟩ (.slice adZ KZ.length cZ)).heap[b]? = wZ.heap[b]? := fun b hb => Below.heap_setCell _ _ _ _ hb
              have sN : (wZ.setCell ⟨N, 1, none⟩ (.slice adZ KZ.length cZ)).heap.size = wZ.heap.size := by simp
              have OF : NetLo lo (wZ.setCell ⟨N, 1, none⟩ (.slice adZ KZ.length cZ)) (.slice (some ⟨g, 0, none⟩) Cs.length cB) Cs (.slice adZ KZ.length cZ) KZ := by
                refine ⟨(OB.keep (fun b _ h2 => bN b (by omega))).wide hml (by rw [sN]; exact hZs), hownZ.keep (fun q e => bN q (hqN q e))⟩
              exact hT.out _ _ ⟨[.pointer (some ⟨N, 1, none⟩), (.slice adK K.length cK), .pointer (some ⟨cb, 0, none⟩), .int .i64 p0, .int .i64 (p0 - 1), .pointer (some ⟨cb, 0, none⟩), .int .i64 p1, .pointer (some ⟨cb, 0, none⟩), .int .i64 p2, .pointer (some ⟨cb, 0, none⟩), .int .i64 p3, .int .i64 (p3 - 1), .agg #[.int .i64 (p0 - 1), .int .i64 p1, .int .i64 p2, .int .i64 (p3 - 1)], .slice (some ⟨q9, 0, none⟩) 1 1, .slice adZ KZ.length cZ, .pointer (some ⟨N, 1, none⟩)], adZ, cZ, KZ, rfl, by kernel_rfl, OF, NF, RZ.keep (bN R (by omega)), sZ.at_ (bN cb (by omega)) (fun a e p => bN _ (by have := had a e p; omega)), ⟨GZ.os, GZ.tape, GZ.output, by rw [sN]; exact GZ.size, fun b h1 h2 => (bN b (by omega)).trans (GZ.block b h1 h2)⟩, hkz8⟩
  rintro l' W ⟨us, adZ, cZ, KZ, hul, rfl, OL, nF, rF, sF, gF, kz⟩
  obtain ⟨s17, us, rfl⟩ : ∃ a b, us = a :: b := List.exists_cons_of_length_eq_add_one hul
  replace hul := Nat.succ.inj hul
  obtain ⟨s18, us, rfl⟩ : ∃ a b, us = a :: b := List.exists_cons_of_length_eq_add_one hul
  replace hul := Nat.succ.inj hul
  obtain ⟨s19, us, rfl⟩ : ∃ a b, us = a :: b := List.exists_cons_of_length_eq_add_one hul
  replace hul := Nat.succ.inj hul
  obtain ⟨s20, us, rfl⟩ : ∃ a b, us = a :: b := List.exists_cons_of_length_eq_add_one hul
  replace hul := Nat.succ.inj hul
  obtain ⟨s21, us, rfl⟩ : ∃ a b, us = a :: b := List.exists_cons_of_length_eq_add_one hul
  replace hul := Nat.succ.inj hul
  obtain ⟨s22, us, rfl⟩ : ∃ a b, us = a :: b := List.exists_cons_of_length_eq_add_one hul
  replace hul := Nat.succ.inj hul
  obtain ⟨s23, us, rfl⟩ : ∃ a b, us = a :: b := List.exists_cons_of_length_eq_add_one hul
  replace hul := Nat.succ.inj hul
  obtain ⟨s24, us, rfl⟩ : ∃ a b, us = a :: b := List.exists_cons_of_length_eq_add_one hul
  replace hul := Nat.succ.inj hul
  obtain ⟨s25, us, rfl⟩ : ∃ a b, us = a :: b := List.exists_cons_of_length_eq_add_one hul
  replace hul := Nat.succ.inj hul
  obtain ⟨s26, us, rfl⟩ : ∃ a b, us = a :: b := List.exists_cons_of_length_eq_add_one hul
  replace hul := Nat.succ.inj hul
  obtain ⟨s27, us, rfl⟩ : ∃ a b, us = a :: b := List.exists_cons_of_length_eq_add_one hul
  replace hul := Nat.succ.inj hul
  obtain ⟨s28, us, rfl⟩ : ∃ a b, us = a :: b := List.exists_cons_of_length_eq_add_one hul
  replace hul := Nat.succ.inj hul
  obtain ⟨s29, us, rfl⟩ : ∃ a b, us = a :: b := List.exists_cons_of_length_eq_add_one hul
  replace hul := Nat.succ.inj hul
  obtain ⟨s30, us, rfl⟩ : ∃ a b, us = a :: b := List.exists_cons_of_length_eq_add_one hul
  replace hul := Nat.succ.inj hul
  obtain ⟨s31, us, rfl⟩ : ∃ a b, us = a :: b := List.exists_cons_of_length_eq_add_one hul
  replace hul := Nat.succ.inj hul
  obtain ⟨s32, us, rfl⟩ : ∃ a b, us = a :: b := List.exists_cons_of_length_eq_add_one hul
  replace hul := Nat.succ.inj hul
  obtain rfl : us = [] := List.eq_nil_of_length_eq_zero hul
  clear hul
  simp only [List.take, List.drop, List.cons_append, List.nil_append]
  clear S
  obtain ⟨v, hv, O5, s5, g5⟩ := lastBox OL sF gF (.slice (some ⟨g, 0, none⟩) Cs.length cB) (.slice adZ KZ.length cZ) hwR hRl hcb had
  obtain ⟨n0, n1⟩ := nF.at_
  obtain ⟨r0, r1⟩ := rF.at_
  have f0 := rF.fr 0
  have f1 := rF.fr 1
  go_wp2
  rw [← hv]
  refine bodyPost_ret (v := .agg #[.slice (some ⟨g, 0, none⟩) Cs.length cB, .slice adZ KZ.length cZ]) (by simp [results, Try.results37, go_sem, *]) rfl ?_
  exact ⟨_, _, Cs, _, _, KZ, rfl, ⟨c1, c5, kz, ls⟩, O5, s5, g5⟩

end Go.Proofs.Ytdfjfodfnildiaa
