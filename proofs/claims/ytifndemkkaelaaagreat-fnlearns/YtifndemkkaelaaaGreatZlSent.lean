/- impl.sentOut, walked. -/
import Derived.Test.YtifndemkkaelaaaGreatRows
import Derived.WalkKit
import Derived.ProofKit
import Derived.OpenShut
import Derived.ShutString
import Derived.ChangeOld
import Derived.Below
import Derived.Deep.QuietTactic
import Derived.BigQuiet
import Derived.WalkSmall
import Derived.Laws.OwnMore
import Derived.WalkSpells
import Derived.WalkLawsBesides
import Derived.Laws.AppendOwnNone
import Derived.Laws.CopyOwn
import Derived.RangeFuncBox
import Derived.RangeFuncSeq
import Derived.RangeFuncCalls
import Derived.RangeFuncLeaves
import Derived.TacticsInMore
import Derived.OwnWalkIn
import Derived.ControlIn
import Derived.Maps.OwnIn
import Derived.Test.YtifndemkkaelaaaGreatZl25
import Derived.Test.YtifndemkkaelaaaGreatZlPassI
namespace Go.Proofs.YtifndemkkaelaaaGreat
open Go.ChangeShapes Go.WideShapes Go.ChangeAt Go.RowKit
open Go.ChangeMaps (open_string shut_string)
set_option linter.unusedVariables false
set_option maxRecDepth 100000

attribute [local go_sem] Oper.semAt_some
theorem join_regionF {P : Program} {reg : Code} {K : Act → World → Prop} {Q : Exit → Act → World → Prop} {l : List Value} {ds : List Deferred} {W : World} (R : List Value → List Value → World → Prop) (h1 : ∀ l' W', R l l' W' → K ⟨l'.toArray, ds⟩ W') (h2 : ∀ K2 : Act → World → Prop, Hid (∀ l' W', R l l' W' → K2 ⟨l'.toArray, ds⟩ W') → Code.wp P reg (Exit.then K2 (fun _ _ _ => False)) ⟨l.toArray, ds⟩ W) : Code.wp P reg (Exit.then K Q) ⟨l.toArray, ds⟩ W :=
  Code.wp_mono (fun e a w h => by cases e <;> first | exact h | exact h.elim) (h2 K h1)
theorem boxKeep {W W' : World} {B : Nat} {t : TypeId} {v : Value} (h : Boxed W B t v) (k : W'.heap[B]? = W.heap[B]?) : Boxed W' B t v := k.trans h
theorem waysMk (P Q : Nat) (i : Int) (w : World) : Calls Tryz.prog 96 #[.pointer (some ⟨P, 0, none⟩), .int .i64 i, .pointer (some ⟨Q, 0, none⟩)] w fun e w' =>
    e = .returned (.func (.func 126) #[] #[.pointer (some ⟨w.heap.size, 0, none⟩), .pointer (some ⟨w.heap.size + 1, 0, none⟩), .pointer (some ⟨w.heap.size + 2, 0, none⟩)]) ∧
    w' = ((w.alloc (.cells #[.pointer (some ⟨P, 0, none⟩)] 75)).alloc (.cells #[.int .i64 i] 3)).alloc (.cells #[.pointer (some ⟨Q, 0, none⟩)] 80) := by
  have hmf : ∀ (fn : Fn) (first cap : Array Value) (w : World), (Instr.makeFunc fn first cap).run Tryz.prog w = .ok (.func fn first cap) w := fun _ _ _ _ => rfl
  go_enter Tryz.func96, Tryz.ntmps96
  go_wp2
  go_ret
  exact ⟨rfl, rfl⟩
structure SJ (w0 : World) (bs N7 N8 N9 : Nat) (g1 : Int) (kn : Bool) (X : OL) (k : Nat) (W : World) : Prop where
  b7 : Boxed W N7 3 (.int .i64 g1)
  b8 : Boxed W N8 4 (.bool kn)
  ex : ∃ v Ns, Boxed W N9 33 v ∧ OC bs W v Ns ∧ Ns.map Ob.d = X ∧ Ns.length ≤ k
  bel : Below w0.heap.size w0 W
theorem SJ.later {w0 : World} {bs N7 N8 N9 : Nat} {g1 : Int} {kn : Bool} {X : OL} {k : Nat} {W W' : World} (h : SJ w0 bs N7 N8 N9 g1 kn X k W) (b : Below W.heap.size W W') : SJ w0 bs N7 N8 N9 g1 kn X k W' := by
  obtain ⟨v, Ns, b9, oc, hd, hn⟩ := h.ex
  exact ⟨boxKeep h.b7 (b.block _ h.b7.lt), boxKeep h.b8 (b.block _ h.b8.lt), ⟨v, Ns, boxKeep b9 (b.block _ b9.lt), oc.later b (Nat.le_refl _), hd, hn⟩, h.bel.trans (b.mono h.bel.size)⟩
theorem SJ.putObj {w0 : World} {bs N7 N8 N9 : Nat} {g1 : Int} {kn : Bool} {X : OL} {k l : Nat} {W : World} (h : SJ w0 bs N7 N8 N9 g1 kn X k W) (o : Obj) (h7 : N7 ≠ l) (h8 : N8 ≠ l) (h9 : N9 ≠ l) (hb : l < bs) (hw : w0.heap.size ≤ l) : SJ w0 bs N7 N8 N9 g1 kn X k (W.putObj l o) := by
  obtain ⟨v, Ns, b9, oc, hd, hn⟩ := h.ex
  exact ⟨boxKeep h.b7 (World.putObj_heap_other h7), boxKeep h.b8 (World.putObj_heap_other h8), ⟨v, Ns, boxKeep b9 (World.putObj_heap_other h9), oc.same (fun j hj _ => World.putObj_heap_other (by omega)) (by rw [World.putObj_size]; exact Nat.le_refl _), hd, hn⟩, ⟨h.bel.os, h.bel.tape, h.bel.output, by rw [World.putObj_size]; exact h.bel.size, fun j hj => (World.putObj_heap_other (by omega)).trans (h.bel.block j hj)⟩⟩
theorem SJ.to {w0 : World} {bs N7 N8 N9 : Nat} {g1 : Int} {kn : Bool} {X Y : OL} {k m : Nat} {W : World} (h : SJ w0 bs N7 N8 N9 g1 kn X k W) (e : X = Y) (hk : k ≤ m) : SJ w0 bs N7 N8 N9 g1 kn Y m W := by
  obtain ⟨v, Ns, b9, oc, hd, hn⟩ := h.ex
  exact ⟨h.b7, h.b8, ⟨v, Ns, b9, oc, hd.trans e, by omega⟩, h.bel⟩
theorem goes_skip {O : List Bool} {D : DL} {p : Int} {x : FR} {kn : Bool} {only : Int} {k : Nat} (h : (k : Int) = p ∨ O.getD k false = false ∨ (outD (D.getD k (0, [])) x.a x.b x.c x.M).ok = false) : goesAt O D p x kn only k = [] := by
  unfold goesAt
  by_cases h1 : (k : Int) = p
  · rw [if_pos h1]
  · rw [if_neg h1]
    by_cases h2 : O.getD k false = false
    · rw [if_pos h2]
    · rw [if_neg h2]
      have h3 : (outD (D.getD k (0, [])) x.a x.b x.c x.M).ok = false := by
        rcases h with h | h | h
        · exact absurd h h1
        · exact absurd h h2
        · exact h
      split
      · rfl
      · rw [h3]; rfl
theorem goes_one {O : List Bool} {D : DL} {p : Int} {x : FR} {kn : Bool} {only : Int} {k : Nat} {ra rb rc : Int} {M : List Int} (h1 : ¬ (k : Int) = p) (h2 : O.getD k false = true) (h3 : outD (D.getD k (0, [])) x.a x.b x.c x.M = ⟨ra, rb, rc, M, true⟩) (h4 : (kn && ((k : Int) != only)) = false) : goesAt O D p x kn only k = [((k : Int), ra, rb, rc, M)] := by
  unfold goesAt
  rw [if_neg h1, if_neg (by rw [h2]; decide), if_neg (by rw [h4]; decide), h3]
  rfl
theorem Tryz.infoOutW : (Tryz.prog.info? 43).map (fun i => (i.zero, i.size, i.bytes)) = some (some (.agg #[.int .i64 0, .int .i64 0, .int .i64 0, .int .i64 0, .slice none 0 0]), 5, 56) := by kernel_rfl
theorem Tryz.underOutW : Tryz.prog.underlying 33 = some (.slice 43) := by kernel_rfl
theorem cells5W (w : World) (a b c d e : Value) (t : TypeId) : ∀ j u, ([a, b, c, d, e] : List Value)[j]? = some u → (w.alloc (Obj.cells #[a, b, c, d, e] t)).cell? ((⟨w.heap.size, 0, none⟩ : Addr).add j) = some u := by
  intro j u h
  match j with
  | 0 => simp at h; subst h; simp [go_sem, Addr.add]
  | 1 => simp at h; subst h; simp [go_sem, Addr.add]
  | 2 => simp at h; subst h; simp [go_sem, Addr.add]
  | 3 => simp at h; subst h; simp [go_sem, Addr.add]
  | 4 => simp at h; subst h; simp [go_sem, Addr.add]
  | n + 5 => simp at h
set_option maxRecDepth 100000 in
set_option maxHeartbeats 64000000 in
theorem sentI : SentOk := by
  intro adO cO O adM cM D adT cT T i a b c adL capL L lo hi P Q w AA I ht hC hl hOl FF vL hlL
  obtain ⟨g, hg⟩ : ∃ g, Hid (whereR T a c = g) := ⟨_, rfl⟩
  obtain ⟨g1, kn⟩ := g
  rw [hg.out]
  have lO : O.length ≤ 1048576 := by omega
  have hPw := AA.lt
  have hQw := FF.lt
  have hT12 : T.length ≤ 12 := by
    have h := hC
    unfold cOk at h
    simp only [Bool.and_eq_true] at h
    exact (tokB_of h.2.2.2.2).1
  obtain ⟨i1, hj, hy0, hy1, hy2⟩ := info_parts Tryz.infoOutW
  refine (callsIn_wide (n := 7)).1 ?_
  refine callsIn_of_wp_marks Tryz.func43 rfl trivial ?_ rfl
  refine wpIn_wide.2 ?_
  simp only [Tryz.ntmps43, List.size_toArray, List.length_cons, List.length_nil, Nat.reduceAdd, Nat.reduceSub, Array.replicate_succ, Array.replicate_zero, List.push_toArray, List.append_toArray, List.nil_append, List.cons_append]
  go_wp2_with fail
  refine join_regionF (fun l l' W' => ∃ (N7 N8 : Nat) (us : List Value), us.length = 16 ∧ l' = l.take 7 ++ (.pointer (some ⟨N7, 0, none⟩) :: .pointer (some ⟨N8, 0, none⟩) :: (l.drop 9).take 2) ++ us ++ l.drop 27 ∧ Boxed W' N7 3 (.int .i64 g1) ∧ Boxed W' N8 4 (.bool kn) ∧ w.heap.size ≤ N7 ∧ w.heap.size ≤ N8 ∧ N7 ≠ N8 ∧ Below w.heap.size w W') ?_ ?_
  rotate_left
  · intro K2 hT
    refine wp_region_held (S := fun Y => Below w.heap.size w Y) (by kernel_rfl) ?_
    change wpAnyH _ _ _ _ _ _ _ _ (World.drew _)
    have hb0 : Below w.heap.size w w.drew := (Below.refl _ _).drew
    obtain ⟨y0, hy0⟩ : ∃ z, z = w.drew := ⟨_, rfl⟩
    rw [← hy0] at hb0 ⊢
    have z0 := hb0.size
    clear hy0
    refine takeW 0 12 (.pointer (some ⟨P, 0, none⟩)) rfl rfl (by kernel_rfl) (by kernel_rfl) (by kernel_rfl) (fun _ _ _ h => h) (by kernel_rfl) (by (intro w hSw; go_simp)) (by assumption) ?_
    simp only [List.set_cons_zero, List.set_cons_succ]
    refine takeW 1 13 (.pointer (some ⟨P, 0, none⟩)) rfl rfl (by kernel_rfl) (by kernel_rfl) (by kernel_rfl) (fun _ _ _ h => h) (by kernel_rfl) (by (intro w hSw; go_simp)) (by assumption) ?_
    simp only [List.set_cons_zero, List.set_cons_succ]
    refine takeW 2 14 (.pointer (some ⟨P, 2, none⟩)) rfl rfl (by kernel_rfl) (by kernel_rfl) (by kernel_rfl) (fun _ _ _ h => h) (by kernel_rfl) (by (intro w hSw; go_simp)) (by assumption) ?_
    simp only [List.set_cons_zero, List.set_cons_succ]
    refine takeW 3 15 (.slice adT T.length cT) rfl rfl (by kernel_rfl) (by kernel_rfl) (by kernel_rfl) (fun _ _ _ h => h) (by kernel_rfl) (by (intro Y hSw; obtain ⟨X1, X2, X3⟩ := AA.below hSw (by omega); go_simp)) (by assumption) ?_
    simp only [List.set_cons_zero, List.set_cons_succ]
    refine takeW 4 16 (.pointer (some ⟨Q, 0, none⟩)) rfl rfl (by kernel_rfl) (by kernel_rfl) (by kernel_rfl) (fun _ _ _ h => h) (by kernel_rfl) (by (intro w hSw; go_simp)) (by assumption) ?_
    simp only [List.set_cons_zero, List.set_cons_succ]
    refine takeW 5 17 (.pointer (some ⟨Q, 0, none⟩)) rfl rfl (by kernel_rfl) (by kernel_rfl) (by kernel_rfl) (fun _ _ _ h => h) (by kernel_rfl) (by (intro w hSw; go_simp)) (by assumption) ?_
    simp only [List.set_cons_zero, List.set_cons_succ]
    refine takeW 6 18 (.pointer (some ⟨Q, 0, none⟩)) rfl rfl (by kernel_rfl) (by kernel_rfl) (by kernel_rfl) (fun _ _ _ h => h) (by kernel_rfl) (by (intro w hSw; go_simp)) (by assumption) ?_
    simp only [List.set_cons_zero, List.set_cons_succ]
    refine takeW 7 19 (.int .i64 a) rfl rfl (by kernel_rfl) (by kernel_rfl) (by kernel_rfl) (fun _ _ _ h => h) (by kernel_rfl) (by (intro Y hSw; obtain ⟨X1, X2, X3, X4⟩ := FF.below hSw (by omega); go_simp)) (by assumption) ?_
    simp only [List.set_cons_zero, List.set_cons_succ]
    refine takeW 8 20 (.pointer (some ⟨Q, 0, none⟩)) rfl rfl (by kernel_rfl) (by kernel_rfl) (by kernel_rfl) (fun _ _ _ h => h) (by kernel_rfl) (by (intro w hSw; go_simp)) (by assumption) ?_
    simp only [List.set_cons_zero, List.set_cons_succ]
    refine takeW 9 21 (.pointer (some ⟨Q, 0, none⟩)) rfl rfl (by kernel_rfl) (by kernel_rfl) (by kernel_rfl) (fun _ _ _ h => h) (by kernel_rfl) (by (intro w hSw; go_simp)) (by assumption) ?_
    simp only [List.set_cons_zero, List.set_cons_succ]
    refine takeW 10 22 (.pointer (some ⟨Q, 2, none⟩)) rfl rfl (by kernel_rfl) (by kernel_rfl) (by kernel_rfl) (fun _ _ _ h => h) (by kernel_rfl) (by (intro w hSw; go_simp)) (by assumption) ?_
    simp only [List.set_cons_zero, List.set_cons_succ]
    refine takeW 11 23 (.int .i64 c) rfl rfl (by kernel_rfl) (by kernel_rfl) (by kernel_rfl) (fun _ _ _ h => h) (by kernel_rfl) (by (intro Y hSw; obtain ⟨X1, X2, X3, X4⟩ := FF.below hSw (by omega); go_simp)) (by assumption) ?_
    simp only [List.set_cons_zero, List.set_cons_succ]
    refine wpAnyH_all (rs := [12, 16, 17]) (by kernel_rfl) (by simp) ?_
    intro i hi; rcases (by simpa using hi : i = 12 ∨ i = 16 ∨ i = 17) with rfl | rfl | rfl
    · refine wpOp_step rfl (fun K hK => ?_)
      rw [if_pos (by kernel_rfl)]
      go_simp
      go_at_call 20
      refine (whereI adT cT T a c y0 (I.below hb0 ht).vT (by unfold maxLen; omega) (fun x e p => by have := I.iT x e p; have := hb0.size; omega)).mono ?_
      rintro e y1 ⟨rfl, kq⟩
      rw [hg.out]
      have zz := kq.size
      have hb1 : Below w.heap.size w y1 := hb0.trans (kq.mono hb0.size)
      clear kq zz
      refine hK _ _ ⟨hb1, ?_⟩
      clear hK K hi
      refine takeW 13 11 (.tuple #[.int .i64 g1, .bool kn]) rfl rfl (by kernel_rfl) (by kernel_rfl) (by kernel_rfl) (fun _ _ _ h => h) (by kernel_rfl) (by (intro w hSw; go_simp)) (by assumption) ?_
      simp only [List.set_cons_zero, List.set_cons_succ]
      refine takeW 14 25 (.int .i64 g1) rfl rfl (by kernel_rfl) (by kernel_rfl) (by kernel_rfl) (fun _ _ _ h => h) (by kernel_rfl) (by (intro w hSw; go_simp)) (by assumption) ?_
      simp only [List.set_cons_zero, List.set_cons_succ]
      refine takeW 15 26 (.bool kn) rfl rfl (by kernel_rfl) (by kernel_rfl) (by kernel_rfl) (fun _ _ _ h => h) (by kernel_rfl) (by (intro w hSw; go_simp)) (by assumption) ?_
      simp only [List.set_cons_zero, List.set_cons_succ]
      refine wpAnyH_all (rs := [16, 17]) (by kernel_rfl) (by simp) ?_
      intro i hi; rcases (by simpa using hi : i = 16 ∨ i = 17) with rfl | rfl
      · refine wpOp_step rfl (fun K hK => ?_)
        rw [if_pos (by kernel_rfl)]
        go_simp
        obtain ⟨N7, hN7⟩ : ∃ n, n = y1.heap.size := ⟨_, rfl⟩
        obtain ⟨y2, hz⟩ : ∃ z, z = y1.alloc (Obj.cells #[.int .i64 0] 3) := ⟨_, rfl⟩
        have kq : Below y1.heap.size y1 y2 := by rw [hz]; exact below_box _ _
        have b7 : Boxed y2 N7 3 (.int .i64 0) := by rw [hz, hN7]; exact Boxed.new _ _ _
        have t7 := b7.lt
        have w7 : w.heap.size ≤ N7 := by have := hb1.size; omega
        rw [← hN7, ← hz]
        clear hz hN7
        have zz := kq.size
        have hb2 : Below w.heap.size w y2 := hb1.trans (kq.mono hb1.size)
        clear kq zz
        refine hK _ _ ⟨hb2, ?_⟩
        clear hK K hi
        refine wpAnyH_all (rs := [17]) (by kernel_rfl) (by simp) ?_
        intro i hi; obtain rfl : i = 17 := by simpa using hi
        refine wpOp_step rfl (fun K hK => ?_)
        rw [if_pos (by kernel_rfl)]
        go_simp
        obtain ⟨N8, hN8⟩ : ∃ n, n = y2.heap.size := ⟨_, rfl⟩
        obtain ⟨y3, hz⟩ : ∃ z, z = y2.alloc (Obj.cells #[.bool false] 4) := ⟨_, rfl⟩
        have kq : Below y2.heap.size y2 y3 := by rw [hz]; exact below_box _ _
        have b8 : Boxed y3 N8 4 (.bool false) := by rw [hz, hN8]; exact Boxed.new _ _ _
        have t8 := b8.lt
        have w8 : w.heap.size ≤ N8 := by have := hb2.size; omega
        have n78 : N7 ≠ N8 := by have := b7.lt; omega
        rw [← hN8, ← hz]
        clear hz hN8
        have zz := kq.size
        have hb3 : Below w.heap.size w y3 := hb2.trans (kq.mono hb2.size)
        have b7 : Boxed y3 N7 3 (.int .i64 0) := boxKeep b7 (kq.block _ b7.lt)
        clear kq zz
        refine hK _ _ ⟨hb3, ?_⟩
        clear hK K hi
        refine wpAnyH_all (rs := [18]) (by kernel_rfl) (by simp) ?_
        intro i hi; obtain rfl : i = 18 := by simpa using hi
        refine wpOp_step rfl (fun K hK => ?_)
        rw [if_pos (by kernel_rfl)]
        have q1 := b7.cell
        have q2 := b7.frozen
        go_simp
        clear q1 q2
        obtain ⟨ya, hya⟩ : ∃ z, z = y3.setCell ⟨N7, 0, none⟩ (.int .i64 g1) := ⟨_, rfl⟩
        have b7 : Boxed ya N7 3 (.int .i64 g1) := by rw [hya]; exact b7.set _
        have b8 : Boxed ya N8 4 (.bool false) := by rw [hya]; exact boxKeep b8 (Below.heap_setCell _ _ _ _ (Ne.symm n78))
        have hba : Below w.heap.size w ya := by rw [hya]; exact hb3.setCell (by show w.heap.size ≤ N7; omega) _
        rw [← hya]
        clear hya
        refine hK _ _ ⟨hba, ?_⟩
        clear hK K hi
        refine wpAnyH_all (rs := [19]) (by kernel_rfl) (by simp) ?_
        intro i hi; obtain rfl : i = 19 := by simpa using hi
        refine wpOp_step rfl (fun K hK => ?_)
        rw [if_pos (by kernel_rfl)]
        have q1 := b8.cell
        have q2 := b8.frozen
        go_simp
        clear q1 q2
        obtain ⟨yb, hyb⟩ : ∃ z, z = ya.setCell ⟨N8, 0, none⟩ (.bool kn) := ⟨_, rfl⟩
        have b7 : Boxed yb N7 3 (.int .i64 g1) := by rw [hyb]; exact boxKeep b7 (Below.heap_setCell _ _ _ _ n78)
        have b8 : Boxed yb N8 4 (.bool kn) := by rw [hyb]; exact b8.set _
        have hbb : Below w.heap.size w yb := by rw [hyb]; exact hba.setCell (by show w.heap.size ≤ N8; omega) _
        rw [← hyb]
        clear hyb
        refine hK _ _ ⟨hbb, ?_⟩
        clear hK K hi
        refine wpAnyH_done (by kernel_rfl) ?_ _
        exact hT.out _ _ ⟨N7, N8, [_, _, _, _, _, _, _, _, _, _, _, _, _, _, _, _], rfl, rfl, b7, b8, w7, w8, n78, hbb⟩
      · refine wpOp_step rfl (fun K hK => ?_)
        rw [if_pos (by kernel_rfl)]
        go_simp
        obtain ⟨N8, hN8⟩ : ∃ n, n = y1.heap.size := ⟨_, rfl⟩
        obtain ⟨y2, hz⟩ : ∃ z, z = y1.alloc (Obj.cells #[.bool false] 4) := ⟨_, rfl⟩
        have kq : Below y1.heap.size y1 y2 := by rw [hz]; exact below_box _ _
        have b8 : Boxed y2 N8 4 (.bool false) := by rw [hz, hN8]; exact Boxed.new _ _ _
        have t8 := b8.lt
        have w8 : w.heap.size ≤ N8 := by have := hb1.size; omega
        rw [← hN8, ← hz]
        clear hz hN8
        have zz := kq.size
        have hb2 : Below w.heap.size w y2 := hb1.trans (kq.mono hb1.size)
        clear kq zz
        refine hK _ _ ⟨hb2, ?_⟩
        clear hK K hi
        refine wpAnyH_all (rs := [16]) (by kernel_rfl) (by simp) ?_
        intro i hi; obtain rfl : i = 16 := by simpa using hi
        refine wpOp_step rfl (fun K hK => ?_)
        rw [if_pos (by kernel_rfl)]
        go_simp
        obtain ⟨N7, hN7⟩ : ∃ n, n = y2.heap.size := ⟨_, rfl⟩
        obtain ⟨y3, hz⟩ : ∃ z, z = y2.alloc (Obj.cells #[.int .i64 0] 3) := ⟨_, rfl⟩
        have kq : Below y2.heap.size y2 y3 := by rw [hz]; exact below_box _ _
        have b7 : Boxed y3 N7 3 (.int .i64 0) := by rw [hz, hN7]; exact Boxed.new _ _ _
        have t7 := b7.lt
        have w7 : w.heap.size ≤ N7 := by have := hb2.size; omega
        have n78 : N7 ≠ N8 := by have := b8.lt; omega
        rw [← hN7, ← hz]
        clear hz hN7
        have zz := kq.size
        have hb3 : Below w.heap.size w y3 := hb2.trans (kq.mono hb2.size)
        have b8 : Boxed y3 N8 4 (.bool false) := boxKeep b8 (kq.block _ b8.lt)
        clear kq zz
        refine hK _ _ ⟨hb3, ?_⟩
        clear hK K hi
        refine wpAnyH_all (rs := [18]) (by kernel_rfl) (by simp) ?_
        intro i hi; obtain rfl : i = 18 := by simpa using hi
        refine wpOp_step rfl (fun K hK => ?_)
        rw [if_pos (by kernel_rfl)]
        have q1 := b7.cell
        have q2 := b7.frozen
        go_simp
        clear q1 q2
        obtain ⟨ya, hya⟩ : ∃ z, z = y3.setCell ⟨N7, 0, none⟩ (.int .i64 g1) := ⟨_, rfl⟩
        have b7 : Boxed ya N7 3 (.int .i64 g1) := by rw [hya]; exact b7.set _
        have b8 : Boxed ya N8 4 (.bool false) := by rw [hya]; exact boxKeep b8 (Below.heap_setCell _ _ _ _ (Ne.symm n78))
        have hba : Below w.heap.size w ya := by rw [hya]; exact hb3.setCell (by show w.heap.size ≤ N7; omega) _
        rw [← hya]
        clear hya
        refine hK _ _ ⟨hba, ?_⟩
        clear hK K hi
        refine wpAnyH_all (rs := [19]) (by kernel_rfl) (by simp) ?_
        intro i hi; obtain rfl : i = 19 := by simpa using hi
        refine wpOp_step rfl (fun K hK => ?_)
        rw [if_pos (by kernel_rfl)]
        have q1 := b8.cell
        have q2 := b8.frozen
        go_simp
        clear q1 q2
        obtain ⟨yb, hyb⟩ : ∃ z, z = ya.setCell ⟨N8, 0, none⟩ (.bool kn) := ⟨_, rfl⟩
        have b7 : Boxed yb N7 3 (.int .i64 g1) := by rw [hyb]; exact boxKeep b7 (Below.heap_setCell _ _ _ _ n78)
        have b8 : Boxed yb N8 4 (.bool kn) := by rw [hyb]; exact b8.set _
        have hbb : Below w.heap.size w yb := by rw [hyb]; exact hba.setCell (by show w.heap.size ≤ N8; omega) _
        rw [← hyb]
        clear hyb
        refine hK _ _ ⟨hbb, ?_⟩
        clear hK K hi
        refine wpAnyH_done (by kernel_rfl) ?_ _
        exact hT.out _ _ ⟨N7, N8, [_, _, _, _, _, _, _, _, _, _, _, _, _, _, _, _], rfl, rfl, b7, b8, w7, w8, n78, hbb⟩
    · refine wpOp_step rfl (fun K hK => ?_)
      rw [if_pos (by kernel_rfl)]
      go_simp
      obtain ⟨N7, hN7⟩ : ∃ n, n = y0.heap.size := ⟨_, rfl⟩
      obtain ⟨y1, hz⟩ : ∃ z, z = y0.alloc (Obj.cells #[.int .i64 0] 3) := ⟨_, rfl⟩
      have kq : Below y0.heap.size y0 y1 := by rw [hz]; exact below_box _ _
      have b7 : Boxed y1 N7 3 (.int .i64 0) := by rw [hz, hN7]; exact Boxed.new _ _ _
      have t7 := b7.lt
      have w7 : w.heap.size ≤ N7 := by have := hb0.size; omega
      rw [← hN7, ← hz]
      clear hz hN7
      have zz := kq.size
      have hb1 : Below w.heap.size w y1 := hb0.trans (kq.mono hb0.size)
      clear kq zz
      refine hK _ _ ⟨hb1, ?_⟩
      clear hK K hi
      refine wpAnyH_all (rs := [12, 17]) (by kernel_rfl) (by simp) ?_
      intro i hi; rcases (by simpa using hi : i = 12 ∨ i = 17) with rfl | rfl
      · refine wpOp_step rfl (fun K hK => ?_)
        rw [if_pos (by kernel_rfl)]
        go_simp
        go_at_call 20
        refine (whereI adT cT T a c y1 (I.below hb1 ht).vT (by unfold maxLen; omega) (fun x e p => by have := I.iT x e p; have := hb1.size; omega)).mono ?_
        rintro e y2 ⟨rfl, kq⟩
        rw [hg.out]
        have zz := kq.size
        have hb2 : Below w.heap.size w y2 := hb1.trans (kq.mono hb1.size)
        have b7 : Boxed y2 N7 3 (.int .i64 0) := boxKeep b7 (kq.block _ b7.lt)
        clear kq zz
        refine hK _ _ ⟨hb2, ?_⟩
        clear hK K hi
        refine takeW 13 11 (.tuple #[.int .i64 g1, .bool kn]) rfl rfl (by kernel_rfl) (by kernel_rfl) (by kernel_rfl) (fun _ _ _ h => h) (by kernel_rfl) (by (intro w hSw; go_simp)) (by assumption) ?_
        simp only [List.set_cons_zero, List.set_cons_succ]
        refine takeW 14 25 (.int .i64 g1) rfl rfl (by kernel_rfl) (by kernel_rfl) (by kernel_rfl) (fun _ _ _ h => h) (by kernel_rfl) (by (intro w hSw; go_simp)) (by assumption) ?_
        simp only [List.set_cons_zero, List.set_cons_succ]
        refine takeW 15 26 (.bool kn) rfl rfl (by kernel_rfl) (by kernel_rfl) (by kernel_rfl) (fun _ _ _ h => h) (by kernel_rfl) (by (intro w hSw; go_simp)) (by assumption) ?_
        simp only [List.set_cons_zero, List.set_cons_succ]
        refine wpAnyH_all (rs := [17]) (by kernel_rfl) (by simp) ?_
        intro i hi; obtain rfl : i = 17 := by simpa using hi
        refine wpOp_step rfl (fun K hK => ?_)
        rw [if_pos (by kernel_rfl)]
        go_simp
        obtain ⟨N8, hN8⟩ : ∃ n, n = y2.heap.size := ⟨_, rfl⟩
        obtain ⟨y3, hz⟩ : ∃ z, z = y2.alloc (Obj.cells #[.bool false] 4) := ⟨_, rfl⟩
        have kq : Below y2.heap.size y2 y3 := by rw [hz]; exact below_box _ _
        have b8 : Boxed y3 N8 4 (.bool false) := by rw [hz, hN8]; exact Boxed.new _ _ _
        have t8 := b8.lt
        have w8 : w.heap.size ≤ N8 := by have := hb2.size; omega
        have n78 : N7 ≠ N8 := by have := b7.lt; omega
        rw [← hN8, ← hz]
        clear hz hN8
        have zz := kq.size
        have hb3 : Below w.heap.size w y3 := hb2.trans (kq.mono hb2.size)
        have b7 : Boxed y3 N7 3 (.int .i64 0) := boxKeep b7 (kq.block _ b7.lt)
        clear kq zz
        refine hK _ _ ⟨hb3, ?_⟩
        clear hK K hi
        refine wpAnyH_all (rs := [18]) (by kernel_rfl) (by simp) ?_
        intro i hi; obtain rfl : i = 18 := by simpa using hi
        refine wpOp_step rfl (fun K hK => ?_)
        rw [if_pos (by kernel_rfl)]
        have q1 := b7.cell
        have q2 := b7.frozen
        go_simp
        clear q1 q2
        obtain ⟨ya, hya⟩ : ∃ z, z = y3.setCell ⟨N7, 0, none⟩ (.int .i64 g1) := ⟨_, rfl⟩
        have b7 : Boxed ya N7 3 (.int .i64 g1) := by rw [hya]; exact b7.set _
        have b8 : Boxed ya N8 4 (.bool false) := by rw [hya]; exact boxKeep b8 (Below.heap_setCell _ _ _ _ (Ne.symm n78))
        have hba : Below w.heap.size w ya := by rw [hya]; exact hb3.setCell (by show w.heap.size ≤ N7; omega) _
        rw [← hya]
        clear hya
        refine hK _ _ ⟨hba, ?_⟩
        clear hK K hi
        refine wpAnyH_all (rs := [19]) (by kernel_rfl) (by simp) ?_
        intro i hi; obtain rfl : i = 19 := by simpa using hi
        refine wpOp_step rfl (fun K hK => ?_)
        rw [if_pos (by kernel_rfl)]
        have q1 := b8.cell
        have q2 := b8.frozen
        go_simp
        clear q1 q2
        obtain ⟨yb, hyb⟩ : ∃ z, z = ya.setCell ⟨N8, 0, none⟩ (.bool kn) := ⟨_, rfl⟩
        have b7 : Boxed yb N7 3 (.int .i64 g1) := by rw [hyb]; exact boxKeep b7 (Below.heap_setCell _ _ _ _ n78)
        have b8 : Boxed yb N8 4 (.bool kn) := by rw [hyb]; exact b8.set _
        have hbb : Below w.heap.size w yb := by rw [hyb]; exact hba.setCell (by show w.heap.size ≤ N8; omega) _
        rw [← hyb]
        clear hyb
        refine hK _ _ ⟨hbb, ?_⟩
        clear hK K hi
        refine wpAnyH_done (by kernel_rfl) ?_ _
        exact hT.out _ _ ⟨N7, N8, [_, _, _, _, _, _, _, _, _, _, _, _, _, _, _, _], rfl, rfl, b7, b8, w7, w8, n78, hbb⟩
      · refine wpOp_step rfl (fun K hK => ?_)
        rw [if_pos (by kernel_rfl)]
        go_simp
        obtain ⟨N8, hN8⟩ : ∃ n, n = y1.heap.size := ⟨_, rfl⟩
        obtain ⟨y2, hz⟩ : ∃ z, z = y1.alloc (Obj.cells #[.bool false] 4) := ⟨_, rfl⟩
        have kq : Below y1.heap.size y1 y2 := by rw [hz]; exact below_box _ _
        have b8 : Boxed y2 N8 4 (.bool false) := by rw [hz, hN8]; exact Boxed.new _ _ _
        have t8 := b8.lt
        have w8 : w.heap.size ≤ N8 := by have := hb1.size; omega
        have n78 : N7 ≠ N8 := by have := b7.lt; omega
        rw [← hN8, ← hz]
        clear hz hN8
        have zz := kq.size
        have hb2 : Below w.heap.size w y2 := hb1.trans (kq.mono hb1.size)
        have b7 : Boxed y2 N7 3 (.int .i64 0) := boxKeep b7 (kq.block _ b7.lt)
        clear kq zz
        refine hK _ _ ⟨hb2, ?_⟩
        clear hK K hi
        refine wpAnyH_all (rs := [12]) (by kernel_rfl) (by simp) ?_
        intro i hi; obtain rfl : i = 12 := by simpa using hi
        refine wpOp_step rfl (fun K hK => ?_)
        rw [if_pos (by kernel_rfl)]
        go_simp
        go_at_call 20
        refine (whereI adT cT T a c y2 (I.below hb2 ht).vT (by unfold maxLen; omega) (fun x e p => by have := I.iT x e p; have := hb2.size; omega)).mono ?_
        rintro e y3 ⟨rfl, kq⟩
        rw [hg.out]
        have zz := kq.size
        have hb3 : Below w.heap.size w y3 := hb2.trans (kq.mono hb2.size)
        have b7 : Boxed y3 N7 3 (.int .i64 0) := boxKeep b7 (kq.block _ b7.lt)
        have b8 : Boxed y3 N8 4 (.bool false) := boxKeep b8 (kq.block _ b8.lt)
        clear kq zz
        refine hK _ _ ⟨hb3, ?_⟩
        clear hK K hi
        refine takeW 13 11 (.tuple #[.int .i64 g1, .bool kn]) rfl rfl (by kernel_rfl) (by kernel_rfl) (by kernel_rfl) (fun _ _ _ h => h) (by kernel_rfl) (by (intro w hSw; go_simp)) (by assumption) ?_
        simp only [List.set_cons_zero, List.set_cons_succ]
        refine takeW 14 25 (.int .i64 g1) rfl rfl (by kernel_rfl) (by kernel_rfl) (by kernel_rfl) (fun _ _ _ h => h) (by kernel_rfl) (by (intro w hSw; go_simp)) (by assumption) ?_
        simp only [List.set_cons_zero, List.set_cons_succ]
        refine takeW 15 26 (.bool kn) rfl rfl (by kernel_rfl) (by kernel_rfl) (by kernel_rfl) (fun _ _ _ h => h) (by kernel_rfl) (by (intro w hSw; go_simp)) (by assumption) ?_
        simp only [List.set_cons_zero, List.set_cons_succ]
        refine wpAnyH_all (rs := [18]) (by kernel_rfl) (by simp) ?_
        intro i hi; obtain rfl : i = 18 := by simpa using hi
        refine wpOp_step rfl (fun K hK => ?_)
        rw [if_pos (by kernel_rfl)]
        have q1 := b7.cell
        have q2 := b7.frozen
        go_simp
        clear q1 q2
        obtain ⟨ya, hya⟩ : ∃ z, z = y3.setCell ⟨N7, 0, none⟩ (.int .i64 g1) := ⟨_, rfl⟩
        have b7 : Boxed ya N7 3 (.int .i64 g1) := by rw [hya]; exact b7.set _
        have b8 : Boxed ya N8 4 (.bool false) := by rw [hya]; exact boxKeep b8 (Below.heap_setCell _ _ _ _ (Ne.symm n78))
        have hba : Below w.heap.size w ya := by rw [hya]; exact hb3.setCell (by show w.heap.size ≤ N7; omega) _
        rw [← hya]
        clear hya
        refine hK _ _ ⟨hba, ?_⟩
        clear hK K hi
        refine wpAnyH_all (rs := [19]) (by kernel_rfl) (by simp) ?_
        intro i hi; obtain rfl : i = 19 := by simpa using hi
        refine wpOp_step rfl (fun K hK => ?_)
        rw [if_pos (by kernel_rfl)]
        have q1 := b8.cell
        have q2 := b8.frozen
        go_simp
        clear q1 q2
        obtain ⟨yb, hyb⟩ : ∃ z, z = ya.setCell ⟨N8, 0, none⟩ (.bool kn) := ⟨_, rfl⟩
        have b7 : Boxed yb N7 3 (.int .i64 g1) := by rw [hyb]; exact boxKeep b7 (Below.heap_setCell _ _ _ _ n78)
        have b8 : Boxed yb N8 4 (.bool kn) := by rw [hyb]; exact b8.set _
        have hbb : Below w.heap.size w yb := by rw [hyb]; exact hba.setCell (by show w.heap.size ≤ N8; omega) _
        rw [← hyb]
        clear hyb
        refine hK _ _ ⟨hbb, ?_⟩
        clear hK K hi
        refine wpAnyH_done (by kernel_rfl) ?_ _
        exact hT.out _ _ ⟨N7, N8, [_, _, _, _, _, _, _, _, _, _, _, _, _, _, _, _], rfl, rfl, b7, b8, w7, w8, n78, hbb⟩
    · refine wpOp_step rfl (fun K hK => ?_)
      rw [if_pos (by kernel_rfl)]
      go_simp
      obtain ⟨N8, hN8⟩ : ∃ n, n = y0.heap.size := ⟨_, rfl⟩
      obtain ⟨y1, hz⟩ : ∃ z, z = y0.alloc (Obj.cells #[.bool false] 4) := ⟨_, rfl⟩
      have kq : Below y0.heap.size y0 y1 := by rw [hz]; exact below_box _ _
      have b8 : Boxed y1 N8 4 (.bool false) := by rw [hz, hN8]; exact Boxed.new _ _ _
      have t8 := b8.lt
      have w8 : w.heap.size ≤ N8 := by have := hb0.size; omega
      rw [← hN8, ← hz]
      clear hz hN8
      have zz := kq.size
      have hb1 : Below w.heap.size w y1 := hb0.trans (kq.mono hb0.size)
      clear kq zz
      refine hK _ _ ⟨hb1, ?_⟩
      clear hK K hi
      refine wpAnyH_all (rs := [12, 16]) (by kernel_rfl) (by simp) ?_
      intro i hi; rcases (by simpa using hi : i = 12 ∨ i = 16) with rfl | rfl
      · refine wpOp_step rfl (fun K hK => ?_)
        rw [if_pos (by kernel_rfl)]
        go_simp
        go_at_call 20
        refine (whereI adT cT T a c y1 (I.below hb1 ht).vT (by unfold maxLen; omega) (fun x e p => by have := I.iT x e p; have := hb1.size; omega)).mono ?_
        rintro e y2 ⟨rfl, kq⟩
        rw [hg.out]
        have zz := kq.size
        have hb2 : Below w.heap.size w y2 := hb1.trans (kq.mono hb1.size)
        have b8 : Boxed y2 N8 4 (.bool false) := boxKeep b8 (kq.block _ b8.lt)
        clear kq zz
        refine hK _ _ ⟨hb2, ?_⟩
        clear hK K hi
        refine takeW 13 11 (.tuple #[.int .i64 g1, .bool kn]) rfl rfl (by kernel_rfl) (by kernel_rfl) (by kernel_rfl) (fun _ _ _ h => h) (by kernel_rfl) (by (intro w hSw; go_simp)) (by assumption) ?_
        simp only [List.set_cons_zero, List.set_cons_succ]
        refine takeW 14 25 (.int .i64 g1) rfl rfl (by kernel_rfl) (by kernel_rfl) (by kernel_rfl) (fun _ _ _ h => h) (by kernel_rfl) (by (intro w hSw; go_simp)) (by assumption) ?_
        simp only [List.set_cons_zero, List.set_cons_succ]
        refine takeW 15 26 (.bool kn) rfl rfl (by kernel_rfl) (by kernel_rfl) (by kernel_rfl) (fun _ _ _ h => h) (by kernel_rfl) (by (intro w hSw; go_simp)) (by assumption) ?_
        simp only [List.set_cons_zero, List.set_cons_succ]
        refine wpAnyH_all (rs := [16]) (by kernel_rfl) (by simp) ?_
        intro i hi; obtain rfl : i = 16 := by simpa using hi
        refine wpOp_step rfl (fun K hK => ?_)
        rw [if_pos (by kernel_rfl)]
        go_simp
        obtain ⟨N7, hN7⟩ : ∃ n, n = y2.heap.size := ⟨_, rfl⟩
        obtain ⟨y3, hz⟩ : ∃ z, z = y2.alloc (Obj.cells #[.int .i64 0] 3) := ⟨_, rfl⟩
        have kq : Below y2.heap.size y2 y3 := by rw [hz]; exact below_box _ _
        have b7 : Boxed y3 N7 3 (.int .i64 0) := by rw [hz, hN7]; exact Boxed.new _ _ _
        have t7 := b7.lt
        have w7 : w.heap.size ≤ N7 := by have := hb2.size; omega
        have n78 : N7 ≠ N8 := by have := b8.lt; omega
        rw [← hN7, ← hz]
        clear hz hN7
        have zz := kq.size
        have hb3 : Below w.heap.size w y3 := hb2.trans (kq.mono hb2.size)
        have b8 : Boxed y3 N8 4 (.bool false) := boxKeep b8 (kq.block _ b8.lt)
        clear kq zz
        refine hK _ _ ⟨hb3, ?_⟩
        clear hK K hi
        refine wpAnyH_all (rs := [18]) (by kernel_rfl) (by simp) ?_
        intro i hi; obtain rfl : i = 18 := by simpa using hi
        refine wpOp_step rfl (fun K hK => ?_)
        rw [if_pos (by kernel_rfl)]
        have q1 := b7.cell
        have q2 := b7.frozen
        go_simp
        clear q1 q2
        obtain ⟨ya, hya⟩ : ∃ z, z = y3.setCell ⟨N7, 0, none⟩ (.int .i64 g1) := ⟨_, rfl⟩
        have b7 : Boxed ya N7 3 (.int .i64 g1) := by rw [hya]; exact b7.set _
        have b8 : Boxed ya N8 4 (.bool false) := by rw [hya]; exact boxKeep b8 (Below.heap_setCell _ _ _ _ (Ne.symm n78))
        have hba : Below w.heap.size w ya := by rw [hya]; exact hb3.setCell (by show w.heap.size ≤ N7; omega) _
        rw [← hya]
        clear hya
        refine hK _ _ ⟨hba, ?_⟩
        clear hK K hi
        refine wpAnyH_all (rs := [19]) (by kernel_rfl) (by simp) ?_
        intro i hi; obtain rfl : i = 19 := by simpa using hi
        refine wpOp_step rfl (fun K hK => ?_)
        rw [if_pos (by kernel_rfl)]
        have q1 := b8.cell
        have q2 := b8.frozen
        go_simp
        clear q1 q2
        obtain ⟨yb, hyb⟩ : ∃ z, z = ya.setCell ⟨N8, 0, none⟩ (.bool kn) := ⟨_, rfl⟩
        have b7 : Boxed yb N7 3 (.int .i64 g1) := by rw [hyb]; exact boxKeep b7 (Below.heap_setCell _ _ _ _ n78)
        have b8 : Boxed yb N8 4 (.bool kn) := by rw [hyb]; exact b8.set _
        have hbb : Below w.heap.size w yb := by rw [hyb]; exact hba.setCell (by show w.heap.size ≤ N8; omega) _
        rw [← hyb]
        clear hyb
        refine hK _ _ ⟨hbb, ?_⟩
        clear hK K hi
        refine wpAnyH_done (by kernel_rfl) ?_ _
        exact hT.out _ _ ⟨N7, N8, [_, _, _, _, _, _, _, _, _, _, _, _, _, _, _, _], rfl, rfl, b7, b8, w7, w8, n78, hbb⟩
      · refine wpOp_step rfl (fun K hK => ?_)
        rw [if_pos (by kernel_rfl)]
        go_simp
        obtain ⟨N7, hN7⟩ : ∃ n, n = y1.heap.size := ⟨_, rfl⟩
        obtain ⟨y2, hz⟩ : ∃ z, z = y1.alloc (Obj.cells #[.int .i64 0] 3) := ⟨_, rfl⟩
        have kq : Below y1.heap.size y1 y2 := by rw [hz]; exact below_box _ _
        have b7 : Boxed y2 N7 3 (.int .i64 0) := by rw [hz, hN7]; exact Boxed.new _ _ _
        have t7 := b7.lt
        have w7 : w.heap.size ≤ N7 := by have := hb1.size; omega
        have n78 : N7 ≠ N8 := by have := b8.lt; omega
        rw [← hN7, ← hz]
        clear hz hN7
        have zz := kq.size
        have hb2 : Below w.heap.size w y2 := hb1.trans (kq.mono hb1.size)
        have b8 : Boxed y2 N8 4 (.bool false) := boxKeep b8 (kq.block _ b8.lt)
        clear kq zz
        refine hK _ _ ⟨hb2, ?_⟩
        clear hK K hi
        refine wpAnyH_all (rs := [12]) (by kernel_rfl) (by simp) ?_
        intro i hi; obtain rfl : i = 12 := by simpa using hi
        refine wpOp_step rfl (fun K hK => ?_)
        rw [if_pos (by kernel_rfl)]
        go_simp
        go_at_call 20
        refine (whereI adT cT T a c y2 (I.below hb2 ht).vT (by unfold maxLen; omega) (fun x e p => by have := I.iT x e p; have := hb2.size; omega)).mono ?_
        rintro e y3 ⟨rfl, kq⟩
        rw [hg.out]
        have zz := kq.size
        have hb3 : Below w.heap.size w y3 := hb2.trans (kq.mono hb2.size)
        have b7 : Boxed y3 N7 3 (.int .i64 0) := boxKeep b7 (kq.block _ b7.lt)
        have b8 : Boxed y3 N8 4 (.bool false) := boxKeep b8 (kq.block _ b8.lt)
        clear kq zz
        refine hK _ _ ⟨hb3, ?_⟩
        clear hK K hi
        refine takeW 13 11 (.tuple #[.int .i64 g1, .bool kn]) rfl rfl (by kernel_rfl) (by kernel_rfl) (by kernel_rfl) (fun _ _ _ h => h) (by kernel_rfl) (by (intro w hSw; go_simp)) (by assumption) ?_
        simp only [List.set_cons_zero, List.set_cons_succ]
        refine takeW 14 25 (.int .i64 g1) rfl rfl (by kernel_rfl) (by kernel_rfl) (by kernel_rfl) (fun _ _ _ h => h) (by kernel_rfl) (by (intro w hSw; go_simp)) (by assumption) ?_
        simp only [List.set_cons_zero, List.set_cons_succ]
        refine takeW 15 26 (.bool kn) rfl rfl (by kernel_rfl) (by kernel_rfl) (by kernel_rfl) (fun _ _ _ h => h) (by kernel_rfl) (by (intro w hSw; go_simp)) (by assumption) ?_
        simp only [List.set_cons_zero, List.set_cons_succ]
        refine wpAnyH_all (rs := [18]) (by kernel_rfl) (by simp) ?_
        intro i hi; obtain rfl : i = 18 := by simpa using hi
        refine wpOp_step rfl (fun K hK => ?_)
        rw [if_pos (by kernel_rfl)]
        have q1 := b7.cell
        have q2 := b7.frozen
        go_simp
        clear q1 q2
        obtain ⟨ya, hya⟩ : ∃ z, z = y3.setCell ⟨N7, 0, none⟩ (.int .i64 g1) := ⟨_, rfl⟩
        have b7 : Boxed ya N7 3 (.int .i64 g1) := by rw [hya]; exact b7.set _
        have b8 : Boxed ya N8 4 (.bool false) := by rw [hya]; exact boxKeep b8 (Below.heap_setCell _ _ _ _ (Ne.symm n78))
        have hba : Below w.heap.size w ya := by rw [hya]; exact hb3.setCell (by show w.heap.size ≤ N7; omega) _
        rw [← hya]
        clear hya
        refine hK _ _ ⟨hba, ?_⟩
        clear hK K hi
        refine wpAnyH_all (rs := [19]) (by kernel_rfl) (by simp) ?_
        intro i hi; obtain rfl : i = 19 := by simpa using hi
        refine wpOp_step rfl (fun K hK => ?_)
        rw [if_pos (by kernel_rfl)]
        have q1 := b8.cell
        have q2 := b8.frozen
        go_simp
        clear q1 q2
        obtain ⟨yb, hyb⟩ : ∃ z, z = ya.setCell ⟨N8, 0, none⟩ (.bool kn) := ⟨_, rfl⟩
        have b7 : Boxed yb N7 3 (.int .i64 g1) := by rw [hyb]; exact boxKeep b7 (Below.heap_setCell _ _ _ _ n78)
        have b8 : Boxed yb N8 4 (.bool kn) := by rw [hyb]; exact b8.set _
        have hbb : Below w.heap.size w yb := by rw [hyb]; exact hba.setCell (by show w.heap.size ≤ N8; omega) _
        rw [← hyb]
        clear hyb
        refine hK _ _ ⟨hbb, ?_⟩
        clear hK K hi
        refine wpAnyH_done (by kernel_rfl) ?_ _
        exact hT.out _ _ ⟨N7, N8, [_, _, _, _, _, _, _, _, _, _, _, _, _, _, _, _], rfl, rfl, b7, b8, w7, w8, n78, hbb⟩
  rintro l' x1 ⟨N7, N8, us, hul, rfl, b7, b8, w7, w8, n78, B1⟩
  obtain ⟨u11, us, rfl⟩ : ∃ a b, us = a :: b := List.exists_cons_of_length_eq_add_one hul
  replace hul := Nat.succ.inj hul
  obtain ⟨u12, us, rfl⟩ : ∃ a b, us = a :: b := List.exists_cons_of_length_eq_add_one hul
  replace hul := Nat.succ.inj hul
  obtain ⟨u13, us, rfl⟩ : ∃ a b, us = a :: b := List.exists_cons_of_length_eq_add_one hul
  replace hul := Nat.succ.inj hul
  obtain ⟨u14, us, rfl⟩ : ∃ a b, us = a :: b := List.exists_cons_of_length_eq_add_one hul
  replace hul := Nat.succ.inj hul
  obtain ⟨u15, us, rfl⟩ : ∃ a b, us = a :: b := List.exists_cons_of_length_eq_add_one hul
  replace hul := Nat.succ.inj hul
  obtain ⟨u16, us, rfl⟩ : ∃ a b, us = a :: b := List.exists_cons_of_length_eq_add_one hul
  replace hul := Nat.succ.inj hul
  obtain ⟨u17, us, rfl⟩ : ∃ a b, us = a :: b := List.exists_cons_of_length_eq_add_one hul
  replace hul := Nat.succ.inj hul
  obtain ⟨u18, us, rfl⟩ : ∃ a b, us = a :: b := List.exists_cons_of_length_eq_add_one hul
  replace hul := Nat.succ.inj hul
  obtain ⟨u19, us, rfl⟩ : ∃ a b, us = a :: b := List.exists_cons_of_length_eq_add_one hul
  replace hul := Nat.succ.inj hul
  obtain ⟨u20, us, rfl⟩ : ∃ a b, us = a :: b := List.exists_cons_of_length_eq_add_one hul
  replace hul := Nat.succ.inj hul
  obtain ⟨u21, us, rfl⟩ : ∃ a b, us = a :: b := List.exists_cons_of_length_eq_add_one hul
  replace hul := Nat.succ.inj hul
  obtain ⟨u22, us, rfl⟩ : ∃ a b, us = a :: b := List.exists_cons_of_length_eq_add_one hul
  replace hul := Nat.succ.inj hul
  obtain ⟨u23, us, rfl⟩ : ∃ a b, us = a :: b := List.exists_cons_of_length_eq_add_one hul
  replace hul := Nat.succ.inj hul
  obtain ⟨u24, us, rfl⟩ : ∃ a b, us = a :: b := List.exists_cons_of_length_eq_add_one hul
  replace hul := Nat.succ.inj hul
  obtain ⟨u25, us, rfl⟩ : ∃ a b, us = a :: b := List.exists_cons_of_length_eq_add_one hul
  replace hul := Nat.succ.inj hul
  obtain ⟨u26, us, rfl⟩ : ∃ a b, us = a :: b := List.exists_cons_of_length_eq_add_one hul
  replace hul := Nat.succ.inj hul
  obtain rfl : us = [] := List.eq_nil_of_length_eq_zero hul
  clear hul
  simp only [List.take, List.drop, List.cons_append, List.nil_append]
  have l7 := b7.lt
  have l8 := b8.lt
  obtain ⟨N9, hN9⟩ : ∃ n, n = x1.heap.size := ⟨_, rfl⟩
  obtain ⟨x2, hx2⟩ : ∃ z, z = x1.alloc (Obj.cells #[.slice none 0 0] 33) := ⟨_, rfl⟩
  have k2 : Below x1.heap.size x1 x2 := by rw [hx2]; exact below_box _ _
  have b9 : Boxed x2 N9 33 (.slice none 0 0) := by rw [hx2, hN9]; exact Boxed.new _ _ _
  go_wp2_with fail
  go_at_call 96
  rw [← hx2, ← hN9]
  clear hx2
  refine (waysMk P Q (i : Int) x2).mono ?_
  rintro e x3 ⟨rfl, hx3⟩
  obtain ⟨C1, hC1⟩ : ∃ n, n = x2.heap.size := ⟨_, rfl⟩
  rw [← hC1]
  simp only []
  have k3 : Below x2.heap.size x2 x3 := by rw [hx3]; exact (((Below.refl _ _).alloc (Nat.le_refl _) _).alloc (by simp) _).alloc (by simp; omega) _
  have c1 : x3.cell? ⟨C1, 0, none⟩ = some (.pointer (some ⟨P, 0, none⟩)) := by rw [hx3, hC1]; simp [go_sem]
  have c2 : x3.cell? ⟨C1 + 1, 0, none⟩ = some (.int .i64 (i : Int)) := by rw [hx3, hC1]; simp [go_sem]
  have c3 : x3.cell? ⟨C1 + 2, 0, none⟩ = some (.pointer (some ⟨Q, 0, none⟩)) := by rw [hx3, hC1]; simp [go_sem]
  clear hx3
  rename_i KZ hRet KB hBlk KC hKK
  refine hKK _ _ ?_
  show KB _ _
  refine hBlk _ _ ?_
  refine wp_block ?_
  have s2 := k2.size
  have s3 := k3.size
  have s1 := B1.size
  have B2 := B1.trans (k2.mono B1.size)
  have B3 := B2.trans (k3.mono B2.size)
  have l9 := b9.lt
  have lc : C1 + 2 < x3.heap.size := World.block_lt_of_cell? x3 _ c3
  have S0 : SJ w (x3.heap.size + 2) N7 N8 N9 g1 kn [] 0 x3 :=
    ⟨boxKeep (boxKeep b7 (k2.block _ b7.lt)) (k3.block _ (by omega)), boxKeep (boxKeep b8 (k2.block _ b8.lt)) (k3.block _ (by omega)), ⟨.slice none 0 0, [], boxKeep b9 (k3.block _ b9.lt), OC.start _ _, rfl, Nat.le_refl _⟩, B3⟩
  have p7 : N7 < x3.heap.size := by omega
  have p8 : N8 < x3.heap.size := by omega
  have p9 : N9 < x3.heap.size := by omega
  have n79 : N7 ≠ N9 := by omega
  have n89 : N8 ≠ N9 := by omega
  have n9c : N9 < C1 := by omega
  have n9w : w.heap.size ≤ N9 := by omega
  clear b7 b8 b9 hBlk hKK hN9 hC1 k2 k3
  refine rangeWays adO cO O adM cM D adT cT T i a b c adL capL L lo hi P Q w.heap.size C1 (C1 + 1) (C1 + 2)
    (I.below B3 ht) (AA.below B3 hPw) hC hl (FF.below B3 hQw) (vL.carry (fun x e p => B3.block _ (vL.lt x e p))) hlL c1 c2 c3 ht hPw hQw (fun x e p => vL.lt x e p) B3.size hOl rfl rfl
    (fun k W => SJ w (x3.heap.size + 2) N7 N8 N9 g1 kn (goesTo O D (i : Int) ⟨a, b, c, L, true⟩ kn g1 k) k W)
    (fun cd W => cd = .exit 0 ∧ SJ w (x3.heap.size + 2) N7 N8 N9 g1 kn (goesTo O D (i : Int) ⟨a, b, c, L, true⟩ kn g1 O.length) O.length W)
    (fun k W W' h b => h.later b) (fun k W o h => h.putObj o (by omega) (by omega) (by omega) (by omega) (by omega)) (fun cd W o h => ⟨h.1, h.2.putObj o (by omega) (by omega) (by omega) (by omega) (by omega)⟩)
    (fun k W hk hc h => h.to (by rw [goesTo, goes_skip hc, List.append_nil]) (by omega)) ?_ S0 ?_ ?_
  · intro k W0 W ra rb rc ad cap M hk hki hO hout hJ0 hb hv hr hn hi' hlt
    obtain ⟨NB, hNB⟩ : ∃ n, n = W.heap.size := ⟨_, rfl⟩
    obtain ⟨W1, hW1⟩ : ∃ z, z = W.alloc (Obj.cells #[.int .i64 (k : Int), .int .i64 ra, .int .i64 rb, .int .i64 rc, .slice ad M.length cap] 43) := ⟨_, rfl⟩
    have kW : Below W.heap.size W W1 := by rw [hW1]; exact below_box _ _
    have m0 : W1.cell? ⟨NB, 0, none⟩ = some (.int .i64 (k : Int)) := by rw [hW1, hNB]; simp [go_sem]
    have m1 : W1.cell? ⟨NB, 1, none⟩ = some (.int .i64 ra) := by rw [hW1, hNB]; simp [go_sem]
    have m2 : W1.cell? ⟨NB, 2, none⟩ = some (.int .i64 rb) := by rw [hW1, hNB]; simp [go_sem]
    have m3 : W1.cell? ⟨NB, 3, none⟩ = some (.int .i64 rc) := by rw [hW1, hNB]; simp [go_sem]
    have m4 : W1.cell? ⟨NB, 4, none⟩ = some (.slice ad M.length cap) := by rw [hW1, hNB]; simp [go_sem]
    have sb := hb.size
    have sW := kW.size
    have hNBl : NB < W1.heap.size := World.block_lt_of_cell? W1 _ m0
    gi_wp2
    rw [← hW1, ← hNB]
    have hNB1 : W.heap.size ≤ NB := by omega
    clear hW1 hNB
    refine ⟨kW.block _ (by omega), kW.block _ (by omega), fun o => ?_⟩
    obtain ⟨W2, hW2⟩ : ∃ z, z = W1.putObj (x3.heap.size + 1) o := ⟨_, rfl⟩
    rw [← hW2]
    have s22 : W2.heap.size = W1.heap.size := by rw [hW2, World.putObj_size]
    have e2 : ∀ j, j ≠ x3.heap.size + 1 → W2.heap[j]? = W1.heap[j]? := fun j hj => by rw [hW2]; exact World.putObj_heap_other hj
    have hJ2 := hJ0.putObj (l := x3.heap.size + 1) o (by omega) (by omega) (by omega) (by omega) (by omega)
    have sz0 : (W0.putObj (x3.heap.size + 1) o).heap.size = W0.heap.size := World.putObj_size
    have k02 : Below (W0.putObj (x3.heap.size + 1) o).heap.size (W0.putObj (x3.heap.size + 1) o) W2 := by
      rw [sz0]
      have k01 := hb.trans (kW.mono hb.size)
      refine ⟨by rw [hW2]; exact k01.os, by rw [hW2]; exact k01.tape, by rw [hW2]; exact k01.output, by rw [sz0, s22]; exact k01.size, fun j hj => ?_⟩
      by_cases e : j = x3.heap.size + 1
      · subst e
        rw [hW2, World.putObj_heap_same (by omega), World.putObj_heap_same hj]
      · rw [e2 j e, World.putObj_heap_other e]
        exact k01.block j hj
    obtain ⟨W0', hW0'⟩ : ∃ z, z = W0.putObj (x3.heap.size + 1) o := ⟨_, rfl⟩
    rw [← hW0'] at hJ2 sz0 k02
    clear hW0'
    have u0 : W2.cell? ⟨NB, 0, none⟩ = some (.int .i64 (k : Int)) := (World.cell?_of_block (a := ⟨NB, 0, none⟩) (e2 NB (by omega))).trans m0
    have u1 : W2.cell? ⟨NB, 1, none⟩ = some (.int .i64 ra) := (World.cell?_of_block (a := ⟨NB, 1, none⟩) (e2 NB (by omega))).trans m1
    have u2 : W2.cell? ⟨NB, 2, none⟩ = some (.int .i64 rb) := (World.cell?_of_block (a := ⟨NB, 2, none⟩) (e2 NB (by omega))).trans m2
    have u3 : W2.cell? ⟨NB, 3, none⟩ = some (.int .i64 rc) := (World.cell?_of_block (a := ⟨NB, 3, none⟩) (e2 NB (by omega))).trans m3
    have u4 : W2.cell? ⟨NB, 4, none⟩ = some (.slice ad M.length cap) := (World.cell?_of_block (a := ⟨NB, 4, none⟩) (e2 NB (by omega))).trans m4
    have J2 := hJ2.later k02
    have kp2 : ∀ j, j < w.heap.size ∨ j = C1 ∨ j = C1 + 1 ∨ j = C1 + 2 → W2.heap[j]? = W.heap[j]? := fun j hj => (e2 j (by omega)).trans (kW.block j (by omega))
    have vM := hv.carry (w' := W2) (fun x e p => (e2 _ (by have := hi' x e; omega)).trans (kW.block _ (hi' x e).2))
    have rM := hr.carry (w' := W2) (fun x e p => (e2 _ (by have := hi' x e; omega)).trans (kW.block _ (hi' x e).2))
    have lt2 : W0.heap.size ≤ W2.heap.size := by omega
    have q7 := J2.b7.cell
    have q8 := J2.b8.cell
    obtain ⟨v, Ns, b9', oc', hd, hn9⟩ := hJ2.ex
    have b9 := boxKeep b9' (k02.block _ b9'.lt)
    have oc := oc'.later k02 (Nat.le_refl _)
    have q9 := b9.cell
    have f9 := b9.frozen
    have s2a : W2.heap.size ≤ W1.heap.size := by omega
    have s2b : W1.heap.size ≤ W2.heap.size := by omega
    have sz0a : W0'.heap.size ≤ W0.heap.size := by omega
    have sz0b : W0.heap.size ≤ W0'.heap.size := by omega
    clear m0 m1 m2 m3 m4 hv hr hW2 hJ0 s22 sz0
    cases kn with
    | false =>
      obtain ⟨w1, hw1⟩ : ∃ z, z = W2.alloc (Obj.cells #[.int .i64 (k : Int), .int .i64 ra, .int .i64 rb, .int .i64 rc, .slice ad M.length cap] 43) := ⟨_, rfl⟩
      have k1 : Below W2.heap.size W2 w1 := by rw [hw1]; exact below_box _ _
      have kk1 : Below W0'.heap.size W0' w1 := k02.trans (k1.mono k02.size)
      have oc1 : (W2.alloc (Obj.cells #[.int .i64 (k : Int), .int .i64 ra, .int .i64 rb, .int .i64 rc, .slice ad M.length cap] 43)).ownsRow (x3.heap.size + 2) 43 5 v Ns.length (ocells Ns) := by rw [← hw1]; exact (oc.later k1 (Nat.le_refl _)).own
      have vM1 := vM.carry (w' := w1) (fun x e p => k1.block _ (by have := hi' x e; omega))
      have rM1 := rM.carry (w' := w1) (fun x e p => k1.block _ (by have := hi' x e; omega))
      have sw1 : w1.heap.size ≤ W2.heap.size + 1 := by rw [hw1]; simp
      have sw2 : W2.heap.size + 1 ≤ w1.heap.size := by rw [hw1]; simp
      gi_wp2_with (gi_at_builtin; refine wpListIn_append_own_at _ rfl _ _ 33 rfl (x3.heap.size + 2) 43 i1 (.agg #[.int .i64 0, .int .i64 0, .int .i64 0, .int .i64 0, .slice none 0 0]) 5 56 Tryz.underOutW hj hy0 hy1 hy2 rfl (by decide) _ _ _ rfl oc1 ⟨W2.heap.size, 0, none⟩ 1 1 [.int .i64 (k : Int), .int .i64 ra, .int .i64 rb, .int .i64 rc, .slice ad M.length cap] rfl ?a0x ?a1x ?a2x ?a3x ?a4x ?a5x ?_)
      try (case a0x => rfl)
      try (case a1x => exact cells5W W2 _ _ _ _ _ _)
      case a2x => first | exact ⟨rfl, rfl, rfl, rfl, rfl⟩ | (intro u hu; simp at hu; rcases hu with rfl | rfl | rfl | rfl | rfl <;> rfl)
      case a3x => unfold maxLen; omega
      case a4x => omega
      case a5x => first | omega | (simp; omega)
      intro v4 y4 o4 g4 _ e4
      rw [← hw1] at g4
      have e4' : v4.ownBlock = v.ownBlock ∨ v4.ownBlock = some w1.heap.size := by rw [hw1, show (W2.alloc (Obj.cells #[.int .i64 (k : Int), .int .i64 ra, .int .i64 rb, .int .i64 rc, .slice ad M.length cap] 43)).heap.size = W2.heap.size + 1 by simp]; exact e4
      have oc4 := oc'.push (B := 0) (m := ⟨(k : Int), ra, rb, rc, ad, cap, M⟩) kk1 vM1 rM1 hn (fun x e _ => ⟨by have := (hi' x e).1; omega, by have := (hi' x e).2; omega⟩) (by omega) o4 g4 e4'
      obtain ⟨g', cap', rfl⟩ := ownsRow_succ o4
      have ob : ∀ j, v.ownBlock = some j → x3.heap.size + 2 ≤ j := fun j q => (own_lt oc.own j q).1
      have y9 : ∀ j, j < x3.heap.size + 2 → y4.heap[j]? = W2.heap[j]? := fun j hj => (g4.block j (by omega) (fun q => by have := ob j q.symm; omega)).trans (k1.block j (by omega))
      have b94 := boxKeep b9 (y9 N9 (by omega))
      have q94 := b94.cell
      have f94 := b94.frozen
      have q84 := (boxKeep J2.b8 (y9 N8 (by omega))).cell
      obtain ⟨W5, hW5⟩ : ∃ z, z = y4.setCell ⟨N9, 0, none⟩ (.slice (some ⟨g', 0, none⟩) (Ns.length + 1) cap') := ⟨_, rfl⟩
      have e5 : ∀ j, j ≠ N9 → W5.heap[j]? = y4.heap[j]? := fun j hj => by rw [hW5]; exact Below.heap_setCell _ _ _ _ hj
      have ch : ∀ j, j < x3.heap.size + 2 → j ≠ N9 → W5.heap[j]? = W2.heap[j]? := fun j h1 h2 => (e5 j h2).trans (y9 j h1)
      have s5 : W5.heap.size ≤ y4.heap.size := by rw [hW5]; simp
      have s5b : y4.heap.size ≤ W5.heap.size := by rw [hW5]; simp
      have gs4 := g4.size
      have b95 : Boxed W5 N9 33 (.slice (some ⟨g', 0, none⟩) (Ns.length + 1) cap') := by rw [hW5]; exact b94.set _
      have q85 : W5.cell? ⟨N8, 0, none⟩ = some (.bool false) := (World.cell?_of_block (a := ⟨N8, 0, none⟩) (e5 N8 (by omega))).trans q84
      have bel5 : Below w.heap.size w W5 := by
        refine ⟨?_, ?_, ?_, by have := J2.bel.size; omega, fun j hj => (ch j (by omega) (by omega)).trans (J2.bel.block j hj)⟩
        · rw [hW5]; exact g4.os.trans (k1.os.trans J2.bel.os)
        · rw [hW5]; exact g4.tape.trans (k1.tape.trans J2.bel.tape)
        · rw [hW5]; exact g4.output.trans (k1.output.trans J2.bel.output)
      have J5 : SJ w (x3.heap.size + 2) N7 N8 N9 g1 false (Ns.map Ob.d ++ [((k : Int), ra, rb, rc, M)]) (k + 1) W5 :=
        ⟨boxKeep J2.b7 (ch N7 (by omega) (by omega)), boxKeep J2.b8 (ch N8 (by omega) (by omega)), ⟨_, _, b95, oc4.same (fun j hj _ => e5 j (by omega)) (by omega), by rw [List.map_append]; rfl, by simp; omega⟩, bel5⟩
      have kp5 : KpW w.heap.size C1 (C1 + 1) (C1 + 2) W W5 := ⟨by omega, fun j hj => (ch j (by omega) (by omega)).trans (kp2 j hj)⟩
      clear o4 g4 e4 e4' oc4 oc1 vM1 rM1 hw1 kk1
      rw [hW5] at q85
      gi_wp2
      rw [← hW5]
      exact ⟨⟨ch _ (by omega) (by omega), ch _ (by omega) (by omega)⟩, J5.to (by rw [hd, goesTo, goes_one hki hO hout rfl]) (Nat.le_refl _), kp5⟩
    | true =>
      by_cases hkg : (k : Int) = g1
      · subst hkg
        have hne : ((k : Int) != (k : Int)) = false := by simp
        obtain ⟨w1, hw1⟩ : ∃ z, z = W2.alloc (Obj.cells #[.int .i64 (k : Int), .int .i64 ra, .int .i64 rb, .int .i64 rc, .slice ad M.length cap] 43) := ⟨_, rfl⟩
        have k1 : Below W2.heap.size W2 w1 := by rw [hw1]; exact below_box _ _
        have kk1 : Below W0'.heap.size W0' w1 := k02.trans (k1.mono k02.size)
        have oc1 : (W2.alloc (Obj.cells #[.int .i64 (k : Int), .int .i64 ra, .int .i64 rb, .int .i64 rc, .slice ad M.length cap] 43)).ownsRow (x3.heap.size + 2) 43 5 v Ns.length (ocells Ns) := by rw [← hw1]; exact (oc.later k1 (Nat.le_refl _)).own
        have vM1 := vM.carry (w' := w1) (fun x e p => k1.block _ (by have := hi' x e; omega))
        have rM1 := rM.carry (w' := w1) (fun x e p => k1.block _ (by have := hi' x e; omega))
        have sw1 : w1.heap.size ≤ W2.heap.size + 1 := by rw [hw1]; simp
        have sw2 : W2.heap.size + 1 ≤ w1.heap.size := by rw [hw1]; simp
        gi_wp2_with (gi_at_builtin; refine wpListIn_append_own_at _ rfl _ _ 33 rfl (x3.heap.size + 2) 43 i1 (.agg #[.int .i64 0, .int .i64 0, .int .i64 0, .int .i64 0, .slice none 0 0]) 5 56 Tryz.underOutW hj hy0 hy1 hy2 rfl (by decide) _ _ _ rfl oc1 ⟨W2.heap.size, 0, none⟩ 1 1 [.int .i64 (k : Int), .int .i64 ra, .int .i64 rb, .int .i64 rc, .slice ad M.length cap] rfl ?a0y ?a1y ?a2y ?a3y ?a4y ?a5y ?_)
        try (case a0y => rfl)
        try (case a1y => exact cells5W W2 _ _ _ _ _ _)
        case a2y => first | exact ⟨rfl, rfl, rfl, rfl, rfl⟩ | (intro u hu; simp at hu; rcases hu with rfl | rfl | rfl | rfl | rfl <;> rfl)
        case a3y => unfold maxLen; omega
        case a4y => omega
        case a5y => first | omega | (simp; omega)
        intro v4 y4 o4 g4 _ e4
        rw [← hw1] at g4
        have e4' : v4.ownBlock = v.ownBlock ∨ v4.ownBlock = some w1.heap.size := by rw [hw1, show (W2.alloc (Obj.cells #[.int .i64 (k : Int), .int .i64 ra, .int .i64 rb, .int .i64 rc, .slice ad M.length cap] 43)).heap.size = W2.heap.size + 1 by simp]; exact e4
        have oc4 := oc'.push (B := 0) (m := ⟨(k : Int), ra, rb, rc, ad, cap, M⟩) kk1 vM1 rM1 hn (fun x e _ => ⟨by have := (hi' x e).1; omega, by have := (hi' x e).2; omega⟩) (by omega) o4 g4 e4'
        obtain ⟨g', cap', rfl⟩ := ownsRow_succ o4
        have ob : ∀ j, v.ownBlock = some j → x3.heap.size + 2 ≤ j := fun j q => (own_lt oc.own j q).1
        have y9 : ∀ j, j < x3.heap.size + 2 → y4.heap[j]? = W2.heap[j]? := fun j hj => (g4.block j (by omega) (fun q => by have := ob j q.symm; omega)).trans (k1.block j (by omega))
        have b94 := boxKeep b9 (y9 N9 (by omega))
        have q94 := b94.cell
        have f94 := b94.frozen
        have q84 := (boxKeep J2.b8 (y9 N8 (by omega))).cell
        obtain ⟨W5, hW5⟩ : ∃ z, z = y4.setCell ⟨N9, 0, none⟩ (.slice (some ⟨g', 0, none⟩) (Ns.length + 1) cap') := ⟨_, rfl⟩
        have e5 : ∀ j, j ≠ N9 → W5.heap[j]? = y4.heap[j]? := fun j hj => by rw [hW5]; exact Below.heap_setCell _ _ _ _ hj
        have ch : ∀ j, j < x3.heap.size + 2 → j ≠ N9 → W5.heap[j]? = W2.heap[j]? := fun j h1 h2 => (e5 j h2).trans (y9 j h1)
        have s5 : W5.heap.size ≤ y4.heap.size := by rw [hW5]; simp
        have s5b : y4.heap.size ≤ W5.heap.size := by rw [hW5]; simp
        have gs4 := g4.size
        have b95 : Boxed W5 N9 33 (.slice (some ⟨g', 0, none⟩) (Ns.length + 1) cap') := by rw [hW5]; exact b94.set _
        have q85 : W5.cell? ⟨N8, 0, none⟩ = some (.bool true) := (World.cell?_of_block (a := ⟨N8, 0, none⟩) (e5 N8 (by omega))).trans q84
        have bel5 : Below w.heap.size w W5 := by
          refine ⟨?_, ?_, ?_, by have := J2.bel.size; omega, fun j hj => (ch j (by omega) (by omega)).trans (J2.bel.block j hj)⟩
          · rw [hW5]; exact g4.os.trans (k1.os.trans J2.bel.os)
          · rw [hW5]; exact g4.tape.trans (k1.tape.trans J2.bel.tape)
          · rw [hW5]; exact g4.output.trans (k1.output.trans J2.bel.output)
        have J5 : SJ w (x3.heap.size + 2) N7 N8 N9 (k : Int) true (Ns.map Ob.d ++ [((k : Int), ra, rb, rc, M)]) (k + 1) W5 :=
          ⟨boxKeep J2.b7 (ch N7 (by omega) (by omega)), boxKeep J2.b8 (ch N8 (by omega) (by omega)), ⟨_, _, b95, oc4.same (fun j hj _ => e5 j (by omega)) (by omega), by rw [List.map_append]; rfl, by simp; omega⟩, bel5⟩
        have kp5 : KpW w.heap.size C1 (C1 + 1) (C1 + 2) W W5 := ⟨by omega, fun j hj => (ch j (by omega) (by omega)).trans (kp2 j hj)⟩
        clear o4 g4 e4 e4' oc4 oc1 vM1 rM1 hw1 kk1
        rw [hW5] at q85
        gi_wp2
        rw [← hW5]
        exact ⟨⟨ch _ (by omega) (by omega), ch _ (by omega) (by omega)⟩, rfl, J5.to (by
          obtain ⟨n, hn'⟩ : ∃ n, O.length = k + 1 + n := ⟨O.length - (k + 1), by omega⟩
          rw [hn', goes_after n, hd, goes_before (Int.le_refl _), goes_one hki hO hout (by simp)]
          rfl) (by omega)⟩
      · have hne : ((k : Int) != g1) = true := by simp [hkg]
        gi_wp2
        exact ⟨⟨rfl, rfl⟩, J2.to (by rw [goesTo, goes_other hkg, List.append_nil]) (by omega), ⟨by omega, kp2⟩⟩
  · intro W hJ hD
    refine hRet _ _ ?_
    obtain ⟨v, Ns, b9, oc, hd, hn⟩ := hJ.ex
    obtain ⟨aL, kL, fp, rfl, OW, hfp⟩ := oc.done
    have q1 := b9.cell
    have bel := hJ.bel
    clear hJ oc b9 S0
    go_wp2
    refine ⟨by simp, .inl ⟨_, _, rfl, run_takeDeferred hD, ?_⟩⟩
    exact ⟨_, results_tmp rfl _ _ _, aL, kL, Ns, fp, rfl, hd, OW.carryP (fun x hx => World.putObj_heap_other (by have := hfp x hx; omega)), fun x hx => by rw [World.putObj_size]; have := hfp x hx; omega, ⟨bel.os, bel.tape, bel.output, by rw [World.putObj_size]; exact bel.size, fun j hj => (World.putObj_heap_other (by omega)).trans (bel.block j hj)⟩⟩
  · rintro cd W ⟨rfl, hJ⟩ hD
    obtain ⟨v, Ns, b9, oc, hd, hn⟩ := hJ.ex
    obtain ⟨aL, kL, fp, rfl, OW, hfp⟩ := oc.done
    have q1 := b9.cell
    have bel := hJ.bel
    clear hJ oc b9 S0
    go_wp2
    refine ⟨by simp, .inl ⟨_, _, rfl, run_takeDeferred hD, ?_⟩⟩
    exact ⟨_, results_tmp rfl _ _ _, aL, kL, Ns, fp, rfl, hd, OW.carryP (fun x hx => World.putObj_heap_other (by have := hfp x hx; omega)), fun x hx => by rw [World.putObj_size]; have := hfp x hx; omega, ⟨bel.os, bel.tape, bel.output, by rw [World.putObj_size]; exact bel.size, fun j hj => (World.putObj_heap_other (by omega)).trans (bel.block j hj)⟩⟩

end Go.Proofs.YtifndemkkaelaaaGreat
