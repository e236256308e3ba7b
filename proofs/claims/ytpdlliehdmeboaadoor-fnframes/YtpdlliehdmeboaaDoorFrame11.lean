/- spec.FrameOf, walked. -/
import Derived.Test.YtpdlliehdmeboaaDoorRows
import Derived.WalkKit
import Derived.ProofKit
import Derived.OpenShut
import Derived.ShutString
import Derived.ChangeOld
import Derived.Below
import Derived.Deep.QuietTactic
import Derived.BigQuiet
import Derived.WalkSmall
import Derived.Laws.OwnMore
import Derived.WalkSpells
import Derived.WalkLawsBesides
import Derived.Test.YtpdlliehdmeboaaDoorFrame10
import Derived.Test.YtpdlliehdmeboaaDoorTakes
namespace Go.Proofs.YtpdlliehdmeboaaDoor
open Go.ChangeShapes Go.WideShapes Go.ChangeAt Go.RowKit
open Go.ChangeMaps (open_string shut_string)
set_option linter.unusedVariables false

theorem own_view2 {w : World} {base E n cap : Nat} {ad : Option Addr} {L : List Int} (h : w.ownsRow base E 1 (.slice ad n cap) n (L.map (Value.int .u8))) : View w ad n (fun i => L.getD i 0) ∧ Room w ad n ∧ ∀ a, ad = some a → base ≤ a.block ∧ a.block < w.heap.size := by
  obtain ⟨_, ad', cap', e, v, r, m⟩ := own_view h
  cases e
  exact ⟨v, r, m⟩
theorem own_keep2 {w w' : World} {base E n cap g : Nat} {ad : Option Addr} {xs : List Value} (h : w.ownsRow base E 1 (.slice ad n cap) n xs) (hne : ∀ x : Addr, ad = some x → x.block ≠ g) (k : ∀ k, k ≠ g → w'.heap[k]? = w.heap[k]?) : w'.ownsRow base E 1 (.slice ad n cap) n xs := by
  refine ⟨h.1, ?_⟩
  rcases h.2 with h | ⟨q, cap', cur, e, hb, hg, r⟩
  · exact .inl h
  · cases e
    exact .inr ⟨q, cap, cur, rfl, hb, (k q (hne _ rfl)).trans hg, r⟩
theorem ne_type {w : World} {base n cap P : Nat} {ad : Option Addr} {xs : List Value} (h : w.ownsRow base 5 1 (.slice ad n cap) n xs) (hp : ∃ cs fr, w.heap[P]? = some (.cells cs 25 fr)) : ∀ x : Addr, ad = some x → x.block ≠ P := by
  intro x hx e
  obtain ⟨cs, fr, hp⟩ := hp
  rcases h.2 with ⟨h, _⟩ | ⟨q, cap', cur, e', hb, hg, r⟩
  · cases h; cases hx
  · cases e'
    cases hx
    have e : q = P := e
    rw [e, hp] at hg
    simp at hg
theorem FrameAt.grown {w w' : World} {p k : Nat} {a b c : Int} {ad : Option Addr} {len cap : Nat} (h : FrameAt w p a b c ad len cap) (g : w.grownBy w' (some k)) (hne : p ≠ k) : FrameAt w' p a b c ad len cap := by
  have e : w'.heap[p]? = w.heap[p]? := g.block p h.lt (by simp; omega)
  exact ⟨(World.cell?_of_block (a := ⟨p, 0, none⟩) e).trans h.1, (World.cell?_of_block (a := ⟨p, 1, none⟩) e).trans h.2.1, (World.cell?_of_block (a := ⟨p, 2, none⟩) e).trans h.2.2.1, (World.cell?_of_block (a := ⟨p, 3, none⟩) e).trans h.2.2.2⟩
/-- Bytes put behind an empty slice, as one operation. -/
theorem app_op {w : World} {o : Oper} {a : Act} {K : Act → World → Prop} {Q : Exit → Act → World → Prop} (s x : Operand) (ho : o.op = .call { callee := .builtin .append, args := #[s, x], argTypes := #[22, 22] })
    (EB : Nat) (hs : a.eval s = .slice (some ⟨EB, 0, none⟩) 0 0) (hown : w.ownsRow EB 5 1 (.slice (some ⟨EB, 0, none⟩) 0 0) ([] : List Int).length (([] : List Int).map (Value.int .u8))) (q : Addr) (cap : Nat) (L : List Int) (hx : a.eval x = .slice (some q) L.length cap)
    (hv : View w (some q) L.length (fun i => L.getD i 0)) (hlen : L.length ≤ 1048576) (hbase : EB ≤ w.heap.size)
    (h : ∀ v' w', w'.ownsRow EB 5 1 v' L.length (L.map (Value.int .u8)) → w.grownBy w' (some EB) → K (a.put o.dst v') w') : o.wp Tryd.prog a w K Q := by
  obtain ⟨i0, hi, hz0, hz1, hz2⟩ := info_parts Tryd.info5
  refine wp_append_own _ s x 22 ho EB 5 i0 (.int .u8 0) 1 1 Tryd.underlying22 hi hz0 hz1 hz2 rfl (by decide) _ _ _ hs hown q L.length cap (L.map (Value.int .u8)) hx (by simp) hv.add ?_ ?_ ?_ hbase ?_
  · intro u hu
    obtain ⟨y, _, rfl⟩ := List.mem_map.1 hu
    rfl
  · simp; unfold maxLen; omega
  · simp; omega
  · intro v' w' h1 h2 _
    exact h v' w' (by simpa using h1) h2
set_option maxHeartbeats 8000000 in
theorem ofSpec (ad : Option Addr) (cap : Nat) (L : List Int) (w : World) (hv : View w ad L.length (fun i => L.getD i 0)) (hL : ∀ x ∈ L, 0 ≤ x ∧ x ≤ 255) (hm : L.length ≤ 1048576) (hcap : L.length ≤ cap) (hcm : cap ≤ maxLen) :
    Calls Tryd.prog 10 #[.slice ad L.length cap] w fun e w' => OfEnd w.heap.size (frameOf L) e w' ∧ Below w.heap.size w w' := by
  have hbd := getD_bd hL
  obtain ⟨w3, hx⟩ : ∃ x, x = w.alloc (Obj.cells #[.int .i64 0, .int .i64 0, .int .i64 0, .slice none 0 0] 25) := ⟨_, rfl⟩
  have F0 : FrameAt w3 w.heap.size 0 0 0 none 0 0 := by rw [hx]; exact frameAt_box w _ _ _ _ _ _ _
  have G3 : ∀ i, w3.frozen? ⟨w.heap.size, i, none⟩ = false := by intro i; rw [hx]; simp [go_sem]
  have k3 : Below w.heap.size w w3 := by rw [hx]; exact below_box w _
  have S0 : w.heap.size < w3.heap.size := by rw [hx]; exact size_box w _
  have hv3 := hv.carry (w' := w3) (fun y h hp => k3.block _ (hv.lt y h hp))
  have hG := getSpec ad L.length cap (fun i => L.getD i 0) 3 w3 hv3 hm hbd (by omega) (by omega)
  rcases of_ways L with ⟨h, e⟩ | ⟨p, q, h, hp, hq, hpl, hne, e⟩ | ⟨p, q, h, hp, hlen, e⟩
  · rw [show getFrom (L.length : Int) 3 (fun i => L.getD ((3 : Int).toNat + i) 0) 5 0 = none from h] at hG
    rw [e]
    clear e h
    obtain ⟨C1, C2, C3, C4⟩ := F0
    have e0 := G3 0
    have e1 := G3 1
    have e2 := G3 2
    have e3 := G3 3
    go_enter Tryd.func10, Tryd.ntmps10
    go_wp2_with fail
    go_at_call 29
    rw [← hx]
    clear hx
    refine hG.mono ?_
    rintro e w4 ⟨rfl, h4⟩
    rw [h4]
    clear h4 w4
    simp only [getRes]
    go_wp2
    refine bodyPost_ret (v := .tuple #[.agg #[.int .i64 0, .int .i64 0, .int .i64 0, .slice none 0 0], .bool false]) (by simp [results, Tryd.results10, go_sem, *]) rfl ⟨⟨none, 0, rfl, World.ownsRow_nil _ _ _ _⟩, ?_⟩
    exact (((k3.setCell (by simp) _).setCell (by simp) _).setCell (by simp) _).setCell (by simp) _
  · rw [show getFrom (L.length : Int) 3 (fun i => L.getD ((3 : Int).toNat + i) 0) 5 0 = some ((q : Int), (p : Int)) from h] at hG
    rw [e]
    clear e h
    have hd : decide ((q : Int) = (L.length : Int) - (p : Int) - 4) = false := decide_eq_false hne
    obtain ⟨C1, C2, C3, C4⟩ := F0
    have e0 := G3 0
    have e1 := G3 1
    have e2 := G3 2
    have e3 := G3 3
    go_enter Tryd.func10, Tryd.ntmps10
    go_wp2_with fail
    go_at_call 29
    rw [← hx]
    clear hx
    refine hG.mono ?_
    rintro e w4 ⟨rfl, h4⟩
    rw [h4]
    clear h4 w4
    simp only [getRes]
    go_wp2
    refine bodyPost_ret (v := .tuple #[.agg #[.int .i64 0, .int .i64 0, .int .i64 0, .slice none 0 0], .bool false]) (by simp [results, Tryd.results10, go_sem, *]) rfl ⟨⟨none, 0, rfl, World.ownsRow_nil _ _ _ _⟩, ?_⟩
    exact (((k3.setCell (by simp) _).setCell (by simp) _).setCell (by simp) _).setCell (by simp) _
  · rw [show getFrom (L.length : Int) 3 (fun i => L.getD ((3 : Int).toNat + i) 0) 5 0 = some ((q : Int), (p : Int)) from h] at hG
    rw [e]
    clear e h
    obtain ⟨bb, off, rfl, hc⟩ := hv (by omega)
    have cut0 := cut_view hv p q (by omega)
    have cutb := cut_bd hL p q
    obtain ⟨M, hM⟩ : ∃ M, M = (L.drop p).take q := ⟨_, rfl⟩
    have hMq : M.length = q := by rw [hM]; simp; omega
    rw [← hM] at cut0 cutb ⊢
    clear hM
    subst hMq
    obtain ⟨g0, hg0⟩ : ∃ g, g = L.getD 0 0 := ⟨_, rfl⟩
    obtain ⟨g1, hg1⟩ : ∃ g, g = L.getD 1 0 := ⟨_, rfl⟩
    obtain ⟨g2, hg2⟩ : ∃ g, g = L.getD 2 0 := ⟨_, rfl⟩
    rw [← hg0, ← hg1, ← hg2]
    have c0 := hc 0 (by omega)
    have c1 := hc 1 (by omega)
    have c2 := hc 2 (by omega)
    have d0 := hbd 0
    have d1 := hbd 1
    have d2 := hbd 2
    simp only [] at c0 c1 c2
    rw [← hg0] at c0 d0
    rw [← hg1] at c1 d1
    rw [← hg2] at c2 d2
    rw [Nat.add_zero] at c0
    clear hg0 hg1 hg2 hc
    have x0 : IntKind.i64.wrap g0 = g0 := by rw [IntKind.wrap_i64]; omega
    have x1 : IntKind.i64.wrap g1 = g1 := by rw [IntKind.wrap_i64]; omega
    have x2 : IntKind.i64.wrap g2 = g2 := by rw [IntKind.wrap_i64]; omega
    have hbl : bb < w.heap.size := World.block_lt_of_cell? w _ c0
    have hq4 : (L.length : Int) - (p : Int) - 4 = (M.length : Int) := by omega
    have hpq : (p : Int) + (M.length : Int) ≤ (cap : Int) := by omega
    have hpq' : p + M.length ≤ cap := by omega
    have hcp0 : p < cap := by omega
    have hMm : M.length ≤ 1048576 := by omega
    have hL0 : 3 < L.length := by omega
    have hmx : (cap : Int) ≤ 9223372036854775807 := by unfold maxLen at hcm; omega
    clear hlen
    have xw : IntKind.i64.wrap ((p : Int) + (M.length : Int)) = (p : Int) + (M.length : Int) := by rw [IntKind.wrap_i64]; omega
    have hcp : ¬ cap = p := by omega
    have htn : ((p : Int) + (M.length : Int)).toNat = p + M.length := by omega
    have hge : 0 ≤ (p : Int) + (M.length : Int) := by omega
    go_enter Tryd.func10, Tryd.ntmps10
    go_wp2_with fail
    go_at_call 29
    rw [← hx]
    clear hx
    refine hG.mono ?_
    clear hG
    rintro e w4 ⟨rfl, h4⟩
    rw [h4]
    clear h4 w4
    simp only [getRes]
    have hc0 : ∀ Y, Below w3.heap.size w3 Y → Y.cell? ⟨bb, off, none⟩ = some (.int .u8 g0) := fun Y h => ((k3.trans (h.mono k3.size)).cell (p := ⟨bb, off, none⟩) hbl).trans c0
    have hc1 : ∀ Y, Below w3.heap.size w3 Y → Y.cell? ⟨bb, off + 1, none⟩ = some (.int .u8 g1) := fun Y h => ((k3.trans (h.mono k3.size)).cell (p := ⟨bb, off + 1, none⟩) hbl).trans c1
    have hc2 : ∀ Y, Below w3.heap.size w3 Y → Y.cell? ⟨bb, off + 2, none⟩ = some (.int .u8 g2) := fun Y h => ((k3.trans (h.mono k3.size)).cell (p := ⟨bb, off + 2, none⟩) hbl).trans c2
    have cut := cut0.carry (w' := w3) (fun x h hp => k3.block _ (cut0.lt x h hp))
    go_wp2_with fail
    refine wp_region_held (S := fun Y => Below w3.heap.size w3 Y) (by kernel_rfl) ?_
    change wpAnyH _ _ _ _ _ _ _ _ (World.drew _)
    obtain ⟨z0, hz0⟩ : ∃ z, z = World.drew w3 := ⟨_, rfl⟩
    have hbz0 : Below w3.heap.size w3 z0 := by rw [hz0]; exact (Below.refl _ _).drew
    rw [← hz0]
    clear hz0
    have rz0 := hbz0.size
    refine takeW 0 26 (.slice (some ⟨bb, off, none⟩) L.length cap) rfl rfl (by kernel_rfl) (by kernel_rfl) (by kernel_rfl) (fun _ _ _ h => h) (by kernel_rfl) (by (intro w hSw; go_simp)) (by assumption) ?_
    simp only [List.set_cons_zero, List.set_cons_succ]
    refine takeW 1 27 (.pointer (some ⟨bb, off, none⟩)) rfl rfl (by kernel_rfl) (by kernel_rfl) (by kernel_rfl) (fun _ _ _ h => h) (by kernel_rfl) (by (intro w hSw; go_simp; intro hh; exfalso; first | omega | (rw [hh] at hL0; simp at hL0))) (by assumption) ?_
    simp only [List.set_cons_zero, List.set_cons_succ]
    refine takeW 2 28 (.int .u8 g0) rfl rfl (by kernel_rfl) (by kernel_rfl) (by kernel_rfl) (fun _ _ _ h => h) (by kernel_rfl) (by (intro Y hSw; have hq := hc0 Y hSw; go_simp)) (by assumption) ?_
    simp only [List.set_cons_zero, List.set_cons_succ]
    refine takeW 3 29 (.int .i64 g0) rfl rfl (by kernel_rfl) (by kernel_rfl) (by kernel_rfl) (fun _ _ _ h => h) (by kernel_rfl) (by (intro w hSw; go_simp)) (by assumption) ?_
    simp only [List.set_cons_zero, List.set_cons_succ]
    refine takeW 4 30 (.slice (some ⟨bb, off, none⟩) L.length cap) rfl rfl (by kernel_rfl) (by kernel_rfl) (by kernel_rfl) (fun _ _ _ h => h) (by kernel_rfl) (by (intro w hSw; go_simp)) (by assumption) ?_
    simp only [List.set_cons_zero, List.set_cons_succ]
    refine takeW 5 31 (.pointer (some ⟨bb, off + 1, none⟩)) rfl rfl (by kernel_rfl) (by kernel_rfl) (by kernel_rfl) (fun _ _ _ h => h) (by kernel_rfl) (by (intro w hSw; go_simp; intro hh; exfalso; first | omega | (rw [hh] at hL0; simp at hL0))) (by assumption) ?_
    simp only [List.set_cons_zero, List.set_cons_succ]
    refine takeW 6 32 (.int .u8 g1) rfl rfl (by kernel_rfl) (by kernel_rfl) (by kernel_rfl) (fun _ _ _ h => h) (by kernel_rfl) (by (intro Y hSw; have hq := hc1 Y hSw; go_simp)) (by assumption) ?_
    simp only [List.set_cons_zero, List.set_cons_succ]
    refine takeW 7 33 (.int .i64 g1) rfl rfl (by kernel_rfl) (by kernel_rfl) (by kernel_rfl) (fun _ _ _ h => h) (by kernel_rfl) (by (intro w hSw; go_simp)) (by assumption) ?_
    simp only [List.set_cons_zero, List.set_cons_succ]
    refine takeW 8 34 (.slice (some ⟨bb, off, none⟩) L.length cap) rfl rfl (by kernel_rfl) (by kernel_rfl) (by kernel_rfl) (fun _ _ _ h => h) (by kernel_rfl) (by (intro w hSw; go_simp)) (by assumption) ?_
    simp only [List.set_cons_zero, List.set_cons_succ]
    refine takeW 9 35 (.pointer (some ⟨bb, off + 2, none⟩)) rfl rfl (by kernel_rfl) (by kernel_rfl) (by kernel_rfl) (fun _ _ _ h => h) (by kernel_rfl) (by (intro w hSw; go_simp; intro hh; exfalso; first | omega | (rw [hh] at hL0; simp at hL0))) (by assumption) ?_
    simp only [List.set_cons_zero, List.set_cons_succ]
    refine takeW 10 36 (.int .u8 g2) rfl rfl (by kernel_rfl) (by kernel_rfl) (by kernel_rfl) (fun _ _ _ h => h) (by kernel_rfl) (by (intro Y hSw; have hq := hc2 Y hSw; go_simp)) (by assumption) ?_
    simp only [List.set_cons_zero, List.set_cons_succ]
    refine takeW 11 37 (.int .i64 g2) rfl rfl (by kernel_rfl) (by kernel_rfl) (by kernel_rfl) (fun _ _ _ h => h) (by kernel_rfl) (by (intro w hSw; go_simp)) (by assumption) ?_
    simp only [List.set_cons_zero, List.set_cons_succ]
    refine takeW 13 39 (.slice (some ⟨bb, off, none⟩) L.length cap) rfl rfl (by kernel_rfl) (by kernel_rfl) (by kernel_rfl) (fun _ _ _ h => h) (by kernel_rfl) (by (intro w hSw; go_simp)) (by assumption) ?_
    simp only [List.set_cons_zero, List.set_cons_succ]
    refine takeW 14 40 (.int .i64 (p : Int)) rfl rfl (by kernel_rfl) (by kernel_rfl) (by kernel_rfl) (fun _ _ _ h => h) (by kernel_rfl) (by (intro w hSw; go_simp)) (by assumption) ?_
    simp only [List.set_cons_zero, List.set_cons_succ]
    refine takeW 15 41 (.int .i64 (p : Int)) rfl rfl (by kernel_rfl) (by kernel_rfl) (by kernel_rfl) (fun _ _ _ h => h) (by kernel_rfl) (by (intro w hSw; go_simp)) (by assumption) ?_
    simp only [List.set_cons_zero, List.set_cons_succ]
    refine takeW 16 42 (.int .i64 (M.length : Int)) rfl rfl (by kernel_rfl) (by kernel_rfl) (by kernel_rfl) (fun _ _ _ h => h) (by kernel_rfl) (by (intro w hSw; go_simp)) (by assumption) ?_
    simp only [List.set_cons_zero, List.set_cons_succ]
    refine takeW 17 43 (.int .i64 ((p : Int) + (M.length : Int))) rfl rfl (by kernel_rfl) (by kernel_rfl) (by kernel_rfl) (fun _ _ _ h => h) (by kernel_rfl) (by (intro w hSw; go_simp)) (by assumption) ?_
    simp only [List.set_cons_zero, List.set_cons_succ]
    refine takeW 18 44 (.slice (some ⟨bb, off + p, none⟩) M.length (cap - p)) rfl rfl (by kernel_rfl) (by kernel_rfl) (by kernel_rfl) (fun _ _ _ h => h) (by kernel_rfl) (by (intro w hSw; go_simp)) (by assumption) ?_
    simp only [List.set_cons_zero, List.set_cons_succ]
    refine wpAnyH_all (rs := [12, 21]) (by kernel_rfl) (by simp) ?_
    intro i hi; rcases (by simpa using hi : i = 12 ∨ i = 21) with rfl | rfl
    · refine wpOp_step rfl (fun K hK => ?_)
      rw [if_pos (by kernel_rfl)]
      go_simp
      obtain ⟨z1, hz1⟩ : ∃ y, y = z0.alloc (Obj.cells #[] 5) := ⟨_, rfl⟩
      have oE : z1.ownsRow z0.heap.size 5 1 (.slice (some ⟨z0.heap.size, 0, none⟩) 0 0) ([] : List Int).length (([] : List Int).map (Value.int .u8)) := by rw [hz1]; exact own_empty z0 5
      have kz1 : Below z0.heap.size z0 z1 := by rw [hz1]; exact below_box z0 _
      have tz1 : z0.heap.size < z1.heap.size := by rw [hz1]; exact size_box z0 _
      rw [← hz1]
      clear hz1
      have hbz1 : Below w3.heap.size w3 z1 := hbz0.trans (kz1.mono hbz0.size)
      have rz1 := hbz1.size
      refine hK _ _ ⟨hbz1, ?_⟩
      clear hK K hi
      refine wpAnyH_all (rs := [19, 21]) (by kernel_rfl) (by simp) ?_
      intro i hi; rcases (by simpa using hi : i = 19 ∨ i = 21) with rfl | rfl
      · refine wpOp_step rfl (fun K hK => ?_)
        rw [if_pos (by kernel_rfl)]
        refine app_op _ _ rfl z0.heap.size rfl oE _ _ M rfl (cut.carry (fun x h hp => hbz1.block _ (cut.lt x h hp))) hMm (by omega) ?_
        intro vN z2 oN gN
        have kz2 : Below z0.heap.size z1 z2 := grown_below gN (Nat.le_refl _) (by omega)
        have sz2 := kz2.size
        have hbz2 : Below w3.heap.size w3 z2 := hbz1.trans (kz2.mono (by omega))
        have rz2 := hbz2.size
        obtain ⟨_, adN, capN, rfl, vN, _, mN⟩ := own_view oN
        have nN := own_nil oN
        refine hK _ _ ⟨hbz2, ?_⟩
        clear hK K hi
        refine takeW 20 46 (.agg #[.int .i64 g0, .int .i64 g1, .int .i64 g2, .slice adN M.length capN]) rfl rfl (by kernel_rfl) (by kernel_rfl) (by kernel_rfl) (fun _ _ _ h => h) (by kernel_rfl) (by (intro w hSw; go_simp)) (by assumption) ?_
        simp only [List.set_cons_zero, List.set_cons_succ]
        refine wpAnyH_all (rs := [21]) (by kernel_rfl) (by simp) ?_
        intro i hi; obtain rfl : i = 21 := by simpa using hi
        refine wpOp_step rfl (fun K hK => ?_)
        rw [if_pos (by kernel_rfl)]
        go_simp
        obtain ⟨z3, hz3⟩ : ∃ y, y = z2.alloc (Obj.cells #[.int .i64 0, .int .i64 0, .int .i64 0, .slice none 0 0] 25) := ⟨_, rfl⟩
        have FP : FrameAt z3 z2.heap.size 0 0 0 none 0 0 := by rw [hz3]; exact frameAt_box z2 _ _ _ _ _ _ _
        have GP : ∀ i, z3.frozen? ⟨z2.heap.size, i, none⟩ = false := by intro i; rw [hz3]; simp [go_sem]
        have HP : ∃ cs fr, z3.heap[z2.heap.size]? = some (.cells cs 25 fr) := by rw [hz3]; exact ⟨_, _, heap_alloc_new z2 _⟩
        have kz3 : Below z2.heap.size z2 z3 := by rw [hz3]; exact below_box z2 _
        have tz3 : z2.heap.size < z3.heap.size := by rw [hz3]; exact size_box z2 _
        rw [← hz3]
        clear hz3
        have hbz3 : Below w3.heap.size w3 z3 := hbz2.trans (kz3.mono hbz2.size)
        have rz3 := hbz3.size
        refine hK _ _ ⟨hbz3, ?_⟩
        clear hK K hi
        have oN := own_carry oN kz3
        have NEP := ne_type oN HP
        obtain ⟨C1, C2, C3, C4⟩ := FP
        have H0 := GP 0
        have H1 := GP 1
        have H2 := GP 2
        have H3 := GP 3
        refine wpAnyH_all (rs := [22]) (by kernel_rfl) (by simp) ?_
        intro i hi; obtain rfl : i = 22 := by simpa using hi
        refine wpOp_step rfl (fun K hK => ?_)
        rw [if_pos (by kernel_rfl)]
        go_simp
        obtain ⟨zf, hzf⟩ : ∃ y, y = (((z3.setCell ⟨z2.heap.size, 0, none⟩ (.int .i64 g0)).setCell ⟨z2.heap.size, 1, none⟩ (.int .i64 g1)).setCell ⟨z2.heap.size, 2, none⟩ (.int .i64 g2)).setCell ⟨z2.heap.size, 3, none⟩ (.slice adN M.length capN) := ⟨_, rfl⟩
        have FZ : FrameAt zf z2.heap.size g0 g1 g2 adN M.length capN := by rw [hzf]; refine ⟨?_, ?_, ?_, ?_⟩ <;> simp [go_sem, *]
        have hbf : Below w3.heap.size w3 zf := by rw [hzf]; exact (((hbz3.setCell (by show _ ≤ z2.heap.size; omega) _).setCell (by show _ ≤ z2.heap.size; omega) _).setCell (by show _ ≤ z2.heap.size; omega) _).setCell (by show _ ≤ z2.heap.size; omega) _
        have oF : zf.ownsRow w3.heap.size 5 1 (.slice adN M.length capN) M.length (M.map (Value.int .u8)) := by
          rw [hzf]
          refine own_base (own_keep2 oN (g := z2.heap.size) ?_ (fun k hk => ?_)) (by omega)
          · exact NEP
          · rw [Below.heap_setCell _ _ _ _ (by show k ≠ z2.heap.size; omega), Below.heap_setCell _ _ _ _ (by show k ≠ z2.heap.size; omega), Below.heap_setCell _ _ _ _ (by show k ≠ z2.heap.size; omega), Below.heap_setCell _ _ _ _ (by show k ≠ z2.heap.size; omega)]
        rw [← hzf]
        clear hzf
        have rf := hbf.size
        refine hK _ _ ⟨hbf, ?_⟩
        clear hK K hi
        refine wpAnyH_done (by kernel_rfl) ?_ _
        have Bf := k3.trans (hbf.mono k3.size)
        have hvf := hv.carry (w' := zf) (fun x h hp => Bf.block _ (hv.lt x h hp))
        have vF : View zf adN M.length (fun i => M.getD i 0) := (own_view2 oF).1
        have F0 := F0.below hbf S0
        have G0z : ∀ i, zf.frozen? ⟨w.heap.size, i, none⟩ = false := fun i => (World.frozen?_of_block (a := ⟨w.heap.size, i, none⟩) (hbf.block _ (by show w.heap.size < _; omega))).trans (G3 i)
        clear x0 x1 x2 xw htn hq4
        by_cases hE : eqL (written g0 g1 g2 M) L = true
        · have hE' : ((txt (written g0 g1 g2 M)).toList == (txt L).toList) = true := hE
          go_wp2_with fail
          refine wp_region_held (S := fun Y => Below zf.heap.size zf Y) (by kernel_rfl) ?_
          change wpAnyH _ _ _ _ _ _ _ _ (World.drew _)
          have hd0 : Below zf.heap.size zf zf.drew := (Below.refl _ _).drew
          refine takeW 0 47 (.agg #[.int .i64 g0, .int .i64 g1, .int .i64 g2, .slice adN M.length capN]) rfl rfl (by kernel_rfl) (by kernel_rfl) (by kernel_rfl) (fun _ _ _ h => h) (by kernel_rfl) (by (intro Y hSw; obtain ⟨C1, C2, C3, C4⟩ := FZ.below hSw FZ.lt; go_simp)) (by assumption) ?_
          simp only [List.set_cons_zero, List.set_cons_succ]
          refine takeW 3 50 (.slice (some ⟨bb, off, none⟩) L.length cap) rfl rfl (by kernel_rfl) (by kernel_rfl) (by kernel_rfl) (fun _ _ _ h => h) (by kernel_rfl) (by (intro w hSw; go_simp)) (by assumption) ?_
          simp only [List.set_cons_zero, List.set_cons_succ]
          refine takeW 4 51 (.string (txt L)) rfl rfl (by kernel_rfl) (by kernel_rfl) (by kernel_rfl) (fun _ _ _ h => h) (by kernel_rfl) (by (intro Y hSw; have hq := conv_view (cap := cap) (hvf.carry (w' := Y) (fun x h hp => hSw.block _ (hvf.lt x h hp))) hL; go_simp)) (by assumption) ?_
          simp only [List.set_cons_zero, List.set_cons_succ]
          refine wpAnyH_all (rs := [1]) (by kernel_rfl) (by simp) ?_
          intro i hi; obtain rfl : i = 1 := by simpa using hi
          refine wpOp_step rfl (fun K hK => ?_)
          rw [if_pos (by kernel_rfl)]
          go_simp
          go_at_call 12
          refine (bytesSpec g0 g1 g2 adN capN M _ (vF.carry (fun x h hp => hd0.block _ (vF.lt x h hp))) (fun _ h => nN.1 h) cutb hMm).mono ?_
          rintro e y5 ⟨v5, rfl, o5, k5⟩
          obtain ⟨_, ad5, cap5, rfl, v5, _, _⟩ := own_view o5
          have hcv := conv_view (cap := cap5) v5 (written_bd g0 g1 g2 M cutb)
          have hd1 : Below zf.heap.size zf y5 := hd0.trans (k5.mono hd0.size)
          refine hK _ _ ⟨hd1, ?_⟩
          clear hK K hi
          refine wpAnyH_all (rs := [2]) (by kernel_rfl) (by simp) ?_
          intro i hi; obtain rfl : i = 2 := by simpa using hi
          refine wpOp_step rfl (fun K hK => ?_)
          rw [if_pos (by kernel_rfl)]
          go_simp
          refine hK _ _ ⟨hd1, ?_⟩
          clear hK K hi
          refine takeW 5 52 (.bool false) rfl rfl (by kernel_rfl) (by kernel_rfl) (by kernel_rfl) (fun _ _ _ h => h) (by kernel_rfl) (by (intro w hSw; go_simp)) (by assumption) ?_
          simp only [List.set_cons_zero, List.set_cons_succ]
          refine wpAnyH_done (by kernel_rfl) ?_ _
          have Bg := Bf.trans (hd1.mono Bf.size)
          have F1 := F0.below hd1 (by omega)
          have G1z : ∀ i, y5.frozen? ⟨w.heap.size, i, none⟩ = false := fun i => (World.frozen?_of_block (a := ⟨w.heap.size, i, none⟩) (hd1.block _ (by show w.heap.size < _; omega))).trans (G0z i)
          have e0 := G1z 0
          have e1 := G1z 1
          have e2 := G1z 2
          have e3 := G1z 3
          have oG := own_carry oF hd1
          have FG := FZ.below hd1 FZ.lt
          obtain ⟨C1, C2, C3, C4⟩ := F1
          obtain ⟨D1, D2, D3, D4⟩ := FG
          clear hcv hd0 k5 o5 v5
          go_wp2
          refine bodyPost_ret (v := .tuple #[.agg #[.int .i64 g0, .int .i64 g1, .int .i64 g2, .slice adN M.length capN], .bool true]) (by simp [results, Tryd.results10, go_sem, *]) rfl ⟨?_, ?_⟩
          · try rw [if_pos hE]
            refine ⟨adN, capN, rfl, own_base (own_keep oG (fun g hg => ?_)) (by omega : w.heap.size ≤ w3.heap.size)⟩
            rw [Below.heap_setCell _ _ _ _ (by show g ≠ w.heap.size; omega), Below.heap_setCell _ _ _ _ (by show g ≠ w.heap.size; omega), Below.heap_setCell _ _ _ _ (by show g ≠ w.heap.size; omega), Below.heap_setCell _ _ _ _ (by show g ≠ w.heap.size; omega)]
          · exact (((Bg.setCell (by simp) _).setCell (by simp) _).setCell (by simp) _).setCell (by simp) _
        · have hE' : ((txt (written g0 g1 g2 M)).toList == (txt L).toList) = false := by simpa [eqL] using hE
          go_wp2_with fail
          refine wp_region_held (S := fun Y => Below zf.heap.size zf Y) (by kernel_rfl) ?_
          change wpAnyH _ _ _ _ _ _ _ _ (World.drew _)
          have hd0 : Below zf.heap.size zf zf.drew := (Below.refl _ _).drew
          refine takeW 0 47 (.agg #[.int .i64 g0, .int .i64 g1, .int .i64 g2, .slice adN M.length capN]) rfl rfl (by kernel_rfl) (by kernel_rfl) (by kernel_rfl) (fun _ _ _ h => h) (by kernel_rfl) (by (intro Y hSw; obtain ⟨C1, C2, C3, C4⟩ := FZ.below hSw FZ.lt; go_simp)) (by assumption) ?_
          simp only [List.set_cons_zero, List.set_cons_succ]
          refine takeW 3 50 (.slice (some ⟨bb, off, none⟩) L.length cap) rfl rfl (by kernel_rfl) (by kernel_rfl) (by kernel_rfl) (fun _ _ _ h => h) (by kernel_rfl) (by (intro w hSw; go_simp)) (by assumption) ?_
          simp only [List.set_cons_zero, List.set_cons_succ]
          refine takeW 4 51 (.string (txt L)) rfl rfl (by kernel_rfl) (by kernel_rfl) (by kernel_rfl) (fun _ _ _ h => h) (by kernel_rfl) (by (intro Y hSw; have hq := conv_view (cap := cap) (hvf.carry (w' := Y) (fun x h hp => hSw.block _ (hvf.lt x h hp))) hL; go_simp)) (by assumption) ?_
          simp only [List.set_cons_zero, List.set_cons_succ]
          refine wpAnyH_all (rs := [1]) (by kernel_rfl) (by simp) ?_
          intro i hi; obtain rfl : i = 1 := by simpa using hi
          refine wpOp_step rfl (fun K hK => ?_)
          rw [if_pos (by kernel_rfl)]
          go_simp
          go_at_call 12
          refine (bytesSpec g0 g1 g2 adN capN M _ (vF.carry (fun x h hp => hd0.block _ (vF.lt x h hp))) (fun _ h => nN.1 h) cutb hMm).mono ?_
          rintro e y5 ⟨v5, rfl, o5, k5⟩
          obtain ⟨_, ad5, cap5, rfl, v5, _, _⟩ := own_view o5
          have hcv := conv_view (cap := cap5) v5 (written_bd g0 g1 g2 M cutb)
          have hd1 : Below zf.heap.size zf y5 := hd0.trans (k5.mono hd0.size)
          refine hK _ _ ⟨hd1, ?_⟩
          clear hK K hi
          refine wpAnyH_all (rs := [2]) (by kernel_rfl) (by simp) ?_
          intro i hi; obtain rfl : i = 2 := by simpa using hi
          refine wpOp_step rfl (fun K hK => ?_)
          rw [if_pos (by kernel_rfl)]
          go_simp
          refine hK _ _ ⟨hd1, ?_⟩
          clear hK K hi
          refine takeW 5 52 (.bool true) rfl rfl (by kernel_rfl) (by kernel_rfl) (by kernel_rfl) (fun _ _ _ h => h) (by kernel_rfl) (by (intro w hSw; go_simp)) (by assumption) ?_
          simp only [List.set_cons_zero, List.set_cons_succ]
          refine wpAnyH_done (by kernel_rfl) ?_ _
          have Bg := Bf.trans (hd1.mono Bf.size)
          have F1 := F0.below hd1 (by omega)
          have G1z : ∀ i, y5.frozen? ⟨w.heap.size, i, none⟩ = false := fun i => (World.frozen?_of_block (a := ⟨w.heap.size, i, none⟩) (hd1.block _ (by show w.heap.size < _; omega))).trans (G0z i)
          have e0 := G1z 0
          have e1 := G1z 1
          have e2 := G1z 2
          have e3 := G1z 3
          have oG := own_carry oF hd1
          have FG := FZ.below hd1 FZ.lt
          obtain ⟨C1, C2, C3, C4⟩ := F1
          obtain ⟨D1, D2, D3, D4⟩ := FG
          clear hcv hd0 k5 o5 v5
          go_wp2
          refine bodyPost_ret (v := .tuple #[.agg #[.int .i64 0, .int .i64 0, .int .i64 0, .slice none 0 0], .bool false]) (by simp [results, Tryd.results10, go_sem, *]) rfl ⟨?_, ?_⟩
          · try rw [if_neg hE]
            exact ⟨none, 0, rfl, World.ownsRow_nil _ _ _ _⟩
          · exact (((Bg.setCell (by simp) _).setCell (by simp) _).setCell (by simp) _).setCell (by simp) _
      · refine wpOp_step rfl (fun K hK => ?_)
        rw [if_pos (by kernel_rfl)]
        go_simp
        obtain ⟨z2, hz2⟩ : ∃ y, y = z1.alloc (Obj.cells #[.int .i64 0, .int .i64 0, .int .i64 0, .slice none 0 0] 25) := ⟨_, rfl⟩
        have FP : FrameAt z2 z1.heap.size 0 0 0 none 0 0 := by rw [hz2]; exact frameAt_box z1 _ _ _ _ _ _ _
        have GP : ∀ i, z2.frozen? ⟨z1.heap.size, i, none⟩ = false := by intro i; rw [hz2]; simp [go_sem]
        have HP : ∃ cs fr, z2.heap[z1.heap.size]? = some (.cells cs 25 fr) := by rw [hz2]; exact ⟨_, _, heap_alloc_new z1 _⟩
        have kz2 : Below z1.heap.size z1 z2 := by rw [hz2]; exact below_box z1 _
        have tz2 : z1.heap.size < z2.heap.size := by rw [hz2]; exact size_box z1 _
        rw [← hz2]
        clear hz2
        have hbz2 : Below w3.heap.size w3 z2 := hbz1.trans (kz2.mono hbz1.size)
        have rz2 := hbz2.size
        refine hK _ _ ⟨hbz2, ?_⟩
        clear hK K hi
        have oE := own_carry oE kz2
        refine wpAnyH_all (rs := [19]) (by kernel_rfl) (by simp) ?_
        intro i hi; obtain rfl : i = 19 := by simpa using hi
        refine wpOp_step rfl (fun K hK => ?_)
        rw [if_pos (by kernel_rfl)]
        refine app_op _ _ rfl z0.heap.size rfl oE _ _ M rfl (cut.carry (fun x h hp => hbz2.block _ (cut.lt x h hp))) hMm (by omega) ?_
        intro vN z3 oN gN
        have kz3 : Below z0.heap.size z2 z3 := grown_below gN (Nat.le_refl _) (by omega)
        have sz3 := kz3.size
        have hbz3 : Below w3.heap.size w3 z3 := hbz2.trans (kz3.mono (by omega))
        have rz3 := hbz3.size
        obtain ⟨_, adN, capN, rfl, vN, _, mN⟩ := own_view oN
        have nN := own_nil oN
        refine hK _ _ ⟨hbz3, ?_⟩
        clear hK K hi
        have FP := FP.grown gN (by omega)
        have GP : ∀ i, z3.frozen? ⟨z1.heap.size, i, none⟩ = false := fun i => (World.frozen?_of_block (a := ⟨z1.heap.size, i, none⟩) (gN.block _ (by show z1.heap.size < _; omega) (by simp; omega))).trans (GP i)
        obtain ⟨cP, fP, hP⟩ := HP
        have NEP := ne_type oN ⟨cP, fP, (gN.block _ (by omega) (by simp; omega)).trans hP⟩
        refine takeW 20 46 (.agg #[.int .i64 g0, .int .i64 g1, .int .i64 g2, .slice adN M.length capN]) rfl rfl (by kernel_rfl) (by kernel_rfl) (by kernel_rfl) (fun _ _ _ h => h) (by kernel_rfl) (by (intro w hSw; go_simp)) (by assumption) ?_
        simp only [List.set_cons_zero, List.set_cons_succ]
        obtain ⟨C1, C2, C3, C4⟩ := FP
        have H0 := GP 0
        have H1 := GP 1
        have H2 := GP 2
        have H3 := GP 3
        refine wpAnyH_all (rs := [22]) (by kernel_rfl) (by simp) ?_
        intro i hi; obtain rfl : i = 22 := by simpa using hi
        refine wpOp_step rfl (fun K hK => ?_)
        rw [if_pos (by kernel_rfl)]
        go_simp
        obtain ⟨zf, hzf⟩ : ∃ y, y = (((z3.setCell ⟨z1.heap.size, 0, none⟩ (.int .i64 g0)).setCell ⟨z1.heap.size, 1, none⟩ (.int .i64 g1)).setCell ⟨z1.heap.size, 2, none⟩ (.int .i64 g2)).setCell ⟨z1.heap.size, 3, none⟩ (.slice adN M.length capN) := ⟨_, rfl⟩
        have FZ : FrameAt zf z1.heap.size g0 g1 g2 adN M.length capN := by rw [hzf]; refine ⟨?_, ?_, ?_, ?_⟩ <;> simp [go_sem, *]
        have hbf : Below w3.heap.size w3 zf := by rw [hzf]; exact (((hbz3.setCell (by show _ ≤ z1.heap.size; omega) _).setCell (by show _ ≤ z1.heap.size; omega) _).setCell (by show _ ≤ z1.heap.size; omega) _).setCell (by show _ ≤ z1.heap.size; omega) _
        have oF : zf.ownsRow w3.heap.size 5 1 (.slice adN M.length capN) M.length (M.map (Value.int .u8)) := by
          rw [hzf]
          refine own_base (own_keep2 oN (g := z1.heap.size) ?_ (fun k hk => ?_)) (by omega)
          · exact NEP
          · rw [Below.heap_setCell _ _ _ _ (by show k ≠ z1.heap.size; omega), Below.heap_setCell _ _ _ _ (by show k ≠ z1.heap.size; omega), Below.heap_setCell _ _ _ _ (by show k ≠ z1.heap.size; omega), Below.heap_setCell _ _ _ _ (by show k ≠ z1.heap.size; omega)]
        rw [← hzf]
        clear hzf
        have rf := hbf.size
        refine hK _ _ ⟨hbf, ?_⟩
        clear hK K hi
        refine wpAnyH_done (by kernel_rfl) ?_ _
        have Bf := k3.trans (hbf.mono k3.size)
        have hvf := hv.carry (w' := zf) (fun x h hp => Bf.block _ (hv.lt x h hp))
        have vF : View zf adN M.length (fun i => M.getD i 0) := (own_view2 oF).1
        have F0 := F0.below hbf S0
        have G0z : ∀ i, zf.frozen? ⟨w.heap.size, i, none⟩ = false := fun i => (World.frozen?_of_block (a := ⟨w.heap.size, i, none⟩) (hbf.block _ (by show w.heap.size < _; omega))).trans (G3 i)
        clear x0 x1 x2 xw htn hq4
        by_cases hE : eqL (written g0 g1 g2 M) L = true
        · have hE' : ((txt (written g0 g1 g2 M)).toList == (txt L).toList) = true := hE
          go_wp2_with fail
          refine wp_region_held (S := fun Y => Below zf.heap.size zf Y) (by kernel_rfl) ?_
          change wpAnyH _ _ _ _ _ _ _ _ (World.drew _)
          have hd0 : Below zf.heap.size zf zf.drew := (Below.refl _ _).drew
          refine takeW 0 47 (.agg #[.int .i64 g0, .int .i64 g1, .int .i64 g2, .slice adN M.length capN]) rfl rfl (by kernel_rfl) (by kernel_rfl) (by kernel_rfl) (fun _ _ _ h => h) (by kernel_rfl) (by (intro Y hSw; obtain ⟨C1, C2, C3, C4⟩ := FZ.below hSw FZ.lt; go_simp)) (by assumption) ?_
          simp only [List.set_cons_zero, List.set_cons_succ]
          refine takeW 3 50 (.slice (some ⟨bb, off, none⟩) L.length cap) rfl rfl (by kernel_rfl) (by kernel_rfl) (by kernel_rfl) (fun _ _ _ h => h) (by kernel_rfl) (by (intro w hSw; go_simp)) (by assumption) ?_
          simp only [List.set_cons_zero, List.set_cons_succ]
          refine takeW 4 51 (.string (txt L)) rfl rfl (by kernel_rfl) (by kernel_rfl) (by kernel_rfl) (fun _ _ _ h => h) (by kernel_rfl) (by (intro Y hSw; have hq := conv_view (cap := cap) (hvf.carry (w' := Y) (fun x h hp => hSw.block _ (hvf.lt x h hp))) hL; go_simp)) (by assumption) ?_
          simp only [List.set_cons_zero, List.set_cons_succ]
          refine wpAnyH_all (rs := [1]) (by kernel_rfl) (by simp) ?_
          intro i hi; obtain rfl : i = 1 := by simpa using hi
          refine wpOp_step rfl (fun K hK => ?_)
          rw [if_pos (by kernel_rfl)]
          go_simp
          go_at_call 12
          refine (bytesSpec g0 g1 g2 adN capN M _ (vF.carry (fun x h hp => hd0.block _ (vF.lt x h hp))) (fun _ h => nN.1 h) cutb hMm).mono ?_
          rintro e y5 ⟨v5, rfl, o5, k5⟩
          obtain ⟨_, ad5, cap5, rfl, v5, _, _⟩ := own_view o5
          have hcv := conv_view (cap := cap5) v5 (written_bd g0 g1 g2 M cutb)
          have hd1 : Below zf.heap.size zf y5 := hd0.trans (k5.mono hd0.size)
          refine hK _ _ ⟨hd1, ?_⟩
          clear hK K hi
          refine wpAnyH_all (rs := [2]) (by kernel_rfl) (by simp) ?_
          intro i hi; obtain rfl : i = 2 := by simpa using hi
          refine wpOp_step rfl (fun K hK => ?_)
          rw [if_pos (by kernel_rfl)]
          go_simp
          refine hK _ _ ⟨hd1, ?_⟩
          clear hK K hi
          refine takeW 5 52 (.bool false) rfl rfl (by kernel_rfl) (by kernel_rfl) (by kernel_rfl) (fun _ _ _ h => h) (by kernel_rfl) (by (intro w hSw; go_simp)) (by assumption) ?_
          simp only [List.set_cons_zero, List.set_cons_succ]
          refine wpAnyH_done (by kernel_rfl) ?_ _
          have Bg := Bf.trans (hd1.mono Bf.size)
          have F1 := F0.below hd1 (by omega)
          have G1z : ∀ i, y5.frozen? ⟨w.heap.size, i, none⟩ = false := fun i => (World.frozen?_of_block (a := ⟨w.heap.size, i, none⟩) (hd1.block _ (by show w.heap.size < _; omega))).trans (G0z i)
          have e0 := G1z 0
          have e1 := G1z 1
          have e2 := G1z 2
          have e3 := G1z 3
          have oG := own_carry oF hd1
          have FG := FZ.below hd1 FZ.lt
          obtain ⟨C1, C2, C3, C4⟩ := F1
          obtain ⟨D1, D2, D3, D4⟩ := FG
          clear hcv hd0 k5 o5 v5
          go_wp2
          refine bodyPost_ret (v := .tuple #[.agg #[.int .i64 g0, .int .i64 g1, .int .i64 g2, .slice adN M.length capN], .bool true]) (by simp [results, Tryd.results10, go_sem, *]) rfl ⟨?_, ?_⟩
          · try rw [if_pos hE]
            refine ⟨adN, capN, rfl, own_base (own_keep oG (fun g hg => ?_)) (by omega : w.heap.size ≤ w3.heap.size)⟩
            rw [Below.heap_setCell _ _ _ _ (by show g ≠ w.heap.size; omega), Below.heap_setCell _ _ _ _ (by show g ≠ w.heap.size; omega), Below.heap_setCell _ _ _ _ (by show g ≠ w.heap.size; omega), Below.heap_setCell _ _ _ _ (by show g ≠ w.heap.size; omega)]
          · exact (((Bg.setCell (by simp) _).setCell (by simp) _).setCell (by simp) _).setCell (by simp) _
        · have hE' : ((txt (written g0 g1 g2 M)).toList == (txt L).toList) = false := by simpa [eqL] using hE
          go_wp2_with fail
          refine wp_region_held (S := fun Y => Below zf.heap.size zf Y) (by kernel_rfl) ?_
          change wpAnyH _ _ _ _ _ _ _ _ (World.drew _)
          have hd0 : Below zf.heap.size zf zf.drew := (Below.refl _ _).drew
          refine takeW 0 47 (.agg #[.int .i64 g0, .int .i64 g1, .int .i64 g2, .slice adN M.length capN]) rfl rfl (by kernel_rfl) (by kernel_rfl) (by kernel_rfl) (fun _ _ _ h => h) (by kernel_rfl) (by (intro Y hSw; obtain ⟨C1, C2, C3, C4⟩ := FZ.below hSw FZ.lt; go_simp)) (by assumption) ?_
          simp only [List.set_cons_zero, List.set_cons_succ]
          refine takeW 3 50 (.slice (some ⟨bb, off, none⟩) L.length cap) rfl rfl (by kernel_rfl) (by kernel_rfl) (by kernel_rfl) (fun _ _ _ h => h) (by kernel_rfl) (by (intro w hSw; go_simp)) (by assumption) ?_
          simp only [List.set_cons_zero, List.set_cons_succ]
          refine takeW 4 51 (.string (txt L)) rfl rfl (by kernel_rfl) (by kernel_rfl) (by kernel_rfl) (fun _ _ _ h => h) (by kernel_rfl) (by (intro Y hSw; have hq := conv_view (cap := cap) (hvf.carry (w' := Y) (fun x h hp => hSw.block _ (hvf.lt x h hp))) hL; go_simp)) (by assumption) ?_
          simp only [List.set_cons_zero, List.set_cons_succ]
          refine wpAnyH_all (rs := [1]) (by kernel_rfl) (by simp) ?_
          intro i hi; obtain rfl : i = 1 := by simpa using hi
          refine wpOp_step rfl (fun K hK => ?_)
          rw [if_pos (by kernel_rfl)]
          go_simp
          go_at_call 12
          refine (bytesSpec g0 g1 g2 adN capN M _ (vF.carry (fun x h hp => hd0.block _ (vF.lt x h hp))) (fun _ h => nN.1 h) cutb hMm).mono ?_
          rintro e y5 ⟨v5, rfl, o5, k5⟩
          obtain ⟨_, ad5, cap5, rfl, v5, _, _⟩ := own_view o5
          have hcv := conv_view (cap := cap5) v5 (written_bd g0 g1 g2 M cutb)
          have hd1 : Below zf.heap.size zf y5 := hd0.trans (k5.mono hd0.size)
          refine hK _ _ ⟨hd1, ?_⟩
          clear hK K hi
          refine wpAnyH_all (rs := [2]) (by kernel_rfl) (by simp) ?_
          intro i hi; obtain rfl : i = 2 := by simpa using hi
          refine wpOp_step rfl (fun K hK => ?_)
          rw [if_pos (by kernel_rfl)]
          go_simp
          refine hK _ _ ⟨hd1, ?_⟩
          clear hK K hi
          refine takeW 5 52 (.bool true) rfl rfl (by kernel_rfl) (by kernel_rfl) (by kernel_rfl) (fun _ _ _ h => h) (by kernel_rfl) (by (intro w hSw; go_simp)) (by assumption) ?_
          simp only [List.set_cons_zero, List.set_cons_succ]
          refine wpAnyH_done (by kernel_rfl) ?_ _
          have Bg := Bf.trans (hd1.mono Bf.size)
          have F1 := F0.below hd1 (by omega)
          have G1z : ∀ i, y5.frozen? ⟨w.heap.size, i, none⟩ = false := fun i => (World.frozen?_of_block (a := ⟨w.heap.size, i, none⟩) (hd1.block _ (by show w.heap.size < _; omega))).trans (G0z i)
          have e0 := G1z 0
          have e1 := G1z 1
          have e2 := G1z 2
          have e3 := G1z 3
          have oG := own_carry oF hd1
          have FG := FZ.below hd1 FZ.lt
          obtain ⟨C1, C2, C3, C4⟩ := F1
          obtain ⟨D1, D2, D3, D4⟩ := FG
          clear hcv hd0 k5 o5 v5
          go_wp2
          refine bodyPost_ret (v := .tuple #[.agg #[.int .i64 0, .int .i64 0, .int .i64 0, .slice none 0 0], .bool false]) (by simp [results, Tryd.results10, go_sem, *]) rfl ⟨?_, ?_⟩
          · try rw [if_neg hE]
            exact ⟨none, 0, rfl, World.ownsRow_nil _ _ _ _⟩
          · exact (((Bg.setCell (by simp) _).setCell (by simp) _).setCell (by simp) _).setCell (by simp) _
    · refine wpOp_step rfl (fun K hK => ?_)
      rw [if_pos (by kernel_rfl)]
      go_simp
      obtain ⟨z1, hz1⟩ : ∃ y, y = z0.alloc (Obj.cells #[.int .i64 0, .int .i64 0, .int .i64 0, .slice none 0 0] 25) := ⟨_, rfl⟩
      have FP : FrameAt z1 z0.heap.size 0 0 0 none 0 0 := by rw [hz1]; exact frameAt_box z0 _ _ _ _ _ _ _
      have GP : ∀ i, z1.frozen? ⟨z0.heap.size, i, none⟩ = false := by intro i; rw [hz1]; simp [go_sem]
      have HP : ∃ cs fr, z1.heap[z0.heap.size]? = some (.cells cs 25 fr) := by rw [hz1]; exact ⟨_, _, heap_alloc_new z0 _⟩
      have kz1 : Below z0.heap.size z0 z1 := by rw [hz1]; exact below_box z0 _
      have tz1 : z0.heap.size < z1.heap.size := by rw [hz1]; exact size_box z0 _
      rw [← hz1]
      clear hz1
      have hbz1 : Below w3.heap.size w3 z1 := hbz0.trans (kz1.mono hbz0.size)
      have rz1 := hbz1.size
      refine hK _ _ ⟨hbz1, ?_⟩
      clear hK K hi
      refine wpAnyH_all (rs := [12]) (by kernel_rfl) (by simp) ?_
      intro i hi; obtain rfl : i = 12 := by simpa using hi
      refine wpOp_step rfl (fun K hK => ?_)
      rw [if_pos (by kernel_rfl)]
      go_simp
      obtain ⟨z2, hz2⟩ : ∃ y, y = z1.alloc (Obj.cells #[] 5) := ⟨_, rfl⟩
      have oE : z2.ownsRow z1.heap.size 5 1 (.slice (some ⟨z1.heap.size, 0, none⟩) 0 0) ([] : List Int).length (([] : List Int).map (Value.int .u8)) := by rw [hz2]; exact own_empty z1 5
      have kz2 : Below z1.heap.size z1 z2 := by rw [hz2]; exact below_box z1 _
      have tz2 : z1.heap.size < z2.heap.size := by rw [hz2]; exact size_box z1 _
      rw [← hz2]
      clear hz2
      have hbz2 : Below w3.heap.size w3 z2 := hbz1.trans (kz2.mono hbz1.size)
      have rz2 := hbz2.size
      refine hK _ _ ⟨hbz2, ?_⟩
      clear hK K hi
      have FP := FP.below kz2 (by omega)
      have GP : ∀ i, z2.frozen? ⟨z0.heap.size, i, none⟩ = false := fun i => (World.frozen?_of_block (a := ⟨z0.heap.size, i, none⟩) (kz2.block _ (by show z0.heap.size < _; omega))).trans (GP i)
      refine wpAnyH_all (rs := [19]) (by kernel_rfl) (by simp) ?_
      intro i hi; obtain rfl : i = 19 := by simpa using hi
      refine wpOp_step rfl (fun K hK => ?_)
      rw [if_pos (by kernel_rfl)]
      refine app_op _ _ rfl z1.heap.size rfl oE _ _ M rfl (cut.carry (fun x h hp => hbz2.block _ (cut.lt x h hp))) hMm (by omega) ?_
      intro vN z3 oN gN
      have kz3 : Below z1.heap.size z2 z3 := grown_below gN (Nat.le_refl _) (by omega)
      have sz3 := kz3.size
      have hbz3 : Below w3.heap.size w3 z3 := hbz2.trans (kz3.mono (by omega))
      have rz3 := hbz3.size
      obtain ⟨_, adN, capN, rfl, vN, _, mN⟩ := own_view oN
      have nN := own_nil oN
      refine hK _ _ ⟨hbz3, ?_⟩
      clear hK K hi
      have FP := FP.grown gN (by omega)
      have GP : ∀ i, z3.frozen? ⟨z0.heap.size, i, none⟩ = false := fun i => (World.frozen?_of_block (a := ⟨z0.heap.size, i, none⟩) (gN.block _ (by show z0.heap.size < _; omega) (by simp; omega))).trans (GP i)
      obtain ⟨cP, fP, hP⟩ := HP
      have NEP := ne_type oN ⟨cP, fP, (gN.block _ (by omega) (by simp; omega)).trans ((kz2.block _ (by omega)).trans hP)⟩
      refine takeW 20 46 (.agg #[.int .i64 g0, .int .i64 g1, .int .i64 g2, .slice adN M.length capN]) rfl rfl (by kernel_rfl) (by kernel_rfl) (by kernel_rfl) (fun _ _ _ h => h) (by kernel_rfl) (by (intro w hSw; go_simp)) (by assumption) ?_
      simp only [List.set_cons_zero, List.set_cons_succ]
      obtain ⟨C1, C2, C3, C4⟩ := FP
      have H0 := GP 0
      have H1 := GP 1
      have H2 := GP 2
      have H3 := GP 3
      refine wpAnyH_all (rs := [22]) (by kernel_rfl) (by simp) ?_
      intro i hi; obtain rfl : i = 22 := by simpa using hi
      refine wpOp_step rfl (fun K hK => ?_)
      rw [if_pos (by kernel_rfl)]
      go_simp
      obtain ⟨zf, hzf⟩ : ∃ y, y = (((z3.setCell ⟨z0.heap.size, 0, none⟩ (.int .i64 g0)).setCell ⟨z0.heap.size, 1, none⟩ (.int .i64 g1)).setCell ⟨z0.heap.size, 2, none⟩ (.int .i64 g2)).setCell ⟨z0.heap.size, 3, none⟩ (.slice adN M.length capN) := ⟨_, rfl⟩
      have FZ : FrameAt zf z0.heap.size g0 g1 g2 adN M.length capN := by rw [hzf]; refine ⟨?_, ?_, ?_, ?_⟩ <;> simp [go_sem, *]
      have hbf : Below w3.heap.size w3 zf := by rw [hzf]; exact (((hbz3.setCell (by show _ ≤ z0.heap.size; omega) _).setCell (by show _ ≤ z0.heap.size; omega) _).setCell (by show _ ≤ z0.heap.size; omega) _).setCell (by show _ ≤ z0.heap.size; omega) _
      have oF : zf.ownsRow w3.heap.size 5 1 (.slice adN M.length capN) M.length (M.map (Value.int .u8)) := by
        rw [hzf]
        refine own_base (own_keep2 oN (g := z0.heap.size) ?_ (fun k hk => ?_)) (by omega)
        · exact NEP
        · rw [Below.heap_setCell _ _ _ _ (by show k ≠ z0.heap.size; omega), Below.heap_setCell _ _ _ _ (by show k ≠ z0.heap.size; omega), Below.heap_setCell _ _ _ _ (by show k ≠ z0.heap.size; omega), Below.heap_setCell _ _ _ _ (by show k ≠ z0.heap.size; omega)]
      rw [← hzf]
      clear hzf
      have rf := hbf.size
      refine hK _ _ ⟨hbf, ?_⟩
      clear hK K hi
      refine wpAnyH_done (by kernel_rfl) ?_ _
      have Bf := k3.trans (hbf.mono k3.size)
      have hvf := hv.carry (w' := zf) (fun x h hp => Bf.block _ (hv.lt x h hp))
      have vF : View zf adN M.length (fun i => M.getD i 0) := (own_view2 oF).1
      have F0 := F0.below hbf S0
      have G0z : ∀ i, zf.frozen? ⟨w.heap.size, i, none⟩ = false := fun i => (World.frozen?_of_block (a := ⟨w.heap.size, i, none⟩) (hbf.block _ (by show w.heap.size < _; omega))).trans (G3 i)
      clear x0 x1 x2 xw htn hq4
      by_cases hE : eqL (written g0 g1 g2 M) L = true
      · have hE' : ((txt (written g0 g1 g2 M)).toList == (txt L).toList) = true := hE
        go_wp2_with fail
        refine wp_region_held (S := fun Y => Below zf.heap.size zf Y) (by kernel_rfl) ?_
        change wpAnyH _ _ _ _ _ _ _ _ (World.drew _)
        have hd0 : Below zf.heap.size zf zf.drew := (Below.refl _ _).drew
        refine takeW 0 47 (.agg #[.int .i64 g0, .int .i64 g1, .int .i64 g2, .slice adN M.length capN]) rfl rfl (by kernel_rfl) (by kernel_rfl) (by kernel_rfl) (fun _ _ _ h => h) (by kernel_rfl) (by (intro Y hSw; obtain ⟨C1, C2, C3, C4⟩ := FZ.below hSw FZ.lt; go_simp)) (by assumption) ?_
        simp only [List.set_cons_zero, List.set_cons_succ]
        refine takeW 3 50 (.slice (some ⟨bb, off, none⟩) L.length cap) rfl rfl (by kernel_rfl) (by kernel_rfl) (by kernel_rfl) (fun _ _ _ h => h) (by kernel_rfl) (by (intro w hSw; go_simp)) (by assumption) ?_
        simp only [List.set_cons_zero, List.set_cons_succ]
        refine takeW 4 51 (.string (txt L)) rfl rfl (by kernel_rfl) (by kernel_rfl) (by kernel_rfl) (fun _ _ _ h => h) (by kernel_rfl) (by (intro Y hSw; have hq := conv_view (cap := cap) (hvf.carry (w' := Y) (fun x h hp => hSw.block _ (hvf.lt x h hp))) hL; go_simp)) (by assumption) ?_
        simp only [List.set_cons_zero, List.set_cons_succ]
        refine wpAnyH_all (rs := [1]) (by kernel_rfl) (by simp) ?_
        intro i hi; obtain rfl : i = 1 := by simpa using hi
        refine wpOp_step rfl (fun K hK => ?_)
        rw [if_pos (by kernel_rfl)]
        go_simp
        go_at_call 12
        refine (bytesSpec g0 g1 g2 adN capN M _ (vF.carry (fun x h hp => hd0.block _ (vF.lt x h hp))) (fun _ h => nN.1 h) cutb hMm).mono ?_
        rintro e y5 ⟨v5, rfl, o5, k5⟩
        obtain ⟨_, ad5, cap5, rfl, v5, _, _⟩ := own_view o5
        have hcv := conv_view (cap := cap5) v5 (written_bd g0 g1 g2 M cutb)
        have hd1 : Below zf.heap.size zf y5 := hd0.trans (k5.mono hd0.size)
        refine hK _ _ ⟨hd1, ?_⟩
        clear hK K hi
        refine wpAnyH_all (rs := [2]) (by kernel_rfl) (by simp) ?_
        intro i hi; obtain rfl : i = 2 := by simpa using hi
        refine wpOp_step rfl (fun K hK => ?_)
        rw [if_pos (by kernel_rfl)]
        go_simp
        refine hK _ _ ⟨hd1, ?_⟩
        clear hK K hi
        refine takeW 5 52 (.bool false) rfl rfl (by kernel_rfl) (by kernel_rfl) (by kernel_rfl) (fun _ _ _ h => h) (by kernel_rfl) (by (intro w hSw; go_simp)) (by assumption) ?_
        simp only [List.set_cons_zero, List.set_cons_succ]
        refine wpAnyH_done (by kernel_rfl) ?_ _
        have Bg := Bf.trans (hd1.mono Bf.size)
        have F1 := F0.below hd1 (by omega)
        have G1z : ∀ i, y5.frozen? ⟨w.heap.size, i, none⟩ = false := fun i => (World.frozen?_of_block (a := ⟨w.heap.size, i, none⟩) (hd1.block _ (by show w.heap.size < _; omega))).trans (G0z i)
        have e0 := G1z 0
        have e1 := G1z 1
        have e2 := G1z 2
        have e3 := G1z 3
        have oG := own_carry oF hd1
        have FG := FZ.below hd1 FZ.lt
        obtain ⟨C1, C2, C3, C4⟩ := F1
        obtain ⟨D1, D2, D3, D4⟩ := FG
        clear hcv hd0 k5 o5 v5
        go_wp2
        refine bodyPost_ret (v := .tuple #[.agg #[.int .i64 g0, .int .i64 g1, .int .i64 g2, .slice adN M.length capN], .bool true]) (by simp [results, Tryd.results10, go_sem, *]) rfl ⟨?_, ?_⟩
        · try rw [if_pos hE]
          refine ⟨adN, capN, rfl, own_base (own_keep oG (fun g hg => ?_)) (by omega : w.heap.size ≤ w3.heap.size)⟩
          rw [Below.heap_setCell _ _ _ _ (by show g ≠ w.heap.size; omega), Below.heap_setCell _ _ _ _ (by show g ≠ w.heap.size; omega), Below.heap_setCell _ _ _ _ (by show g ≠ w.heap.size; omega), Below.heap_setCell _ _ _ _ (by show g ≠ w.heap.size; omega)]
        · exact (((Bg.setCell (by simp) _).setCell (by simp) _).setCell (by simp) _).setCell (by simp) _
      · have hE' : ((txt (written g0 g1 g2 M)).toList == (txt L).toList) = false := by simpa [eqL] using hE
        go_wp2_with fail
        refine wp_region_held (S := fun Y => Below zf.heap.size zf Y) (by kernel_rfl) ?_
        change wpAnyH _ _ _ _ _ _ _ _ (World.drew _)
        have hd0 : Below zf.heap.size zf zf.drew := (Below.refl _ _).drew
        refine takeW 0 47 (.agg #[.int .i64 g0, .int .i64 g1, .int .i64 g2, .slice adN M.length capN]) rfl rfl (by kernel_rfl) (by kernel_rfl) (by kernel_rfl) (fun _ _ _ h => h) (by kernel_rfl) (by (intro Y hSw; obtain ⟨C1, C2, C3, C4⟩ := FZ.below hSw FZ.lt; go_simp)) (by assumption) ?_
        simp only [List.set_cons_zero, List.set_cons_succ]
        refine takeW 3 50 (.slice (some ⟨bb, off, none⟩) L.length cap) rfl rfl (by kernel_rfl) (by kernel_rfl) (by kernel_rfl) (fun _ _ _ h => h) (by kernel_rfl) (by (intro w hSw; go_simp)) (by assumption) ?_
        simp only [List.set_cons_zero, List.set_cons_succ]
        refine takeW 4 51 (.string (txt L)) rfl rfl (by kernel_rfl) (by kernel_rfl) (by kernel_rfl) (fun _ _ _ h => h) (by kernel_rfl) (by (intro Y hSw; have hq := conv_view (cap := cap) (hvf.carry (w' := Y) (fun x h hp => hSw.block _ (hvf.lt x h hp))) hL; go_simp)) (by assumption) ?_
        simp only [List.set_cons_zero, List.set_cons_succ]
        refine wpAnyH_all (rs := [1]) (by kernel_rfl) (by simp) ?_
        intro i hi; obtain rfl : i = 1 := by simpa using hi
        refine wpOp_step rfl (fun K hK => ?_)
        rw [if_pos (by kernel_rfl)]
        go_simp
        go_at_call 12
        refine (bytesSpec g0 g1 g2 adN capN M _ (vF.carry (fun x h hp => hd0.block _ (vF.lt x h hp))) (fun _ h => nN.1 h) cutb hMm).mono ?_
        rintro e y5 ⟨v5, rfl, o5, k5⟩
        obtain ⟨_, ad5, cap5, rfl, v5, _, _⟩ := own_view o5
        have hcv := conv_view (cap := cap5) v5 (written_bd g0 g1 g2 M cutb)
        have hd1 : Below zf.heap.size zf y5 := hd0.trans (k5.mono hd0.size)
        refine hK _ _ ⟨hd1, ?_⟩
        clear hK K hi
        refine wpAnyH_all (rs := [2]) (by kernel_rfl) (by simp) ?_
        intro i hi; obtain rfl : i = 2 := by simpa using hi
        refine wpOp_step rfl (fun K hK => ?_)
        rw [if_pos (by kernel_rfl)]
        go_simp
        refine hK _ _ ⟨hd1, ?_⟩
        clear hK K hi
        refine takeW 5 52 (.bool true) rfl rfl (by kernel_rfl) (by kernel_rfl) (by kernel_rfl) (fun _ _ _ h => h) (by kernel_rfl) (by (intro w hSw; go_simp)) (by assumption) ?_
        simp only [List.set_cons_zero, List.set_cons_succ]
        refine wpAnyH_done (by kernel_rfl) ?_ _
        have Bg := Bf.trans (hd1.mono Bf.size)
        have F1 := F0.below hd1 (by omega)
        have G1z : ∀ i, y5.frozen? ⟨w.heap.size, i, none⟩ = false := fun i => (World.frozen?_of_block (a := ⟨w.heap.size, i, none⟩) (hd1.block _ (by show w.heap.size < _; omega))).trans (G0z i)
        have e0 := G1z 0
        have e1 := G1z 1
        have e2 := G1z 2
        have e3 := G1z 3
        have oG := own_carry oF hd1
        have FG := FZ.below hd1 FZ.lt
        obtain ⟨C1, C2, C3, C4⟩ := F1
        obtain ⟨D1, D2, D3, D4⟩ := FG
        clear hcv hd0 k5 o5 v5
        go_wp2
        refine bodyPost_ret (v := .tuple #[.agg #[.int .i64 0, .int .i64 0, .int .i64 0, .slice none 0 0], .bool false]) (by simp [results, Tryd.results10, go_sem, *]) rfl ⟨?_, ?_⟩
        · try rw [if_neg hE]
          exact ⟨none, 0, rfl, World.ownsRow_nil _ _ _ _⟩
        · exact (((Bg.setCell (by simp) _).setCell (by simp) _).setCell (by simp) _).setCell (by simp) _

end Go.Proofs.YtpdlliehdmeboaaDoor
