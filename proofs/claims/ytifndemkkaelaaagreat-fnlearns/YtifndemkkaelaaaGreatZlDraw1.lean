/- What is drawn for frames. -/
import Derived.Test.YtifndemkkaelaaaGreatRows
import Derived.WalkKit
import Derived.ProofKit
import Derived.OpenShut
import Derived.ShutString
import Derived.ChangeOld
import Derived.Below
import Derived.Deep.QuietTactic
import Derived.BigQuiet
import Derived.WalkSmall
import Derived.Laws.OwnMore
import Derived.WalkSpells
import Derived.WalkLawsBesides
import Derived.Test.YtifndemkkaelaaaGreatZl4
import Derived.Test.YtifndemkkaelaaaGreatZl29
import Derived.Test.YtifndemkkaelaaaGreatZl1
import Derived.Test.YtifndemkkaelaaaGreatZlDrawM
namespace Go.Proofs.YtifndemkkaelaaaGreat
open Go.ChangeShapes Go.WideShapes Go.ChangeAt Go.RowKit
open Go.ChangeMaps (open_string shut_string)
set_option linter.unusedVariables false
set_option maxRecDepth 100000

theorem FrameAt.grown {w w' : World} {p k : Nat} {a b c : Int} {ad : Option Addr} {len cap : Nat} (h : FrameAt w p a b c ad len cap) (g : w.grownBy w' (some k)) (hne : p ≠ k) : FrameAt w' p a b c ad len cap := by
  have e : w'.heap[p]? = w.heap[p]? := g.block p h.lt (by simp; omega)
  exact ⟨(World.cell?_of_block (a := ⟨p, 0, none⟩) e).trans h.1, (World.cell?_of_block (a := ⟨p, 1, none⟩) e).trans h.2.1, (World.cell?_of_block (a := ⟨p, 2, none⟩) e).trans h.2.2.1, (World.cell?_of_block (a := ⟨p, 3, none⟩) e).trans h.2.2.2⟩

theorem one_view (w : World) (x : Int) : View (w.alloc (Obj.cells #[.int .u8 x] 5)) (some ⟨w.heap.size, 0, none⟩) [x].length (fun i => [x].getD i 0) :=
  View.mk0 (fun i hi => by
    have hi' : i < 1 := hi
    obtain rfl : i = 0 := by omega
    exact lit_at w _ _ _ rfl)
theorem app_opG {w : World} {o : Oper} {a : Act} {K : Act → World → Prop} {Q : Exit → Act → World → Prop} (s x : Operand) (ho : o.op = .call { callee := .builtin .append, args := #[s, x], argTypes := #[22, 22] })
    (base : Nat) (v : Value) (pre : List Int) (hs : a.eval s = v) (hown : w.ownsRow base 5 1 v pre.length (pre.map (Value.int .u8))) (q : Addr) (cap : Nat) (L : List Int) (hx : a.eval x = .slice (some q) L.length cap)
    (hv : View w (some q) L.length (fun i => L.getD i 0)) (hlen : pre.length + L.length ≤ 1048576) (hbase : base ≤ w.heap.size)
    (h : ∀ v' w', w'.ownsRow base 5 1 v' (pre ++ L).length ((pre ++ L).map (Value.int .u8)) → Below base w w' → K (a.put o.dst v') w') : o.wp Tryz.prog a w K Q := by
  obtain ⟨i0, hi, hz0, hz1, hz2⟩ := info_parts Tryz.info5
  refine wp_append_own _ s x 22 ho base 5 i0 (.int .u8 0) 1 1 Tryz.underlying22 hi hz0 hz1 hz2 rfl (by decide) _ _ _ hs hown q L.length cap (L.map (Value.int .u8)) hx (by simp) hv.add ?_ ?_ ?_ hbase ?_
  · intro u hu
    obtain ⟨y, _, rfl⟩ := List.mem_map.1 hu
    rfl
  · unfold maxLen; omega
  · omega
  · intro v' w' h1 h2 _
    refine h v' w' ?_ (below_own hown h2 hbase)
    rw [List.length_append, List.map_append]
    exact h1
structure DR (w : World) (B : Nat) (a b c : Int) (P cb : Nat) (ad : Option Addr) (len cap : Nat) (f : Nat → Int) (y : World) (adL : Option Addr) (n capL : Nat) : Prop where
  src : Src y cb ad len cap f
  grown : w.grownBy y (some cb)
  fat : FrameAt y P a b c adL n capL
  base : B ≤ y.heap.size
  fz : ∀ i, y.frozen? ⟨P, i, none⟩ = false
  res : FrameAt y w.heap.size 0 0 0 none 0 0
  rfz : ∀ i, y.frozen? ⟨w.heap.size, i, none⟩ = false
  cbw : cb < w.heap.size
  pw : w.heap.size < P
  pb : P < B
  adw : ∀ x, ad = some x → 0 < len → x.block < w.heap.size
variable {w : World} {B : Nat} {a b c : Int} {P cb : Nat} {ad : Option Addr} {len cap : Nat} {f : Nat → Int} {y y' : World} {adL : Option Addr} {n capL : Nat}
theorem DR.grow (h : DR w B a b c P cb ad len cap f y adL n capL) (hs : Src y' cb ad len cap f) (hg : y.grownBy y' (some cb)) : DR w B a b c P cb ad len cap f y' adL n capL := by
  obtain ⟨h1, h2, h3, h4, h5, h6, h7, h8, h9, h10, h11⟩ := h
  refine ⟨hs, grown_trans h2 hg, h3.grown hg (by omega), Nat.le_trans h4 hg.size, fun i => ?_, h6.grown hg (by omega), fun i => ?_, h8, h9, h10, h11⟩
  · exact (World.frozen?_of_block (a := ⟨P, i, none⟩) (hg.block P (by omega) (by simp; omega))).trans (h5 i)
  · exact (World.frozen?_of_block (a := ⟨w.heap.size, i, none⟩) (hg.block w.heap.size (by omega) (by simp; omega))).trans (h7 i)
theorem DR.under (h : DR w B a b c P cb ad len cap f y adL n capL) (k : Below B y y') : DR w B a b c P cb ad len cap f y' adL n capL := by
  obtain ⟨h1, h2, h3, h4, h5, h6, h7, h8, h9, h10, h11⟩ := h
  refine ⟨h1.move (k.block _ (by omega)) (fun x e hp => k.block _ (by have := h11 x e hp; omega)), ⟨k.os.trans h2.os, k.tape.trans h2.tape, k.output.trans h2.output, Nat.le_trans h2.size k.size, fun j hj hne => (k.block j (by omega)).trans (h2.block j hj hne)⟩, h3.below k (by omega), Nat.le_trans h4 k.size, fun i => ?_, h6.below k (by omega), fun i => ?_, h8, h9, h10, h11⟩
  · exact (World.frozen?_of_block (a := ⟨P, i, none⟩) (k.block P (by omega))).trans (h5 i)
  · exact (World.frozen?_of_block (a := ⟨w.heap.size, i, none⟩) (k.block w.heap.size (by omega))).trans (h7 i)
theorem DR.set (h : DR w B a b c P cb ad len cap f y adL n capL) (ad3 : Option Addr) (n3 cap3 : Nat) : DR w B a b c P cb ad len cap f (y.setCell ⟨P, 3, none⟩ (.slice ad3 n3 cap3)) ad3 n3 cap3 := by
  obtain ⟨h1, h2, h3, h4, h5, h6, h7, h8, h9, h10, h11⟩ := h
  have k : ∀ g, g ≠ P → (y.setCell ⟨P, 3, none⟩ (.slice ad3 n3 cap3)).heap[g]? = y.heap[g]? := fun g hg => Below.heap_setCell _ _ _ _ hg
  refine ⟨h1.move (k _ (by omega)) (fun x e hp => k _ (by have := h11 x e hp; omega)), ⟨h2.os, h2.tape, h2.output, by simpa using h2.size, fun j hj hne => (k j (by omega)).trans (h2.block j hj hne)⟩, ?_, by simpa using h4, fun i => by simpa using h5 i, h6.same (k _ (by omega)), fun i => by simpa using h7 i, h8, h9, h10, h11⟩
  exact ⟨(cell_set_ne (by decide)).trans h3.1, (cell_set_ne (by decide)).trans h3.2.1, (cell_set_ne (by decide)).trans h3.2.2.1, cell_set_same ⟨_, h3.2.2.2⟩⟩
theorem DR.setOwn (h : DR w B a b c P cb ad len cap f y adL n capL) (ad3 : Option Addr) (n3 cap3 : Nat) {xs : List Value} {v : Value} {m : Nat} (o : y.ownsRow B 5 1 v m xs) : (y.setCell ⟨P, 3, none⟩ (.slice ad3 n3 cap3)).ownsRow B 5 1 v m xs :=
  own_keep o (fun g hg => Below.heap_setCell _ _ _ _ (by have := h.pb; show g ≠ P; omega))
def Drawn (w : World) (cb : Nat) (ad : Option Addr) (len cap : Nat) (f : Nat → Int) (a b c : Int) (L : List Int) (e : Ending) (w' : World) : Prop :=
  ∃ adL capL, e = .returned (.agg #[.int .i64 a, .int .i64 b, .int .i64 c, .slice adL L.length capL]) ∧ w'.ownsRow w.heap.size 5 1 (.slice adL L.length capL) L.length (L.map (Value.int .u8)) ∧ (∀ x ∈ L, 0 ≤ x ∧ x ≤ 255) ∧ Src w' cb ad len cap f ∧ w.grownBy w' (some cb)

set_option maxHeartbeats 4000000 in
theorem drawRight (w : World) (hs : Src w cb ad len cap f) (hcb : cb < w.heap.size) (had : ∀ x, ad = some x → 0 < len → x.block < w.heap.size) :
    Calls Tryz.prog 87 #[.pointer (some ⟨cb, 0, none⟩)] w fun e w' => ∃ a b c L, Drawn w cb ad len cap f a b c L e w' ∧ L.length ≤ 3 ∧ okF a b c L.length = true := by
  obtain ⟨x, hx⟩ : ∃ x, x = w.alloc (Obj.cells #[.int .i64 0, .int .i64 0, .int .i64 0, .slice none 0 0] 30) := ⟨_, rfl⟩
  have R0 : FrameAt x w.heap.size 0 0 0 none 0 0 := by rw [hx]; exact frameAt_box w _ _ _ _ _ _ _
  have Z0 : ∀ i, x.frozen? ⟨w.heap.size, i, none⟩ = false := by intro i; rw [hx]; simp [go_sem]
  have B0 : Below w.heap.size w x := by rw [hx]; exact below_box w _
  have T0 : w.heap.size < x.heap.size := by rw [hx]; exact size_box w _
  have s0 := hs.later B0
  go_enter Tryz.func87, Tryz.ntmps87
  go_wp2_with fail
  go_at_call 35
  rw [← hx]
  clear hx
  refine (drawBelow s0 5 (by omega) (by omega)).mono ?_
  rintro e x1 ⟨a, rfl, a0, a1, s1, g1⟩
  go_wp2_with fail
  go_at_call 35
  refine (drawBelow s1 4 (by omega) (by omega)).mono ?_
  rintro e x2 ⟨b, rfl, b0, b1, s2, g2⟩
  go_wp2_with fail
  go_at_call 35
  refine (drawBelow s2 3 (by omega) (by omega)).mono ?_
  rintro e x3 ⟨c, rfl, c0, c1, s3, g3⟩
  have g := grown_trans (grown_trans g1 g2) g3
  have sg := g.size
  have wb : IntKind.i64.wrap (1 + b) = 1 + b := by rw [IntKind.wrap_i64]; omega
  obtain ⟨x4, hx4⟩ : ∃ z, z = x3.alloc (Obj.cells #[.int .i64 a, .int .i64 (1 + b), .int .i64 c, .slice none 0 0] 30) := ⟨_, rfl⟩
  have M : DR w x4.heap.size a (1 + b) c x3.heap.size cb ad len cap f x4 none 0 0 := by
    have k4 : Below x3.heap.size x3 x4 := by rw [hx4]; exact below_box x3 _
    have t4 : x3.heap.size < x4.heap.size := by rw [hx4]; exact size_box x3 _
    refine ⟨s3.later k4, ⟨k4.os.trans (g.os.trans B0.os), k4.tape.trans (g.tape.trans B0.tape), k4.output.trans (g.output.trans B0.output), by have := k4.size; omega, fun j hj hne => (k4.block j (by omega)).trans ((g.block j (by omega) hne).trans (B0.block j hj))⟩, ?_, Nat.le_refl _, fun i => ?_, (R0.grown g (by omega)).below k4 (by omega), fun i => ?_, hcb, by omega, t4, had⟩
    · rw [hx4]; exact frameAt_box x3 _ _ _ _ _ _ _
    · rw [hx4]; simp [go_sem]
    · exact (World.frozen?_of_block (a := ⟨w.heap.size, i, none⟩) ((k4.block _ (by show w.heap.size < _; omega)).trans (g.block _ (by show w.heap.size < _; omega) (by simp; omega)))).trans (Z0 i)
  clear g1 g2 g3 g s0 s1 s2 s3 R0 Z0 B0 hs
  have o4 : x4.ownsRow x4.heap.size 5 1 (.slice none 0 0) ([] : List Int).length (([] : List Int).map (Value.int .u8)) := World.ownsRow_nil _ _ _ _
  go_wp2_with fail
  rw [← hx4]
  clear hx4 wb
  have hb0 : 1 ≤ 1 + b := by omega
  have hb1 : 1 + b ≤ 9 := by omega
  generalize 1 + b = b' at *
  generalize x4.heap.size = B at *
  generalize x3.heap.size = P at *
  go_loopw [4] (fun i wr => ∃ (k : Nat) (adL : Option Addr) (capL : Nat) (L : List Int), k ≤ 3 ∧ i = .int .i64 k ∧ Hid (L.length = k) ∧ (∀ z ∈ L, 0 ≤ z ∧ z ≤ 255) ∧ DR w B a b' c P cb ad len cap f wr adL L.length capL ∧ wr.ownsRow B 5 1 (.slice adL L.length capL) L.length (L.map (Value.int .u8))) (fun i _ => 4 - (intOf i).toNat)
  case atStart => exact ⟨0, none, 0, [], by omega, rfl, rfl, fun z hz => by simp at hz, M, o4⟩
  case round =>
    clear M o4
    obtain ⟨k, adL, capL, L, hk3, rfl, hk, hLb, Mr, or_⟩ := hrel
    have hL3 : L.length ≤ 3 := by rw [hk.out]; exact hk3
    go_wp2_with fail
    go_at_call 35
    refine (drawBelow Mr.src 4 (by omega) (by omega)).mono ?_
    rintro e y ⟨z, rfl, z0, z1, hsz, hgz⟩
    have My := Mr.grow hsz hgz
    have oy := own_grown or_ hgz (by have := Mr.cbw; have := Mr.pw; have := Mr.pb; omega)
    clear Mr or_ hsz hgz
    by_cases hlt : (k : Int) < z
    · have hk2 : k ≤ 2 := by omega
      go_wp2_with fail
      refine wp_region_held (S := fun _ => True) (by kernel_rfl) ?_
      change wpAnyH _ _ _ _ _ _ _ _ (World.drew _)
      obtain ⟨y0, hy⟩ : ∃ z, z = World.drew y := ⟨_, rfl⟩
      have M0 : DR w B a b' c P cb ad len cap f y0 adL L.length capL := by rw [hy]; exact My.under (Below.refl _ _).drew
      have o0 : y0.ownsRow B 5 1 (.slice adL L.length capL) L.length (L.map (Value.int .u8)) := by rw [hy]; exact oy
      rw [← hy]
      clear hy My oy
      have htr : True := trivial
      refine takeW 0 19 (.pointer (some ⟨P, 3, none⟩)) rfl rfl (by kernel_rfl) (by kernel_rfl) (by kernel_rfl) (fun _ _ _ h => h) (by kernel_rfl) (by (intro w hSw; go_simp)) (by assumption) ?_
      simp only [List.set_cons_zero, List.set_cons_succ]
      refine takeW 2 21 (.pointer (some ⟨cb, 0, none⟩)) rfl rfl (by kernel_rfl) (by kernel_rfl) (by kernel_rfl) (fun _ _ _ h => h) (by kernel_rfl) (by (intro w hSw; go_simp)) (by assumption) ?_
      simp only [List.set_cons_zero, List.set_cons_succ]
      refine wpAnyH_all (rs := [1, 3]) (by kernel_rfl) (by simp) ?_
      intro i hi; rcases (by simpa using hi : i = 1 ∨ i = 3) with rfl | rfl
      · refine wpOp_step rfl (fun K hK => ?_)
        rw [if_pos (by kernel_rfl)]
        have hq := M0.fat.2.2.2
        go_simp
        clear hq
        refine hK _ _ ⟨trivial, ?_⟩
        clear hK K hi
        refine wpAnyH_all (rs := [3]) (by kernel_rfl) (by simp) ?_
        intro i hi; obtain rfl : i = 3 := by simpa using hi
        refine wpOp_step rfl (fun K hK => ?_)
        rw [if_pos (by kernel_rfl)]
        go_simp
        go_at_call 35
        refine (drawBelow M0.src 256 (by omega) (by omega)).mono ?_
        rintro e y1 ⟨x, rfl, x0, x1, hs1, hg1⟩
        have M1 := M0.grow hs1 hg1
        have o1 := own_grown o0 hg1 (by have := M0.cbw; have := M0.pw; have := M0.pb; omega)
        clear hs1 hg1 o0 M0
        refine hK _ _ ⟨trivial, ?_⟩
        clear hK K hi
        have hxw : IntKind.u8.wrap x = x := by rw [IntKind.wrap_u8]; omega
        refine takeW 4 23 (.int .u8 x) rfl rfl (by kernel_rfl) (by kernel_rfl) (by kernel_rfl) (fun _ _ _ h => h) (by kernel_rfl) (by (intro w hSw; go_simp)) (by assumption) ?_
        simp only [List.set_cons_zero, List.set_cons_succ]
        refine wpAnyH_all (rs := [5]) (by kernel_rfl) (by simp) ?_
        intro i hi; obtain rfl : i = 5 := by simpa using hi
        refine wpOp_step rfl (fun K hK => ?_)
        rw [if_pos (by kernel_rfl)]
        go_simp
        obtain ⟨y2, hy⟩ : ∃ z, z = y1.alloc (Obj.cells #[.int .u8 x] 5) := ⟨_, rfl⟩
        have v2 : View y2 (some ⟨y1.heap.size, 0, none⟩) [x].length (fun i => [x].getD i 0) := by rw [hy]; exact one_view y1 x
        have k2 : Below y1.heap.size y1 y2 := by rw [hy]; exact below_box y1 _
        rw [← hy]
        have M2 := M1.under (k2.mono M1.base)
        have o2 := own_carry o1 k2
        clear hy k2 o1 M1
        refine hK _ _ ⟨trivial, ?_⟩
        clear hK K hi
        refine wpAnyH_all (rs := [6]) (by kernel_rfl) (by simp) ?_
        intro i hi; obtain rfl : i = 6 := by simpa using hi
        refine wpOp_step rfl (fun K hK => ?_)
        rw [if_pos (by kernel_rfl)]
        refine app_opG _ _ rfl B _ L rfl o2 _ 1 [x] rfl v2 (by simp; omega) M2.base ?_
        intro v3 y3 o3 k3
        have M3 := M2.under k3
        clear M2 o2 v2 k3
        refine hK _ _ ⟨trivial, ?_⟩
        clear hK K hi
        obtain ⟨_, ad3, cap3, rfl, _, _, _⟩ := own_view o3
        have fz := M3.fz 3
        obtain ⟨C1, C2, C3, C4⟩ := M3.fat
        refine takeW 7 26 (.pointer (some ⟨P, 3, none⟩)) rfl rfl (by kernel_rfl) (by kernel_rfl) (by kernel_rfl) (fun _ _ _ h => h) (by kernel_rfl) (by (intro w hSw; go_simp)) (by assumption) ?_
        simp only [List.set_cons_zero, List.set_cons_succ]
        refine wpAnyH_all (rs := [8]) (by kernel_rfl) (by simp) ?_
        intro i hi; obtain rfl : i = 8 := by simpa using hi
        refine wpOp_step rfl (fun K hK => ?_)
        rw [if_pos (by kernel_rfl)]
        go_simp
        obtain ⟨y4, hy⟩ : ∃ z, z = y3.setCell ⟨P, 3, none⟩ (.slice ad3 (L ++ [x]).length cap3) := ⟨_, rfl⟩
        have M4 := M3.set ad3 (L ++ [x]).length cap3
        have o4 := M3.setOwn ad3 (L ++ [x]).length cap3 o3
        rw [← hy] at M4 o4
        have hl4 : (L ++ [x]).length = L.length + 1 := by simp
        first | rw [← hy] | (rw [hl4] at hy; rw [← hy])
        clear hy C1 C2 C3 C4 fz M3 o3
        refine hK _ _ ⟨trivial, ?_⟩
        clear hK K hi
        refine wpAnyH_done (by kernel_rfl) ?_ _
        have hb4 : ∀ z ∈ L ++ [x], 0 ≤ z ∧ z ≤ 255 := fun z hz => by rcases List.mem_append.1 hz with h | h; exact hLb z h; simp at h; omega
        go_wp2
        go_roundw
        case rel => exact ⟨k + 1, ad3, cap3, L ++ [x], by omega, by go_num, by rw [hl4, hk.out]; rfl, hb4, M4, o4⟩
        case measure => simp [intOf]; omega
      · refine wpOp_step rfl (fun K hK => ?_)
        rw [if_pos (by kernel_rfl)]
        go_simp
        go_at_call 35
        refine (drawBelow M0.src 256 (by omega) (by omega)).mono ?_
        rintro e y1 ⟨x, rfl, x0, x1, hs1, hg1⟩
        have M1 := M0.grow hs1 hg1
        have o1 := own_grown o0 hg1 (by have := M0.cbw; have := M0.pw; have := M0.pb; omega)
        clear hs1 hg1 o0 M0
        refine hK _ _ ⟨trivial, ?_⟩
        clear hK K hi
        have hxw : IntKind.u8.wrap x = x := by rw [IntKind.wrap_u8]; omega
        refine takeW 4 23 (.int .u8 x) rfl rfl (by kernel_rfl) (by kernel_rfl) (by kernel_rfl) (fun _ _ _ h => h) (by kernel_rfl) (by (intro w hSw; go_simp)) (by assumption) ?_
        simp only [List.set_cons_zero, List.set_cons_succ]
        refine wpAnyH_all (rs := [1, 5]) (by kernel_rfl) (by simp) ?_
        intro i hi; rcases (by simpa using hi : i = 1 ∨ i = 5) with rfl | rfl
        · refine wpOp_step rfl (fun K hK => ?_)
          rw [if_pos (by kernel_rfl)]
          have hq := M1.fat.2.2.2
          go_simp
          clear hq
          refine hK _ _ ⟨trivial, ?_⟩
          clear hK K hi
          refine wpAnyH_all (rs := [5]) (by kernel_rfl) (by simp) ?_
          intro i hi; obtain rfl : i = 5 := by simpa using hi
          refine wpOp_step rfl (fun K hK => ?_)
          rw [if_pos (by kernel_rfl)]
          go_simp
          obtain ⟨y2, hy⟩ : ∃ z, z = y1.alloc (Obj.cells #[.int .u8 x] 5) := ⟨_, rfl⟩
          have v2 : View y2 (some ⟨y1.heap.size, 0, none⟩) [x].length (fun i => [x].getD i 0) := by rw [hy]; exact one_view y1 x
          have k2 : Below y1.heap.size y1 y2 := by rw [hy]; exact below_box y1 _
          rw [← hy]
          have M2 := M1.under (k2.mono M1.base)
          have o2 := own_carry o1 k2
          clear hy k2 o1 M1
          refine hK _ _ ⟨trivial, ?_⟩
          clear hK K hi
          refine wpAnyH_all (rs := [6]) (by kernel_rfl) (by simp) ?_
          intro i hi; obtain rfl : i = 6 := by simpa using hi
          refine wpOp_step rfl (fun K hK => ?_)
          rw [if_pos (by kernel_rfl)]
          refine app_opG _ _ rfl B _ L rfl o2 _ 1 [x] rfl v2 (by simp; omega) M2.base ?_
          intro v3 y3 o3 k3
          have M3 := M2.under k3
          clear M2 o2 v2 k3
          refine hK _ _ ⟨trivial, ?_⟩
          clear hK K hi
          obtain ⟨_, ad3, cap3, rfl, _, _, _⟩ := own_view o3
          have fz := M3.fz 3
          obtain ⟨C1, C2, C3, C4⟩ := M3.fat
          refine takeW 7 26 (.pointer (some ⟨P, 3, none⟩)) rfl rfl (by kernel_rfl) (by kernel_rfl) (by kernel_rfl) (fun _ _ _ h => h) (by kernel_rfl) (by (intro w hSw; go_simp)) (by assumption) ?_
          simp only [List.set_cons_zero, List.set_cons_succ]
          refine wpAnyH_all (rs := [8]) (by kernel_rfl) (by simp) ?_
          intro i hi; obtain rfl : i = 8 := by simpa using hi
          refine wpOp_step rfl (fun K hK => ?_)
          rw [if_pos (by kernel_rfl)]
          go_simp
          obtain ⟨y4, hy⟩ : ∃ z, z = y3.setCell ⟨P, 3, none⟩ (.slice ad3 (L ++ [x]).length cap3) := ⟨_, rfl⟩
          have M4 := M3.set ad3 (L ++ [x]).length cap3
          have o4 := M3.setOwn ad3 (L ++ [x]).length cap3 o3
          rw [← hy] at M4 o4
          have hl4 : (L ++ [x]).length = L.length + 1 := by simp
          first | rw [← hy] | (rw [hl4] at hy; rw [← hy])
          clear hy C1 C2 C3 C4 fz M3 o3
          refine hK _ _ ⟨trivial, ?_⟩
          clear hK K hi
          refine wpAnyH_done (by kernel_rfl) ?_ _
          have hb4 : ∀ z ∈ L ++ [x], 0 ≤ z ∧ z ≤ 255 := fun z hz => by rcases List.mem_append.1 hz with h | h; exact hLb z h; simp at h; omega
          go_wp2
          go_roundw
          case rel => exact ⟨k + 1, ad3, cap3, L ++ [x], by omega, by go_num, by rw [hl4, hk.out]; rfl, hb4, M4, o4⟩
          case measure => simp [intOf]; omega
        · refine wpOp_step rfl (fun K hK => ?_)
          rw [if_pos (by kernel_rfl)]
          go_simp
          obtain ⟨y2, hy⟩ : ∃ z, z = y1.alloc (Obj.cells #[.int .u8 x] 5) := ⟨_, rfl⟩
          have v2 : View y2 (some ⟨y1.heap.size, 0, none⟩) [x].length (fun i => [x].getD i 0) := by rw [hy]; exact one_view y1 x
          have k2 : Below y1.heap.size y1 y2 := by rw [hy]; exact below_box y1 _
          rw [← hy]
          have M2 := M1.under (k2.mono M1.base)
          have o2 := own_carry o1 k2
          clear hy k2 o1 M1
          refine hK _ _ ⟨trivial, ?_⟩
          clear hK K hi
          refine wpAnyH_all (rs := [1]) (by kernel_rfl) (by simp) ?_
          intro i hi; obtain rfl : i = 1 := by simpa using hi
          refine wpOp_step rfl (fun K hK => ?_)
          rw [if_pos (by kernel_rfl)]
          have hq := M2.fat.2.2.2
          go_simp
          clear hq
          refine hK _ _ ⟨trivial, ?_⟩
          clear hK K hi
          refine wpAnyH_all (rs := [6]) (by kernel_rfl) (by simp) ?_
          intro i hi; obtain rfl : i = 6 := by simpa using hi
          refine wpOp_step rfl (fun K hK => ?_)
          rw [if_pos (by kernel_rfl)]
          refine app_opG _ _ rfl B _ L rfl o2 _ 1 [x] rfl v2 (by simp; omega) M2.base ?_
          intro v3 y3 o3 k3
          have M3 := M2.under k3
          clear M2 o2 v2 k3
          refine hK _ _ ⟨trivial, ?_⟩
          clear hK K hi
          obtain ⟨_, ad3, cap3, rfl, _, _, _⟩ := own_view o3
          have fz := M3.fz 3
          obtain ⟨C1, C2, C3, C4⟩ := M3.fat
          refine takeW 7 26 (.pointer (some ⟨P, 3, none⟩)) rfl rfl (by kernel_rfl) (by kernel_rfl) (by kernel_rfl) (fun _ _ _ h => h) (by kernel_rfl) (by (intro w hSw; go_simp)) (by assumption) ?_
          simp only [List.set_cons_zero, List.set_cons_succ]
          refine wpAnyH_all (rs := [8]) (by kernel_rfl) (by simp) ?_
          intro i hi; obtain rfl : i = 8 := by simpa using hi
          refine wpOp_step rfl (fun K hK => ?_)
          rw [if_pos (by kernel_rfl)]
          go_simp
          obtain ⟨y4, hy⟩ : ∃ z, z = y3.setCell ⟨P, 3, none⟩ (.slice ad3 (L ++ [x]).length cap3) := ⟨_, rfl⟩
          have M4 := M3.set ad3 (L ++ [x]).length cap3
          have o4 := M3.setOwn ad3 (L ++ [x]).length cap3 o3
          rw [← hy] at M4 o4
          have hl4 : (L ++ [x]).length = L.length + 1 := by simp
          first | rw [← hy] | (rw [hl4] at hy; rw [← hy])
          clear hy C1 C2 C3 C4 fz M3 o3
          refine hK _ _ ⟨trivial, ?_⟩
          clear hK K hi
          refine wpAnyH_done (by kernel_rfl) ?_ _
          have hb4 : ∀ z ∈ L ++ [x], 0 ≤ z ∧ z ≤ 255 := fun z hz => by rcases List.mem_append.1 hz with h | h; exact hLb z h; simp at h; omega
          go_wp2
          go_roundw
          case rel => exact ⟨k + 1, ad3, cap3, L ++ [x], by omega, by go_num, by rw [hl4, hk.out]; rfl, hb4, M4, o4⟩
          case measure => simp [intOf]; omega
    · have hd : decide ((k : Int) < z) = false := decide_eq_false hlt
      obtain ⟨C1, C2, C3, C4⟩ := My.fat
      obtain ⟨D1, D2, D3, D4⟩ := My.res
      have e0 := My.rfz 0
      have e1 := My.rfz 1
      have e2 := My.rfz 2
      have e3 := My.rfz 3
      have q1 := My.pw
      have q2 := My.pb
      go_wp2
      refine bodyPost_ret (v := .agg #[.int .i64 a, .int .i64 b', .int .i64 c, .slice adL L.length capL]) (by simp [results, Tryz.results87, go_sem, *]) rfl ⟨a, b', c, L, ⟨adL, capL, rfl, ?_, hLb, ?_, ?_⟩, hL3, ?_⟩
      · refine own_base (own_keep oy (fun g hg => ?_)) (by omega : w.heap.size ≤ B)
        rw [Below.heap_setCell _ _ _ _ (by show g ≠ w.heap.size; omega), Below.heap_setCell _ _ _ _ (by show g ≠ w.heap.size; omega), Below.heap_setCell _ _ _ _ (by show g ≠ w.heap.size; omega), Below.heap_setCell _ _ _ _ (by show g ≠ w.heap.size; omega)]
      · refine My.src.move ?_ ?_
        · have := My.cbw
          rw [Below.heap_setCell _ _ _ _ (by show cb ≠ w.heap.size; omega), Below.heap_setCell _ _ _ _ (by show cb ≠ w.heap.size; omega), Below.heap_setCell _ _ _ _ (by show cb ≠ w.heap.size; omega), Below.heap_setCell _ _ _ _ (by show cb ≠ w.heap.size; omega)]
        · intro q hq hp
          have := My.adw q hq hp
          rw [Below.heap_setCell _ _ _ _ (by show q.block ≠ w.heap.size; omega), Below.heap_setCell _ _ _ _ (by show q.block ≠ w.heap.size; omega), Below.heap_setCell _ _ _ _ (by show q.block ≠ w.heap.size; omega), Below.heap_setCell _ _ _ _ (by show q.block ≠ w.heap.size; omega)]
      · have hg := My.grown
        refine ⟨hg.os, hg.tape, hg.output, by simpa using hg.size, fun j hj hne => ?_⟩
        rw [Below.heap_setCell _ _ _ _ (by show j ≠ w.heap.size; omega), Below.heap_setCell _ _ _ _ (by show j ≠ w.heap.size; omega), Below.heap_setCell _ _ _ _ (by show j ≠ w.heap.size; omega), Below.heap_setCell _ _ _ _ (by show j ≠ w.heap.size; omega)]
        exact hg.block j hj hne
      · unfold okF; simp; omega

end Go.Proofs.YtifndemkkaelaaaGreat
