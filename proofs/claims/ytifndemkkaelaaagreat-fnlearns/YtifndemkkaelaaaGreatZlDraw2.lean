/- What is drawn for frames: any frame. -/
import Derived.Test.YtifndemkkaelaaaGreatRows
import Derived.WalkKit
import Derived.ProofKit
import Derived.OpenShut
import Derived.ShutString
import Derived.ChangeOld
import Derived.Below
import Derived.Deep.QuietTactic
import Derived.BigQuiet
import Derived.WalkSmall
import Derived.Laws.OwnMore
import Derived.WalkSpells
import Derived.WalkLawsBesides
import Derived.Test.YtifndemkkaelaaaGreatZlDraw1
namespace Go.Proofs.YtifndemkkaelaaaGreat
open Go.ChangeShapes Go.WideShapes Go.ChangeAt Go.RowKit
open Go.ChangeMaps (open_string shut_string)
set_option linter.unusedVariables false
set_option maxRecDepth 100000

variable {w : World} {B : Nat} {a b c : Int} {P cb : Nat} {ad : Option Addr} {len cap : Nat} {f : Nat → Int} {y y' : World} {adL : Option Addr} {n capL : Nat}

theorem DR.set0 (h : DR w B a b c P cb ad len cap f y adL n capL) (a' : Int) : DR w B a' b c P cb ad len cap f (y.setCell ⟨P, 0, none⟩ (.int .i64 a')) adL n capL := by
  obtain ⟨h1, h2, h3, h4, h5, h6, h7, h8, h9, h10, h11⟩ := h
  have k : ∀ g, g ≠ P → (y.setCell ⟨P, 0, none⟩ (.int .i64 a')).heap[g]? = y.heap[g]? := fun g hg => Below.heap_setCell _ _ _ _ hg
  refine ⟨h1.move (k _ (by omega)) (fun x e hp => k _ (by have := h11 x e hp; omega)), ⟨h2.os, h2.tape, h2.output, by simpa using h2.size, fun j hj hne => (k j (by omega)).trans (h2.block j hj hne)⟩, ?_, by simpa using h4, fun i => by simpa using h5 i, h6.same (k _ (by omega)), fun i => by simpa using h7 i, h8, h9, h10, h11⟩
  exact ⟨cell_set_same ⟨_, h3.1⟩, (cell_set_ne (by decide)).trans h3.2.1, (cell_set_ne (by decide)).trans h3.2.2.1, (cell_set_ne (by decide)).trans h3.2.2.2⟩
theorem DR.set1 (h : DR w B a b c P cb ad len cap f y adL n capL) (b' : Int) : DR w B a b' c P cb ad len cap f (y.setCell ⟨P, 1, none⟩ (.int .i64 b')) adL n capL := by
  obtain ⟨h1, h2, h3, h4, h5, h6, h7, h8, h9, h10, h11⟩ := h
  have k : ∀ g, g ≠ P → (y.setCell ⟨P, 1, none⟩ (.int .i64 b')).heap[g]? = y.heap[g]? := fun g hg => Below.heap_setCell _ _ _ _ hg
  refine ⟨h1.move (k _ (by omega)) (fun x e hp => k _ (by have := h11 x e hp; omega)), ⟨h2.os, h2.tape, h2.output, by simpa using h2.size, fun j hj hne => (k j (by omega)).trans (h2.block j hj hne)⟩, ?_, by simpa using h4, fun i => by simpa using h5 i, h6.same (k _ (by omega)), fun i => by simpa using h7 i, h8, h9, h10, h11⟩
  exact ⟨(cell_set_ne (by decide)).trans h3.1, cell_set_same ⟨_, h3.2.1⟩, (cell_set_ne (by decide)).trans h3.2.2.1, (cell_set_ne (by decide)).trans h3.2.2.2⟩
theorem DR.set2 (h : DR w B a b c P cb ad len cap f y adL n capL) (c' : Int) : DR w B a b c' P cb ad len cap f (y.setCell ⟨P, 2, none⟩ (.int .i64 c')) adL n capL := by
  obtain ⟨h1, h2, h3, h4, h5, h6, h7, h8, h9, h10, h11⟩ := h
  have k : ∀ g, g ≠ P → (y.setCell ⟨P, 2, none⟩ (.int .i64 c')).heap[g]? = y.heap[g]? := fun g hg => Below.heap_setCell _ _ _ _ hg
  refine ⟨h1.move (k _ (by omega)) (fun x e hp => k _ (by have := h11 x e hp; omega)), ⟨h2.os, h2.tape, h2.output, by simpa using h2.size, fun j hj hne => (k j (by omega)).trans (h2.block j hj hne)⟩, ?_, by simpa using h4, fun i => by simpa using h5 i, h6.same (k _ (by omega)), fun i => by simpa using h7 i, h8, h9, h10, h11⟩
  exact ⟨(cell_set_ne (by decide)).trans h3.1, (cell_set_ne (by decide)).trans h3.2.1, cell_set_same ⟨_, h3.2.2.1⟩, (cell_set_ne (by decide)).trans h3.2.2.2⟩
theorem own_setP {base E m i : Nat} {adL : Option Addr} {capL : Nat} {xs : List Value} {u : Value} (o : y.ownsRow base E 1 (.slice adL m capL) m xs) (hne : ∀ x : Addr, adL = some x → x.block ≠ P) : (y.setCell ⟨P, i, none⟩ u).ownsRow base E 1 (.slice adL m capL) m xs :=
  own_keep2 o hne (fun k hk => Below.heap_setCell _ _ _ _ hk)
theorem DR.drawn (My : DR w B a b c P cb ad len cap f y adL n capL) {L : List Int} (hn : n = L.length) (oy : y.ownsRow w.heap.size 5 1 (.slice adL n capL) n (L.map (Value.int .u8))) (hne : ∀ x : Addr, adL = some x → x.block ≠ w.heap.size) (hLb : ∀ x ∈ L, 0 ≤ x ∧ x ≤ 255) :
    Drawn w cb ad len cap f a b c L (.returned (.agg #[.int .i64 a, .int .i64 b, .int .i64 c, .slice adL n capL])) ((((y.setCell ⟨w.heap.size, 0, none⟩ (.int .i64 a)).setCell ⟨w.heap.size, 1, none⟩ (.int .i64 b)).setCell ⟨w.heap.size, 2, none⟩ (.int .i64 c)).setCell ⟨w.heap.size, 3, none⟩ (.slice adL n capL)) := by
  subst hn
  have k : ∀ g, g ≠ w.heap.size → ((((y.setCell ⟨w.heap.size, 0, none⟩ (.int .i64 a)).setCell ⟨w.heap.size, 1, none⟩ (.int .i64 b)).setCell ⟨w.heap.size, 2, none⟩ (.int .i64 c)).setCell ⟨w.heap.size, 3, none⟩ (.slice adL L.length capL)).heap[g]? = y.heap[g]? := fun g hg => by
    rw [Below.heap_setCell _ _ _ _ hg, Below.heap_setCell _ _ _ _ hg, Below.heap_setCell _ _ _ _ hg, Below.heap_setCell _ _ _ _ hg]
  refine ⟨adL, capL, rfl, own_keep2 oy hne k, hLb, My.src.move (k _ (by have := My.cbw; omega)) (fun x e hp => k _ (by have := My.adw x e hp; omega)), ?_⟩
  have hg := My.grown
  exact ⟨hg.os, hg.tape, hg.output, by simpa using hg.size, fun j hj hne => (k j (by omega)).trans (hg.block j hj hne)⟩
def AnyI (x : Int) : Prop := True
set_option maxHeartbeats 4000000 in
theorem drawF (w : World) (hs : Src w cb ad len cap f) (hcb : cb < w.heap.size) (had : ∀ x, ad = some x → 0 < len → x.block < w.heap.size) :
    Calls Tryz.prog 38 #[.pointer (some ⟨cb, 0, none⟩)] w fun e w' => ∃ a b c L, Drawn w cb ad len cap f a b c L e w' ∧ L.length ≤ 31 := by
  obtain ⟨x, hx⟩ : ∃ x, x = w.alloc (Obj.cells #[.int .i64 0, .int .i64 0, .int .i64 0, .slice none 0 0] 30) := ⟨_, rfl⟩
  have R0 : FrameAt x w.heap.size 0 0 0 none 0 0 := by rw [hx]; exact frameAt_box w _ _ _ _ _ _ _
  have Z0 : ∀ i, x.frozen? ⟨w.heap.size, i, none⟩ = false := by intro i; rw [hx]; simp [go_sem]
  have B0 : Below w.heap.size w x := by rw [hx]; exact below_box w _
  have T0 : w.heap.size < x.heap.size := by rw [hx]; exact size_box w _
  have s0 := hs.later B0
  go_enter Tryz.func38, Tryz.ntmps38
  go_wp2_with fail
  go_at_call 87
  rw [← hx]
  clear hx
  refine (drawRight x s0 (by omega) (fun q e hp => by have := had q e hp; omega)).mono ?_
  rintro e x3 ⟨a, b, c, L, ⟨adL, capL, rfl, oL, hLb, s3, g⟩, hL3, _⟩
  have sg := g.size
  have mL := (own_view2 oL).2.2
  obtain ⟨x4, hx4⟩ : ∃ z, z = x3.alloc (Obj.cells #[.int .i64 a, .int .i64 b, .int .i64 c, .slice adL L.length capL] 30) := ⟨_, rfl⟩
  have k4 : Below x3.heap.size x3 x4 := by rw [hx4]; exact below_box x3 _
  have t4 : x3.heap.size < x4.heap.size := by rw [hx4]; exact size_box x3 _
  have M : DR w x4.heap.size a b c x3.heap.size cb ad len cap f x4 adL L.length capL := by
    refine ⟨s3.later k4, ⟨k4.os.trans (g.os.trans B0.os), k4.tape.trans (g.tape.trans B0.tape), k4.output.trans (g.output.trans B0.output), by have := k4.size; omega, fun j hj hne => (k4.block j (by omega)).trans ((g.block j (by omega) hne).trans (B0.block j hj))⟩, ?_, Nat.le_refl _, fun i => ?_, (R0.grown g (by omega)).below k4 (by omega), fun i => ?_, hcb, by omega, t4, had⟩
    · rw [hx4]; exact frameAt_box x3 _ _ _ _ _ _ _
    · rw [hx4]; simp [go_sem]
    · exact (World.frozen?_of_block (a := ⟨w.heap.size, i, none⟩) ((k4.block _ (by show w.heap.size < _; omega)).trans (g.block _ (by show w.heap.size < _; omega) (by simp; omega)))).trans (Z0 i)
  have o4 : x4.ownsRow x.heap.size 5 1 (.slice adL L.length capL) L.length (L.map (Value.int .u8)) := own_carry oL k4
  have nP : ∀ q : Addr, adL = some q → q.block ≠ x3.heap.size := fun q h => by have := (mL q h).2; omega
  have nW : ∀ q : Addr, adL = some q → q.block ≠ w.heap.size := fun q h => by have := (mL q h).1; omega
  clear s0 s3 R0 Z0 B0 hs oL g mL k4
  go_wp2_with fail
  go_at_call 35
  rw [← hx4]
  clear hx4
  generalize x4.heap.size = B at *
  refine (drawBelow M.src 10 (by omega) (by omega)).mono ?_
  rintro e y ⟨z, rfl, z0, z1, hsz, hgz⟩
  have My := M.grow hsz hgz
  have oy := own_grown o4 hgz (by omega)
  clear M o4 hsz hgz
  have wx : w.heap.size ≤ x.heap.size := by omega
  generalize x3.heap.size = P at *
  by_cases h0 : z = 0
  · subst h0
    obtain ⟨y1, hy⟩ : ∃ q, q = y.alloc (Obj.cells #[.int .i64 (-1), .int .i64 (9), .int .i64 (10)] 3) := ⟨_, rfl⟩
    have ky : Below y.heap.size y y1 := by rw [hy]; exact below_box y _
    have ty : y.heap.size < y1.heap.size := by rw [hy]; exact size_box y _
    have hlit : ∀ i, i < 3 → ∃ q, y1.cell? ⟨y.heap.size, i, none⟩ = some (.int .i64 q) ∧ AnyI q := by
      intro i hi
      rw [hy]
      rcases (by omega : i = 0 ∨ i = 1 ∨ i = 2) with rfl | rfl | rfl <;> exact ⟨_, lit_at y _ _ _ rfl, trivial⟩
    have M1 := My.under (ky.mono My.base)
    have o1 := own_carry oy ky
    have hcy := My.cbw
    have hgy := My.grown.size
    go_wp2_with fail
    go_at_call 37
    rw [← hy]
    clear hy
    refine (pickIntP M1.src AnyI y.heap.size 3 3 (by omega) (by omega) (by omega) hlit).mono ?_
    rintro e y2 ⟨v, rfl, _, hs2, hg2⟩
    have M2 := M1.grow hs2 hg2
    have o2 := own_grown o1 hg2 (by omega)
    clear M1 o1 hs2 hg2 hlit My oy
    obtain ⟨C1, C2, C3, C4⟩ := M2.fat
    have fz := M2.fz 0
    have Mz := M2.set0 v
    have oz := own_setP (P := P) (i := 0) (u := .int .i64 v) o2 nP
    obtain ⟨zz, hzz⟩ : ∃ q, q = y2.setCell ⟨P, 0, none⟩ (.int .i64 v) := ⟨_, rfl⟩
    rw [← hzz] at Mz oz
    have D := M2.res
    skip
    obtain ⟨E1, E2, E3, E4⟩ := Mz.fat
    obtain ⟨D1, D2, D3, D4⟩ := Mz.res
    have e0 := Mz.rfz 0
    have e1 := Mz.rfz 1
    have e2 := Mz.rfz 2
    have e3 := Mz.rfz 3
    rw [hzz] at E1 E2 E3 E4 D1 D2 D3 D4 e0 e1 e2 e3
    go_wp2
    rw [hzz] at Mz oz
    refine bodyPost_ret (v := .agg #[.int .i64 v, .int .i64 b, .int .i64 c, .slice adL L.length capL]) (by simp [results, Tryz.results38, go_sem, *]) rfl ⟨v, b, c, L, Mz.drawn rfl (own_base oz wx) nW hLb, by omega⟩
  have hd0 : decide (z = 0) = false := decide_eq_false h0
  by_cases h1 : z = 1
  · subst h1
    obtain ⟨y1, hy⟩ : ∃ q, q = y.alloc (Obj.cells #[.int .i64 (0), .int .i64 (9), .int .i64 (10)] 3) := ⟨_, rfl⟩
    have ky : Below y.heap.size y y1 := by rw [hy]; exact below_box y _
    have ty : y.heap.size < y1.heap.size := by rw [hy]; exact size_box y _
    have hlit : ∀ i, i < 3 → ∃ q, y1.cell? ⟨y.heap.size, i, none⟩ = some (.int .i64 q) ∧ AnyI q := by
      intro i hi
      rw [hy]
      rcases (by omega : i = 0 ∨ i = 1 ∨ i = 2) with rfl | rfl | rfl <;> exact ⟨_, lit_at y _ _ _ rfl, trivial⟩
    have M1 := My.under (ky.mono My.base)
    have o1 := own_carry oy ky
    have hcy := My.cbw
    have hgy := My.grown.size
    go_wp2_with fail
    go_at_call 37
    rw [← hy]
    clear hy
    refine (pickIntP M1.src AnyI y.heap.size 3 3 (by omega) (by omega) (by omega) hlit).mono ?_
    rintro e y2 ⟨v, rfl, _, hs2, hg2⟩
    have M2 := M1.grow hs2 hg2
    have o2 := own_grown o1 hg2 (by omega)
    clear M1 o1 hs2 hg2 hlit My oy
    obtain ⟨C1, C2, C3, C4⟩ := M2.fat
    have fz := M2.fz 1
    have Mz := M2.set1 v
    have oz := own_setP (P := P) (i := 1) (u := .int .i64 v) o2 nP
    obtain ⟨zz, hzz⟩ : ∃ q, q = y2.setCell ⟨P, 1, none⟩ (.int .i64 v) := ⟨_, rfl⟩
    rw [← hzz] at Mz oz
    have D := M2.res
    skip
    obtain ⟨E1, E2, E3, E4⟩ := Mz.fat
    obtain ⟨D1, D2, D3, D4⟩ := Mz.res
    have e0 := Mz.rfz 0
    have e1 := Mz.rfz 1
    have e2 := Mz.rfz 2
    have e3 := Mz.rfz 3
    rw [hzz] at E1 E2 E3 E4 D1 D2 D3 D4 e0 e1 e2 e3
    go_wp2
    rw [hzz] at Mz oz
    refine bodyPost_ret (v := .agg #[.int .i64 a, .int .i64 v, .int .i64 c, .slice adL L.length capL]) (by simp [results, Tryz.results38, go_sem, *]) rfl ⟨a, v, c, L, Mz.drawn rfl (own_base oz wx) nW hLb, by omega⟩
  have hd1 : decide (z = 1) = false := decide_eq_false h1
  by_cases h2 : z = 2
  · subst h2
    obtain ⟨y1, hy⟩ : ∃ q, q = y.alloc (Obj.cells #[.int .i64 (-1), .int .i64 (4), .int .i64 (5)] 3) := ⟨_, rfl⟩
    have ky : Below y.heap.size y y1 := by rw [hy]; exact below_box y _
    have ty : y.heap.size < y1.heap.size := by rw [hy]; exact size_box y _
    have hlit : ∀ i, i < 3 → ∃ q, y1.cell? ⟨y.heap.size, i, none⟩ = some (.int .i64 q) ∧ AnyI q := by
      intro i hi
      rw [hy]
      rcases (by omega : i = 0 ∨ i = 1 ∨ i = 2) with rfl | rfl | rfl <;> exact ⟨_, lit_at y _ _ _ rfl, trivial⟩
    have M1 := My.under (ky.mono My.base)
    have o1 := own_carry oy ky
    have hcy := My.cbw
    have hgy := My.grown.size
    go_wp2_with fail
    go_at_call 37
    rw [← hy]
    clear hy
    refine (pickIntP M1.src AnyI y.heap.size 3 3 (by omega) (by omega) (by omega) hlit).mono ?_
    rintro e y2 ⟨v, rfl, _, hs2, hg2⟩
    have M2 := M1.grow hs2 hg2
    have o2 := own_grown o1 hg2 (by omega)
    clear M1 o1 hs2 hg2 hlit My oy
    obtain ⟨C1, C2, C3, C4⟩ := M2.fat
    have fz := M2.fz 2
    have Mz := M2.set2 v
    have oz := own_setP (P := P) (i := 2) (u := .int .i64 v) o2 nP
    obtain ⟨zz, hzz⟩ : ∃ q, q = y2.setCell ⟨P, 2, none⟩ (.int .i64 v) := ⟨_, rfl⟩
    rw [← hzz] at Mz oz
    have D := M2.res
    skip
    obtain ⟨E1, E2, E3, E4⟩ := Mz.fat
    obtain ⟨D1, D2, D3, D4⟩ := Mz.res
    have e0 := Mz.rfz 0
    have e1 := Mz.rfz 1
    have e2 := Mz.rfz 2
    have e3 := Mz.rfz 3
    rw [hzz] at E1 E2 E3 E4 D1 D2 D3 D4 e0 e1 e2 e3
    go_wp2
    rw [hzz] at Mz oz
    refine bodyPost_ret (v := .agg #[.int .i64 a, .int .i64 b, .int .i64 v, .slice adL L.length capL]) (by simp [results, Tryz.results38, go_sem, *]) rfl ⟨a, b, v, L, Mz.drawn rfl (own_base oz wx) nW hLb, by omega⟩
  have hd2 : decide (z = 2) = false := decide_eq_false h2
  by_cases h3 : z = 3
  · subst h3
    obtain ⟨i0, hi, hz0, hz1, hz2⟩ := info_parts Tryz.info5'
    go_wp2_with fail
    go_at_call 35
    refine (drawBelow My.src 2 (by omega) (by omega)).mono ?_
    rintro e y1 ⟨v, rfl, v0, v1, hs1, hg1⟩
    have M1 := My.grow hs1 hg1
    clear My oy hs1 hg1
    obtain ⟨q, rfl⟩ : ∃ q : Nat, v = (q : Int) := ⟨v.toNat, by omega⟩
    have hq1 : q ≤ 1 := by omega
    have wq : IntKind.i64.wrap (30 + (q : Int)) = 30 + (q : Int) := by rw [IntKind.wrap_i64]; omega
    go_wp2_with (first | (refine wpList_make_full _ rfl _ _ 22 rfl y1.heap.size 5 i0 (.int .u8 0) 1 Tryz.underlying22 hi hz0 hz1 .i64 .i64 _ _ (30 + q) rfl rfl ?h1 ?h2 ?c1 ?c2 ?c3 ?_) | go_in)
    case h1 => push_cast; rfl
    case h2 => push_cast; rfl
    case c1 => rw [hz2]; omega
    case c2 => unfold maxLen; omega
    case c3 => exact Nat.le_refl _
    intro y2 hown hgrow
    have hxs : (madeCells #[Value.int .u8 0] (30 + q)).toList = (List.replicate (30 + q) (0 : Int)).map (Value.int .u8) := by rw [toList_madeCells_one, List.map_replicate]
    rw [hxs] at hown
    have k2 : Below y1.heap.size y1 y2 := (Below.refl _ _).grown hgrow (Nat.le_refl _) (by simp)
    have b1 := M1.base
    have p1 := M1.pb
    have p0 := M1.pw
    have M2 := M1.under (k2.mono b1)
    clear M1 hgrow hxs
    have Mz := M2.set (some ⟨y1.heap.size, 0, none⟩) (30 + q) (30 + q)
    have oz := own_setP (P := P) (i := 3) (u := .slice (some ⟨y1.heap.size, 0, none⟩) (30 + q) (30 + q)) hown (fun x h => by simp at h; subst h; show y1.heap.size ≠ P; omega)
    have nW' : ∀ x : Addr, some (⟨y1.heap.size, 0, none⟩ : Addr) = some x → x.block ≠ w.heap.size := fun x h => by simp at h; subst h; show y1.heap.size ≠ _; omega
    obtain ⟨C1, C2, C3, C4⟩ := M2.fat
    have fz := M2.fz 3
    obtain ⟨E1, E2, E3, E4⟩ := Mz.fat
    obtain ⟨D1, D2, D3, D4⟩ := Mz.res
    have e0 := Mz.rfz 0
    have e1 := Mz.rfz 1
    have e2 := Mz.rfz 2
    have e3 := Mz.rfz 3
    clear hown wq
    go_wp2
    refine bodyPost_ret (v := .agg #[.int .i64 a, .int .i64 b, .int .i64 c, .slice (some ⟨y1.heap.size, 0, none⟩) (30 + q) (30 + q)]) (by simp [results, Tryz.results38, go_sem, *]) rfl ⟨a, b, c, List.replicate (30 + q) 0, Mz.drawn (by simp) (own_base oz (by omega)) nW' (fun x hx => by have := (List.mem_replicate.1 hx).2; omega), by simp; omega⟩
  have hd3 : decide (z = 3) = false := decide_eq_false h3
  have Mz := My
  obtain ⟨C1, C2, C3, C4⟩ := Mz.fat
  obtain ⟨D1, D2, D3, D4⟩ := Mz.res
  have e0 := Mz.rfz 0
  have e1 := Mz.rfz 1
  have e2 := Mz.rfz 2
  have e3 := Mz.rfz 3
  go_wp2
  refine bodyPost_ret (v := .agg #[.int .i64 a, .int .i64 b, .int .i64 c, .slice adL L.length capL]) (by simp [results, Tryz.results38, go_sem, *]) rfl ⟨a, b, c, L, Mz.drawn rfl (own_base oy wx) nW hLb, by omega⟩

end Go.Proofs.YtifndemkkaelaaaGreat
