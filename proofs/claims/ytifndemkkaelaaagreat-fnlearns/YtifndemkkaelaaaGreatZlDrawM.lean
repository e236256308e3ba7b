/- What is drawn for members. -/
import Derived.Test.YtifndemkkaelaaaGreatRows
import Derived.WalkKit
import Derived.ProofKit
import Derived.OpenShut
import Derived.ShutString
import Derived.ChangeOld
import Derived.Below
import Derived.Deep.QuietTactic
import Derived.BigQuiet
import Derived.WalkSmall
import Derived.Laws.OwnMore
import Derived.WalkSpells
import Derived.WalkLawsBesides
import Derived.Laws.AppendOwnNone
import Derived.Laws.CopyOwn
import Derived.Test.YtifndemkkaelaaaGreatZl4
import Derived.Test.YtifndemkkaelaaaGreatZl29
import Derived.Test.YtifndemkkaelaaaGreatZl1
import Derived.Test.YtifndemkkaelaaaGreatZl13
namespace Go.Proofs.YtifndemkkaelaaaGreat
open Go.ChangeShapes Go.WideShapes Go.ChangeAt Go.RowKit
open Go.ChangeMaps (open_string shut_string)
set_option linter.unusedVariables false
set_option maxRecDepth 100000

theorem own_grown {w w' : World} {base E n cb : Nat} {v : Value} {xs : List Value} (h : w.ownsRow base E 1 v n xs) (hg : w.grownBy w' (some cb)) (hcb : cb < base) : w'.ownsRow base E 1 v n xs := by
  refine ⟨h.1, ?_⟩
  rcases h.2 with h | ⟨g, cap, cur, e, hb, hh, r⟩
  · exact .inl h
  · exact .inr ⟨g, cap, cur, e, hb, (hg.block g (Array.getElem?_eq_some_iff.1 hh).1 (by simp; omega)).trans hh, r⟩
theorem Src.move {w w' : World} {cb : Nat} {ad : Option Addr} {len cap : Nat} {f : Nat → Int} (h : Src w cb ad len cap f) (hc : w'.heap[cb]? = w.heap[cb]?) (ha : ∀ x, ad = some x → 0 < len → w'.heap[x.block]? = w.heap[x.block]?) : Src w' cb ad len cap f :=
  ⟨h.cur.carry hc, h.view.carry (fun x e hp => ha x e hp), h.ne, h.small, h.bytes⟩

theorem own_viewI {w : World} {base E n : Nat} {v : Value} {L : List Int} (h : w.ownsRow base E 1 v n (L.map (Value.int .i64))) :
    n = L.length ∧ ∃ ad cap, v = .slice ad n cap ∧ ViewI w ad n (fun i => L.getD i 0) ∧ Room w ad n ∧ ∀ a, ad = some a → base ≤ a.block ∧ a.block < w.heap.size := by
  have hn : n = L.length := by have := h.1; simp at this; omega
  refine ⟨hn, ?_⟩
  rcases h.2 with ⟨rfl, h0⟩ | ⟨g, cap, cur, rfl, hb, hg, hnc, hcm, hcs, htk⟩
  · exact ⟨none, 0, by rw [h0], fun hp => absurd hp (by omega), fun hp => absurd hp (by omega), fun a e => by simp at e⟩
  · have hc : ∀ i, i < n → w.cell? ⟨g, i, none⟩ = some (.int .i64 (L.getD i 0)) := fun i hi => by
      rw [h.cellAt i (by omega), List.getElem?_map, List.getElem?_eq_getElem (by omega)]
      simp [List.getD, List.getElem?_eq_getElem (by omega : i < L.length)]
    refine ⟨some ⟨g, 0, none⟩, cap, rfl, ViewI.mk0 hc, fun _ => ⟨g, 0, rfl, fun i hi => ?_⟩, fun a e => ?_⟩
    · rw [Nat.zero_add]
      exact ⟨⟨_, hc i hi⟩, h.frozenAt i⟩
    · obtain rfl : (⟨g, 0, none⟩ : Addr) = a := by simpa using e
      exact ⟨hb, (Array.getElem?_eq_some_iff.1 hg).1⟩
theorem ViewI.add {w : World} {x : Addr} {L : List Int} (hv : ViewI w (some x) L.length (fun i => L.getD i 0)) : ∀ j u, (L.map (Value.int .i64))[j]? = some u → w.cell? (x.add j) = some u := by
  intro j u hu
  rw [List.getElem?_map] at hu
  have hj : j < L.length := by
    rcases Nat.lt_or_ge j L.length with h | h
    · exact h
    · rw [List.getElem?_eq_none h] at hu; simp at hu
  obtain ⟨b, off, e, hc⟩ := hv (by omega)
  cases e
  have hcj := hc j hj
  rw [List.getElem?_eq_getElem hj] at hu
  simp only [Option.map_some, Option.some.injEq] at hu
  have e1 : L.getD j 0 = L[j] := by simp [List.getD, List.getElem?_eq_getElem hj]
  have hcj : w.cell? ⟨b, off + j, none⟩ = some u := by rw [hcj, ← hu]; exact congrArg (fun z => some (Value.int IntKind.i64 z)) e1
  by_cases hj0 : j = 0
  · subst hj0; simpa [Addr.add] using hcj
  · simpa [Addr.add, hj0] using hcj
theorem app_viewI {w : World} {ops : Array Oper} {rest : List Oper} {o : Oper} {a : Act} {Q : Exit → Act → World → Prop} (hgd : o.guard = none) (s x : Operand)
    (ho : o.op = .call { callee := .builtin .append, args := #[s, x], argTypes := #[48, 48] }) (base : Nat) (v : Value) (pre : List Int) (hs : a.eval s = v)
    (hown : w.ownsRow base 3 1 v pre.length (pre.map (Value.int .i64))) (ad : Option Addr) (cap : Nat) (L : List Int) (hx : a.eval x = .slice ad L.length cap)
    (hv : ViewI w ad L.length (fun i => L.getD i 0)) (hnil : L = [] → ad = none → cap = 0) (hlen : pre.length + L.length ≤ 16777216) (hbase : base ≤ w.heap.size)
    (h : ∀ v' w', w'.ownsRow base 3 1 v' (pre ++ L).length ((pre ++ L).map (Value.int .i64)) → Below base w w' → wpList Tryz.prog ops Q rest (a.put o.dst v') w') :
    wpList Tryz.prog ops Q (o :: rest) a w := by
  obtain ⟨i0, hi, hz0, hz1, hz2⟩ := info_parts Tryz.infoI'
  cases ad with
  | none =>
    have hL : L = [] := by
      cases L with
      | nil => rfl
      | cons a r => obtain ⟨b, off, e, _⟩ := hv (by simp); cases e
    subst hL
    obtain rfl := hnil rfl rfl
    refine wpList_append_own_none hgd s x 48 ho base 3 i0 1 Tryz.underlying48 hi v pre.length (pre.map (Value.int .i64)) hs hown hx ?_
    exact h v w (by simpa using hown) (Below.refl _ _)
  | some q =>
    refine wpList_append_own _ hgd s x 48 ho base 3 i0 (.int .i64 0) 1 8 Tryz.underlying48 hi hz0 hz1 hz2 rfl (by decide) v pre.length (pre.map (Value.int .i64)) hs hown q L.length cap (L.map (Value.int .i64)) hx (by simp) hv.add ?_ ?_ ?_ hbase ?_
    · intro u hu
      obtain ⟨y, _, rfl⟩ := List.mem_map.1 hu
      rfl
    · unfold maxLen; omega
    · omega
    · intro v' w' h1 h2 _
      refine h v' w' ?_ (below_own hown h2 hbase)
      rw [List.length_append, List.map_append]
      exact h1
theorem own_viewI2 {w : World} {base E n cap : Nat} {ad : Option Addr} {L : List Int} (h : w.ownsRow base E 1 (.slice ad n cap) n (L.map (Value.int .i64))) : ViewI w ad n (fun i => L.getD i 0) ∧ Room w ad n ∧ ∀ a, ad = some a → base ≤ a.block ∧ a.block < w.heap.size := by
  obtain ⟨_, ad', cap', e, v, r, m⟩ := own_viewI h
  cases e
  exact ⟨v, r, m⟩
theorem one_viewI (w : World) (x : Int) : ViewI (w.alloc (Obj.cells #[.int .i64 x] 3)) (some ⟨w.heap.size, 0, none⟩) [x].length (fun i => [x].getD i 0) :=
  ViewI.mk0 (fun i hi => by
    have hi' : i < 1 := hi
    obtain rfl : i = 0 := by omega
    exact lit_at w _ _ _ rfl)
theorem MemAt.grown {w w' : World} {p k : Nat} {own : Int} {ad : Option Addr} {len cap : Nat} (h : MemAt w p own ad len cap) (g : w.grownBy w' (some k)) (hne : p ≠ k) : MemAt w' p own ad len cap :=
  h.same (g.block p h.lt (by simp; omega))
structure DM (w : World) (B : Nat) (own : Int) (P cb : Nat) (ad : Option Addr) (len cap : Nat) (f : Nat → Int) (y : World) (adL : Option Addr) (n capL : Nat) : Prop where
  src : Src y cb ad len cap f
  grown : w.grownBy y (some cb)
  fat : MemAt y P own adL n capL
  base : B ≤ y.heap.size
  fz : ∀ i, y.frozen? ⟨P, i, none⟩ = false
  res : MemAt y w.heap.size 0 none 0 0
  rfz : ∀ i, y.frozen? ⟨w.heap.size, i, none⟩ = false
  cbw : cb < w.heap.size
  pw : w.heap.size < P
  pb : P < B
  adw : ∀ x, ad = some x → 0 < len → x.block < w.heap.size
variable {w : World} {B : Nat} {own : Int} {P cb : Nat} {ad : Option Addr} {len cap : Nat} {f : Nat → Int} {y y' : World} {adL : Option Addr} {n capL : Nat}
theorem DM.grow (h : DM w B own P cb ad len cap f y adL n capL) (hs : Src y' cb ad len cap f) (hg : y.grownBy y' (some cb)) : DM w B own P cb ad len cap f y' adL n capL := by
  obtain ⟨h1, h2, h3, h4, h5, h6, h7, h8, h9, h10, h11⟩ := h
  refine ⟨hs, grown_trans h2 hg, h3.grown hg (by omega), Nat.le_trans h4 hg.size, fun i => ?_, h6.grown hg (by omega), fun i => ?_, h8, h9, h10, h11⟩
  · exact (World.frozen?_of_block (a := ⟨P, i, none⟩) (hg.block P (by omega) (by simp; omega))).trans (h5 i)
  · exact (World.frozen?_of_block (a := ⟨w.heap.size, i, none⟩) (hg.block w.heap.size (by omega) (by simp; omega))).trans (h7 i)
theorem DM.under (h : DM w B own P cb ad len cap f y adL n capL) (k : Below B y y') : DM w B own P cb ad len cap f y' adL n capL := by
  obtain ⟨h1, h2, h3, h4, h5, h6, h7, h8, h9, h10, h11⟩ := h
  refine ⟨h1.move (k.block _ (by omega)) (fun x e hp => k.block _ (by have := h11 x e hp; omega)), ⟨k.os.trans h2.os, k.tape.trans h2.tape, k.output.trans h2.output, Nat.le_trans h2.size k.size, fun j hj hne => (k.block j (by omega)).trans (h2.block j hj hne)⟩, h3.below k (by omega), Nat.le_trans h4 k.size, fun i => ?_, h6.below k (by omega), fun i => ?_, h8, h9, h10, h11⟩
  · exact (World.frozen?_of_block (a := ⟨P, i, none⟩) (k.block P (by omega))).trans (h5 i)
  · exact (World.frozen?_of_block (a := ⟨w.heap.size, i, none⟩) (k.block w.heap.size (by omega))).trans (h7 i)
theorem DM.set (h : DM w B own P cb ad len cap f y adL n capL) (ad3 : Option Addr) (n3 cap3 : Nat) : DM w B own P cb ad len cap f (y.setCell ⟨P, 1, none⟩ (.slice ad3 n3 cap3)) ad3 n3 cap3 := by
  obtain ⟨h1, h2, h3, h4, h5, h6, h7, h8, h9, h10, h11⟩ := h
  have k : ∀ g, g ≠ P → (y.setCell ⟨P, 1, none⟩ (.slice ad3 n3 cap3)).heap[g]? = y.heap[g]? := fun g hg => Below.heap_setCell _ _ _ _ hg
  refine ⟨h1.move (k _ (by omega)) (fun x e hp => k _ (by have := h11 x e hp; omega)), ⟨h2.os, h2.tape, h2.output, by simpa using h2.size, fun j hj hne => (k j (by omega)).trans (h2.block j hj hne)⟩, ?_, by simpa using h4, fun i => by simpa using h5 i, h6.same (k _ (by omega)), fun i => by simpa using h7 i, h8, h9, h10, h11⟩
  exact ⟨(cell_set_ne (by decide)).trans h3.1, cell_set_same ⟨_, h3.2⟩⟩
theorem DM.set0 (h : DM w B own P cb ad len cap f y adL n capL) (o' : Int) : DM w B o' P cb ad len cap f (y.setCell ⟨P, 0, none⟩ (.int .i64 o')) adL n capL := by
  obtain ⟨h1, h2, h3, h4, h5, h6, h7, h8, h9, h10, h11⟩ := h
  have k : ∀ g, g ≠ P → (y.setCell ⟨P, 0, none⟩ (.int .i64 o')).heap[g]? = y.heap[g]? := fun g hg => Below.heap_setCell _ _ _ _ hg
  refine ⟨h1.move (k _ (by omega)) (fun x e hp => k _ (by have := h11 x e hp; omega)), ⟨h2.os, h2.tape, h2.output, by simpa using h2.size, fun j hj hne => (k j (by omega)).trans (h2.block j hj hne)⟩, ?_, by simpa using h4, fun i => by simpa using h5 i, h6.same (k _ (by omega)), fun i => by simpa using h7 i, h8, h9, h10, h11⟩
  exact ⟨cell_set_same ⟨_, h3.1⟩, (cell_set_ne (by decide)).trans h3.2⟩
theorem DM.setOwn (h : DM w B own P cb ad len cap f y adL n capL) (ad3 : Option Addr) (n3 cap3 : Nat) {xs : List Value} {v : Value} {m : Nat} (o : y.ownsRow B 3 1 v m xs) : (y.setCell ⟨P, 1, none⟩ (.slice ad3 n3 cap3)).ownsRow B 3 1 v m xs :=
  own_keep o (fun g hg => Below.heap_setCell _ _ _ _ (by have := h.pb; show g ≠ P; omega))
def DrawnM (w : World) (cb : Nat) (ad : Option Addr) (len cap : Nat) (f : Nat → Int) (own : Int) (L : List Int) (e : Ending) (w' : World) : Prop :=
  ∃ adL capL, e = .returned (.agg #[.int .i64 own, .slice adL L.length capL]) ∧ w'.ownsRow w.heap.size 3 1 (.slice adL L.length capL) L.length (L.map (Value.int .i64)) ∧ Src w' cb ad len cap f ∧ w.grownBy w' (some cb)
theorem DM.drawn (My : DM w B own P cb ad len cap f y adL n capL) {L : List Int} (hn : n = L.length) (oy : y.ownsRow w.heap.size 3 1 (.slice adL n capL) n (L.map (Value.int .i64))) (hne : ∀ x : Addr, adL = some x → x.block ≠ w.heap.size) :
    DrawnM w cb ad len cap f own L (.returned (.agg #[.int .i64 own, .slice adL n capL])) ((y.setCell ⟨w.heap.size, 0, none⟩ (.int .i64 own)).setCell ⟨w.heap.size, 1, none⟩ (.slice adL n capL)) := by
  subst hn
  have k : ∀ g, g ≠ w.heap.size → ((y.setCell ⟨w.heap.size, 0, none⟩ (.int .i64 own)).setCell ⟨w.heap.size, 1, none⟩ (.slice adL L.length capL)).heap[g]? = y.heap[g]? := fun g hg => by
    rw [Below.heap_setCell _ _ _ _ hg, Below.heap_setCell _ _ _ _ hg]
  refine ⟨adL, capL, rfl, own_keep2 oy hne k, My.src.move (k _ (by have := My.cbw; omega)) (fun x e hp => k _ (by have := My.adw x e hp; omega)), ?_⟩
  have hg := My.grown
  exact ⟨hg.os, hg.tape, hg.output, by simpa using hg.size, fun j hj hne => (k j (by omega)).trans (hg.block j hj hne)⟩
set_option maxHeartbeats 4000000 in
theorem drawMR (w : World) (hs : Src w cb ad len cap f) (hcb : cb < w.heap.size) (had : ∀ x, ad = some x → 0 < len → x.block < w.heap.size) :
    Calls Tryz.prog 117 #[.pointer (some ⟨cb, 0, none⟩)] w fun e w' => ∃ own L, DrawnM w cb ad len cap f own L e w' ∧ L.length ≤ 4 := by
  obtain ⟨x, hx⟩ : ∃ x, x = w.alloc (Obj.cells #[.int .i64 0, .slice none 0 0] 50) := ⟨_, rfl⟩
  have R0 : MemAt x w.heap.size 0 none 0 0 := by rw [hx]; exact memAt_box w _ _ _ _ _
  have Z0 : ∀ i, x.frozen? ⟨w.heap.size, i, none⟩ = false := by intro i; rw [hx]; simp [go_sem]
  have B0 : Below w.heap.size w x := by rw [hx]; exact below_box w _
  have T0 : w.heap.size < x.heap.size := by rw [hx]; exact size_box w _
  have s0 := hs.later B0
  go_enter Tryz.func117, Tryz.ntmps117
  go_wp2_with fail
  go_at_call 35
  rw [← hx]
  clear hx
  refine (drawBelow s0 3 (by omega) (by omega)).mono ?_
  rintro e x1 ⟨b, rfl, b0, b1, s1, g⟩
  have sg := g.size
  have wb : IntKind.i64.wrap (1 + b) = 1 + b := by rw [IntKind.wrap_i64]; omega
  obtain ⟨x4, hx4⟩ : ∃ z, z = x1.alloc (Obj.cells #[.int .i64 (1 + b), .slice none 0 0] 50) := ⟨_, rfl⟩
  have M : DM w x4.heap.size (1 + b) x1.heap.size cb ad len cap f x4 none 0 0 := by
    have k4 : Below x1.heap.size x1 x4 := by rw [hx4]; exact below_box x1 _
    have t4 : x1.heap.size < x4.heap.size := by rw [hx4]; exact size_box x1 _
    refine ⟨s1.later k4, ⟨k4.os.trans (g.os.trans B0.os), k4.tape.trans (g.tape.trans B0.tape), k4.output.trans (g.output.trans B0.output), by have := k4.size; omega, fun j hj hne => (k4.block j (by omega)).trans ((g.block j (by omega) hne).trans (B0.block j hj))⟩, ?_, Nat.le_refl _, fun i => ?_, (R0.grown g (by omega)).below k4 (by omega), fun i => ?_, hcb, by omega, t4, had⟩
    · rw [hx4]; exact memAt_box x1 _ _ _ _ _
    · rw [hx4]; simp [go_sem]
    · exact (World.frozen?_of_block (a := ⟨w.heap.size, i, none⟩) ((k4.block _ (by show w.heap.size < _; omega)).trans (g.block _ (by show w.heap.size < _; omega) (by simp; omega)))).trans (Z0 i)
  clear g s0 s1 R0 Z0 B0 hs
  have o4 : x4.ownsRow x4.heap.size 3 1 (.slice none 0 0) ([] : List Int).length (([] : List Int).map (Value.int .i64)) := World.ownsRow_nil _ _ _ _
  go_wp2_with fail
  rw [← hx4]
  clear hx4 wb
  generalize 1 + b = own at *
  generalize x4.heap.size = B at *
  generalize x1.heap.size = P at *
  go_loopw [4] (fun i wr => ∃ (k : Nat) (adL : Option Addr) (capL : Nat) (L : List Int), k ≤ 4 ∧ i = .int .i64 ((k : Int) + 1) ∧ Hid (L.length ≤ k) ∧ DM w B own P cb ad len cap f wr adL L.length capL ∧ wr.ownsRow B 3 1 (.slice adL L.length capL) L.length (L.map (Value.int .i64))) (fun i _ => 6 - (intOf i).toNat)
  case atStart => exact ⟨0, none, 0, [], by omega, rfl, Nat.le_refl _, M, o4⟩
  case round =>
    clear M o4
    obtain ⟨k, adL, capL, L, hk4, rfl, hk, Mr, or_⟩ := hrel
    have hL4 : L.length ≤ 4 := by have := hk.out; omega
    by_cases hlt : k < 4
    · have hd0 : decide ((k : Int) + 1 ≤ 4) = true := decide_eq_true (by omega)
      obtain ⟨C1, C2⟩ := Mr.fat
      by_cases he : (k : Int) + 1 = own
      · subst he
        have My := Mr
        have oy := or_
        obtain ⟨y, hy⟩ : ∃ q, q = wr := ⟨_, rfl⟩
        rw [← hy] at My oy C1 C2 ⊢
        clear Mr or_ hy
        obtain ⟨C1, C2⟩ := My.fat
        obtain ⟨y1, hy1⟩ : ∃ z, z = y.alloc (Obj.cells #[.int .i64 ((k : Int) + 1)] 3) := ⟨_, rfl⟩
        have v1 : ViewI y1 (some ⟨y.heap.size, 0, none⟩) [(k : Int) + 1].length (fun i => [(k : Int) + 1].getD i 0) := by rw [hy1]; exact one_viewI y _
        have k1 : Below y.heap.size y y1 := by rw [hy1]; exact below_box y _
        have M1 := My.under (k1.mono My.base)
        have o1 := own_carry oy k1
        have b1 := M1.base
        rw [hy1] at v1 o1 b1
        go_wp2_with (first | (at_builtin; refine app_viewI rfl _ _ rfl B _ L rfl o1 _ 1 [(k : Int) + 1] rfl v1 ?n1 ?n2 ?n3 ?_) | go_in)
        case n1 => intro h; simp at h
        case n2 => simp; omega
        case n3 => exact b1
        rw [← hy1] at v1 o1 b1 ⊢
        intro v2 y2 o2 k2
        have o2 : y2.ownsRow B 3 1 v2 (L ++ [(k : Int) + 1]).length ((L ++ [(k : Int) + 1]).map (Value.int .i64)) := by simpa using o2
        have M2 := M1.under k2
        clear hy1 v1 o1 b1 M1 k1 k2 C1 C2 My oy
        obtain ⟨_, ad2, cap2, rfl, _, _, _⟩ := own_viewI o2
        obtain ⟨N2, hN2⟩ : ∃ q : List Int, q = L ++ [(k : Int) + 1] := ⟨_, rfl⟩
        have hl2 : N2.length ≤ k + 1 := by rw [hN2, List.length_append]; have := hk.out; simp; omega
        rw [← hN2] at o2 ⊢
        clear hN2
        have M3 := M2.set ad2 N2.length cap2
        have o3 := M2.setOwn ad2 N2.length cap2 o2
        have fz := M2.fz 1
        obtain ⟨C1, C2⟩ := M2.fat
        go_wp2
        go_roundw
        case rel => exact ⟨k + 1, ad2, cap2, N2, by omega, by go_num, show N2.length ≤ k + 1 from hl2, M3, o3⟩
        case measure => simp [intOf]; omega
      · have hde : decide ((k : Int) + 1 = own) = false := decide_eq_false he
        go_wp2_with fail
        go_at_call 36
        refine (drawOnce Mr.src 2 (by omega) (by omega)).mono ?_
        rintro e y ⟨q, rfl, hsz, hgz⟩
        have My := Mr.grow hsz hgz
        have oy := own_grown or_ hgz (by have := Mr.cbw; have := Mr.pw; have := Mr.pb; omega)
        clear Mr or_ hsz hgz C1 C2
        cases q with
        | true =>
          obtain ⟨C1, C2⟩ := My.fat
          obtain ⟨y1, hy1⟩ : ∃ z, z = y.alloc (Obj.cells #[.int .i64 ((k : Int) + 1)] 3) := ⟨_, rfl⟩
          have v1 : ViewI y1 (some ⟨y.heap.size, 0, none⟩) [(k : Int) + 1].length (fun i => [(k : Int) + 1].getD i 0) := by rw [hy1]; exact one_viewI y _
          have k1 : Below y.heap.size y y1 := by rw [hy1]; exact below_box y _
          have M1 := My.under (k1.mono My.base)
          have o1 := own_carry oy k1
          have b1 := M1.base
          rw [hy1] at v1 o1 b1
          go_wp2_with (first | (at_builtin; refine app_viewI rfl _ _ rfl B _ L rfl o1 _ 1 [(k : Int) + 1] rfl v1 ?n1 ?n2 ?n3 ?_) | go_in)
          case n1 => intro h; simp at h
          case n2 => simp; omega
          case n3 => exact b1
          rw [← hy1] at v1 o1 b1 ⊢
          intro v2 y2 o2 k2
          have o2 : y2.ownsRow B 3 1 v2 (L ++ [(k : Int) + 1]).length ((L ++ [(k : Int) + 1]).map (Value.int .i64)) := by simpa using o2
          have M2 := M1.under k2
          clear hy1 v1 o1 b1 M1 k1 k2 C1 C2 My oy
          obtain ⟨_, ad2, cap2, rfl, _, _, _⟩ := own_viewI o2
          obtain ⟨N2, hN2⟩ : ∃ q : List Int, q = L ++ [(k : Int) + 1] := ⟨_, rfl⟩
          have hl2 : N2.length ≤ k + 1 := by rw [hN2, List.length_append]; have := hk.out; simp; omega
          rw [← hN2] at o2 ⊢
          clear hN2
          have M3 := M2.set ad2 N2.length cap2
          have o3 := M2.setOwn ad2 N2.length cap2 o2
          have fz := M2.fz 1
          obtain ⟨C1, C2⟩ := M2.fat
          go_wp2
          go_roundw
          case rel => exact ⟨k + 1, ad2, cap2, N2, by omega, by go_num, show N2.length ≤ k + 1 from hl2, M3, o3⟩
          case measure => simp [intOf]; omega
        | false =>
          go_wp2
          go_roundw
          case rel => exact ⟨k + 1, adL, capL, L, by omega, by go_num, show L.length ≤ k + 1 by have := hk.out; omega, My, oy⟩
          case measure => simp [intOf]; omega
    · have hd0 : decide ((k : Int) + 1 ≤ 4) = false := decide_eq_false (by omega)
      have mL := (own_viewI2 or_).2.2
      have pw := Mr.pw
      have pb := Mr.pb
      obtain ⟨E1, E2⟩ := Mr.fat
      obtain ⟨D1, D2⟩ := Mr.res
      have e0 := Mr.rfz 0
      have e1 := Mr.rfz 1
      go_wp2
      refine bodyPost_ret (v := .agg #[.int .i64 own, .slice adL L.length capL]) (by simp [results, Tryz.results117, go_sem, *]) rfl ⟨own, L, Mr.drawn rfl (own_base or_ (by omega)) (fun q h => by have := (mL q h).1; omega), hL4⟩
theorem ne_typeI {w : World} {base n cap P : Nat} {ad : Option Addr} {xs : List Value} (h : w.ownsRow base 3 1 (.slice ad n cap) n xs) (hp : ∃ cs fr, w.heap[P]? = some (.cells cs 50 fr)) : ∀ x : Addr, ad = some x → x.block ≠ P := by
  intro x hx e
  obtain ⟨cs, fr, hp⟩ := hp
  rcases h.2 with ⟨h, _⟩ | ⟨q, cap', cur, e', hb, hg, r⟩
  · cases h; cases hx
  · cases e'
    cases hx
    have e : q = P := e
    rw [e, hp] at hg
    simp at hg
theorem app_opK {w : World} {o : Oper} {a : Act} {K : Act → World → Prop} {Q : Exit → Act → World → Prop} (s x : Operand) (ho : o.op = .call { callee := .builtin .append, args := #[s, x], argTypes := #[48, 48] })
    (base : Nat) (adp : Option Addr) (capp : Nat) (pre : List Int) (hs : a.eval s = .slice adp pre.length capp) (hown : w.ownsRow base 3 1 (.slice adp pre.length capp) pre.length (pre.map (Value.int .i64))) (q : Addr) (cap : Nat) (L : List Int) (hx : a.eval x = .slice (some q) L.length cap)
    (hv : ViewI w (some q) L.length (fun i => L.getD i 0)) (hlen : pre.length + L.length ≤ 1048576) (hbase : base ≤ w.heap.size)
    (h : ∀ v' w', w'.ownsRow base 3 1 v' (pre ++ L).length ((pre ++ L).map (Value.int .i64)) → Kept adp w w' → K (a.put o.dst v') w') : o.wp Tryz.prog a w K Q := by
  obtain ⟨i0, hi, hz0, hz1, hz2⟩ := info_parts Tryz.infoI'
  refine wp_append_own _ s x 48 ho base 3 i0 (.int .i64 0) 1 8 Tryz.underlying48 hi hz0 hz1 hz2 rfl (by decide) _ _ _ hs hown q L.length cap (L.map (Value.int .i64)) hx (by simp) hv.add ?_ ?_ ?_ hbase ?_
  · intro u hu
    obtain ⟨y, _, rfl⟩ := List.mem_map.1 hu
    rfl
  · unfold maxLen; omega
  · omega
  · intro v' w' h1 h2 _
    refine h v' w' ?_ ⟨_, h2, fun g hg => by
      cases adp with
      | none => simp [Value.ownBlock] at hg
      | some q => exact ⟨q, rfl, by simpa [Value.ownBlock] using hg⟩⟩
    rw [List.length_append, List.map_append]
    exact h1
theorem DM.kept (h : DM w B own P cb ad len cap f y adL n capL) {adq : Option Addr} (k : Kept adq y y') (hq : ∀ x, adq = some x → w.heap.size < x.block ∧ x.block ≠ P) : DM w B own P cb ad len cap f y' adL n capL := by
  obtain ⟨h1, h2, h3, h4, h5, h6, h7, h8, h9, h10, h11⟩ := h
  have hs := h2.size
  have eb : ∀ j, j < y.heap.size → j ≤ w.heap.size ∨ j = P → y'.heap[j]? = y.heap[j]? := fun j hj hc => k.block hj (fun x e => by have := hq x e; omega)
  have kb : Below w.heap.size y y' := k.below (fun x e => by have := hq x e; omega) hs
  refine ⟨h1.move (eb _ (by omega) (.inl (by omega))) (fun x e hp => eb _ (by have := h11 x e hp; omega) (.inl (by have := h11 x e hp; omega))), ⟨kb.os.trans h2.os, kb.tape.trans h2.tape, kb.output.trans h2.output, Nat.le_trans h2.size kb.size, fun j hj hne => (kb.block j hj).trans (h2.block j hj hne)⟩, h3.same (eb _ (by omega) (.inr rfl)), Nat.le_trans h4 kb.size, fun i => ?_, h6.same (eb _ (by omega) (.inl (Nat.le_refl _))), fun i => ?_, h8, h9, h10, h11⟩
  · exact (World.frozen?_of_block (a := ⟨P, i, none⟩) (eb P (by omega) (.inr rfl))).trans (h5 i)
  · exact (World.frozen?_of_block (a := ⟨w.heap.size, i, none⟩) (eb w.heap.size (by omega) (.inl (Nat.le_refl _)))).trans (h7 i)
set_option maxHeartbeats 4000000 in
theorem drawM (w : World) (hs : Src w cb ad len cap f) (hcb : cb < w.heap.size) (had : ∀ x, ad = some x → 0 < len → x.block < w.heap.size) :
    Calls Tryz.prog 84 #[.pointer (some ⟨cb, 0, none⟩)] w fun e w' => ∃ own L, DrawnM w cb ad len cap f own L e w' ∧ L.length ≤ 5 := by
  obtain ⟨x, hx⟩ : ∃ x, x = w.alloc (Obj.cells #[.int .i64 0, .slice none 0 0] 50) := ⟨_, rfl⟩
  have R0 : MemAt x w.heap.size 0 none 0 0 := by rw [hx]; exact memAt_box w _ _ _ _ _
  have Z0 : ∀ i, x.frozen? ⟨w.heap.size, i, none⟩ = false := by intro i; rw [hx]; simp [go_sem]
  have B0 : Below w.heap.size w x := by rw [hx]; exact below_box w _
  have T0 : w.heap.size < x.heap.size := by rw [hx]; exact size_box w _
  have s0 := hs.later B0
  go_enter Tryz.func84, Tryz.ntmps84
  go_wp2_with fail
  go_at_call 117
  rw [← hx]
  clear hx
  refine (drawMR x s0 (by omega) (fun q e hp => by have := had q e hp; omega)).mono ?_
  rintro e x3 ⟨own, L, ⟨adL, capL, rfl, oL, s3, g⟩, hL4⟩
  have sg := g.size
  have mL := (own_viewI2 oL).2.2
  obtain ⟨x4, hx4⟩ : ∃ z, z = x3.alloc (Obj.cells #[.int .i64 own, .slice adL L.length capL] 50) := ⟨_, rfl⟩
  have k4 : Below x3.heap.size x3 x4 := by rw [hx4]; exact below_box x3 _
  have t4 : x3.heap.size < x4.heap.size := by rw [hx4]; exact size_box x3 _
  have H4 : ∃ cs fr, x4.heap[x3.heap.size]? = some (.cells cs 50 fr) := by rw [hx4]; exact ⟨_, _, heap_alloc_new x3 _⟩
  have M : DM w x4.heap.size own x3.heap.size cb ad len cap f x4 adL L.length capL := by
    refine ⟨s3.later k4, ⟨k4.os.trans (g.os.trans B0.os), k4.tape.trans (g.tape.trans B0.tape), k4.output.trans (g.output.trans B0.output), by have := k4.size; omega, fun j hj hne => (k4.block j (by omega)).trans ((g.block j (by omega) hne).trans (B0.block j hj))⟩, ?_, Nat.le_refl _, fun i => ?_, (R0.grown g (by omega)).below k4 (by omega), fun i => ?_, hcb, by omega, t4, had⟩
    · rw [hx4]; exact memAt_box x3 _ _ _ _ _
    · rw [hx4]; simp [go_sem]
    · exact (World.frozen?_of_block (a := ⟨w.heap.size, i, none⟩) ((k4.block _ (by show w.heap.size < _; omega)).trans (g.block _ (by show w.heap.size < _; omega) (by simp; omega)))).trans (Z0 i)
  have o4 : x4.ownsRow x.heap.size 3 1 (.slice adL L.length capL) L.length (L.map (Value.int .i64)) := own_carry oL k4
  have nP : ∀ q : Addr, adL = some q → q.block ≠ x3.heap.size := fun q h => by have := (mL q h).2; omega
  have nW : ∀ q : Addr, adL = some q → w.heap.size < q.block := fun q h => by have := (mL q h).1; omega
  clear s0 s3 R0 Z0 B0 hs oL g mL k4
  go_wp2_with fail
  go_at_call 35
  rw [← hx4]
  clear hx4
  have xX : x.heap.size < x4.heap.size := by omega
  generalize x4.heap.size = B at *
  refine (drawBelow M.src 8 (by omega) (by omega)).mono ?_
  rintro e y ⟨z, rfl, z0, z1, hsz, hgz⟩
  have My := M.grow hsz hgz
  have oy := own_grown o4 hgz (by omega)
  have Hy : ∃ cs fr, y.heap[x3.heap.size]? = some (.cells cs 50 fr) := by rw [hgz.block _ (by have := M.fat.lt; omega) (by simp; omega)]; exact H4
  clear M o4 hsz hgz H4
  have xP : x.heap.size ≤ x3.heap.size := sg
  generalize x3.heap.size = P at *
  generalize x.heap.size = X at *
  by_cases h0 : z = 0
  · subst h0
    go_wp2_with fail
    go_at_call 35
    refine (drawBelow My.src 6 (by omega) (by omega)).mono ?_
    rintro e y2 ⟨v, rfl, v0, v1, hs2, hg2⟩
    have M2 := My.grow hs2 hg2
    have o2 := own_grown oy hg2 (by omega)
    clear hs2 hg2 My oy
    obtain ⟨C1, C2⟩ := M2.fat
    have fz := M2.fz 0
    have Mz := M2.set0 v
    have oz : (y2.setCell ⟨P, 0, none⟩ (.int .i64 v)).ownsRow X 3 1 (.slice adL L.length capL) L.length (L.map (Value.int .i64)) := own_keep2 o2 nP (fun k hk => Below.heap_setCell _ _ _ _ hk)
    obtain ⟨E1, E2⟩ := Mz.fat
    obtain ⟨D1, D2⟩ := Mz.res
    have e0 := Mz.rfz 0
    have e1 := Mz.rfz 1
    go_wp2
    refine bodyPost_ret (v := .agg #[.int .i64 v, .slice adL L.length capL]) (by simp [results, Tryz.results84, go_sem, *]) rfl ⟨v, L, Mz.drawn rfl (own_base oz (by omega)) (fun q h => by have := nW q h; omega), by omega⟩
  have hd0 : decide (z = 0) = false := decide_eq_false h0
  by_cases h1 : z = 1
  · subst h1
    go_wp2_with fail
    refine wp_region_held (S := fun _ => True) (by kernel_rfl) ?_
    change wpAnyH _ _ _ _ _ _ _ _ (World.drew _)
    obtain ⟨y0, hy⟩ : ∃ z, z = World.drew y := ⟨_, rfl⟩
    have M0 : DM w B own P cb ad len cap f y0 adL L.length capL := by rw [hy]; exact My.under (Below.refl _ _).drew
    have o0 : y0.ownsRow X 3 1 (.slice adL L.length capL) L.length (L.map (Value.int .i64)) := by rw [hy]; exact oy
    have H0 : ∃ cs fr, y0.heap[P]? = some (.cells cs 50 fr) := by rw [hy]; exact Hy
    rw [← hy]
    clear hy My oy Hy
    have htr : True := trivial
    refine takeW 0 15 (.pointer (some ⟨P, 1, none⟩)) rfl rfl (by kernel_rfl) (by kernel_rfl) (by kernel_rfl) (fun _ _ _ h => h) (by kernel_rfl) (by (intro w hSw; go_simp)) (by assumption) ?_
    simp only [List.set_cons_zero, List.set_cons_succ]
    refine takeW 2 17 (.pointer (some ⟨cb, 0, none⟩)) rfl rfl (by kernel_rfl) (by kernel_rfl) (by kernel_rfl) (fun _ _ _ h => h) (by kernel_rfl) (by (intro w hSw; go_simp)) (by assumption) ?_
    simp only [List.set_cons_zero, List.set_cons_succ]
    refine wpAnyH_all (rs := [1, 3]) (by kernel_rfl) (by simp) ?_
    intro i hi; rcases (by simpa using hi : i = 1 ∨ i = 3) with rfl | rfl
    · refine wpOp_step rfl (fun K hK => ?_)
      rw [if_pos (by kernel_rfl)]
      have hq := M0.fat.2
      go_simp
      clear hq
      refine hK _ _ ⟨trivial, ?_⟩
      clear hK K hi
      refine wpAnyH_all (rs := [3]) (by kernel_rfl) (by simp) ?_
      intro i hi; obtain rfl : i = 3 := by simpa using hi
      refine wpOp_step rfl (fun K hK => ?_)
      rw [if_pos (by kernel_rfl)]
      go_simp
      go_at_call 35
      refine (drawBelow M0.src 6 (by omega) (by omega)).mono ?_
      rintro e y1 ⟨v, rfl, v0, v1, hs1, hg1⟩
      have M1 := M0.grow hs1 hg1
      have o1 := own_grown o0 hg1 (by omega)
      have H1 : ∃ cs fr, y1.heap[P]? = some (.cells cs 50 fr) := by rw [hg1.block P (by have := M0.fat.lt; omega) (by simp; omega)]; exact H0
      clear hs1 hg1 o0 M0 H0
      refine hK _ _ ⟨trivial, ?_⟩
      clear hK K hi
      refine wpAnyH_all (rs := [4]) (by kernel_rfl) (by simp) ?_
      intro i hi; obtain rfl : i = 4 := by simpa using hi
      refine wpOp_step rfl (fun K hK => ?_)
      rw [if_pos (by kernel_rfl)]
      go_simp
      obtain ⟨y2, hy⟩ : ∃ z, z = y1.alloc (Obj.cells #[.int .i64 v] 3) := ⟨_, rfl⟩
      have v2 : ViewI y2 (some ⟨y1.heap.size, 0, none⟩) [v].length (fun i => [v].getD i 0) := by rw [hy]; exact one_viewI y1 v
      have k2 : Below y1.heap.size y1 y2 := by rw [hy]; exact below_box y1 _
      rw [← hy]
      have M2 := M1.under (k2.mono M1.base)
      have o2 := own_carry o1 k2
      have H2 : ∃ cs fr, y2.heap[P]? = some (.cells cs 50 fr) := by rw [k2.block P M1.fat.lt]; exact H1
      clear hy k2 o1 M1 H1
      refine hK _ _ ⟨trivial, ?_⟩
      clear hK K hi
      refine wpAnyH_all (rs := [5]) (by kernel_rfl) (by simp) ?_
      intro i hi; obtain rfl : i = 5 := by simpa using hi
      refine wpOp_step rfl (fun K hK => ?_)
      rw [if_pos (by kernel_rfl)]
      refine app_opK _ _ rfl X _ _ L rfl o2 _ 1 [v] rfl v2 (by simp; omega) (by have := M2.base; omega) ?_
      intro v3 y3 o3 k3
      obtain ⟨_, ad3, cap3, rfl, _, _, m3⟩ := own_viewI o3
      have M3 := M2.kept k3 (fun q h => ⟨nW q h, nP q h⟩)
      have H3 : ∃ cs fr, y3.heap[P]? = some (.cells cs 50 fr) := by rw [k3.block M2.fat.lt (fun q h => nP q h)]; exact H2
      have n3 := ne_typeI o3 H3
      clear M2 o2 v2 k3 H2
      obtain ⟨N3, hN3⟩ : ∃ q : List Int, q = L ++ [v] := ⟨_, rfl⟩
      have hl3 : N3.length ≤ 5 := by rw [hN3, List.length_append]; simp; omega
      rw [← hN3] at o3 ⊢
      clear hN3
      refine hK _ _ ⟨trivial, ?_⟩
      clear hK K hi
      have fz := M3.fz 1
      obtain ⟨C1, C2⟩ := M3.fat
      refine takeW 6 21 (.pointer (some ⟨P, 1, none⟩)) rfl rfl (by kernel_rfl) (by kernel_rfl) (by kernel_rfl) (fun _ _ _ h => h) (by kernel_rfl) (by (intro w hSw; go_simp)) (by assumption) ?_
      simp only [List.set_cons_zero, List.set_cons_succ]
      refine wpAnyH_all (rs := [7]) (by kernel_rfl) (by simp) ?_
      intro i hi; obtain rfl : i = 7 := by simpa using hi
      refine wpOp_step rfl (fun K hK => ?_)
      rw [if_pos (by kernel_rfl)]
      go_simp
      obtain ⟨y4, hy⟩ : ∃ z, z = y3.setCell ⟨P, 1, none⟩ (.slice ad3 N3.length cap3) := ⟨_, rfl⟩
      have M4 := M3.set ad3 N3.length cap3
      have o4 : (y3.setCell ⟨P, 1, none⟩ (.slice ad3 N3.length cap3)).ownsRow X 3 1 (.slice ad3 N3.length cap3) N3.length (N3.map (Value.int .i64)) := own_keep2 o3 n3 (fun k hk => Below.heap_setCell _ _ _ _ hk)
      rw [← hy] at M4 o4 ⊢
      clear hy C1 C2 fz M3 o3
      refine hK _ _ ⟨trivial, ?_⟩
      clear hK K hi
      refine wpAnyH_done (by kernel_rfl) ?_ _
      obtain ⟨E1, E2⟩ := M4.fat
      obtain ⟨D1, D2⟩ := M4.res
      have e0 := M4.rfz 0
      have e1 := M4.rfz 1
      go_wp2
      refine bodyPost_ret (v := .agg #[.int .i64 own, .slice ad3 N3.length cap3]) (by simp [results, Tryz.results84, go_sem, *]) rfl ⟨own, N3, M4.drawn rfl (own_base o4 (by omega)) (fun q h => by have := (m3 q h).1; omega), hl3⟩
    · refine wpOp_step rfl (fun K hK => ?_)
      rw [if_pos (by kernel_rfl)]
      go_simp
      go_at_call 35
      refine (drawBelow M0.src 6 (by omega) (by omega)).mono ?_
      rintro e y1 ⟨v, rfl, v0, v1, hs1, hg1⟩
      have M1 := M0.grow hs1 hg1
      have o1 := own_grown o0 hg1 (by omega)
      have H1 : ∃ cs fr, y1.heap[P]? = some (.cells cs 50 fr) := by rw [hg1.block P (by have := M0.fat.lt; omega) (by simp; omega)]; exact H0
      clear hs1 hg1 o0 M0 H0
      refine hK _ _ ⟨trivial, ?_⟩
      clear hK K hi
      refine wpAnyH_all (rs := [1, 4]) (by kernel_rfl) (by simp) ?_
      intro i hi; rcases (by simpa using hi : i = 1 ∨ i = 4) with rfl | rfl
      · refine wpOp_step rfl (fun K hK => ?_)
        rw [if_pos (by kernel_rfl)]
        have hq := M1.fat.2
        go_simp
        clear hq
        refine hK _ _ ⟨trivial, ?_⟩
        clear hK K hi
        refine wpAnyH_all (rs := [4]) (by kernel_rfl) (by simp) ?_
        intro i hi; obtain rfl : i = 4 := by simpa using hi
        refine wpOp_step rfl (fun K hK => ?_)
        rw [if_pos (by kernel_rfl)]
        go_simp
        obtain ⟨y2, hy⟩ : ∃ z, z = y1.alloc (Obj.cells #[.int .i64 v] 3) := ⟨_, rfl⟩
        have v2 : ViewI y2 (some ⟨y1.heap.size, 0, none⟩) [v].length (fun i => [v].getD i 0) := by rw [hy]; exact one_viewI y1 v
        have k2 : Below y1.heap.size y1 y2 := by rw [hy]; exact below_box y1 _
        rw [← hy]
        have M2 := M1.under (k2.mono M1.base)
        have o2 := own_carry o1 k2
        have H2 : ∃ cs fr, y2.heap[P]? = some (.cells cs 50 fr) := by rw [k2.block P M1.fat.lt]; exact H1
        clear hy k2 o1 M1 H1
        refine hK _ _ ⟨trivial, ?_⟩
        clear hK K hi
        refine wpAnyH_all (rs := [5]) (by kernel_rfl) (by simp) ?_
        intro i hi; obtain rfl : i = 5 := by simpa using hi
        refine wpOp_step rfl (fun K hK => ?_)
        rw [if_pos (by kernel_rfl)]
        refine app_opK _ _ rfl X _ _ L rfl o2 _ 1 [v] rfl v2 (by simp; omega) (by have := M2.base; omega) ?_
        intro v3 y3 o3 k3
        obtain ⟨_, ad3, cap3, rfl, _, _, m3⟩ := own_viewI o3
        have M3 := M2.kept k3 (fun q h => ⟨nW q h, nP q h⟩)
        have H3 : ∃ cs fr, y3.heap[P]? = some (.cells cs 50 fr) := by rw [k3.block M2.fat.lt (fun q h => nP q h)]; exact H2
        have n3 := ne_typeI o3 H3
        clear M2 o2 v2 k3 H2
        obtain ⟨N3, hN3⟩ : ∃ q : List Int, q = L ++ [v] := ⟨_, rfl⟩
        have hl3 : N3.length ≤ 5 := by rw [hN3, List.length_append]; simp; omega
        rw [← hN3] at o3 ⊢
        clear hN3
        refine hK _ _ ⟨trivial, ?_⟩
        clear hK K hi
        have fz := M3.fz 1
        obtain ⟨C1, C2⟩ := M3.fat
        refine takeW 6 21 (.pointer (some ⟨P, 1, none⟩)) rfl rfl (by kernel_rfl) (by kernel_rfl) (by kernel_rfl) (fun _ _ _ h => h) (by kernel_rfl) (by (intro w hSw; go_simp)) (by assumption) ?_
        simp only [List.set_cons_zero, List.set_cons_succ]
        refine wpAnyH_all (rs := [7]) (by kernel_rfl) (by simp) ?_
        intro i hi; obtain rfl : i = 7 := by simpa using hi
        refine wpOp_step rfl (fun K hK => ?_)
        rw [if_pos (by kernel_rfl)]
        go_simp
        obtain ⟨y4, hy⟩ : ∃ z, z = y3.setCell ⟨P, 1, none⟩ (.slice ad3 N3.length cap3) := ⟨_, rfl⟩
        have M4 := M3.set ad3 N3.length cap3
        have o4 : (y3.setCell ⟨P, 1, none⟩ (.slice ad3 N3.length cap3)).ownsRow X 3 1 (.slice ad3 N3.length cap3) N3.length (N3.map (Value.int .i64)) := own_keep2 o3 n3 (fun k hk => Below.heap_setCell _ _ _ _ hk)
        rw [← hy] at M4 o4 ⊢
        clear hy C1 C2 fz M3 o3
        refine hK _ _ ⟨trivial, ?_⟩
        clear hK K hi
        refine wpAnyH_done (by kernel_rfl) ?_ _
        obtain ⟨E1, E2⟩ := M4.fat
        obtain ⟨D1, D2⟩ := M4.res
        have e0 := M4.rfz 0
        have e1 := M4.rfz 1
        go_wp2
        refine bodyPost_ret (v := .agg #[.int .i64 own, .slice ad3 N3.length cap3]) (by simp [results, Tryz.results84, go_sem, *]) rfl ⟨own, N3, M4.drawn rfl (own_base o4 (by omega)) (fun q h => by have := (m3 q h).1; omega), hl3⟩
      · refine wpOp_step rfl (fun K hK => ?_)
        rw [if_pos (by kernel_rfl)]
        go_simp
        obtain ⟨y2, hy⟩ : ∃ z, z = y1.alloc (Obj.cells #[.int .i64 v] 3) := ⟨_, rfl⟩
        have v2 : ViewI y2 (some ⟨y1.heap.size, 0, none⟩) [v].length (fun i => [v].getD i 0) := by rw [hy]; exact one_viewI y1 v
        have k2 : Below y1.heap.size y1 y2 := by rw [hy]; exact below_box y1 _
        rw [← hy]
        have M2 := M1.under (k2.mono M1.base)
        have o2 := own_carry o1 k2
        have H2 : ∃ cs fr, y2.heap[P]? = some (.cells cs 50 fr) := by rw [k2.block P M1.fat.lt]; exact H1
        clear hy k2 o1 M1 H1
        refine hK _ _ ⟨trivial, ?_⟩
        clear hK K hi
        refine wpAnyH_all (rs := [1]) (by kernel_rfl) (by simp) ?_
        intro i hi; obtain rfl : i = 1 := by simpa using hi
        refine wpOp_step rfl (fun K hK => ?_)
        rw [if_pos (by kernel_rfl)]
        have hq := M2.fat.2
        go_simp
        clear hq
        refine hK _ _ ⟨trivial, ?_⟩
        clear hK K hi
        refine wpAnyH_all (rs := [5]) (by kernel_rfl) (by simp) ?_
        intro i hi; obtain rfl : i = 5 := by simpa using hi
        refine wpOp_step rfl (fun K hK => ?_)
        rw [if_pos (by kernel_rfl)]
        refine app_opK _ _ rfl X _ _ L rfl o2 _ 1 [v] rfl v2 (by simp; omega) (by have := M2.base; omega) ?_
        intro v3 y3 o3 k3
        obtain ⟨_, ad3, cap3, rfl, _, _, m3⟩ := own_viewI o3
        have M3 := M2.kept k3 (fun q h => ⟨nW q h, nP q h⟩)
        have H3 : ∃ cs fr, y3.heap[P]? = some (.cells cs 50 fr) := by rw [k3.block M2.fat.lt (fun q h => nP q h)]; exact H2
        have n3 := ne_typeI o3 H3
        clear M2 o2 v2 k3 H2
        obtain ⟨N3, hN3⟩ : ∃ q : List Int, q = L ++ [v] := ⟨_, rfl⟩
        have hl3 : N3.length ≤ 5 := by rw [hN3, List.length_append]; simp; omega
        rw [← hN3] at o3 ⊢
        clear hN3
        refine hK _ _ ⟨trivial, ?_⟩
        clear hK K hi
        have fz := M3.fz 1
        obtain ⟨C1, C2⟩ := M3.fat
        refine takeW 6 21 (.pointer (some ⟨P, 1, none⟩)) rfl rfl (by kernel_rfl) (by kernel_rfl) (by kernel_rfl) (fun _ _ _ h => h) (by kernel_rfl) (by (intro w hSw; go_simp)) (by assumption) ?_
        simp only [List.set_cons_zero, List.set_cons_succ]
        refine wpAnyH_all (rs := [7]) (by kernel_rfl) (by simp) ?_
        intro i hi; obtain rfl : i = 7 := by simpa using hi
        refine wpOp_step rfl (fun K hK => ?_)
        rw [if_pos (by kernel_rfl)]
        go_simp
        obtain ⟨y4, hy⟩ : ∃ z, z = y3.setCell ⟨P, 1, none⟩ (.slice ad3 N3.length cap3) := ⟨_, rfl⟩
        have M4 := M3.set ad3 N3.length cap3
        have o4 : (y3.setCell ⟨P, 1, none⟩ (.slice ad3 N3.length cap3)).ownsRow X 3 1 (.slice ad3 N3.length cap3) N3.length (N3.map (Value.int .i64)) := own_keep2 o3 n3 (fun k hk => Below.heap_setCell _ _ _ _ hk)
        rw [← hy] at M4 o4 ⊢
        clear hy C1 C2 fz M3 o3
        refine hK _ _ ⟨trivial, ?_⟩
        clear hK K hi
        refine wpAnyH_done (by kernel_rfl) ?_ _
        obtain ⟨E1, E2⟩ := M4.fat
        obtain ⟨D1, D2⟩ := M4.res
        have e0 := M4.rfz 0
        have e1 := M4.rfz 1
        go_wp2
        refine bodyPost_ret (v := .agg #[.int .i64 own, .slice ad3 N3.length cap3]) (by simp [results, Tryz.results84, go_sem, *]) rfl ⟨own, N3, M4.drawn rfl (own_base o4 (by omega)) (fun q h => by have := (m3 q h).1; omega), hl3⟩
  have hd1 : decide (z = 1) = false := decide_eq_false h1
  obtain ⟨E1, E2⟩ := My.fat
  obtain ⟨D1, D2⟩ := My.res
  have e0 := My.rfz 0
  have e1 := My.rfz 1
  go_wp2
  refine bodyPost_ret (v := .agg #[.int .i64 own, .slice adL L.length capL]) (by simp [results, Tryz.results84, go_sem, *]) rfl ⟨own, L, My.drawn rfl (own_base oy (by omega)) (fun q h => by have := nW q h; omega), by omega⟩

end Go.Proofs.YtifndemkkaelaaaGreat
