/- Frames that a call owns; frameInNet, l2Copy, marks. What a call owns. Contracts of the small functions over integers that the laws call. Contracts of the functions over members: how great, copied, alike. -/
import Derived.Test.YtifndemkkaelaaaGreatRows
import Derived.WalkKit
import Derived.ProofKit
import Derived.OpenShut
import Derived.ShutString
import Derived.ChangeOld
import Derived.Below
import Derived.Deep.QuietTactic
import Derived.BigQuiet
import Derived.WalkSmall
import Derived.Laws.OwnMore
import Derived.WalkSpells
import Derived.WalkLawsBesides
import Derived.Laws.AppendOwnNone
import Derived.Laws.CopyOwn
import Derived.Test.YtifndemkkaelaaaGreatZl1
import Derived.Test.YtifndemkkaelaaaGreatZlNets4
import Derived.Test.YtifndemkkaelaaaGreatZl2
namespace Go.Proofs.YtifndemkkaelaaaGreat
open Go.ChangeShapes Go.WideShapes Go.ChangeAt Go.RowKit
open Go.ChangeMaps (open_string shut_string)
set_option linter.unusedVariables false
set_option maxRecDepth 100000

theorem FrameAt.lt {w : World} {p : Nat} {a b c : Int} {ad : Option Addr} {len cap : Nat} (h : FrameAt w p a b c ad len cap) : p < w.heap.size := World.block_lt_of_cell? w _ h.1
theorem View.lt {w : World} {ad : Option Addr} {len : Nat} {f : Nat → Int} (h : View w ad len f) (x : Addr) (e : ad = some x) (hp : 0 < len) : x.block < w.heap.size := by
  obtain ⟨b, off, e', hc⟩ := h hp
  rw [e] at e'
  cases e'
  exact World.block_lt_of_cell? w _ (hc 0 hp)
theorem Tryz.info5 : (Tryz.prog.info? 5).map (fun i => (i.zero, i.size, i.bytes)) = some (some (.int .u8 0), 1, 1) := by kernel_rfl
theorem own_empty (w : World) (E : Nat) : (w.alloc (.cells #[] E)).ownsRow w.heap.size E 1 (.slice (some ⟨w.heap.size, 0, none⟩) 0 0) 0 [] :=
  World.ownsRow_lit w #[] 0 (Nat.le_refl _) (Nat.zero_le _) rfl
theorem below_own {w w' : World} {base E n : Nat} {v : Value} {xs : List Value} (hown : w.ownsRow base E 1 v n xs) (h : w.grownBy w' v.ownBlock) (hb : base ≤ w.heap.size) : Below base w w' := by
  refine (Below.refl _ _).grown h hb ?_
  intro k hk
  rcases hown.2 with ⟨rfl, _⟩ | ⟨g, cap, cur, rfl, hb, _⟩
  · simp [Value.ownBlock] at hk
  · simp [Value.ownBlock] at hk; omega
theorem own_carry {w w' : World} {base E n : Nat} {v : Value} {xs : List Value} (h : w.ownsRow base E 1 v n xs) (bl : Below w.heap.size w w') : w'.ownsRow base E 1 v n xs := by
  refine ⟨h.1, ?_⟩
  rcases h.2 with h | ⟨g, cap, cur, e, hb, hg, r⟩
  · exact .inl h
  · exact .inr ⟨g, cap, cur, e, hb, (bl.block g (Array.getElem?_eq_some_iff.1 hg).1).trans hg, r⟩
theorem own_base {w : World} {base base' E n : Nat} {v : Value} {xs : List Value} (h : w.ownsRow base E 1 v n xs) (hb : base' ≤ base) : w.ownsRow base' E 1 v n xs := by
  refine ⟨h.1, ?_⟩
  rcases h.2 with h | ⟨g, cap, cur, e, hg, r⟩
  · exact .inl h
  · exact .inr ⟨g, cap, cur, e, Nat.le_trans hb hg, r⟩
theorem View.add {w : World} {x : Addr} {L : List Int} (hv : View w (some x) L.length (fun i => L.getD i 0)) : ∀ j u, (L.map (Value.int .u8))[j]? = some u → w.cell? (x.add j) = some u := by
  intro j u hu
  rw [List.getElem?_map] at hu
  have hj : j < L.length := by
    rcases Nat.lt_or_ge j L.length with h | h
    · exact h
    · rw [List.getElem?_eq_none h] at hu; simp at hu
  obtain ⟨b, off, e, hc⟩ := hv (by omega)
  cases e
  have hcj := hc j hj
  rw [List.getElem?_eq_getElem hj] at hu
  simp only [Option.map_some, Option.some.injEq] at hu
  have e1 : L.getD j 0 = L[j] := by simp [List.getD, List.getElem?_eq_getElem hj]
  have hcj : w.cell? ⟨b, off + j, none⟩ = some u := by rw [hcj, ← hu]; exact congrArg (fun z => some (Value.int IntKind.u8 z)) e1
  by_cases hj0 : j = 0
  · subst hj0; simpa [Addr.add] using hcj
  · simpa [Addr.add, hj0] using hcj
theorem app_view {w : World} {ops : Array Oper} {rest : List Oper} {o : Oper} {a : Act} {Q : Exit → Act → World → Prop} (hgd : o.guard = none) (s x : Operand)
    (ho : o.op = .call { callee := .builtin .append, args := #[s, x], argTypes := #[22, 22] }) (base : Nat) (v : Value) (pre : List Int) (hs : a.eval s = v)
    (hown : w.ownsRow base 5 1 v pre.length (pre.map (Value.int .u8))) (ad : Option Addr) (cap : Nat) (L : List Int) (hx : a.eval x = .slice ad L.length cap)
    (hv : View w ad L.length (fun i => L.getD i 0)) (hnil : L = [] → ad = none → cap = 0) (hlen : pre.length + L.length ≤ 16777216) (hbase : base ≤ w.heap.size)
    (h : ∀ v' w', w'.ownsRow base 5 1 v' (pre ++ L).length ((pre ++ L).map (Value.int .u8)) → Below base w w' → wpList Tryz.prog ops Q rest (a.put o.dst v') w') :
    wpList Tryz.prog ops Q (o :: rest) a w := by
  obtain ⟨i0, hi, hz0, hz1, hz2⟩ := info_parts Tryz.info5
  cases ad with
  | none =>
    have hL : L = [] := by
      cases L with
      | nil => rfl
      | cons a r => obtain ⟨b, off, e, _⟩ := hv (by simp); cases e
    subst hL
    obtain rfl := hnil rfl rfl
    refine wpList_append_own_none hgd s x 22 ho base 5 i0 1 Tryz.underlying22 hi v pre.length (pre.map (Value.int .u8)) hs hown hx ?_
    exact h v w (by simpa using hown) (Below.refl _ _)
  | some q =>
    refine wpList_append_own _ hgd s x 22 ho base 5 i0 (.int .u8 0) 1 1 Tryz.underlying22 hi hz0 hz1 hz2 rfl (by decide) v pre.length (pre.map (Value.int .u8)) hs hown q L.length cap (L.map (Value.int .u8)) hx (by simp) hv.add ?_ ?_ ?_ hbase ?_
    · intro u hu
      obtain ⟨y, _, rfl⟩ := List.mem_map.1 hu
      rfl
    · unfold maxLen; omega
    · omega
    · intro v' w' h1 h2 _
      refine h v' w' ?_ (below_own hown h2 hbase)
      rw [List.length_append, List.map_append]
      exact h1
theorem grown_below {w w' : World} {g B : Nat} (h : w.grownBy w' (some g)) (hg : B ≤ g) (hs : B ≤ w.heap.size) : Below B w w' :=
  ⟨h.os, h.tape, h.output, h.size, fun k hk => h.block k (by omega) (by simp; omega)⟩
theorem own_nil {w : World} {base E n : Nat} {ad : Option Addr} {cap : Nat} {xs : List Value} (h : w.ownsRow base E 1 (.slice ad n cap) n xs) : (ad = none → cap = 0) ∧ n ≤ cap := by
  rcases h.2 with ⟨e, h0⟩ | ⟨g, cap', cur, e, hb, hg, hnc, _⟩
  · cases e; exact ⟨fun _ => rfl, Nat.le_refl _⟩
  · cases e; exact ⟨fun h => (by cases h), hnc⟩
set_option maxHeartbeats 1000000 in
theorem copied0 (ad : Option Addr) (len cap : Nat) (cs : List Value) (w : World) (hcs : Hid (cs.length = len)) (hone : ∀ u ∈ cs, u.oneCell' = true) (hv : 0 < len → ∃ x, ad = some x ∧ ∀ j u, cs[j]? = some u → w.cell? (x.add j) = some u) (hm : len ≤ 1048576) :
    Calls Tryz.prog 109 #[.slice ad len cap] w fun e w' => ∃ v, e = .returned v ∧ w'.ownsRow w.heap.size 5 1 v len cs ∧ Below w.heap.size w w' := by
  by_cases h0 : len = 0
  · subst h0
    obtain rfl : cs = [] := List.eq_nil_of_length_eq_zero hcs
    go_enter Tryz.func109, Tryz.ntmps109
    go_wp2
    go_ret
    exact ⟨_, rfl, World.ownsRow_nil _ _ _ _, Below.refl _ _⟩
  obtain ⟨i0, hi, hz0, hz1, hz2⟩ := info_parts Tryz.info5'
  have hne : decide ((len : Int) = 0) = false := decide_eq_false (by omega)
  obtain ⟨x, rfl, hc⟩ := hv (by omega)
  go_enter Tryz.func109, Tryz.ntmps109
  go_wp2_with (first | (refine wpList_make_full _ rfl _ _ 22 rfl w.heap.size 5 i0 (.int .u8 0) 1 Tryz.underlying22 hi hz0 hz1 .i64 .i64 _ _ len rfl rfl rfl rfl ?c1 ?c2 ?c3 ?_) | go_in)
  case c1 => rw [hz2]; omega
  case c2 => unfold maxLen; omega
  case c3 => exact Nat.le_refl _
  intro w1 hown hgrow
  have B1 : Below w.heap.size w w1 := (Below.refl _ _).grown hgrow (Nat.le_refl _) (by simp)
  obtain ⟨cur, hg, hcur⟩ : ∃ cur : Array Value, w1.heap[w.heap.size]? = some (.cells cur 5 (0, 0)) ∧ Hid (cur.size = len) := by
    rcases hown.2 with ⟨h, _⟩ | ⟨g, cap, cur, h, _, hg, _, _, hsz, _⟩
    · simp at h
    · simp only [Value.slice.injEq, Option.some.injEq, Addr.mk.injEq, and_true, true_and] at h
      obtain ⟨rfl, rfl⟩ := h
      exact ⟨cur, hg, show _ = _ by omega⟩
  have hc1 : ∀ j u, cs[j]? = some u → w1.cell? (x.add j) = some u := fun j u hj => by
    have h1 := hc j u hj
    have hlt : (x.add j).block < w.heap.size := World.block_lt_of_cell? w _ h1
    exact (B1.cell (p := x.add j) hlt).trans h1
  clear hown hgrow hc
  have hsz : (Tryz.prog.info? 5).map (·.size) = some 1 := by rw [hi]; simp [hz1]
  have hn2 : cs.length = Nat.min len len := by rw [hcs.out]; exact (Nat.min_self _).symm
  have hn3 : 0 + cs.length ≤ cur.size := by rw [hcs.out, hcur.out]; omega
  have hres : (cur.toList.take 0 ++ (cs ++ cur.toList.drop (0 + cs.length))).toArray = cs.toArray := by
    rw [List.drop_eq_nil_of_le (by rw [Array.length_toList]; have := hcs.out; have := hcur.out; omega)]; simp
  go_wp2_with (first | (refine wpList_copy_own rfl _ _ 22 22 rfl 5 Tryz.underlying22 hsz w.heap.size 0 len len x len cap rfl rfl cur 5 hg cs hn2 hc1 hn3 hone ?_; rw [hres]) | go_in)
  go_ret
  refine ⟨_, rfl, ⟨show cs.length = len * 1 by rw [hcs.out]; omega, .inr ⟨w.heap.size, len, cs.toArray, rfl, Nat.le_refl _, ?_, Nat.le_refl _, by unfold maxLen; omega, by rw [List.size_toArray, hcs.out]; omega, ?_⟩⟩, below_setRow B1 (Nat.le_refl _) _⟩
  · exact setRow_heap w1 _ cur _ _ _ hg
  · rw [List.take_of_length_le]
    have := hcs.out
    simp; omega
theorem copied (ad : Option Addr) (cap : Nat) (M : List Int) (w : World) (hv : View w ad M.length (fun i => M.getD i 0)) (hm : M.length ≤ 1048576) :
    Calls Tryz.prog 109 #[.slice ad M.length cap] w fun e w' => ∃ v, e = .returned v ∧ w'.ownsRow w.heap.size 5 1 v M.length (M.map (Value.int .u8)) ∧ Below w.heap.size w w' := by
  refine copied0 ad M.length cap (M.map (Value.int .u8)) w (show _ = _ by simp) (fun u hu => by obtain ⟨y, _, rfl⟩ := List.mem_map.1 hu; rfl) (fun hp => ?_) hm
  obtain ⟨b, off, rfl, _⟩ := hv hp
  exact ⟨_, rfl, hv.add⟩
theorem own_keep {w w' : World} {base E n : Nat} {v : Value} {xs : List Value} (h : w.ownsRow base E 1 v n xs) (k : ∀ g, base ≤ g → w'.heap[g]? = w.heap[g]?) : w'.ownsRow base E 1 v n xs := by
  refine ⟨h.1, ?_⟩
  rcases h.2 with h | ⟨g, cap, cur, e, hb, hg, r⟩
  · exact .inl h
  · exact .inr ⟨g, cap, cur, e, hb, (k g hb).trans hg, r⟩
theorem own_view2 {w : World} {base E n cap : Nat} {ad : Option Addr} {L : List Int} (h : w.ownsRow base E 1 (.slice ad n cap) n (L.map (Value.int .u8))) : View w ad n (fun i => L.getD i 0) ∧ Room w ad n ∧ ∀ a, ad = some a → base ≤ a.block ∧ a.block < w.heap.size := by
  obtain ⟨_, ad', cap', e, v, r, m⟩ := own_view h
  cases e
  exact ⟨v, r, m⟩
theorem own_keep2 {w w' : World} {base E n cap g : Nat} {ad : Option Addr} {xs : List Value} (h : w.ownsRow base E 1 (.slice ad n cap) n xs) (hne : ∀ x : Addr, ad = some x → x.block ≠ g) (k : ∀ k, k ≠ g → w'.heap[k]? = w.heap[k]?) : w'.ownsRow base E 1 (.slice ad n cap) n xs := by
  refine ⟨h.1, ?_⟩
  rcases h.2 with h | ⟨q, cap', cur, e, hb, hg, r⟩
  · exact .inl h
  · cases e
    exact .inr ⟨q, cap, cur, rfl, hb, (k q (hne _ rfl)).trans hg, r⟩
def Kept (ad : Option Addr) (w w' : World) : Prop := ∃ r, w.grownBy w' r ∧ ∀ g, r = some g → ∃ x, ad = some x ∧ x.block = g
theorem Kept.below {ad : Option Addr} {w w' : World} {B : Nat} (h : Kept ad w w') (hB : ∀ x, ad = some x → B ≤ x.block) (hs : B ≤ w.heap.size) : Below B w w' := by
  obtain ⟨r, g, hr⟩ := h
  refine ⟨g.os, g.tape, g.output, g.size, fun k hk => g.block k (by omega) ?_⟩
  intro e
  obtain ⟨x, hx, e2⟩ := hr k e.symm
  have := hB x hx
  omega
theorem Kept.block {ad : Option Addr} {w w' : World} {k : Nat} (h : Kept ad w w') (hk : k < w.heap.size) (hne : ∀ x, ad = some x → x.block ≠ k) : w'.heap[k]? = w.heap[k]? := by
  obtain ⟨r, g, hr⟩ := h
  refine g.block k hk ?_
  intro e
  obtain ⟨x, hx, e2⟩ := hr k e.symm
  exact hne x hx e2
theorem FrameAt.same {w w' : World} {p : Nat} {a b c : Int} {ad : Option Addr} {len cap : Nat} (h : FrameAt w p a b c ad len cap) (e : w'.heap[p]? = w.heap[p]?) : FrameAt w' p a b c ad len cap :=
  ⟨(World.cell?_of_block (a := ⟨p, 0, none⟩) e).trans h.1, (World.cell?_of_block (a := ⟨p, 1, none⟩) e).trans h.2.1, (World.cell?_of_block (a := ⟨p, 2, none⟩) e).trans h.2.2.1, (World.cell?_of_block (a := ⟨p, 3, none⟩) e).trans h.2.2.2⟩
set_option maxHeartbeats 2000000 in
theorem copyF (a b c : Int) (ad : Option Addr) (cap : Nat) (L : List Int) (w : World) (hv : View w ad L.length (fun i => L.getD i 0)) (hnil : L = [] → ad = none → cap = 0) (hm : L.length ≤ 1048576) :
    Calls Tryz.prog 97 #[.agg #[.int .i64 a, .int .i64 b, .int .i64 c, .slice ad L.length cap]] w fun e w' => ∃ ad' cap', e = .returned (.agg #[.int .i64 a, .int .i64 b, .int .i64 c, .slice ad' L.length cap']) ∧ w'.ownsRow w.heap.size 5 1 (.slice ad' L.length cap') L.length (L.map (Value.int .u8)) ∧ Below w.heap.size w w' := by
  obtain ⟨x, hx⟩ : ∃ x, x = ((w.alloc (Obj.cells #[.int .i64 a, .int .i64 b, .int .i64 c, .slice ad L.length cap] 30)).alloc (Obj.cells #[.int .i64 0, .int .i64 0, .int .i64 0, .slice none 0 0] 30)).alloc (Obj.cells #[] 5) := ⟨_, rfl⟩
  have F0 : FrameAt x w.heap.size a b c ad L.length cap := by rw [hx]; refine ⟨?_, ?_, ?_, ?_⟩ <;> simp [go_sem]
  have R0 : FrameAt x (w.heap.size + 1) 0 0 0 none 0 0 := by rw [hx]; refine ⟨?_, ?_, ?_, ?_⟩ <;> simp [go_sem]
  have Z0 : ∀ i, x.frozen? ⟨w.heap.size, i, none⟩ = false := by intro i; rw [hx]; simp [go_sem]
  have Z1 : ∀ i, x.frozen? ⟨w.heap.size + 1, i, none⟩ = false := by intro i; rw [hx]; simp [go_sem]
  have B0 : Below w.heap.size w x := by rw [hx]; exact (((Below.refl _ _).alloc (Nat.le_refl _) _).alloc (by simp) _).alloc (by simp; omega) _
  have T0 : x.heap.size = w.heap.size + 3 := by rw [hx]; simp
  have oE : x.ownsRow (w.heap.size + 2) 5 1 (.slice (some ⟨w.heap.size + 2, 0, none⟩) 0 0) ([] : List Int).length (([] : List Int).map (Value.int .u8)) := by
    rw [hx]
    have := own_empty ((w.alloc (Obj.cells #[.int .i64 a, .int .i64 b, .int .i64 c, .slice ad L.length cap] 30)).alloc (Obj.cells #[.int .i64 0, .int .i64 0, .int .i64 0, .slice none 0 0] 30)) 5
    simpa using this
  have hvx := hv.carry (w' := x) (fun y h hp => B0.block _ (hv.lt y h hp))
  have T1 : w.heap.size + 2 ≤ x.heap.size := by omega
  clear T0
  obtain ⟨C1, C2, C3, C4⟩ := F0
  have F0 : FrameAt x w.heap.size a b c ad L.length cap := ⟨C1, C2, C3, C4⟩
  rw [hx] at C1 C2 C3 C4 oE hvx T1
  go_enter Tryz.func97, Tryz.ntmps97
  go_wp2_with (first | (at_builtin; refine app_view rfl _ _ rfl (w.heap.size + 2) _ [] rfl oE ad cap L rfl hvx ?n1 ?n2 ?n3 ?_) | go_in)
  case n1 => exact hnil
  case n2 => simp; omega
  case n3 => simp
  rw [← hx] at T1 ⊢
  clear hx C1 C2 C3 C4 oE hvx
  intro v1 w1 o1 k1
  obtain ⟨_, ad1, cap1, rfl, _, _, m1⟩ := own_view o1
  have s1 := k1.size
  have B1 := B0.trans (k1.mono (by omega))
  have F1 := F0.below k1 (by omega)
  have R1 := R0.below k1 (by omega)
  have Y0 : ∀ i, w1.frozen? ⟨w.heap.size, i, none⟩ = false := fun i => (World.frozen?_of_block (a := ⟨w.heap.size, i, none⟩) (k1.block _ (by show w.heap.size < _; omega))).trans (Z0 i)
  have Y1 : ∀ i, w1.frozen? ⟨w.heap.size + 1, i, none⟩ = false := fun i => (World.frozen?_of_block (a := ⟨w.heap.size + 1, i, none⟩) (k1.block _ (by show w.heap.size + 1 < _; omega))).trans (Z1 i)
  obtain ⟨C1, C2, C3, C4⟩ := F1
  obtain ⟨D1, D2, D3, D4⟩ := R1
  have f3 := Y0 3
  have e0 := Y1 0
  have e1 := Y1 1
  have e2 := Y1 2
  have e3 := Y1 3
  clear F0 R0 Z0 Z1 Y0 Y1
  go_wp2
  refine bodyPost_ret (v := .agg #[.int .i64 a, .int .i64 b, .int .i64 c, .slice ad1 L.length cap1]) (by simp [results, Tryz.results97, go_sem, *]) rfl ⟨ad1, cap1, rfl, ?_, ?_⟩
  · refine own_base (own_keep o1 (fun g hg => ?_)) (by omega : w.heap.size ≤ w.heap.size + 2)
    rw [Below.heap_setCell _ _ _ _ (by show g ≠ w.heap.size + 1; omega), Below.heap_setCell _ _ _ _ (by show g ≠ w.heap.size + 1; omega), Below.heap_setCell _ _ _ _ (by show g ≠ w.heap.size + 1; omega), Below.heap_setCell _ _ _ _ (by show g ≠ w.heap.size + 1; omega), Below.heap_setCell _ _ _ _ (by show g ≠ w.heap.size; omega)]
  · exact ((((B1.setCell (by simp) _).setCell (by simp) _).setCell (by simp) _).setCell (by simp) _).setCell (by simp) _
structure FR where
  a : Int
  b : Int
  c : Int
  M : List Int
  ok : Bool
def FR.no : FR := ⟨0, 0, 0, [], false⟩
def OwnFB (w : World) (r : FR) (e : Ending) (w' : World) : Prop :=
  ∃ ad cap, e = .returned (.tuple #[.agg #[.int .i64 r.a, .int .i64 r.b, .int .i64 r.c, .slice ad r.M.length cap], .bool r.ok]) ∧ w'.ownsRow w.heap.size 5 1 (.slice ad r.M.length cap) r.M.length (r.M.map (Value.int .u8)) ∧ Below w.heap.size w w'
theorem frame_put {w : World} {P : Nat} {a b c : Int} {v : Value} {a0 b0 c0 : Int} {ad : Option Addr} {n cp : Nat} (h : FrameAt w P a0 b0 c0 ad n cp) {ad' : Option Addr} {n' cp' : Nat} (e : v = .slice ad' n' cp') :
    FrameAt ((((w.setCell ⟨P, 0, none⟩ (.int .i64 a)).setCell ⟨P, 1, none⟩ (.int .i64 b)).setCell ⟨P, 2, none⟩ (.int .i64 c)).setCell ⟨P, 3, none⟩ v) P a b c ad' n' cp' := by
  obtain ⟨h0, h1, h2, h3⟩ := h
  subst e
  refine ⟨?_, ?_, ?_, ?_⟩ <;> simp [go_sem, *]
set_option maxHeartbeats 1000000 in
theorem frameInNet (p : Nat) (a b c net : Int) (ad : Option Addr) (cap : Nat) (L : List Int) (w : World) (F : FrameAt w p a b c ad L.length cap) (hv : View w ad L.length (fun i => L.getD i 0)) (hm : L.length ≤ 1048576) :
    Calls Tryz.prog 61 #[.pointer (some ⟨p, 0, none⟩), .int .i64 net] w fun e w' => ∃ ad' cap', e = .returned (.agg #[.int .i64 a, .int .i64 b, .int .i64 net, .slice ad' L.length cap']) ∧ w'.ownsRow w.heap.size 5 1 (.slice ad' L.length cap') L.length (L.map (Value.int .u8)) ∧ Below w.heap.size w w' := by
  have hp := F.lt
  obtain ⟨x0, hx⟩ : ∃ x, x = w.alloc (Obj.cells #[.int .i64 0, .int .i64 0, .int .i64 0, .slice none 0 0] 30) := ⟨_, rfl⟩
  have B0 : Below w.heap.size w x0 := by rw [hx]; exact below_box w _
  have T0 : w.heap.size < x0.heap.size := by rw [hx]; exact size_box w _
  have R0 : FrameAt x0 w.heap.size 0 0 0 none 0 0 := by rw [hx]; exact frameAt_box w _ _ _ _ _ _ _
  have Z0 : ∀ i, x0.frozen? ⟨w.heap.size, i, none⟩ = false := by intro i; rw [hx]; simp [go_sem]
  have F0 := F.below B0 hp
  have hp0 : p < x0.heap.size := by omega
  have hv0 : View x0 ad L.length (fun i => L.getD i 0) := hv.carry (fun x h hp => B0.block _ (hv.lt x h hp))
  go_enter Tryz.func61, Tryz.ntmps61
  go_wp2_with fail
  rw [← hx]
  clear hx
  refine wp_region_held (S := fun Y => FrameAt Y p a b c ad L.length cap) (by kernel_rfl) ?_
  change wpAnyH _ _ _ _ _ _ _ _ (World.drew _)
  have hb0 : Below x0.heap.size x0 x0.drew := (Below.refl _ _).drew
  have S0 : FrameAt x0.drew p a b c ad L.length cap := F0
  refine takeW 0 5 (.pointer (some ⟨p, 0, none⟩)) rfl rfl (by kernel_rfl) (by kernel_rfl) (by kernel_rfl) (fun _ _ _ h => h) (by kernel_rfl) (by (intro w hSw; go_simp)) (by assumption) ?_
  simp only [List.set_cons_zero, List.set_cons_succ]
  refine takeW 1 6 (.pointer (some ⟨p, 0, none⟩)) rfl rfl (by kernel_rfl) (by kernel_rfl) (by kernel_rfl) (fun _ _ _ h => h) (by kernel_rfl) (by (intro w hSw; go_simp)) (by assumption) ?_
  simp only [List.set_cons_zero, List.set_cons_succ]
  refine takeW 2 7 (.pointer (some ⟨p, 0, none⟩)) rfl rfl (by kernel_rfl) (by kernel_rfl) (by kernel_rfl) (fun _ _ _ h => h) (by kernel_rfl) (by (intro w hSw; go_simp)) (by assumption) ?_
  simp only [List.set_cons_zero, List.set_cons_succ]
  refine takeW 3 8 (.int .i64 a) rfl rfl (by kernel_rfl) (by kernel_rfl) (by kernel_rfl) (fun _ _ _ h => h) (by kernel_rfl) (by (intro Y hSw; obtain ⟨C1, C2, C3, C4⟩ := hSw; go_simp)) (by assumption) ?_
  simp only [List.set_cons_zero, List.set_cons_succ]
  refine takeW 4 9 (.pointer (some ⟨p, 0, none⟩)) rfl rfl (by kernel_rfl) (by kernel_rfl) (by kernel_rfl) (fun _ _ _ h => h) (by kernel_rfl) (by (intro w hSw; go_simp)) (by assumption) ?_
  simp only [List.set_cons_zero, List.set_cons_succ]
  refine takeW 5 10 (.pointer (some ⟨p, 0, none⟩)) rfl rfl (by kernel_rfl) (by kernel_rfl) (by kernel_rfl) (fun _ _ _ h => h) (by kernel_rfl) (by (intro w hSw; go_simp)) (by assumption) ?_
  simp only [List.set_cons_zero, List.set_cons_succ]
  refine takeW 6 11 (.pointer (some ⟨p, 1, none⟩)) rfl rfl (by kernel_rfl) (by kernel_rfl) (by kernel_rfl) (fun _ _ _ h => h) (by kernel_rfl) (by (intro w hSw; go_simp)) (by assumption) ?_
  simp only [List.set_cons_zero, List.set_cons_succ]
  refine takeW 7 12 (.int .i64 b) rfl rfl (by kernel_rfl) (by kernel_rfl) (by kernel_rfl) (fun _ _ _ h => h) (by kernel_rfl) (by (intro Y hSw; obtain ⟨C1, C2, C3, C4⟩ := hSw; go_simp)) (by assumption) ?_
  simp only [List.set_cons_zero, List.set_cons_succ]
  refine takeW 8 13 (.int .i64 net) rfl rfl (by kernel_rfl) (by kernel_rfl) (by kernel_rfl) (fun _ _ _ h => h) (by kernel_rfl) (by (intro w hSw; go_simp)) (by assumption) ?_
  simp only [List.set_cons_zero, List.set_cons_succ]
  refine takeW 9 14 (.pointer (some ⟨p, 0, none⟩)) rfl rfl (by kernel_rfl) (by kernel_rfl) (by kernel_rfl) (fun _ _ _ h => h) (by kernel_rfl) (by (intro w hSw; go_simp)) (by assumption) ?_
  simp only [List.set_cons_zero, List.set_cons_succ]
  refine takeW 10 15 (.pointer (some ⟨p, 0, none⟩)) rfl rfl (by kernel_rfl) (by kernel_rfl) (by kernel_rfl) (fun _ _ _ h => h) (by kernel_rfl) (by (intro w hSw; go_simp)) (by assumption) ?_
  simp only [List.set_cons_zero, List.set_cons_succ]
  refine takeW 11 16 (.pointer (some ⟨p, 3, none⟩)) rfl rfl (by kernel_rfl) (by kernel_rfl) (by kernel_rfl) (fun _ _ _ h => h) (by kernel_rfl) (by (intro w hSw; go_simp)) (by assumption) ?_
  simp only [List.set_cons_zero, List.set_cons_succ]
  refine takeW 12 17 (.slice ad L.length cap) rfl rfl (by kernel_rfl) (by kernel_rfl) (by kernel_rfl) (fun _ _ _ h => h) (by kernel_rfl) (by (intro Y hSw; obtain ⟨C1, C2, C3, C4⟩ := hSw; go_simp)) (by assumption) ?_
  simp only [List.set_cons_zero, List.set_cons_succ]
  refine wpAnyH_all (rs := [13]) (by kernel_rfl) (by simp) ?_
  intro i hi; obtain rfl : i = 13 := by simpa using hi
  refine wpOp_step rfl (fun K hK => ?_)
  rw [if_pos (by kernel_rfl)]
  go_simp
  go_at_call 109
  refine (copied ad cap L _ (hv0.carry (fun x h hp => hb0.block _ (hv0.lt x h hp))) hm).mono ?_
  rintro e y1 ⟨v, rfl, oM, kM⟩
  obtain ⟨_, adM, capM, rfl, vM, rM, mM⟩ := own_view oM
  have sM := kM.size
  have hb1 : Below x0.heap.size x0 y1 := hb0.trans (kM.mono (Nat.le_refl _))
  have S1 := F0.below hb1 hp0
  refine hK _ _ ⟨S1, ?_⟩
  clear hK K hi
  refine takeW 14 19 (.agg #[.int .i64 a, .int .i64 b, .int .i64 net, .slice adM L.length capM]) rfl rfl (by kernel_rfl) (by kernel_rfl) (by kernel_rfl) (fun _ _ _ h => h) (by kernel_rfl) (by (intro w hSw; go_simp)) (by assumption) ?_
  simp only [List.set_cons_zero, List.set_cons_succ]
  refine wpAnyH_all (rs := [15]) (by kernel_rfl) (by simp) ?_
  intro i hi; obtain rfl : i = 15 := by simpa using hi
  refine wpOp_step rfl (fun K hK => ?_)
  rw [if_pos (by kernel_rfl)]
  have R1 := R0.below hb1 (by omega)
  obtain ⟨q0, q1, q2, q3⟩ := R1
  have Z1 := fz_below Z0 hb1 (by omega)
  have w0 := Z1 0
  have w1 := Z1 1
  have w2 := Z1 2
  have w3 := Z1 3
  go_simp
  clear w0 w1 w2 w3
  obtain ⟨y2, hy⟩ : ∃ z, z = (((y1.setCell ⟨w.heap.size, 0, none⟩ (.int .i64 a)).setCell ⟨w.heap.size, 1, none⟩ (.int .i64 b)).setCell ⟨w.heap.size, 2, none⟩ (.int .i64 net)).setCell ⟨w.heap.size, 3, none⟩ (.slice adM L.length capM) := ⟨_, rfl⟩
  have kk : ∀ g, g ≠ w.heap.size → y2.heap[g]? = y1.heap[g]? := fun g hg => by rw [hy, Below.heap_setCell _ _ _ _ hg, Below.heap_setCell _ _ _ _ hg, Below.heap_setCell _ _ _ _ hg, Below.heap_setCell _ _ _ _ hg]
  have FF : FrameAt y2 w.heap.size a b net adM L.length capM := by rw [hy]; exact frame_put ⟨q0, q1, q2, q3⟩ rfl
  have B1 : Below w.heap.size w y1 := B0.trans (hb1.mono B0.size)
  have B2 : Below w.heap.size w y2 := by rw [hy]; exact (((B1.setCell (by simp) _).setCell (by simp) _).setCell (by simp) _).setCell (by simp) _
  have oF : y2.ownsRow w.heap.size 5 1 (.slice adM L.length capM) L.length (L.map (Value.int .u8)) := own_base (own_keep2 oM (fun x h => by have h1 : x0.heap.size ≤ x.block := (mM x h).1; omega) kk) (by show w.heap.size ≤ x0.heap.size; omega)
  have S2 : FrameAt y2 p a b c ad L.length cap := S1.same (kk _ (by omega))
  rw [← hy]
  clear hy q0 q1 q2 q3
  refine hK _ _ ⟨S2, ?_⟩
  clear hK K hi
  refine wpAnyH_done (by kernel_rfl) ?_ _
  obtain ⟨E1, E2, E3, E4⟩ := FF
  go_wp2
  refine bodyPost_ret (v := .agg #[.int .i64 a, .int .i64 b, .int .i64 net, .slice adM L.length capM]) (by simp [results, Tryz.results61, go_sem, *]) rfl ⟨adM, capM, rfl, oF, B2⟩

end Go.Proofs.YtifndemkkaelaaaGreat
namespace Go.Proofs.YtifndemkkaelaaaGreat
open Go.ChangeShapes Go.WideShapes Go.ChangeAt Go.RowKit
open Go.ChangeMaps (open_string shut_string)
set_option linter.unusedVariables false
set_option maxRecDepth 100000


end Go.Proofs.YtifndemkkaelaaaGreat
namespace Go.Proofs.YtifndemkkaelaaaGreat
open Go.ChangeShapes Go.WideShapes Go.ChangeAt Go.RowKit
open Go.ChangeMaps (open_string shut_string)
set_option linter.unusedVariables false

theorem ViewI.mk0 {w : World} {b len : Nat} {f : Nat → Int} (h : ∀ i, i < len → w.cell? ⟨b, i, none⟩ = some (.int .i64 (f i))) : ViewI w (some ⟨b, 0, none⟩) len f :=
  fun _ => ⟨b, 0, rfl, fun i hi => by rw [Nat.zero_add]; exact h i hi⟩
theorem Tryz.infoI' : (Tryz.prog.info? 3).map (fun i => (i.zero, i.size, i.bytes)) = some (some (.int .i64 0), 1, 8) := by kernel_rfl
end Go.Proofs.YtifndemkkaelaaaGreat
namespace Go.Proofs.YtifndemkkaelaaaGreat
open Go.ChangeShapes Go.WideShapes Go.ChangeAt Go.RowKit
open Go.ChangeMaps (open_string shut_string)
set_option linter.unusedVariables false
set_option maxRecDepth 100000

end Go.Proofs.YtifndemkkaelaaaGreat
