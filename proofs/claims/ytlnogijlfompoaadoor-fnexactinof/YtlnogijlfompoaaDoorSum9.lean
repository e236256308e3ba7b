/- Check sums. -/
import Derived.Test.YtlnogijlfompoaaDoorRows
import Derived.WalkKit
import Derived.ProofKit
import Derived.OpenShut
import Derived.ShutString
import Derived.ChangeOld
import Derived.Below
import Derived.Deep.QuietTactic
import Derived.BigQuiet
import Derived.WalkSmall
import Derived.Laws.OwnMore
import Derived.WalkSpells
import Derived.WalkLawsBesides
import Derived.Laws.AppendOwnNone
import Derived.Test.YtlnogijlfompoaaDoorLow9
import Derived.Test.YtlnogijlfompoaaDoorPut9
namespace Go.Proofs.YtlnogijlfompoaaDoor
open Go.ChangeShapes Go.WideShapes Go.ChangeAt Go.RowKit
open Go.ChangeMaps (open_string shut_string)
set_option linter.unusedVariables false
set_option maxRecDepth 100000

def sx (f : Nat → Int) : Nat → Int
  | 0 => 1
  | k + 1 => (sx f k + f k) % 65521
def sy (f : Nat → Int) : Nat → Int
  | 0 => 0
  | k + 1 => (sy f k + sx f (k + 1)) % 65521
theorem sx_bd (f : Nat → Int) (k : Nat) : 0 ≤ sx f k ∧ sx f k ≤ 65520 := by
  cases k with
  | zero => simp [sx]
  | succ k => simp only [sx]; omega
theorem sy_bd (f : Nat → Int) (k : Nat) : 0 ≤ sy f k ∧ sy f k ≤ 65520 := by
  cases k with
  | zero => simp [sy]
  | succ k => simp only [sy]; omega

set_option maxHeartbeats 400000 in
theorem sumSpec (ad : Option Addr) (len cap : Nat) (f : Nat → Int) (w : World) (hv : View w ad len f) (hl : len ≤ 1048576) (hf : ∀ i, 0 ≤ f i ∧ f i ≤ 255) :
    Calls Tryd.prog 36 #[.slice ad len cap] w fun e w' => e = .returned (.int .i64 (sy f len * 65536 + sx f len)) ∧ w' = w := by
  go_enter Tryd.func36, Tryd.ntmps36
  go_wp2
  go_loop [3, 4, 5] (fun x y i => ∃ k : Nat, k ≤ len ∧ i = .int .i64 k ∧ x = .int .i64 (sx f k) ∧ y = .int .i64 (sy f k)) (fun _ _ i => len - (intOf i).toNat)
  case atStart => exact ⟨0, Nat.zero_le _, rfl, rfl, rfl⟩
  case round =>
    obtain ⟨k, hk, rfl, rfl, rfl⟩ := hrel
    have bx := sx_bd f k
    have by' := sy_bd f k
    have bf := hf k
    by_cases hlt : k < len
    · obtain ⟨b, off, rfl, hc⟩ := hv (by omega)
      have hck := hc k hlt
      have bx1 := sx_bd f (k + 1)
      have HX : Hid (sx f (k + 1) = (sx f k + f k) % 65521) := rfl
      have HY : Hid (sy f (k + 1) = (sy f k + sx f (k + 1)) % 65521) := rfl
      go_wp2
      go_round
      case rel => exact ⟨k + 1, by omega, by go_num, by rw [HX.out], by rw [HY.out, HX.out]⟩
      case measure => simp [intOf]; omega
    · obtain rfl : k = len := by omega
      go_wp2
      go_ret
      exact ⟨rfl, rfl⟩

set_option maxHeartbeats 400000 in
theorem sumImpl (ad : Option Addr) (len cap : Nat) (f : Nat → Int) (w : World) (hv : View w ad len f) (hl : len ≤ 1048576) (hf : ∀ i, 0 ≤ f i ∧ f i ≤ 255) :
    Calls Tryd.prog 60 #[.slice ad len cap] w fun e w' => e = .returned (.int .i64 (sy f len * 65536 + sx f len)) ∧ w' = w := by
  go_enter Tryd.func60, Tryd.ntmps60
  go_wp2
  go_loop [3, 4, 9] (fun x y i => ∃ k : Nat, k ≤ len ∧ i = .int .i64 k ∧ x = .int .i64 (sx f k) ∧ y = .int .i64 (sy f k)) (fun _ _ i => len - (intOf i).toNat)
  case atStart => exact ⟨0, Nat.zero_le _, rfl, rfl, rfl⟩
  case round =>
    obtain ⟨k, hk, rfl, rfl, rfl⟩ := hrel
    have bx := sx_bd f k
    have by' := sy_bd f k
    have bf := hf k
    by_cases hlt : k < len
    · obtain ⟨b, off, rfl, hc⟩ := hv (by omega)
      have hck := hc k hlt
      have bx1 := sx_bd f (k + 1)
      have HX : Hid (sx f (k + 1) = (sx f k + f k) % 65521) := rfl
      have HY : Hid (sy f (k + 1) = (sy f k + sx f (k + 1)) % 65521) := rfl
      go_wp2
      go_round
      case rel => exact ⟨k + 1, by omega, by go_num, by rw [HX.out], by rw [HY.out, HX.out]⟩
      case measure => simp [intOf]; omega
    · obtain rfl : k = len := by omega
      go_wp2
      go_ret
      exact ⟨rfl, rfl⟩


/-- The check sum of a row. -/
def sumL (B : List Int) : Int := sy (fun i => B.getD i 0) B.length * 65536 + sx (fun i => B.getD i 0) B.length
theorem sumL_bd (B : List Int) : 0 ≤ sumL B ∧ sumL B ≤ 4294967295 := by
  have h1 := sx_bd (fun i => B.getD i 0) B.length
  have h2 := sy_bd (fun i => B.getD i 0) B.length
  unfold sumL
  omega
theorem getD_bd {B : List Int} (h : ∀ x ∈ B, 0 ≤ x ∧ x ≤ 255) (i : Nat) : 0 ≤ B.getD i 0 ∧ B.getD i 0 ≤ 255 := by
  by_cases hi : i < B.length
  · have := h B[i] (List.getElem_mem hi)
    simpa [List.getD, List.getElem?_eq_getElem hi] using this
  · simp [List.getD, List.getElem?_eq_none (by omega : B.length ≤ i)]
theorem putZ_small {n : Int} (h0 : 0 ≤ n) (h1 : n ≤ 127) : putZ n = [n] := by
  unfold putZ
  rw [if_pos (by omega), put_lo (by omega)]
  congr 1
  omega
theorem below_own {w w' : World} {base E n : Nat} {v : Value} {xs : List Value} (hown : w.ownsRow base E 1 v n xs) (h : w.grownBy w' v.ownBlock) (hb : base ≤ w.heap.size) : Below base w w' := by
  refine (Below.refl _ _).grown h hb ?_
  intro k hk
  rcases hown.2 with ⟨rfl, _⟩ | ⟨g, cap, cur, rfl, hb, _⟩
  · simp [Value.ownBlock] at hk
  · simp [Value.ownBlock] at hk; omega
theorem own_carry {w w' : World} {base E n : Nat} {v : Value} {xs : List Value} (h : w.ownsRow base E 1 v n xs) (bl : Below w.heap.size w w') : w'.ownsRow base E 1 v n xs := by
  refine ⟨h.1, ?_⟩
  rcases h.2 with h | ⟨g, cap, cur, e, hb, hg, r⟩
  · exact .inl h
  · exact .inr ⟨g, cap, cur, e, hb, (bl.block g (Array.getElem?_eq_some_iff.1 hg).1).trans hg, r⟩
theorem own_base {w : World} {base base' E n : Nat} {v : Value} {xs : List Value} (h : w.ownsRow base E 1 v n xs) (hb : base' ≤ base) : w.ownsRow base' E 1 v n xs := by
  refine ⟨h.1, ?_⟩
  rcases h.2 with h | ⟨g, cap, cur, e, hg, r⟩
  · exact .inl h
  · exact .inr ⟨g, cap, cur, e, Nat.le_trans hb hg, r⟩
theorem View.add {w : World} {x : Addr} {L : List Int} (hv : View w (some x) L.length (fun i => L.getD i 0)) : ∀ j u, (L.map (Value.int .u8))[j]? = some u → w.cell? (x.add j) = some u := by
  intro j u hu
  rw [List.getElem?_map] at hu
  have hj : j < L.length := by
    rcases Nat.lt_or_ge j L.length with h | h
    · exact h
    · rw [List.getElem?_eq_none h] at hu; simp at hu
  obtain ⟨b, off, e, hc⟩ := hv (by omega)
  cases e
  have hcj := hc j hj
  rw [List.getElem?_eq_getElem hj] at hu
  simp only [Option.map_some, Option.some.injEq] at hu
  have e1 : L.getD j 0 = L[j] := by simp [List.getD, List.getElem?_eq_getElem hj]
  have hcj : w.cell? ⟨b, off + j, none⟩ = some u := by rw [hcj, ← hu]; exact congrArg (fun z => some (Value.int IntKind.u8 z)) e1
  by_cases hj0 : j = 0
  · subst hj0; simpa [Addr.add] using hcj
  · simpa [Addr.add, hj0] using hcj
/-- A row of bytes put behind a row that the call owns. -/
theorem app_view {w : World} {ops : Array Oper} {rest : List Oper} {o : Oper} {a : Act} {Q : Exit → Act → World → Prop} (hgd : o.guard = none) (s x : Operand)
    (ho : o.op = .call { callee := .builtin .append, args := #[s, x], argTypes := #[22, 22] }) (base : Nat) (v : Value) (pre : List Int) (hs : a.eval s = v)
    (hown : w.ownsRow base 5 1 v pre.length (pre.map (Value.int .u8))) (ad : Option Addr) (cap : Nat) (L : List Int) (hx : a.eval x = .slice ad L.length cap)
    (hv : View w ad L.length (fun i => L.getD i 0)) (hnil : L = [] → ad = none → cap = 0) (hlen : pre.length + L.length ≤ 16777216) (hbase : base ≤ w.heap.size)
    (h : ∀ v' w', w'.ownsRow base 5 1 v' (pre ++ L).length ((pre ++ L).map (Value.int .u8)) → Below base w w' → wpList Tryd.prog ops Q rest (a.put o.dst v') w') :
    wpList Tryd.prog ops Q (o :: rest) a w := by
  obtain ⟨i0, hi, hz0, hz1, hz2⟩ := info_parts Tryd.info5
  cases ad with
  | none =>
    have hL : L = [] := by
      cases L with
      | nil => rfl
      | cons a r => obtain ⟨b, off, e, _⟩ := hv (by simp); cases e
    subst hL
    obtain rfl := hnil rfl rfl
    refine wpList_append_own_none hgd s x 22 ho base 5 i0 1 Tryd.underlying22 hi v pre.length (pre.map (Value.int .u8)) hs hown hx ?_
    exact h v w (by simpa using hown) (Below.refl _ _)
  | some q =>
    refine wpList_append_own _ hgd s x 22 ho base 5 i0 (.int .u8 0) 1 1 Tryd.underlying22 hi hz0 hz1 hz2 rfl (by decide) v pre.length (pre.map (Value.int .u8)) hs hown q L.length cap (L.map (Value.int .u8)) hx (by simp) hv.add ?_ ?_ ?_ hbase ?_
    · intro u hu
      obtain ⟨y, _, rfl⟩ := List.mem_map.1 hu
      rfl
    · unfold maxLen; omega
    · omega
    · intro v' w' h1 h2 _
      refine h v' w' ?_ (below_own hown h2 hbase)
      rw [List.length_append, List.map_append]
      exact h1

end Go.Proofs.YtlnogijlfompoaaDoor
