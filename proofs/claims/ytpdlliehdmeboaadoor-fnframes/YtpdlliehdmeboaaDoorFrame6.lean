/- impl.FrameBytes, walked. -/
import Derived.Test.YtpdlliehdmeboaaDoorRows
import Derived.WalkKit
import Derived.ProofKit
import Derived.OpenShut
import Derived.ShutString
import Derived.ChangeOld
import Derived.Below
import Derived.Deep.QuietTactic
import Derived.BigQuiet
import Derived.WalkSmall
import Derived.Laws.OwnMore
import Derived.WalkSpells
import Derived.WalkLawsBesides
import Derived.Laws.AppendOwnNone
import Derived.Test.YtpdlliehdmeboaaDoorFrame5
import Derived.Test.YtpdlliehdmeboaaDoorTakes
namespace Go.Proofs.YtpdlliehdmeboaaDoor
open Go.ChangeShapes Go.WideShapes Go.ChangeAt Go.RowKit
open Go.ChangeMaps (open_string shut_string)
set_option linter.unusedVariables false

def sx (f : Nat → Int) : Nat → Int
  | 0 => 1
  | k + 1 => (sx f k + f k) % 65521
def sy (f : Nat → Int) : Nat → Int
  | 0 => 0
  | k + 1 => (sy f k + sx f (k + 1)) % 65521
theorem sx_bd (f : Nat → Int) (k : Nat) : 0 ≤ sx f k ∧ sx f k ≤ 65520 := by
  cases k with
  | zero => simp [sx]
  | succ k => simp only [sx]; omega
theorem sy_bd (f : Nat → Int) (k : Nat) : 0 ≤ sy f k ∧ sy f k ≤ 65520 := by
  cases k with
  | zero => simp [sy]
  | succ k => simp only [sy]; omega

set_option maxHeartbeats 400000 in
theorem sumSpec (ad : Option Addr) (len cap : Nat) (f : Nat → Int) (w : World) (hv : View w ad len f) (hl : len ≤ 1048576) (hf : ∀ i, 0 ≤ f i ∧ f i ≤ 255) :
    Calls Tryd.prog 34 #[.slice ad len cap] w fun e w' => e = .returned (.int .i64 (sy f len * 65536 + sx f len)) ∧ w' = w := by
  go_enter Tryd.func34, Tryd.ntmps34
  go_wp2
  go_loop [3, 4, 5] (fun x y i => ∃ k : Nat, k ≤ len ∧ i = .int .i64 k ∧ x = .int .i64 (sx f k) ∧ y = .int .i64 (sy f k)) (fun _ _ i => len - (intOf i).toNat)
  case atStart => exact ⟨0, Nat.zero_le _, rfl, rfl, rfl⟩
  case round =>
    obtain ⟨k, hk, rfl, rfl, rfl⟩ := hrel
    have bx := sx_bd f k
    have by' := sy_bd f k
    have bf := hf k
    by_cases hlt : k < len
    · obtain ⟨b, off, rfl, hc⟩ := hv (by omega)
      have hck := hc k hlt
      have bx1 := sx_bd f (k + 1)
      have HX : Hid (sx f (k + 1) = (sx f k + f k) % 65521) := rfl
      have HY : Hid (sy f (k + 1) = (sy f k + sx f (k + 1)) % 65521) := rfl
      go_wp2
      go_round
      case rel => exact ⟨k + 1, by omega, by go_num, by rw [HX.out], by rw [HY.out, HX.out]⟩
      case measure => simp [intOf]; omega
    · obtain rfl : k = len := by omega
      go_wp2
      go_ret
      exact ⟨rfl, rfl⟩

set_option maxHeartbeats 400000 in
theorem sumImpl (ad : Option Addr) (len cap : Nat) (f : Nat → Int) (w : World) (hv : View w ad len f) (hl : len ≤ 1048576) (hf : ∀ i, 0 ≤ f i ∧ f i ≤ 255) :
    Calls Tryd.prog 43 #[.slice ad len cap] w fun e w' => e = .returned (.int .i64 (sy f len * 65536 + sx f len)) ∧ w' = w := by
  go_enter Tryd.func43, Tryd.ntmps43
  go_wp2
  go_loop [3, 4, 9] (fun x y i => ∃ k : Nat, k ≤ len ∧ i = .int .i64 k ∧ x = .int .i64 (sx f k) ∧ y = .int .i64 (sy f k)) (fun _ _ i => len - (intOf i).toNat)
  case atStart => exact ⟨0, Nat.zero_le _, rfl, rfl, rfl⟩
  case round =>
    obtain ⟨k, hk, rfl, rfl, rfl⟩ := hrel
    have bx := sx_bd f k
    have by' := sy_bd f k
    have bf := hf k
    by_cases hlt : k < len
    · obtain ⟨b, off, rfl, hc⟩ := hv (by omega)
      have hck := hc k hlt
      have bx1 := sx_bd f (k + 1)
      have HX : Hid (sx f (k + 1) = (sx f k + f k) % 65521) := rfl
      have HY : Hid (sy f (k + 1) = (sy f k + sx f (k + 1)) % 65521) := rfl
      go_wp2
      go_round
      case rel => exact ⟨k + 1, by omega, by go_num, by rw [HX.out], by rw [HY.out, HX.out]⟩
      case measure => simp [intOf]; omega
    · obtain rfl : k = len := by omega
      go_wp2
      go_ret
      exact ⟨rfl, rfl⟩


/-- The bytes of a frame ahead of its sum. -/
def body (a b c : Int) (L : List Int) : List Int := [a, b, c] ++ putZ (L.length : Int) ++ L
/-- The check sum of a row. -/
def sumL (B : List Int) : Int := sy (fun i => B.getD i 0) B.length * 65536 + sx (fun i => B.getD i 0) B.length
/-- What FrameBytes answers. -/
def written (a b c : Int) (L : List Int) : List Int := if okF a b c L.length = true then body a b c L ++ low4 (sumL (body a b c L)) else []
theorem sumL_bd (B : List Int) : 0 ≤ sumL B ∧ sumL B ≤ 4294967295 := by
  have h1 := sx_bd (fun i => B.getD i 0) B.length
  have h2 := sy_bd (fun i => B.getD i 0) B.length
  unfold sumL
  omega
theorem getD_bd {B : List Int} (h : ∀ x ∈ B, 0 ≤ x ∧ x ≤ 255) (i : Nat) : 0 ≤ B.getD i 0 ∧ B.getD i 0 ≤ 255 := by
  by_cases hi : i < B.length
  · have := h B[i] (List.getElem_mem hi)
    simpa [List.getD, List.getElem?_eq_getElem hi] using this
  · simp [List.getD, List.getElem?_eq_none (by omega : B.length ≤ i)]
theorem putZ_small {n : Int} (h0 : 0 ≤ n) (h1 : n ≤ 127) : putZ n = [n] := by
  unfold putZ
  rw [if_pos (by omega), put_lo (by omega)]
  congr 1
  omega
theorem body_bd {a b c : Int} {L : List Int} (h : okF a b c L.length = true) (hL : ∀ x ∈ L, 0 ≤ x ∧ x ≤ 255) : ∀ x ∈ body a b c L, 0 ≤ x ∧ x ≤ 255 := by
  unfold okF at h
  simp at h
  unfold body
  rw [putZ_small (by omega) (by omega)]
  intro x hx
  simp at hx
  rcases hx with rfl | rfl | rfl | rfl | hx
  · omega
  · omega
  · omega
  · omega
  · exact hL x hx
theorem body_len {a b c : Int} {L : List Int} (h : L.length ≤ 30) : (body a b c L).length ≤ 34 := by
  unfold body
  rw [putZ_small (by omega) (by omega)]
  simp; omega
theorem below_own {w w' : World} {base E n : Nat} {v : Value} {xs : List Value} (hown : w.ownsRow base E 1 v n xs) (h : w.grownBy w' v.ownBlock) (hb : base ≤ w.heap.size) : Below base w w' := by
  refine (Below.refl _ _).grown h hb ?_
  intro k hk
  rcases hown.2 with ⟨rfl, _⟩ | ⟨g, cap, cur, rfl, hb, _⟩
  · simp [Value.ownBlock] at hk
  · simp [Value.ownBlock] at hk; omega
theorem own_carry {w w' : World} {base E n : Nat} {v : Value} {xs : List Value} (h : w.ownsRow base E 1 v n xs) (bl : Below w.heap.size w w') : w'.ownsRow base E 1 v n xs := by
  refine ⟨h.1, ?_⟩
  rcases h.2 with h | ⟨g, cap, cur, e, hb, hg, r⟩
  · exact .inl h
  · exact .inr ⟨g, cap, cur, e, hb, (bl.block g (Array.getElem?_eq_some_iff.1 hg).1).trans hg, r⟩
theorem own_base {w : World} {base base' E n : Nat} {v : Value} {xs : List Value} (h : w.ownsRow base E 1 v n xs) (hb : base' ≤ base) : w.ownsRow base' E 1 v n xs := by
  refine ⟨h.1, ?_⟩
  rcases h.2 with h | ⟨g, cap, cur, e, hg, r⟩
  · exact .inl h
  · exact .inr ⟨g, cap, cur, e, Nat.le_trans hb hg, r⟩
theorem View.add {w : World} {x : Addr} {L : List Int} (hv : View w (some x) L.length (fun i => L.getD i 0)) : ∀ j u, (L.map (Value.int .u8))[j]? = some u → w.cell? (x.add j) = some u := by
  intro j u hu
  rw [List.getElem?_map] at hu
  have hj : j < L.length := by
    rcases Nat.lt_or_ge j L.length with h | h
    · exact h
    · rw [List.getElem?_eq_none h] at hu; simp at hu
  obtain ⟨b, off, e, hc⟩ := hv (by omega)
  cases e
  have hcj := hc j hj
  rw [List.getElem?_eq_getElem hj] at hu
  simp only [Option.map_some, Option.some.injEq] at hu
  have e1 : L.getD j 0 = L[j] := by simp [List.getD, List.getElem?_eq_getElem hj]
  have hcj : w.cell? ⟨b, off + j, none⟩ = some u := by rw [hcj, ← hu]; exact congrArg (fun z => some (Value.int IntKind.u8 z)) e1
  by_cases hj0 : j = 0
  · subst hj0; simpa [Addr.add] using hcj
  · simpa [Addr.add, hj0] using hcj
/-- A row of bytes put behind a row that the call owns. -/
theorem app_view {w : World} {ops : Array Oper} {rest : List Oper} {o : Oper} {a : Act} {Q : Exit → Act → World → Prop} (hgd : o.guard = none) (s x : Operand)
    (ho : o.op = .call { callee := .builtin .append, args := #[s, x], argTypes := #[22, 22] }) (base : Nat) (v : Value) (pre : List Int) (hs : a.eval s = v)
    (hown : w.ownsRow base 5 1 v pre.length (pre.map (Value.int .u8))) (ad : Option Addr) (cap : Nat) (L : List Int) (hx : a.eval x = .slice ad L.length cap)
    (hv : View w ad L.length (fun i => L.getD i 0)) (hnil : L = [] → ad = none → cap = 0) (hlen : pre.length + L.length ≤ 16777216) (hbase : base ≤ w.heap.size)
    (h : ∀ v' w', w'.ownsRow base 5 1 v' (pre ++ L).length ((pre ++ L).map (Value.int .u8)) → Below base w w' → wpList Tryd.prog ops Q rest (a.put o.dst v') w') :
    wpList Tryd.prog ops Q (o :: rest) a w := by
  obtain ⟨i0, hi, hz0, hz1, hz2⟩ := info_parts Tryd.info5
  cases ad with
  | none =>
    have hL : L = [] := by
      cases L with
      | nil => rfl
      | cons a r => obtain ⟨b, off, e, _⟩ := hv (by simp); cases e
    subst hL
    obtain rfl := hnil rfl rfl
    refine wpList_append_own_none hgd s x 22 ho base 5 i0 1 Tryd.underlying22 hi v pre.length (pre.map (Value.int .u8)) hs hown hx ?_
    exact h v w (by simpa using hown) (Below.refl _ _)
  | some q =>
    refine wpList_append_own _ hgd s x 22 ho base 5 i0 (.int .u8 0) 1 1 Tryd.underlying22 hi hz0 hz1 hz2 rfl (by decide) v pre.length (pre.map (Value.int .u8)) hs hown q L.length cap (L.map (Value.int .u8)) hx (by simp) hv.add ?_ ?_ ?_ hbase ?_
    · intro u hu
      obtain ⟨y, _, rfl⟩ := List.mem_map.1 hu
      rfl
    · unfold maxLen; omega
    · omega
    · intro v' w' h1 h2 _
      refine h v' w' ?_ (below_own hown h2 hbase)
      rw [List.length_append, List.map_append]
      exact h1
theorem okF_of {a b c : Int} {n : Nat} (h : okF a b c n = true) : (0 ≤ a ∧ a ≤ 9) ∧ (1 ≤ b ∧ b ≤ 9) ∧ (0 ≤ c ∧ c ≤ 4) ∧ n ≤ 30 := by
  unfold okF at h
  simp at h
  omega

set_option maxHeartbeats 4000000 in
theorem writ (p : Nat) (a b c : Int) (ad : Option Addr) (cap : Nat) (L : List Int) (w : World) (hp : FrameAt w p a b c ad L.length cap) (hv : View w ad L.length (fun i => L.getD i 0)) (hnil : L = [] → ad = none → cap = 0) (hL : ∀ x ∈ L, 0 ≤ x ∧ x ≤ 255) (hm : L.length ≤ 1048576) :
    Calls Tryd.prog 25 #[.pointer (some ⟨p, 0, none⟩)] w fun e w' => ∃ v, e = .returned v ∧ w'.ownsRow w.heap.size 5 1 v (written a b c L).length ((written a b c L).map (Value.int .u8)) ∧ Below w.heap.size w w' := by
  have lp := hp.lt
  by_cases hok : okF a b c L.length = true
  rotate_left
  · have hok' : okF a b c L.length = false := by simpa using hok
    have e : written a b c L = [] := by unfold written; rw [if_neg hok]
    rw [e]
    clear e
    go_enter Tryd.func25, Tryd.ntmps25
    go_wp2_with fail
    go_at_call 36
    refine (fits p a b c ad L.length cap w (by unfold maxLen; omega) hp).mono ?_
    rintro e w1 ⟨rfl, rfl⟩
    rw [hok']
    go_wp2
    go_ret
    exact ⟨_, rfl, World.ownsRow_nil _ _ _ _, Below.refl _ _⟩
  have e : written a b c L = body a b c L ++ low4 (sumL (body a b c L)) := by unfold written; rw [if_pos hok]
  rw [e]
  clear e
  have Hbd : ∀ i, 0 ≤ (body a b c L).getD i 0 ∧ (body a b c L).getD i 0 ≤ 255 := getD_bd (body_bd hok hL)
  obtain ⟨⟨a0, a1⟩, ⟨b0, b1⟩, ⟨c0, c1⟩, hn⟩ := okF_of hok
  have HB := sumL_bd (body a b c L)
  have HLen : Hid ((body a b c L).length ≤ 34) := body_len hn
  have hn' : (L.length : Int) ≤ 30 := by omega
  have hw : (Lit.int .i64 (L.length : Int)).wf = true := by simp [Lit.wf, IntKind.min, IntKind.max, IntKind.signed, IntKind.bits]; omega
  have hqa : IntKind.u8.wrap a = a := by rw [IntKind.wrap_u8]; omega
  have hqb : IntKind.u8.wrap b = b := by rw [IntKind.wrap_u8]; omega
  have hqc : IntKind.u8.wrap c = c := by rw [IntKind.wrap_u8]; omega
  go_enter Tryd.func25, Tryd.ntmps25
  go_wp2_with fail
  go_at_call 36
  refine (fits p a b c ad L.length cap w (by unfold maxLen; omega) hp).mono ?_
  rintro e w1 ⟨rfl, h1⟩
  rw [h1, hok]
  clear h1 w1
  go_wp2_with fail
  refine wp_region_held (S := fun Y => Below w.heap.size w Y) (by kernel_rfl) ?_
  change wpAnyH _ _ _ _ _ _ _ _ (World.drew _)
  have hb0 : Below w.heap.size w w.drew := (Below.refl _ _).drew
  refine takeW 0 7 (.pointer (some ⟨p, 0, none⟩)) rfl rfl (by kernel_rfl) (by kernel_rfl) (by kernel_rfl) (fun _ _ _ h => h) (by kernel_rfl) (by (intro w hSw; go_simp)) (by assumption) ?_
  simp only [List.set_cons_zero, List.set_cons_succ]
  refine takeW 1 8 (.pointer (some ⟨p, 0, none⟩)) rfl rfl (by kernel_rfl) (by kernel_rfl) (by kernel_rfl) (fun _ _ _ h => h) (by kernel_rfl) (by (intro w hSw; go_simp)) (by assumption) ?_
  simp only [List.set_cons_zero, List.set_cons_succ]
  refine takeW 2 9 (.pointer (some ⟨p, 0, none⟩)) rfl rfl (by kernel_rfl) (by kernel_rfl) (by kernel_rfl) (fun _ _ _ h => h) (by kernel_rfl) (by (intro w hSw; go_simp)) (by assumption) ?_
  simp only [List.set_cons_zero, List.set_cons_succ]
  refine takeW 3 10 (.int .i64 a) rfl rfl (by kernel_rfl) (by kernel_rfl) (by kernel_rfl) (fun _ _ _ h => h) (by kernel_rfl) (by (intro Y hSw; obtain ⟨C1, C2, C3, C4⟩ := hp.below hSw lp; go_simp)) (by assumption) ?_
  simp only [List.set_cons_zero, List.set_cons_succ]
  refine takeW 4 11 (.int .u8 a) rfl rfl (by kernel_rfl) (by kernel_rfl) (by kernel_rfl) (fun _ _ _ h => h) (by kernel_rfl) (by (intro w hSw; go_simp)) (by assumption) ?_
  simp only [List.set_cons_zero, List.set_cons_succ]
  refine takeW 5 12 (.pointer (some ⟨p, 0, none⟩)) rfl rfl (by kernel_rfl) (by kernel_rfl) (by kernel_rfl) (fun _ _ _ h => h) (by kernel_rfl) (by (intro w hSw; go_simp)) (by assumption) ?_
  simp only [List.set_cons_zero, List.set_cons_succ]
  refine takeW 6 13 (.pointer (some ⟨p, 0, none⟩)) rfl rfl (by kernel_rfl) (by kernel_rfl) (by kernel_rfl) (fun _ _ _ h => h) (by kernel_rfl) (by (intro w hSw; go_simp)) (by assumption) ?_
  simp only [List.set_cons_zero, List.set_cons_succ]
  refine takeW 7 14 (.pointer (some ⟨p, 1, none⟩)) rfl rfl (by kernel_rfl) (by kernel_rfl) (by kernel_rfl) (fun _ _ _ h => h) (by kernel_rfl) (by (intro w hSw; go_simp)) (by assumption) ?_
  simp only [List.set_cons_zero, List.set_cons_succ]
  refine takeW 8 15 (.int .i64 b) rfl rfl (by kernel_rfl) (by kernel_rfl) (by kernel_rfl) (fun _ _ _ h => h) (by kernel_rfl) (by (intro Y hSw; obtain ⟨C1, C2, C3, C4⟩ := hp.below hSw lp; go_simp)) (by assumption) ?_
  simp only [List.set_cons_zero, List.set_cons_succ]
  refine takeW 9 16 (.int .u8 b) rfl rfl (by kernel_rfl) (by kernel_rfl) (by kernel_rfl) (fun _ _ _ h => h) (by kernel_rfl) (by (intro w hSw; go_simp)) (by assumption) ?_
  simp only [List.set_cons_zero, List.set_cons_succ]
  refine takeW 10 17 (.pointer (some ⟨p, 0, none⟩)) rfl rfl (by kernel_rfl) (by kernel_rfl) (by kernel_rfl) (fun _ _ _ h => h) (by kernel_rfl) (by (intro w hSw; go_simp)) (by assumption) ?_
  simp only [List.set_cons_zero, List.set_cons_succ]
  refine takeW 11 18 (.pointer (some ⟨p, 0, none⟩)) rfl rfl (by kernel_rfl) (by kernel_rfl) (by kernel_rfl) (fun _ _ _ h => h) (by kernel_rfl) (by (intro w hSw; go_simp)) (by assumption) ?_
  simp only [List.set_cons_zero, List.set_cons_succ]
  refine takeW 12 19 (.pointer (some ⟨p, 2, none⟩)) rfl rfl (by kernel_rfl) (by kernel_rfl) (by kernel_rfl) (fun _ _ _ h => h) (by kernel_rfl) (by (intro w hSw; go_simp)) (by assumption) ?_
  simp only [List.set_cons_zero, List.set_cons_succ]
  refine takeW 13 20 (.int .i64 c) rfl rfl (by kernel_rfl) (by kernel_rfl) (by kernel_rfl) (fun _ _ _ h => h) (by kernel_rfl) (by (intro Y hSw; obtain ⟨C1, C2, C3, C4⟩ := hp.below hSw lp; go_simp)) (by assumption) ?_
  simp only [List.set_cons_zero, List.set_cons_succ]
  refine takeW 14 21 (.int .u8 c) rfl rfl (by kernel_rfl) (by kernel_rfl) (by kernel_rfl) (fun _ _ _ h => h) (by kernel_rfl) (by (intro w hSw; go_simp)) (by assumption) ?_
  simp only [List.set_cons_zero, List.set_cons_succ]
  refine wpAnyH_all (rs := [15]) (by kernel_rfl) (by simp) ?_
  intro i hi; obtain rfl : i = 15 := by simpa using hi
  refine wpOp_step rfl (fun K hK => ?_)
  rw [if_pos (by kernel_rfl)]
  go_simp
  have hb1 : Below w.heap.size w (w.alloc (Obj.cells #[.int .u8 a, .int .u8 b, .int .u8 c] 5)).drew := (below_box w _).drew
  refine hK _ _ ⟨hb1, ?_⟩
  clear hK K hi
  refine takeW 16 3 (.slice (some ⟨w.heap.size, 0, none⟩) 3 3) rfl rfl (by kernel_rfl) (by kernel_rfl) (by kernel_rfl) (fun _ _ _ h => h) (by kernel_rfl) (by (intro w hSw; go_simp)) (by assumption) ?_
  simp only [List.set_cons_zero, List.set_cons_succ]
  refine wpAnyH_done (by kernel_rfl) ?_ _
  clear hb0 hb1
  obtain ⟨x, hx⟩ : ∃ x, x = (w.alloc (Obj.cells #[.int .u8 a, .int .u8 b, .int .u8 c] 5)).drew := ⟨_, rfl⟩
  have o1 : x.ownsRow w.heap.size 5 1 (.slice (some ⟨w.heap.size, 0, none⟩) 3 3) [a, b, c].length ([a, b, c].map (Value.int .u8)) := by
    rw [hx]; exact World.ownsRow_lit w #[.int .u8 a, .int .u8 b, .int .u8 c] 3 (Nat.le_refl _) (by decide) rfl
  have B1 : Below w.heap.size w x := by rw [hx]; exact (below_box w _).drew
  rw [← hx]
  clear hx hqa hqb hqc
  have s1 := B1.size
  obtain ⟨C1, C2, C3, C4⟩ := hp.below B1 lp
  go_wp2_with fail
  go_at_call 41
  refine (putImpl (L.length : Int) x hw).mono ?_
  rintro e w2 ⟨v, rfl, o2, k2⟩
  have s2 := k2.size
  have B2 := B1.trans (k2.mono s1)
  obtain ⟨_, ad2, cap2, rfl, v2, _, _⟩ := own_view o2
  have o1 := own_carry o1 k2
  clear C1 C2 C3 C4 o2
  obtain ⟨C1, C2, C3, C4⟩ := hp.below B2 lp
  have hp1 : (putZ (L.length : Int)).length ≤ 5 := putZ_len _
  go_wp2_with (first | (at_builtin; refine app_view rfl _ _ rfl w.heap.size _ [a, b, c] rfl o1 ad2 cap2 (putZ (L.length : Int)) rfl v2 ?n1 ?n2 ?n3 ?_) | go_in)
  case n1 => exact fun h => by rw [putZ_small (by omega) (by omega)] at h; simp at h
  case n2 => simp; omega
  case n3 => omega
  intro v3 w3 o3 k3
  have s3 := k3.size
  have B3 := B2.trans k3
  clear C1 C2 C3 C4 o1 v2
  obtain ⟨C1, C2, C3, C4⟩ := hp.below B3 lp
  have hv3 := hv.carry (w' := w3) (fun x h hp => B3.block _ (hv.lt x h hp))
  go_wp2_with (first | (at_builtin; refine app_view rfl _ _ rfl w.heap.size _ ([a, b, c] ++ putZ (L.length : Int)) rfl o3 ad cap L rfl hv3 ?n1 ?n2 ?n3 ?_) | go_in)
  case n1 => exact hnil
  case n2 => simp; omega
  case n3 => omega
  intro v4 w4 o4 k4
  have o4 : w4.ownsRow w.heap.size 5 1 v4 (body a b c L).length ((body a b c L).map (Value.int .u8)) := by unfold body; simpa using o4
  have s4 := k4.size
  have B4 := B3.trans k4
  clear C1 C2 C3 C4 o3 hv3
  obtain ⟨_, ad4, cap4, rfl, v4, _, m4⟩ := own_view o4
  have hl4 := HLen.out
  go_wp2_with fail
  go_at_call 43
  refine (sumImpl ad4 (body a b c L).length cap4 (fun i => (body a b c L).getD i 0) w4 v4 (by omega) Hbd).mono ?_
  rintro e w5 ⟨rfl, h5⟩
  rw [h5]
  clear h5 w5
  go_wp2_with fail
  go_at_call 42
  refine (lowFirst (sumL (body a b c L)) w4 HB.1 HB.2).mono ?_
  rintro e w6 ⟨rfl, v6, s6, k6⟩
  have o6 := own_carry o4 k6
  have B6 := B4.trans (k6.mono B4.size)
  clear o4 v4
  go_wp2_with (first | (at_builtin; refine app_view rfl _ _ rfl w.heap.size _ (body a b c L) rfl o6 _ 4 (low4 (sumL (body a b c L))) rfl v6 ?n1 ?n2 ?n3 ?_) | go_in)
  case n1 => exact fun h => by simp [low4] at h
  case n2 => simp [low4]; omega
  case n3 => omega
  intro v7 w7 o7 k7
  go_wp2
  go_ret
  exact ⟨_, rfl, by simpa using o7, B6.trans k7⟩
theorem bytesImpl (a b c : Int) (ad : Option Addr) (cap : Nat) (L : List Int) (w : World) (hv : View w ad L.length (fun i => L.getD i 0)) (hnil : L = [] → ad = none → cap = 0) (hL : ∀ x ∈ L, 0 ≤ x ∧ x ≤ 255) (hm : L.length ≤ 1048576) :
    Calls Tryd.prog 7 #[.agg #[.int .i64 a, .int .i64 b, .int .i64 c, .slice ad L.length cap]] w fun e w' => ∃ v, e = .returned v ∧ w'.ownsRow w.heap.size 5 1 v (written a b c L).length ((written a b c L).map (Value.int .u8)) ∧ Below w.heap.size w w' := by
  go_enter Tryd.func7, Tryd.ntmps7
  go_wp2_with fail
  go_at_call 25
  obtain ⟨x, hx⟩ : ∃ x, x = w.alloc (Obj.cells #[.int .i64 a, .int .i64 b, .int .i64 c, .slice ad L.length cap] 25) := ⟨_, rfl⟩
  have F0 : FrameAt x w.heap.size a b c ad L.length cap := by rw [hx]; exact frameAt_box w _ _ _ _ _ _ _
  have B0 : Below w.heap.size w x := by rw [hx]; exact below_box w _
  rw [← hx]
  clear hx
  refine (writ w.heap.size a b c ad cap L x F0 (hv.carry (fun y h hp => B0.block _ (hv.lt y h hp))) hnil hL hm).mono ?_
  rintro e w1 ⟨v, rfl, o1, k1⟩
  go_wp2
  go_ret
  exact ⟨_, rfl, own_base o1 B0.size, B0.trans (k1.mono B0.size)⟩

end Go.Proofs.YtpdlliehdmeboaaDoor
