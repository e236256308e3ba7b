/- Contracts of the functions over frames: how great, copied, alike. Steps of a region that draws its order. -/
import Derived.Test.YtifndemkkaelaaaGreatRows
import Derived.WalkKit
import Derived.ProofKit
import Derived.OpenShut
import Derived.ShutString
import Derived.ChangeOld
import Derived.Below
import Derived.Deep.QuietTactic
import Derived.BigQuiet
import Derived.WalkSmall
import Derived.Laws.OwnMore
import Derived.WalkSpells
import Derived.Test.YtifndemkkaelaaaGreatZp1
import Derived.Deep.RegionHeld
namespace Go.Proofs.YtifndemkkaelaaaGreat
open Go.ChangeShapes Go.WideShapes Go.ChangeAt Go.RowKit
open Go.ChangeMaps (open_string shut_string)
set_option linter.unusedVariables false

theorem szB (ad : Option Addr) (len cap : Nat) (l : Int) (w : World) (hl0 : 0 ≤ l) (hl1 : l ≤ 1048576) (hm : len ≤ maxLen) :
    Calls Tryz.prog 65 #[.slice ad len cap, .int .i64 l] w fun e w' => (e = .returned (.int .i64 (if (len : Int) ≤ l then l - len else -1))) ∧ w' = w := by
  unfold maxLen at hm
  by_cases h : (len : Int) ≤ l
  · rw [if_pos h]
    go_enter Tryz.func65, Tryz.ntmps65
    go_wp2
    go_ret
    exact ⟨rfl, rfl⟩
  · rw [if_neg h]
    go_enter Tryz.func65, Tryz.ntmps65
    go_wp2
    go_ret
    exact ⟨rfl, rfl⟩
theorem szF (a b c : Int) (ad : Option Addr) (len cap : Nat) (l : Int) (w : World) (hl0 : 0 ≤ l) (hl1 : l ≤ 1048576) (hm : len ≤ maxLen) :
    Calls Tryz.prog 22 #[.agg #[.int .i64 a, .int .i64 b, .int .i64 c, .slice ad len cap], .int .i64 l] w fun e w' => (e = .returned (.int .i64 (if (len : Int) ≤ l then l - len else -1))) ∧ Below w.heap.size w w' := by
  by_cases h : (len : Int) ≤ l
  · go_enter Tryz.func22, Tryz.ntmps22
    go_wp2_with fail
    go_at_call 65
    refine (szB ad len cap l _ hl0 hl1 hm).mono ?_
    rintro e w1 ⟨rfl, rfl⟩
    rw [if_pos h]
    have h1 : 0 ≤ l - (len : Int) := by omega
    go_wp2
    go_ret
    exact ⟨rfl, (Below.refl _ _).alloc (Nat.le_refl _) _⟩
  · go_enter Tryz.func22, Tryz.ntmps22
    go_wp2_with fail
    go_at_call 65
    refine (szB ad len cap l _ hl0 hl1 hm).mono ?_
    rintro e w1 ⟨rfl, rfl⟩
    rw [if_neg (by omega)]
    go_wp2
    go_ret
    exact ⟨rfl, (Below.refl _ _).alloc (Nat.le_refl _) _⟩

/-- What a frame's four cells hold, in a world. -/
def FrameAt (w : World) (p : Nat) (a b c : Int) (ad : Option Addr) (len cap : Nat) : Prop :=
  w.cell? ⟨p, 0, none⟩ = some (.int .i64 a) ∧ w.cell? ⟨p, 1, none⟩ = some (.int .i64 b) ∧ w.cell? ⟨p, 2, none⟩ = some (.int .i64 c) ∧ w.cell? ⟨p, 3, none⟩ = some (.slice ad len cap)

set_option maxHeartbeats 1000000 in
theorem toF (a b c : Int) (ad : Option Addr) (len cap : Nat) (f : Nat → Int) (w : World) (hv : View w ad len f) (hl : len ≤ 1048576) (hB : ∀ x, ad = some x → 0 < len → x.block < w.heap.size) :
    Calls Tryz.prog 24 #[.agg #[.int .i64 a, .int .i64 b, .int .i64 c, .slice ad len cap]] w fun e w' => ∃ N, e = .returned (.agg #[.int .i64 a, .int .i64 b, .int .i64 c, .slice (some ⟨N, 0, none⟩) len len]) ∧ w.heap.size ≤ N ∧ N < w'.heap.size ∧ View w' (some ⟨N, 0, none⟩) len f ∧ Room w' (some ⟨N, 0, none⟩) len ∧ Below w.heap.size w w' := by
  go_enter Tryz.func24, Tryz.ntmps24
  go_wp2_with fail
  go_at_call 69
  obtain ⟨w0, hw0⟩ : ∃ w0, w0 = (((w.alloc (Obj.cells #[Value.int IntKind.i64 a, Value.int IntKind.i64 b, Value.int IntKind.i64 c, Value.slice ad len cap] 57)).alloc (Obj.cells #[Value.int IntKind.i64 0, Value.int IntKind.i64 0, Value.int IntKind.i64 0, Value.slice none 0 0] 30)).alloc (Obj.cells #[Value.int IntKind.i64 a, Value.int IntKind.i64 b, Value.int IntKind.i64 c, Value.slice none 0 0] 30)) := ⟨_, rfl⟩
  have hs0 : w0.heap.size = w.heap.size + 3 := by rw [hw0]; simp
  have b0 : Below w.heap.size w w0 := by rw [hw0]; exact (((Below.refl _ _).alloc (Nat.le_refl _) _).alloc (by simp) _).alloc (by simp; omega) _
  have c0 : FrameAt w0 (w.heap.size + 1) 0 0 0 none 0 0 := by
    rw [hw0]; refine ⟨?_, ?_, ?_, ?_⟩ <;> simp [go_sem]
  have g0 : ∀ i, w0.frozen? ⟨w.heap.size + 1, i, none⟩ = false := by intro i; rw [hw0]; simp [go_sem]
  have d0 : FrameAt w0 (w.heap.size + 1 + 1) a b c none 0 0 := by
    rw [hw0]; refine ⟨?_, ?_, ?_, ?_⟩ <;> simp [go_sem]
  have e0 : w0.frozen? ⟨w.heap.size + 1 + 1, 3, none⟩ = false := by rw [hw0]; simp [go_sem]
  rw [← hw0]
  clear hw0
  refine (toBytes ad len cap f w0 (hv.carry (fun x h hp => b0.block _ (hB x h hp))) hl (fun x h hp => by have := hB x h hp; omega)).mono ?_
  rintro e w1 ⟨rfl, F⟩
  obtain ⟨f1, f2, f3, f4, f5⟩ := F
  rw [hs0] at f1 f2 f3 f4 f5
  obtain ⟨d1, d2, d3, d4⟩ := d0
  have D1 := (f1.cell (p := ⟨w.heap.size + 1 + 1, 0, none⟩) (by show w.heap.size + 1 + 1 < _; omega)).trans d1
  have D2 := (f1.cell (p := ⟨w.heap.size + 1 + 1, 1, none⟩) (by show w.heap.size + 1 + 1 < _; omega)).trans d2
  have D3 := (f1.cell (p := ⟨w.heap.size + 1 + 1, 2, none⟩) (by show w.heap.size + 1 + 1 < _; omega)).trans d3
  have D4 := (f1.cell (p := ⟨w.heap.size + 1 + 1, 3, none⟩) (by show w.heap.size + 1 + 1 < _; omega)).trans d4
  have D5 : w1.frozen? ⟨w.heap.size + 1 + 1, 3, none⟩ = false := (World.frozen?_of_block (a := ⟨w.heap.size + 1 + 1, 3, none⟩) (f1.block _ (by show w.heap.size + 1 + 1 < _; omega))).trans e0
  obtain ⟨c1, c2, c3, c4⟩ := c0
  have hlt : w.heap.size + 1 < w.heap.size + 3 := by omega
  have C1 := (f1.cell (p := ⟨w.heap.size + 1, 0, none⟩) hlt).trans c1
  have C2 := (f1.cell (p := ⟨w.heap.size + 1, 1, none⟩) hlt).trans c2
  have C3 := (f1.cell (p := ⟨w.heap.size + 1, 2, none⟩) hlt).trans c3
  have C4 := (f1.cell (p := ⟨w.heap.size + 1, 3, none⟩) hlt).trans c4
  have G : ∀ i, w1.frozen? ⟨w.heap.size + 1, i, none⟩ = false := fun i => (World.frozen?_of_block (a := ⟨w.heap.size + 1, i, none⟩) (f1.block _ hlt)).trans (g0 i)
  have G0 := G 0
  have G1 := G 1
  have G2 := G 2
  have G3 := G 3
  have bb : Below w.heap.size w w1 := b0.trans (f1.mono (by omega))
  rw [hs0]
  clear d1 d2 d3 d4 e0 c1 c2 c3 c4 g0 G hlt hs0
  go_wp2
  refine bodyPost_ret (v := .agg #[.int .i64 a, .int .i64 b, .int .i64 c, .slice (some ⟨w.heap.size + 3, 0, none⟩) len len]) (by simp [results, Tryz.results24, go_sem, *]) rfl ⟨w.heap.size + 3, rfl, by omega, ?_, ?_, ?_, ?_⟩
  · simp; omega
  · refine View.mk0 fun i hi => ?_
    simp [go_sem, f5 i hi]
  · refine fun _ => ⟨_, _, rfl, fun i hi => ⟨⟨.int .u8 (f i), ?_⟩, ?_⟩⟩
    · rw [Nat.zero_add]; simp [go_sem, f5 i hi]
    · rw [Nat.zero_add]; simp [go_sem, f4 i hi]
  · exact ((((bb.setCell (by show _ ≤ w.heap.size + 1 + 1; omega) _).setCell (by simp) _).setCell (by simp) _).setCell (by simp) _).setCell (by simp) _

set_option maxHeartbeats 400000 in
theorem eqF (a b c : Int) (ad ad' : Option Addr) (len cap cap' : Nat) (f : Nat → Int) (w : World) (hv : View w ad len f) (hv' : View w ad' len f) (hl : len ≤ 1048576)
    (hB : ∀ x, ad = some x → 0 < len → x.block < w.heap.size) (hB' : ∀ x, ad' = some x → 0 < len → x.block < w.heap.size) :
    Calls Tryz.prog 27 #[.agg #[.int .i64 a, .int .i64 b, .int .i64 c, .slice ad len cap], .agg #[.int .i64 a, .int .i64 b, .int .i64 c, .slice ad' len cap']] w fun e w' => e = .returned (.bool true) ∧ Below w.heap.size w w' := by
  go_enter Tryz.func27, Tryz.ntmps27
  go_wp2_with fail
  go_at_call 74
  obtain ⟨w0, hw0⟩ : ∃ w0, w0 = ((w.alloc (Obj.cells #[Value.int IntKind.i64 a, Value.int IntKind.i64 b, Value.int IntKind.i64 c, Value.slice ad len cap] 30)).alloc (Obj.cells #[Value.int IntKind.i64 a, Value.int IntKind.i64 b, Value.int IntKind.i64 c, Value.slice ad' len cap'] 30)) := ⟨_, rfl⟩
  have b0 : Below w.heap.size w w0 := by rw [hw0]; exact ((Below.refl _ _).alloc (Nat.le_refl _) _).alloc (by simp) _
  rw [← hw0]
  clear hw0
  refine (eqBytes ad ad' len cap cap' f w0 (hv.carry (fun x h hp => b0.block _ (hB x h hp))) (hv'.carry (fun x h hp => b0.block _ (hB' x h hp))) hl).mono ?_
  rintro e w1 ⟨rfl, n, rfl⟩
  go_wp2
  go_ret
  exact ⟨rfl, below_drewN b0 n⟩

/-- When a frame can be sent. -/
def okF (a b c : Int) (len : Nat) : Bool := decide (0 ≤ a ∧ a ≤ 9 ∧ 1 ≤ b ∧ b ≤ 9 ∧ 0 ≤ c ∧ c ≤ 4 ∧ len ≤ 30)

set_option maxHeartbeats 1000000 in
theorem okSpec (a b c : Int) (ad : Option Addr) (len cap : Nat) (w : World) (hm : len ≤ maxLen) :
    Calls Tryz.prog 98 #[.agg #[.int .i64 a, .int .i64 b, .int .i64 c, .slice ad len cap]] w fun e w' => e = .returned (.bool (okF a b c len)) ∧ Below w.heap.size w w' := by
  unfold maxLen at hm
  by_cases ha : 0 ≤ a ∧ a ≤ 9
  · by_cases hb : 1 ≤ b ∧ b ≤ 9
    · by_cases hc : 0 ≤ c ∧ c ≤ 4
      · by_cases hn : len ≤ 30
        · have e : okF a b c len = true := by unfold okF; simp; omega
          have hn' : (len : Int) ≤ 30 := by omega
          rw [e]
          clear e
          go_enter Tryz.func98, Tryz.ntmps98
          go_wp2_with (first | (go_at_call 45; refine (inYes _ _ _ _ (by omega)).mono ?_; rintro e w' ⟨rfl, rfl⟩) | go_in)
          go_ret
          exact ⟨rfl, (Below.refl _ _).alloc (Nat.le_refl _) _⟩
        · have e : okF a b c len = false := by unfold okF; simp; omega
          have hn' : decide ((len : Int) ≤ 30) = false := by simp; omega
          rw [e]
          clear e
          go_enter Tryz.func98, Tryz.ntmps98
          go_wp2_with (first | (go_at_call 45; refine (inYes _ _ _ _ (by omega)).mono ?_; rintro e w' ⟨rfl, rfl⟩) | go_in)
          go_ret
          exact ⟨rfl, (Below.refl _ _).alloc (Nat.le_refl _) _⟩
      · have e : okF a b c len = false := by unfold okF; simp; omega
        rw [e]
        clear e
        go_enter Tryz.func98, Tryz.ntmps98
        go_wp2_with (first | (go_at_call 45; refine (inYes _ _ _ _ (by omega)).mono ?_; rintro e w' ⟨rfl, rfl⟩) | (go_at_call 45; refine (inNo _ _ _ _ (by omega)).mono ?_; rintro e w' ⟨rfl, rfl⟩) | go_in)
        go_ret
        exact ⟨rfl, (Below.refl _ _).alloc (Nat.le_refl _) _⟩
    · have e : okF a b c len = false := by unfold okF; simp; omega
      rw [e]
      clear e
      go_enter Tryz.func98, Tryz.ntmps98
      go_wp2_with (first | (go_at_call 45; refine (inYes _ _ _ _ (by omega)).mono ?_; rintro e w' ⟨rfl, rfl⟩) | (go_at_call 45; refine (inNo _ _ _ _ (by omega)).mono ?_; rintro e w' ⟨rfl, rfl⟩) | go_in)
      go_ret
      exact ⟨rfl, (Below.refl _ _).alloc (Nat.le_refl _) _⟩
  · have e : okF a b c len = false := by unfold okF; simp; omega
    rw [e]
    clear e
    go_enter Tryz.func98, Tryz.ntmps98
    go_wp2_with (first | (go_at_call 45; refine (inNo _ _ _ _ (by omega)).mono ?_; rintro e w' ⟨rfl, rfl⟩) | go_in)
    go_ret
    exact ⟨rfl, (Below.refl _ _).alloc (Nat.le_refl _) _⟩

set_option maxHeartbeats 2000000 in
theorem fits (p : Nat) (a b c : Int) (ad : Option Addr) (len cap : Nat) (w : World) (hm : len ≤ maxLen) (h : FrameAt w p a b c ad len cap) :
    Calls Tryz.prog 58 #[.pointer (some ⟨p, 0, none⟩)] w fun e w' => e = .returned (.bool (okF a b c len)) ∧ w' = w := by
  unfold maxLen at hm
  obtain ⟨h1, h2, h3, h4⟩ := h
  by_cases k0 : 0 ≤ a
  rotate_left
  · have k' : a < 0 := by omega
    have kd : decide (0 ≤ a) = false := by simp; omega
    have e : okF a b c len = false := by unfold okF; simp; omega
    rw [e]
    clear e
    go_enter Tryz.func58, Tryz.ntmps58
    go_wp2
    go_ret
    exact ⟨rfl, rfl⟩
  by_cases k1 : a ≤ 9
  rotate_left
  · have k' : 9 < a := by omega
    have kd : decide (a ≤ 9) = false := by simp; omega
    have e : okF a b c len = false := by unfold okF; simp; omega
    rw [e]
    clear e
    go_enter Tryz.func58, Tryz.ntmps58
    go_wp2
    go_ret
    exact ⟨rfl, rfl⟩
  by_cases k2 : 1 ≤ b
  rotate_left
  · have k' : b < 1 := by omega
    have kd : decide (1 ≤ b) = false := by simp; omega
    have e : okF a b c len = false := by unfold okF; simp; omega
    rw [e]
    clear e
    go_enter Tryz.func58, Tryz.ntmps58
    go_wp2
    go_ret
    exact ⟨rfl, rfl⟩
  by_cases k3 : b ≤ 9
  rotate_left
  · have k' : 9 < b := by omega
    have kd : decide (b ≤ 9) = false := by simp; omega
    have e : okF a b c len = false := by unfold okF; simp; omega
    rw [e]
    clear e
    go_enter Tryz.func58, Tryz.ntmps58
    go_wp2
    go_ret
    exact ⟨rfl, rfl⟩
  by_cases k4 : 0 ≤ c
  rotate_left
  · have k' : c < 0 := by omega
    have kd : decide (0 ≤ c) = false := by simp; omega
    have e : okF a b c len = false := by unfold okF; simp; omega
    rw [e]
    clear e
    go_enter Tryz.func58, Tryz.ntmps58
    go_wp2
    go_ret
    exact ⟨rfl, rfl⟩
  by_cases k5 : c ≤ 4
  rotate_left
  · have k' : 4 < c := by omega
    have kd : decide (c ≤ 4) = false := by simp; omega
    have e : okF a b c len = false := by unfold okF; simp; omega
    rw [e]
    clear e
    go_enter Tryz.func58, Tryz.ntmps58
    go_wp2
    go_ret
    exact ⟨rfl, rfl⟩
  by_cases k6 : (len : Int) ≤ 30
  rotate_left
  · have k' : 30 < (len : Int) := by omega
    have kd : decide ((len : Int) ≤ 30) = false := by simp; omega
    have e : okF a b c len = false := by unfold okF; simp; omega
    rw [e]
    clear e
    go_enter Tryz.func58, Tryz.ntmps58
    go_wp2
    go_ret
    exact ⟨rfl, rfl⟩
  have e : okF a b c len = true := by unfold okF; simp; omega
  rw [e]
  clear e
  go_enter Tryz.func58, Tryz.ntmps58
  go_wp2
  go_ret
  exact ⟨rfl, rfl⟩

theorem FrameAt.below {w w' : World} {p : Nat} {a b c : Int} {ad : Option Addr} {len cap B : Nat} (h : FrameAt w p a b c ad len cap) (bl : Below B w w') (hp : p < B) : FrameAt w' p a b c ad len cap :=
  ⟨(bl.cell (p := ⟨p, 0, none⟩) hp).trans h.1, (bl.cell (p := ⟨p, 1, none⟩) hp).trans h.2.1, (bl.cell (p := ⟨p, 2, none⟩) hp).trans h.2.2.1, (bl.cell (p := ⟨p, 3, none⟩) hp).trans h.2.2.2⟩
theorem frameAt_box (w : World) (a b c : Int) (ad : Option Addr) (len cap : Nat) (t : TypeId) : FrameAt (w.alloc (Obj.cells #[.int .i64 a, .int .i64 b, .int .i64 c, .slice ad len cap] t)) w.heap.size a b c ad len cap := by
  refine ⟨?_, ?_, ?_, ?_⟩ <;> simp [go_sem]

end Go.Proofs.YtifndemkkaelaaaGreat
namespace Go.Proofs.YtifndemkkaelaaaGreat
open Go.ChangeShapes Go.WideShapes Go.ChangeAt Go.RowKit
open Go.ChangeMaps (open_string shut_string)
set_option linter.unusedVariables false

/-- One operation of a region that draws its order, taken first: it yields v in every world that meets S; the frame laid out. -/
theorem takeW {P : Program} {ops : Array Oper} {Q : Exit → Act → World → Prop} {md : Region.Mode} {S : World → Prop} (i d : Nat) (v : Value) {oi : Oper} {fuel : Nat} {listed : Array Bool} {l : List Value} {ds : List Deferred} {w : World} (hi : ops[i]? = some oi) (hd : oi.dst = some d)
    (hs : Region.noSelect ops = true) (hf : Region.free md ops listed i = true) (hr : (Region.ready md ops listed).contains i = true)
    (hQ : ∀ c a w, Q (.panic c) (a.put oi.dst v) w → Q (.panic c) a w) (hw : Region.wanted oi (yielded ops l.toArray) = true) (hy : ∀ w, S w → (execOp (Act.eval ⟨l.toArray, ds⟩) oi).run P w = .ok (.value v) w) (hS : S w)
    (h : wpAnyH P md ops Q S fuel (listed.setIfInBounds i true) ⟨(l.set d v).toArray, ds⟩ w) : wpAnyH P md ops Q S (fuel + 1) listed ⟨l.toArray, ds⟩ w := by
  refine wpAnyH_take (v := v) hi hs hf hr hQ (.inl ⟨hw, hy⟩) hS ?_
  have e : (Act.mk l.toArray ds).put oi.dst v = ⟨(l.set d v).toArray, ds⟩ := by rw [hd]; simp [Act.put]
  rw [e]
  exact h
/-- The same of one that its guard passes over. -/
theorem takeS {P : Program} {ops : Array Oper} {Q : Exit → Act → World → Prop} {md : Region.Mode} {S : World → Prop} (i d : Nat) {oi : Oper} {fuel : Nat} {listed : Array Bool} {l : List Value} {ds : List Deferred} {w : World} (hi : ops[i]? = some oi) (hd : oi.dst = some d)
    (hs : Region.noSelect ops = true) (hf : Region.free md ops listed i = true) (hr : (Region.ready md ops listed).contains i = true)
    (hQ : ∀ c a w, Q (.panic c) (a.put oi.dst undef) w → Q (.panic c) a w) (hw : Region.wanted oi (yielded ops l.toArray) = false) (hS : S w)
    (h : wpAnyH P md ops Q S fuel (listed.setIfInBounds i true) ⟨(l.set d undef).toArray, ds⟩ w) : wpAnyH P md ops Q S (fuel + 1) listed ⟨l.toArray, ds⟩ w := by
  refine wpAnyH_take (v := undef) hi hs hf hr hQ (.inr ⟨hw, rfl⟩) hS ?_
  have e : (Act.mk l.toArray ds).put oi.dst undef = ⟨(l.set d undef).toArray, ds⟩ := by rw [hd]; simp [Act.put]
  rw [e]
  exact h

end Go.Proofs.YtifndemkkaelaaaGreat
