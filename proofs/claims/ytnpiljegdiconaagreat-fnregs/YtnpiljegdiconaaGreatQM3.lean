/-    The steps of a region that draws its order, in short. -/
import Derived.Test.YtnpiljegdiconaaGreatRows
import Derived.WalkKit
import Derived.ProofKit
import Derived.OpenShut
import Derived.ShutString
import Derived.ChangeOld
import Derived.Below
import Derived.Deep.QuietTactic
import Derived.BigQuiet
import Derived.WalkSmall
import Derived.Laws.OwnMore
import Derived.Deep.RegionHeld
import Derived.WalkSpells
import Derived.WalkLawsBesides
namespace Go.Proofs.YtnpiljegdiconaaGreat
open Go.ChangeShapes Go.WideShapes Go.ChangeAt Go.RowKit
open Go.ChangeMaps (open_string shut_string)
set_option linter.unusedVariables false
set_option maxRecDepth 100000
theorem takeW {P : Program} {ops : Array Oper} {Q : Exit → Act → World → Prop} {md : Region.Mode} {S : World → Prop} (i d : Nat) (v : Value) {oi : Oper} {fuel : Nat} {listed : Array Bool} {l : List Value} {ds : List Deferred} {w : World} (hi : ops[i]? = some oi) (hd : oi.dst = some d)
  (hs : Region.noSelect ops = true) (hf : Region.free md ops listed i = true) (hr : (Region.ready md ops listed).contains i = true)
  (hQ : ∀ c a w, Q (.panic c) (a.put oi.dst v) w → Q (.panic c) a w) (hw : Region.wanted oi (yielded ops l.toArray) = true) (hy : ∀ w, S w → (execOp (Act.eval ⟨l.toArray, ds⟩) oi).run P w = .ok (.value v) w) (hS : S w)
  (h : wpAnyH P md ops Q S fuel (listed.setIfInBounds i true) ⟨(l.set d v).toArray, ds⟩ w) : wpAnyH P md ops Q S (fuel + 1) listed ⟨l.toArray, ds⟩ w := by
 refine wpAnyH_take (v := v) hi hs hf hr hQ (.inl ⟨hw, hy⟩) hS ?_;have e : (Act.mk l.toArray ds).put oi.dst v = ⟨(l.set d v).toArray, ds⟩ := by rw [hd]; simp [Act.put]
 rw [e];exact h
theorem takeS {P : Program} {ops : Array Oper} {Q : Exit → Act → World → Prop} {md : Region.Mode} {S : World → Prop} (i d : Nat) {oi : Oper} {fuel : Nat} {listed : Array Bool} {l : List Value} {ds : List Deferred} {w : World} (hi : ops[i]? = some oi) (hd : oi.dst = some d)
  (hs : Region.noSelect ops = true) (hf : Region.free md ops listed i = true) (hr : (Region.ready md ops listed).contains i = true)
  (hQ : ∀ c a w, Q (.panic c) (a.put oi.dst undef) w → Q (.panic c) a w) (hw : Region.wanted oi (yielded ops l.toArray) = false) (hS : S w)
  (h : wpAnyH P md ops Q S fuel (listed.setIfInBounds i true) ⟨(l.set d undef).toArray, ds⟩ w) : wpAnyH P md ops Q S (fuel + 1) listed ⟨l.toArray, ds⟩ w := by
 refine wpAnyH_take (v := undef) hi hs hf hr hQ (.inr ⟨hw, rfl⟩) hS ?_;have e : (Act.mk l.toArray ds).put oi.dst undef = ⟨(l.set d undef).toArray, ds⟩ := by rw [hd]; simp [Act.put]
 rw [e];exact h
theorem inYes (n a b : Int) (w : World) (h : a ≤ n ∧ n ≤ b) : Calls Tryz.prog 65 #[.int .i64 n, .int .i64 a, .int .i64 b] w fun e w' => e = .returned (.bool true) ∧ w' = w := by
 obtain ⟨h1, h2⟩ := h;go_enter Tryz.func65, Tryz.ntmps65
 go_wp2
 go_ret
 exact ⟨rfl, rfl⟩
theorem inNo (n a b : Int) (w : World) (h : n < a ∨ b < n) : Calls Tryz.prog 65 #[.int .i64 n, .int .i64 a, .int .i64 b] w fun e w' => e = .returned (.bool false) ∧ w' = w := by
 by_cases h1 : n < a
 ·
  clear h;go_enter Tryz.func65, Tryz.ntmps65
  go_wp2
  go_ret
  exact ⟨rfl, rfl⟩
 have h2 : b < n := by omega
 have h3 : a ≤ n := by omega
 have hd : decide (n ≤ b) = false := by simp; omega
 clear h h1;go_enter Tryz.func65, Tryz.ntmps65
 go_wp2
 go_ret
 exact ⟨rfl, rfl⟩
def vOk (r c b p : Int) : Bool := decide (1 ≤ r ∧ r ≤ b ∧ b ≤ 9 ∧ 0 ≤ c ∧ c ≤ 20 ∧ (c = 0 ↔ r = b) ∧ 0 ≤ p ∧ p < 4)
set_option maxHeartbeats 4000000 in
theorem vOkS (r c b p : Int) (w : World) :
  Calls Tryz.prog 181 #[.agg #[.int .i64 r, .int .i64 c, .int .i64 b, .int .i64 p]] w fun e w' => e = .returned (.bool (vOk r c b p)) ∧ Below w.heap.size w w' := by
 by_cases h0 : 1 ≤ r ∧ r ≤ 9
 rotate_left
 ·
  skip
  have e : vOk r c b p = false := by unfold vOk; simp; omega
  rw [e];clear e;go_enter Tryz.func181, Tryz.ntmps181
  go_wp2_with (first | (go_at_call 65; refine (inYes _ _ _ _ (by omega)).mono ?_; rintro e w' ⟨rfl, rfl⟩) | (go_at_call 65; refine (inNo _ _ _ _ (by omega)).mono ?_; rintro e w' ⟨rfl, rfl⟩) | go_in)
  go_ret
  exact ⟨rfl, (Below.refl _ _).alloc (Nat.le_refl _) _⟩
 by_cases h1 : 1 ≤ b ∧ b ≤ 9
 rotate_left
 ·
  skip
  have e : vOk r c b p = false := by unfold vOk; simp; omega
  rw [e];clear e;go_enter Tryz.func181, Tryz.ntmps181
  go_wp2_with (first | (go_at_call 65; refine (inYes _ _ _ _ (by omega)).mono ?_; rintro e w' ⟨rfl, rfl⟩) | (go_at_call 65; refine (inNo _ _ _ _ (by omega)).mono ?_; rintro e w' ⟨rfl, rfl⟩) | go_in)
  go_ret
  exact ⟨rfl, (Below.refl _ _).alloc (Nat.le_refl _) _⟩
 by_cases h2 : r ≤ b
 rotate_left
 ·
  have d2 : decide (r ≤ b) = false := decide_eq_false h2;have e : vOk r c b p = false := by unfold vOk; simp; omega
  rw [e];clear e;go_enter Tryz.func181, Tryz.ntmps181
  go_wp2_with (first | (go_at_call 65; refine (inYes _ _ _ _ (by omega)).mono ?_; rintro e w' ⟨rfl, rfl⟩) | (go_at_call 65; refine (inNo _ _ _ _ (by omega)).mono ?_; rintro e w' ⟨rfl, rfl⟩) | go_in)
  go_ret
  exact ⟨rfl, (Below.refl _ _).alloc (Nat.le_refl _) _⟩
 by_cases h3 : 0 ≤ c ∧ c ≤ 20
 rotate_left
 ·
  skip
  have e : vOk r c b p = false := by unfold vOk; simp; omega
  rw [e];clear e;go_enter Tryz.func181, Tryz.ntmps181
  go_wp2_with (first | (go_at_call 65; refine (inYes _ _ _ _ (by omega)).mono ?_; rintro e w' ⟨rfl, rfl⟩) | (go_at_call 65; refine (inNo _ _ _ _ (by omega)).mono ?_; rintro e w' ⟨rfl, rfl⟩) | go_in)
  go_ret
  exact ⟨rfl, (Below.refl _ _).alloc (Nat.le_refl _) _⟩
 by_cases hc0 : c = 0
 ·
  have hcb : (c == 0) = true := by simp; omega
  have hcd : decide (c = 0) = true := by simp; omega
  by_cases hrb : r = b
  focus
   have hbb : (r == b) = true := by simp; omega
   have hbd : decide (r = b) = true := by simp; omega
   skip
   by_cases h5 : 0 ≤ p ∧ p ≤ 3
   rotate_left
   ·
    skip
    have e : vOk r c b p = false := by unfold vOk; simp; omega
    rw [e];clear e;go_enter Tryz.func181, Tryz.ntmps181
    go_wp2_with (first | (go_at_call 65; refine (inYes _ _ _ _ (by omega)).mono ?_; rintro e w' ⟨rfl, rfl⟩) | (go_at_call 65; refine (inNo _ _ _ _ (by omega)).mono ?_; rintro e w' ⟨rfl, rfl⟩) | go_in)
    go_ret
    exact ⟨rfl, (Below.refl _ _).alloc (Nat.le_refl _) _⟩
   have e : vOk r c b p = true := by unfold vOk; simp; omega
  rotate_left;focus
   have hbb : (r == b) = false := by simp; omega
   have hbd : decide (r = b) = false := by simp; omega
   skip
   have e : vOk r c b p = false := by unfold vOk; simp; omega
  rotate_left;all_goals
   rw [e];clear e;go_enter Tryz.func181, Tryz.ntmps181
   go_wp2_with (first | (go_at_call 65; refine (inYes _ _ _ _ (by omega)).mono ?_; rintro e w' ⟨rfl, rfl⟩) | (go_at_call 65; refine (inNo _ _ _ _ (by omega)).mono ?_; rintro e w' ⟨rfl, rfl⟩) | go_in)
   go_ret
   exact ⟨rfl, (Below.refl _ _).alloc (Nat.le_refl _) _⟩
 have hcb : (c == 0) = false := by simp; omega
 have hcd : decide (c = 0) = false := by simp; omega
 by_cases hrb : r = b
 focus
  have hbb : (r == b) = true := by simp; omega
  have hbd : decide (r = b) = true := by simp; omega
  skip
  have e : vOk r c b p = false := by unfold vOk; simp; omega
 rotate_left;focus
  have hbb : (r == b) = false := by simp; omega
  have hbd : decide (r = b) = false := by simp; omega
  skip
  by_cases h5 : 0 ≤ p ∧ p ≤ 3
  rotate_left
  ·
   skip
   have e : vOk r c b p = false := by unfold vOk; simp; omega
   rw [e];clear e;go_enter Tryz.func181, Tryz.ntmps181
   go_wp2_with (first | (go_at_call 65; refine (inYes _ _ _ _ (by omega)).mono ?_; rintro e w' ⟨rfl, rfl⟩) | (go_at_call 65; refine (inNo _ _ _ _ (by omega)).mono ?_; rintro e w' ⟨rfl, rfl⟩) | go_in)
   go_ret
   exact ⟨rfl, (Below.refl _ _).alloc (Nat.le_refl _) _⟩
  have e : vOk r c b p = true := by unfold vOk; simp; omega
 rotate_left;all_goals
  rw [e];clear e;go_enter Tryz.func181, Tryz.ntmps181
  go_wp2_with (first | (go_at_call 65; refine (inYes _ _ _ _ (by omega)).mono ?_; rintro e w' ⟨rfl, rfl⟩) | (go_at_call 65; refine (inNo _ _ _ _ (by omega)).mono ?_; rintro e w' ⟨rfl, rfl⟩) | go_in)
  go_ret
  exact ⟨rfl, (Below.refl _ _).alloc (Nat.le_refl _) _⟩
set_option maxHeartbeats 4000000 in
theorem vOkI (r c b p : Int) (w : World) :
  Calls Tryz.prog 238 #[.agg #[.int .i64 r, .int .i64 c, .int .i64 b, .int .i64 p]] w fun e w' => e = .returned (.bool (vOk r c b p)) ∧ Below w.heap.size w w' := by
 by_cases h0 : 1 ≤ r
 rotate_left
 ·
  have d0 : decide (1 ≤ r) = false := decide_eq_false h0;have e : vOk r c b p = false := by unfold vOk; simp; omega
  rw [e];clear e;go_enter Tryz.func238, Tryz.ntmps238
  go_wp2
  go_ret
  exact ⟨rfl, (Below.refl _ _).alloc (Nat.le_refl _) _⟩
 by_cases h1 : r ≤ b
 rotate_left
 ·
  have d1 : decide (r ≤ b) = false := decide_eq_false h1;have e : vOk r c b p = false := by unfold vOk; simp; omega
  rw [e];clear e;go_enter Tryz.func238, Tryz.ntmps238
  go_wp2
  go_ret
  exact ⟨rfl, (Below.refl _ _).alloc (Nat.le_refl _) _⟩
 by_cases h2 : b ≤ 9
 rotate_left
 ·
  have d2 : decide (b ≤ 9) = false := decide_eq_false h2;have e : vOk r c b p = false := by unfold vOk; simp; omega
  rw [e];clear e;go_enter Tryz.func238, Tryz.ntmps238
  go_wp2
  go_ret
  exact ⟨rfl, (Below.refl _ _).alloc (Nat.le_refl _) _⟩
 by_cases h3 : 0 ≤ c
 rotate_left
 ·
  have d3 : decide (0 ≤ c) = false := decide_eq_false h3;have e : vOk r c b p = false := by unfold vOk; simp; omega
  rw [e];clear e;go_enter Tryz.func238, Tryz.ntmps238
  go_wp2
  go_ret
  exact ⟨rfl, (Below.refl _ _).alloc (Nat.le_refl _) _⟩
 by_cases h4 : c ≤ 20
 rotate_left
 ·
  have d4 : decide (c ≤ 20) = false := decide_eq_false h4;have e : vOk r c b p = false := by unfold vOk; simp; omega
  rw [e];clear e;go_enter Tryz.func238, Tryz.ntmps238
  go_wp2
  go_ret
  exact ⟨rfl, (Below.refl _ _).alloc (Nat.le_refl _) _⟩
 by_cases hc0 : c = 0
 ·
  have hcb : (c == 0) = true := by simp; omega
  have hcd : decide (c = 0) = true := by simp; omega
  by_cases hrb : r = b
  ·
   have hbb : (r == b) = true := by simp; omega
   have hbd : decide (r = b) = true := by simp; omega
   skip
   by_cases h6 : 0 ≤ p
   rotate_left
   ·
    have d6 : decide (0 ≤ p) = false := decide_eq_false h6;have e : vOk r c b p = false := by unfold vOk; simp; omega
    rw [e];clear e;go_enter Tryz.func238, Tryz.ntmps238
    go_wp2
    go_ret
    exact ⟨rfl, (Below.refl _ _).alloc (Nat.le_refl _) _⟩
   by_cases h7 : p < 4
   rotate_left
   ·
    have d7 : decide (p < 4) = false := decide_eq_false h7;have e : vOk r c b p = false := by unfold vOk; simp; omega
    rw [e];clear e;go_enter Tryz.func238, Tryz.ntmps238
    go_wp2
    go_ret
    exact ⟨rfl, (Below.refl _ _).alloc (Nat.le_refl _) _⟩
   have e : vOk r c b p = true := by unfold vOk; simp; omega
   rw [e];clear e;go_enter Tryz.func238, Tryz.ntmps238
   go_wp2
   go_ret
   exact ⟨rfl, (Below.refl _ _).alloc (Nat.le_refl _) _⟩
  have hbb : (r == b) = false := by simp; omega
  have hbd : decide (r = b) = false := by simp; omega
  skip
  have e : vOk r c b p = false := by unfold vOk; simp; omega
  rw [e];clear e;go_enter Tryz.func238, Tryz.ntmps238
  go_wp2
  go_ret
  exact ⟨rfl, (Below.refl _ _).alloc (Nat.le_refl _) _⟩
 have hcb : (c == 0) = false := by simp; omega
 have hcd : decide (c = 0) = false := by simp; omega
 by_cases hrb : r = b
 ·
  have hbb : (r == b) = true := by simp; omega
  have hbd : decide (r = b) = true := by simp; omega
  skip
  have e : vOk r c b p = false := by unfold vOk; simp; omega
  rw [e];clear e;go_enter Tryz.func238, Tryz.ntmps238
  go_wp2
  go_ret
  exact ⟨rfl, (Below.refl _ _).alloc (Nat.le_refl _) _⟩
 have hbb : (r == b) = false := by simp; omega
 have hbd : decide (r = b) = false := by simp; omega
 skip
 by_cases h6 : 0 ≤ p
 rotate_left
 ·
  have d6 : decide (0 ≤ p) = false := decide_eq_false h6;have e : vOk r c b p = false := by unfold vOk; simp; omega
  rw [e];clear e;go_enter Tryz.func238, Tryz.ntmps238
  go_wp2
  go_ret
  exact ⟨rfl, (Below.refl _ _).alloc (Nat.le_refl _) _⟩
 by_cases h7 : p < 4
 rotate_left
 ·
  have d7 : decide (p < 4) = false := decide_eq_false h7;have e : vOk r c b p = false := by unfold vOk; simp; omega
  rw [e];clear e;go_enter Tryz.func238, Tryz.ntmps238
  go_wp2
  go_ret
  exact ⟨rfl, (Below.refl _ _).alloc (Nat.le_refl _) _⟩
 have e : vOk r c b p = true := by unfold vOk; simp; omega
 rw [e];clear e;go_enter Tryz.func238, Tryz.ntmps238
 go_wp2
 go_ret
 exact ⟨rfl, (Below.refl _ _).alloc (Nat.le_refl _) _⟩
theorem tw {P : Program} {ops : Array Oper} {Q : Exit → Act → World → Prop} {md : Region.Mode} {S : World → Prop} (i d : Nat) (v : Value) {oi : Oper} {fuel : Nat} {listed : Array Bool} {l l2 : List Value} {ds : List Deferred} {w : World}
    (h : wpAnyH P md ops Q S fuel (listed.setIfInBounds i true) ⟨l2.toArray, ds⟩ w) (hi : ops[i]? = some oi := by exact rfl) (hd : oi.dst = some d := by exact rfl)
    (hs : Region.noSelect ops = true := by kernel_rfl) (hf : Region.free md ops listed i = true := by kernel_rfl) (hr : (Region.ready md ops listed).contains i = true := by kernel_rfl)
    (hQ : ∀ c a w, Q (.panic c) (a.put oi.dst v) w → Q (.panic c) a w := by exact fun _ _ _ h => h) (hw : Region.wanted oi (yielded ops l.toArray) = true := by kernel_rfl) (hy : ∀ w, S w → (execOp (Act.eval ⟨l.toArray, ds⟩) oi).run P w = .ok (.value v) w := by (intro w hSw; go_simp)) (hS : S w := by assumption)
    (hl : l.set d v = l2 := by simp only [List.set_cons_zero, List.set_cons_succ]; rfl) : wpAnyH P md ops Q S (fuel + 1) listed ⟨l.toArray, ds⟩ w := by
  subst hl
  exact takeW i d v hi hd hs hf hr hQ hw hy hS h
theorem ts {P : Program} {ops : Array Oper} {Q : Exit → Act → World → Prop} {md : Region.Mode} {S : World → Prop} (i d : Nat) {oi : Oper} {fuel : Nat} {listed : Array Bool} {l l2 : List Value} {ds : List Deferred} {w : World}
    (h : wpAnyH P md ops Q S fuel (listed.setIfInBounds i true) ⟨l2.toArray, ds⟩ w) (hi : ops[i]? = some oi := by exact rfl) (hd : oi.dst = some d := by exact rfl)
    (hs : Region.noSelect ops = true := by kernel_rfl) (hf : Region.free md ops listed i = true := by kernel_rfl) (hr : (Region.ready md ops listed).contains i = true := by kernel_rfl)
    (hQ : ∀ c a w, Q (.panic c) (a.put oi.dst undef) w → Q (.panic c) a w := by exact fun _ _ _ h => h) (hw : Region.wanted oi (yielded ops l.toArray) = false := by kernel_rfl) (hS : S w := by assumption)
    (hl : l.set d undef = l2 := by simp only [List.set_cons_zero, List.set_cons_succ]; rfl) : wpAnyH P md ops Q S (fuel + 1) listed ⟨l.toArray, ds⟩ w := by
  subst hl
  exact takeS i d hi hd hs hf hr hQ hw hS h
theorem ten {p : Nat → Prop} (h : ∀ i, p i) : p 0 ∧ p 1 ∧ p 2 ∧ p 3 ∧ p 4 ∧ p 5 ∧ p 6 ∧ p 7 ∧ p 8 ∧ p 9 := ⟨h 0, h 1, h 2, h 3, h 4, h 5, h 6, h 7, h 8, h 9⟩
theorem w1 {P : Program} {ops : Array Oper} {Q : Exit → Act → World → Prop} {md : Region.Mode} {S : World → Prop} (i : Nat) {oi : Oper} {fuel : Nat} {listed : Array Bool} {a : Act} {w : World}
    (h : ∀ K : Act → World → Prop, (∀ a' w', (S w' ∧ wpAnyH P md ops Q S fuel (listed.setIfInBounds i true) a' w') → K a' w') → Oper.wp P oi a w K Q)
    (hr : Region.ready md ops listed = [i] := by kernel_rfl) (ho : ops[i]? = some oi := by exact rfl) (hw : Region.wanted oi (yielded ops a.tmps) = true := by kernel_rfl) : wpAnyH P md ops Q S (fuel + 1) listed a w := by
  refine wpAnyH_all (rs := [i]) hr (by simp) ?_
  intro j hj
  obtain rfl : j = i := by simpa using hj
  refine wpOp_step ho (fun K hK => ?_)
  rw [if_pos hw]
  exact h K hK
theorem mk_ {α : Type} (a : α) : ∃ y, y = a := ⟨a, rfl⟩
end Go.Proofs.YtnpiljegdiconaaGreat
