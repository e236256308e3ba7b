/- Cells that are read and written. Contracts of the small functions over bytes that the laws call. Whether a number is within two. Contracts of the functions over frames: how great, copied, alike. Steps of a region that draws its order. Marks of nets: with, has. -/
import Derived.Test.YtifndemkkaelaaaGreatRows
import Derived.WalkKit
import Derived.ProofKit
import Derived.OpenShut
import Derived.ShutString
import Derived.ChangeOld
import Derived.Below
import Derived.Deep.QuietTactic
import Derived.BigQuiet
import Derived.WalkSmall
import Derived.Laws.OwnMore
import Derived.WalkSpells
import Derived.Deep.RegionHeld
import Derived.WalkLawsBesides
import Derived.ChangeKeysEq
namespace Go.Proofs.YtifndemkkaelaaaGreat
open Go.ChangeShapes Go.WideShapes Go.ChangeAt Go.RowKit
open Go.ChangeMaps (open_string shut_string)
set_option linter.unusedVariables false

def View (w : World) (ad : Option Addr) (len : Nat) (f : Nat → Int) : Prop :=
  0 < len → ∃ b off, ad = some ⟨b, off, none⟩ ∧ ∀ i, i < len → w.cell? ⟨b, off + i, none⟩ = some (.int .u8 (f i))
def Room (w : World) (ad : Option Addr) (len : Nat) : Prop :=
  0 < len → ∃ b off, ad = some ⟨b, off, none⟩ ∧ ∀ i, i < len → (∃ u, w.cell? ⟨b, off + i, none⟩ = some u) ∧ w.frozen? ⟨b, off + i, none⟩ = false

theorem View.mk0 {w : World} {b len : Nat} {f : Nat → Int} (h : ∀ i, i < len → w.cell? ⟨b, i, none⟩ = some (.int .u8 (f i))) : View w (some ⟨b, 0, none⟩) len f :=
  fun _ => ⟨b, 0, rfl, fun i hi => by rw [Nat.zero_add]; exact h i hi⟩
theorem View.carry {w w' : World} {ad : Option Addr} {len : Nat} {f : Nat → Int} (h : View w ad len f) (hb : ∀ a, ad = some a → 0 < len → w'.heap[a.block]? = w.heap[a.block]?) : View w' ad len f :=
  fun hp => by
    obtain ⟨b, off, e, hc⟩ := h hp
    exact ⟨b, off, e, fun i hi => (World.cell?_of_block (a := ⟨b, off + i, none⟩) (hb ⟨b, off, none⟩ e hp)).trans (hc i hi)⟩
theorem Room.carry {w w' : World} {ad : Option Addr} {len : Nat} (h : Room w ad len) (hb : ∀ a, ad = some a → 0 < len → w'.heap[a.block]? = w.heap[a.block]?) : Room w' ad len :=
  fun hp => by
    obtain ⟨b, off, e, hc⟩ := h hp
    refine ⟨b, off, e, fun i hi => ⟨?_, ?_⟩⟩
    · obtain ⟨u, hu⟩ := (hc i hi).1
      exact ⟨u, (World.cell?_of_block (a := ⟨b, off + i, none⟩) (hb ⟨b, off, none⟩ e hp)).trans hu⟩
    · exact (World.frozen?_of_block (a := ⟨b, off + i, none⟩) (hb ⟨b, off, none⟩ e hp)).trans (hc i hi).2
theorem cell_set_same {w : World} {b j : Nat} {v : Value} (h : ∃ u, w.cell? ⟨b, j, none⟩ = some u) : (w.setCell ⟨b, j, none⟩ v).cell? ⟨b, j, none⟩ = some v := by
  obtain ⟨u, hu⟩ := h
  exact World.cell?_setCell_same _ _ _ hu
theorem cell_set_ne {w : World} {b j i : Nat} {v : Value} (h : i ≠ j) : (w.setCell ⟨b, j, none⟩ v).cell? ⟨b, i, none⟩ = w.cell? ⟨b, i, none⟩ :=
  World.cell?_setCell_other _ _ _ _ (fun e => h (by injection e with _ e2; exact e2.symm))
theorem own_view {w : World} {base E n : Nat} {v : Value} {L : List Int} (h : w.ownsRow base E 1 v n (L.map (Value.int .u8))) :
    n = L.length ∧ ∃ ad cap, v = .slice ad n cap ∧ View w ad n (fun i => L.getD i 0) ∧ Room w ad n ∧ ∀ a, ad = some a → base ≤ a.block ∧ a.block < w.heap.size := by
  have hn : n = L.length := by have := h.1; simp at this; omega
  refine ⟨hn, ?_⟩
  rcases h.2 with ⟨rfl, h0⟩ | ⟨g, cap, cur, rfl, hb, hg, hnc, hcm, hcs, htk⟩
  · exact ⟨none, 0, by rw [h0], fun hp => absurd hp (by omega), fun hp => absurd hp (by omega), fun a e => by simp at e⟩
  · have hc : ∀ i, i < n → w.cell? ⟨g, i, none⟩ = some (.int .u8 (L.getD i 0)) := fun i hi => by
      rw [h.cellAt i (by omega), List.getElem?_map, List.getElem?_eq_getElem (by omega)]
      simp [List.getD, List.getElem?_eq_getElem (by omega : i < L.length)]
    refine ⟨some ⟨g, 0, none⟩, cap, rfl, View.mk0 hc, fun _ => ⟨g, 0, rfl, fun i hi => ?_⟩, fun a e => ?_⟩
    · rw [Nat.zero_add]
      exact ⟨⟨_, hc i hi⟩, h.frozenAt i⟩
    · obtain rfl : (⟨g, 0, none⟩ : Addr) = a := by simpa using e
      exact ⟨hb, (Array.getElem?_eq_some_iff.1 hg).1⟩

theorem below_box (w : World) (o : Obj) : Below w.heap.size w (w.alloc o) := (Below.refl _ _).alloc (Nat.le_refl _) _
theorem size_box (w : World) (o : Obj) : w.heap.size < (w.alloc o).heap.size := by simp

end Go.Proofs.YtifndemkkaelaaaGreat
namespace Go.Proofs.YtifndemkkaelaaaGreat
open Go.ChangeShapes Go.WideShapes Go.ChangeAt Go.RowKit
open Go.ChangeMaps (open_string shut_string)
set_option linter.unusedVariables false

theorem Tryz.info5' : (Tryz.prog.info? 5).map (fun i => (i.zero, i.size, i.bytes)) = some (some (.int .u8 0), 1, 1) := by kernel_rfl
end Go.Proofs.YtifndemkkaelaaaGreat
namespace Go.Proofs.YtifndemkkaelaaaGreat
open Go.ChangeShapes Go.WideShapes Go.ChangeAt Go.RowKit
open Go.ChangeMaps (open_string shut_string)
set_option linter.unusedVariables false

theorem inYes (n a b : Int) (w : World) (h : a ≤ n ∧ n ≤ b) : Calls Tryz.prog 45 #[.int .i64 n, .int .i64 a, .int .i64 b] w fun e w' => e = .returned (.bool true) ∧ w' = w := by
  obtain ⟨h1, h2⟩ := h
  go_enter Tryz.func45, Tryz.ntmps45
  go_wp2
  go_ret
  exact ⟨rfl, rfl⟩
theorem inNo (n a b : Int) (w : World) (h : n < a ∨ b < n) : Calls Tryz.prog 45 #[.int .i64 n, .int .i64 a, .int .i64 b] w fun e w' => e = .returned (.bool false) ∧ w' = w := by
  by_cases h1 : n < a
  · clear h
    go_enter Tryz.func45, Tryz.ntmps45
    go_wp2
    go_ret
    exact ⟨rfl, rfl⟩
  · have h2 : b < n := by omega
    have h3 : a ≤ n := by omega
    have hd : decide (n ≤ b) = false := by simp; omega
    clear h h1
    go_enter Tryz.func45, Tryz.ntmps45
    go_wp2
    go_ret
    exact ⟨rfl, rfl⟩


end Go.Proofs.YtifndemkkaelaaaGreat
namespace Go.Proofs.YtifndemkkaelaaaGreat
open Go.ChangeShapes Go.WideShapes Go.ChangeAt Go.RowKit
open Go.ChangeMaps (open_string shut_string)
set_option linter.unusedVariables false

def FrameAt (w : World) (p : Nat) (a b c : Int) (ad : Option Addr) (len cap : Nat) : Prop :=
  w.cell? ⟨p, 0, none⟩ = some (.int .i64 a) ∧ w.cell? ⟨p, 1, none⟩ = some (.int .i64 b) ∧ w.cell? ⟨p, 2, none⟩ = some (.int .i64 c) ∧ w.cell? ⟨p, 3, none⟩ = some (.slice ad len cap)

def okF (a b c : Int) (len : Nat) : Bool := decide (0 ≤ a ∧ a ≤ 9 ∧ 1 ≤ b ∧ b ≤ 9 ∧ 0 ≤ c ∧ c ≤ 4 ∧ len ≤ 30)

set_option maxHeartbeats 1000000 in
theorem okSpec (a b c : Int) (ad : Option Addr) (len cap : Nat) (w : World) (hm : len ≤ maxLen) :
    Calls Tryz.prog 98 #[.agg #[.int .i64 a, .int .i64 b, .int .i64 c, .slice ad len cap]] w fun e w' => e = .returned (.bool (okF a b c len)) ∧ Below w.heap.size w w' := by
  unfold maxLen at hm
  by_cases ha : 0 ≤ a ∧ a ≤ 9
  · by_cases hb : 1 ≤ b ∧ b ≤ 9
    · by_cases hc : 0 ≤ c ∧ c ≤ 4
      · by_cases hn : len ≤ 30
        · have e : okF a b c len = true := by unfold okF; simp; omega
          have hn' : (len : Int) ≤ 30 := by omega
          rw [e]
          clear e
          go_enter Tryz.func98, Tryz.ntmps98
          go_wp2_with (first | (go_at_call 45; refine (inYes _ _ _ _ (by omega)).mono ?_; rintro e w' ⟨rfl, rfl⟩) | go_in)
          go_ret
          exact ⟨rfl, (Below.refl _ _).alloc (Nat.le_refl _) _⟩
        · have e : okF a b c len = false := by unfold okF; simp; omega
          have hn' : decide ((len : Int) ≤ 30) = false := by simp; omega
          rw [e]
          clear e
          go_enter Tryz.func98, Tryz.ntmps98
          go_wp2_with (first | (go_at_call 45; refine (inYes _ _ _ _ (by omega)).mono ?_; rintro e w' ⟨rfl, rfl⟩) | go_in)
          go_ret
          exact ⟨rfl, (Below.refl _ _).alloc (Nat.le_refl _) _⟩
      · have e : okF a b c len = false := by unfold okF; simp; omega
        rw [e]
        clear e
        go_enter Tryz.func98, Tryz.ntmps98
        go_wp2_with (first | (go_at_call 45; refine (inYes _ _ _ _ (by omega)).mono ?_; rintro e w' ⟨rfl, rfl⟩) | (go_at_call 45; refine (inNo _ _ _ _ (by omega)).mono ?_; rintro e w' ⟨rfl, rfl⟩) | go_in)
        go_ret
        exact ⟨rfl, (Below.refl _ _).alloc (Nat.le_refl _) _⟩
    · have e : okF a b c len = false := by unfold okF; simp; omega
      rw [e]
      clear e
      go_enter Tryz.func98, Tryz.ntmps98
      go_wp2_with (first | (go_at_call 45; refine (inYes _ _ _ _ (by omega)).mono ?_; rintro e w' ⟨rfl, rfl⟩) | (go_at_call 45; refine (inNo _ _ _ _ (by omega)).mono ?_; rintro e w' ⟨rfl, rfl⟩) | go_in)
      go_ret
      exact ⟨rfl, (Below.refl _ _).alloc (Nat.le_refl _) _⟩
  · have e : okF a b c len = false := by unfold okF; simp; omega
    rw [e]
    clear e
    go_enter Tryz.func98, Tryz.ntmps98
    go_wp2_with (first | (go_at_call 45; refine (inNo _ _ _ _ (by omega)).mono ?_; rintro e w' ⟨rfl, rfl⟩) | go_in)
    go_ret
    exact ⟨rfl, (Below.refl _ _).alloc (Nat.le_refl _) _⟩

set_option maxHeartbeats 2000000 in
theorem fits (p : Nat) (a b c : Int) (ad : Option Addr) (len cap : Nat) (w : World) (hm : len ≤ maxLen) (h : FrameAt w p a b c ad len cap) :
    Calls Tryz.prog 58 #[.pointer (some ⟨p, 0, none⟩)] w fun e w' => e = .returned (.bool (okF a b c len)) ∧ w' = w := by
  unfold maxLen at hm
  obtain ⟨h1, h2, h3, h4⟩ := h
  by_cases k0 : 0 ≤ a
  rotate_left
  · have k' : a < 0 := by omega
    have kd : decide (0 ≤ a) = false := by simp; omega
    have e : okF a b c len = false := by unfold okF; simp; omega
    rw [e]
    clear e
    go_enter Tryz.func58, Tryz.ntmps58
    go_wp2
    go_ret
    exact ⟨rfl, rfl⟩
  by_cases k1 : a ≤ 9
  rotate_left
  · have k' : 9 < a := by omega
    have kd : decide (a ≤ 9) = false := by simp; omega
    have e : okF a b c len = false := by unfold okF; simp; omega
    rw [e]
    clear e
    go_enter Tryz.func58, Tryz.ntmps58
    go_wp2
    go_ret
    exact ⟨rfl, rfl⟩
  by_cases k2 : 1 ≤ b
  rotate_left
  · have k' : b < 1 := by omega
    have kd : decide (1 ≤ b) = false := by simp; omega
    have e : okF a b c len = false := by unfold okF; simp; omega
    rw [e]
    clear e
    go_enter Tryz.func58, Tryz.ntmps58
    go_wp2
    go_ret
    exact ⟨rfl, rfl⟩
  by_cases k3 : b ≤ 9
  rotate_left
  · have k' : 9 < b := by omega
    have kd : decide (b ≤ 9) = false := by simp; omega
    have e : okF a b c len = false := by unfold okF; simp; omega
    rw [e]
    clear e
    go_enter Tryz.func58, Tryz.ntmps58
    go_wp2
    go_ret
    exact ⟨rfl, rfl⟩
  by_cases k4 : 0 ≤ c
  rotate_left
  · have k' : c < 0 := by omega
    have kd : decide (0 ≤ c) = false := by simp; omega
    have e : okF a b c len = false := by unfold okF; simp; omega
    rw [e]
    clear e
    go_enter Tryz.func58, Tryz.ntmps58
    go_wp2
    go_ret
    exact ⟨rfl, rfl⟩
  by_cases k5 : c ≤ 4
  rotate_left
  · have k' : 4 < c := by omega
    have kd : decide (c ≤ 4) = false := by simp; omega
    have e : okF a b c len = false := by unfold okF; simp; omega
    rw [e]
    clear e
    go_enter Tryz.func58, Tryz.ntmps58
    go_wp2
    go_ret
    exact ⟨rfl, rfl⟩
  by_cases k6 : (len : Int) ≤ 30
  rotate_left
  · have k' : 30 < (len : Int) := by omega
    have kd : decide ((len : Int) ≤ 30) = false := by simp; omega
    have e : okF a b c len = false := by unfold okF; simp; omega
    rw [e]
    clear e
    go_enter Tryz.func58, Tryz.ntmps58
    go_wp2
    go_ret
    exact ⟨rfl, rfl⟩
  have e : okF a b c len = true := by unfold okF; simp; omega
  rw [e]
  clear e
  go_enter Tryz.func58, Tryz.ntmps58
  go_wp2
  go_ret
  exact ⟨rfl, rfl⟩

theorem FrameAt.below {w w' : World} {p : Nat} {a b c : Int} {ad : Option Addr} {len cap B : Nat} (h : FrameAt w p a b c ad len cap) (bl : Below B w w') (hp : p < B) : FrameAt w' p a b c ad len cap :=
  ⟨(bl.cell (p := ⟨p, 0, none⟩) hp).trans h.1, (bl.cell (p := ⟨p, 1, none⟩) hp).trans h.2.1, (bl.cell (p := ⟨p, 2, none⟩) hp).trans h.2.2.1, (bl.cell (p := ⟨p, 3, none⟩) hp).trans h.2.2.2⟩
theorem frameAt_box (w : World) (a b c : Int) (ad : Option Addr) (len cap : Nat) (t : TypeId) : FrameAt (w.alloc (Obj.cells #[.int .i64 a, .int .i64 b, .int .i64 c, .slice ad len cap] t)) w.heap.size a b c ad len cap := by
  refine ⟨?_, ?_, ?_, ?_⟩ <;> simp [go_sem]

end Go.Proofs.YtifndemkkaelaaaGreat
namespace Go.Proofs.YtifndemkkaelaaaGreat
open Go.ChangeShapes Go.WideShapes Go.ChangeAt Go.RowKit
open Go.ChangeMaps (open_string shut_string)
set_option linter.unusedVariables false

theorem takeW {P : Program} {ops : Array Oper} {Q : Exit → Act → World → Prop} {md : Region.Mode} {S : World → Prop} (i d : Nat) (v : Value) {oi : Oper} {fuel : Nat} {listed : Array Bool} {l : List Value} {ds : List Deferred} {w : World} (hi : ops[i]? = some oi) (hd : oi.dst = some d)
    (hs : Region.noSelect ops = true) (hf : Region.free md ops listed i = true) (hr : (Region.ready md ops listed).contains i = true)
    (hQ : ∀ c a w, Q (.panic c) (a.put oi.dst v) w → Q (.panic c) a w) (hw : Region.wanted oi (yielded ops l.toArray) = true) (hy : ∀ w, S w → (execOp (Act.eval ⟨l.toArray, ds⟩) oi).run P w = .ok (.value v) w) (hS : S w)
    (h : wpAnyH P md ops Q S fuel (listed.setIfInBounds i true) ⟨(l.set d v).toArray, ds⟩ w) : wpAnyH P md ops Q S (fuel + 1) listed ⟨l.toArray, ds⟩ w := by
  refine wpAnyH_take (v := v) hi hs hf hr hQ (.inl ⟨hw, hy⟩) hS ?_
  have e : (Act.mk l.toArray ds).put oi.dst v = ⟨(l.set d v).toArray, ds⟩ := by rw [hd]; simp [Act.put]
  rw [e]
  exact h
theorem takeS {P : Program} {ops : Array Oper} {Q : Exit → Act → World → Prop} {md : Region.Mode} {S : World → Prop} (i d : Nat) {oi : Oper} {fuel : Nat} {listed : Array Bool} {l : List Value} {ds : List Deferred} {w : World} (hi : ops[i]? = some oi) (hd : oi.dst = some d)
    (hs : Region.noSelect ops = true) (hf : Region.free md ops listed i = true) (hr : (Region.ready md ops listed).contains i = true)
    (hQ : ∀ c a w, Q (.panic c) (a.put oi.dst undef) w → Q (.panic c) a w) (hw : Region.wanted oi (yielded ops l.toArray) = false) (hS : S w)
    (h : wpAnyH P md ops Q S fuel (listed.setIfInBounds i true) ⟨(l.set d undef).toArray, ds⟩ w) : wpAnyH P md ops Q S (fuel + 1) listed ⟨l.toArray, ds⟩ w := by
  refine wpAnyH_take (v := undef) hi hs hf hr hQ (.inr ⟨hw, rfl⟩) hS ?_
  have e : (Act.mk l.toArray ds).put oi.dst undef = ⟨(l.set d undef).toArray, ds⟩ := by rw [hd]; simp [Act.put]
  rw [e]
  exact h

end Go.Proofs.YtifndemkkaelaaaGreat
namespace Go.Proofs.YtifndemkkaelaaaGreat
open Go.ChangeShapes Go.WideShapes Go.ChangeAt Go.RowKit
open Go.ChangeMaps (open_string shut_string)
set_option linter.unusedVariables false

def put (k : Int) (v : Bool) (i : Int) (b : Bool) : Bool := if k = i then v else b
theorem put_ne {k i : Int} (v b : Bool) (h : k ≠ i) : put k v i b = b := if_neg h
set_option maxHeartbeats 1000000 in
theorem withN (b1 b2 b3 b4 : Bool) (k : Int) (v : Bool) (w : World) :
    Calls Tryz.prog 108 #[.agg #[.bool b1, .bool b2, .bool b3, .bool b4], .int .i64 k, .bool v] w fun e w' => e = .returned (.agg #[.bool (put k v 1 b1), .bool (put k v 2 b2), .bool (put k v 3 b3), .bool (put k v 4 b4)]) ∧ Below w.heap.size w w' := by
  by_cases h1 : k = 1
  · subst h1
    go_enter Tryz.func108, Tryz.ntmps108
    go_wp2
    refine bodyPost_ret (v := .agg #[.bool v, .bool b2, .bool b3, .bool b4]) (by simp [results, Tryz.results108, go_sem, *]) rfl ⟨by simp [put], ?_⟩
    exact ((Below.refl _ _).alloc (Nat.le_refl _) _).alloc (by simp) _
  by_cases h2 : k = 2
  · subst h2
    go_enter Tryz.func108, Tryz.ntmps108
    go_wp2
    refine bodyPost_ret (v := .agg #[.bool b1, .bool v, .bool b3, .bool b4]) (by simp [results, Tryz.results108, go_sem, *]) rfl ⟨by simp [put], ?_⟩
    exact ((Below.refl _ _).alloc (Nat.le_refl _) _).alloc (by simp) _
  by_cases h3 : k = 3
  · subst h3
    go_enter Tryz.func108, Tryz.ntmps108
    go_wp2
    refine bodyPost_ret (v := .agg #[.bool b1, .bool b2, .bool v, .bool b4]) (by simp [results, Tryz.results108, go_sem, *]) rfl ⟨by simp [put], ?_⟩
    exact ((Below.refl _ _).alloc (Nat.le_refl _) _).alloc (by simp) _
  by_cases h4 : k = 4
  · subst h4
    go_enter Tryz.func108, Tryz.ntmps108
    go_wp2
    refine bodyPost_ret (v := .agg #[.bool b1, .bool b2, .bool b3, .bool v]) (by simp [results, Tryz.results108, go_sem, *]) rfl ⟨by simp [put], ?_⟩
    exact ((Below.refl _ _).alloc (Nat.le_refl _) _).alloc (by simp) _
  rw [put_ne _ _ h1, put_ne _ _ h2, put_ne _ _ h3, put_ne _ _ h4]
  by_cases hl : 1 ≤ k
  · have d1 : decide (1 ≤ k) = true := decide_eq_true hl
    have d2 : decide (k ≤ 4) = false := decide_eq_false (by omega)
    clear h1 h2 h3 h4
    go_enter Tryz.func108, Tryz.ntmps108
    go_wp2
    refine bodyPost_ret (v := .agg #[.bool b1, .bool b2, .bool b3, .bool b4]) (by simp [results, Tryz.results108, go_sem, *]) rfl ⟨rfl, ?_⟩
    exact ((Below.refl _ _).alloc (Nat.le_refl _) _).alloc (by simp) _
  · have d1 : decide (1 ≤ k) = false := decide_eq_false hl
    clear h1 h2 h3 h4
    go_enter Tryz.func108, Tryz.ntmps108
    go_wp2
    refine bodyPost_ret (v := .agg #[.bool b1, .bool b2, .bool b3, .bool b4]) (by simp [results, Tryz.results108, go_sem, *]) rfl ⟨rfl, ?_⟩
    exact ((Below.refl _ _).alloc (Nat.le_refl _) _).alloc (by simp) _

def hasB (k : Int) (b1 b2 b3 b4 : Bool) : Bool := if k = 1 then b1 else if k = 2 then b2 else if k = 3 then b3 else if k = 4 then b4 else false
theorem Tryz.info4' : ∃ i, Tryz.prog.info? 4 = some i := by
  have h : (Tryz.prog.info? 4).isSome = true := by kernel_rfl
  exact Option.isSome_iff_exists.1 h
theorem eqNets (w : World) (a1 a2 a3 a4 b1 b2 b3 b4 : Bool) : (Op.equalIn 10000 92 (.agg #[.bool a1, .bool a2, .bool a3, .bool a4]) (.agg #[.bool b1, .bool b2, .bool b3, .bool b4])).run Tryz.prog w = .ok (a1 == b1 && (a2 == b2 && (a3 == b3 && a4 == b4))) w := by
  obtain ⟨i, hi⟩ := Tryz.info4'
  have hc : Tryz.prog.cellsOf 4 = 1 := by kernel_rfl
  have hu : Tryz.prog.underlying 92 = some (.array 4 4) := by kernel_rfl
  rw [run_equalIn_array w 9999 _ _ hu hi, hc]
  have h4 : Tryz.prog.underlying 4 = some .bool := by kernel_rfl
  have hb0 : ∀ (d : Nat) (a b : Bool), (Op.equalIn (d + 1) 4 (.bool a) (.bool b)).run Tryz.prog w = .ok (a == b) w := fun d a b => by
    simp only [Op.equalIn, Sem.run_bind, run_underlying h4, Result.andThen_ok, Sem.run_pure]
  have hb : ∀ (a b : Bool), (Op.equalIn 9999 4 (.bool a) (.bool b)).run Tryz.prog w = .ok (a == b) w := hb0 9998
  have hp : Tryz.prog.plainKey 4 = true := by kernel_rfl
  have p0 : ∀ (x0 x1 x2 x3 : Value), (part 4 #[x0, x1, x2, x3] 0).run Tryz.prog w = .ok x0 w := fun x0 x1 x2 x3 => run_part_plain w hp rfl
  have p1 : ∀ (x0 x1 x2 x3 : Value), (part 4 #[x0, x1, x2, x3] 1).run Tryz.prog w = .ok x1 w := fun x0 x1 x2 x3 => run_part_plain w hp rfl
  have p2 : ∀ (x0 x1 x2 x3 : Value), (part 4 #[x0, x1, x2, x3] 2).run Tryz.prog w = .ok x2 w := fun x0 x1 x2 x3 => run_part_plain w hp rfl
  have p3 : ∀ (x0 x1 x2 x3 : Value), (part 4 #[x0, x1, x2, x3] 3).run Tryz.prog w = .ok x3 w := fun x0 x1 x2 x3 => run_part_plain w hp rfl
  simp only [show List.range 4 = [0, 1, 2, 3] from rfl, Op.eqItems, Sem.run_bind, Nat.mul_one]
  rw [p0, Result.andThen_ok, p0, Result.andThen_ok, hb, Result.andThen_ok]
  cases a1 == b1
  · simp
  simp only [Bool.not_true, Bool.false_eq_true, if_false, Sem.run_bind, Bool.true_and]
  rw [p1, Result.andThen_ok, p1, Result.andThen_ok, hb, Result.andThen_ok]
  cases a2 == b2
  · simp
  simp only [Bool.not_true, Bool.false_eq_true, if_false, Sem.run_bind, Bool.true_and]
  rw [p2, Result.andThen_ok, p2, Result.andThen_ok, hb, Result.andThen_ok]
  cases a3 == b3
  · simp
  simp only [Bool.not_true, Bool.false_eq_true, if_false, Sem.run_bind, Bool.true_and]
  rw [p3, Result.andThen_ok, p3, Result.andThen_ok, hb, Result.andThen_ok]
  cases a4 == b4 <;> simp
def NetAt (w : World) (p : Nat) (b1 b2 b3 b4 : Bool) : Prop :=
  w.cell? ⟨p, 0, none⟩ = some (.bool b1) ∧ w.cell? ⟨p, 1, none⟩ = some (.bool b2) ∧ w.cell? ⟨p, 2, none⟩ = some (.bool b3) ∧ w.cell? ⟨p, 3, none⟩ = some (.bool b4)
theorem NetAt.same {w w' : World} {p : Nat} {b1 b2 b3 b4 : Bool} (h : NetAt w p b1 b2 b3 b4) (e : w'.heap[p]? = w.heap[p]?) : NetAt w' p b1 b2 b3 b4 :=
  ⟨(World.cell?_of_block (a := ⟨p, 0, none⟩) e).trans h.1, (World.cell?_of_block (a := ⟨p, 1, none⟩) e).trans h.2.1, (World.cell?_of_block (a := ⟨p, 2, none⟩) e).trans h.2.2.1, (World.cell?_of_block (a := ⟨p, 3, none⟩) e).trans h.2.2.2⟩
def SN (w : World) (b1 b2 b3 b4 : Bool) (Y : World) : Prop := NetAt Y w.heap.size b1 b2 b3 b4 ∧ Below w.heap.size w Y ∧ w.heap.size < Y.heap.size
theorem SN.later {w : World} {b1 b2 b3 b4 : Bool} {Y Y' : World} (h : SN w b1 b2 b3 b4 Y) (k : Below Y.heap.size Y Y') : SN w b1 b2 b3 b4 Y' :=
  ⟨h.1.same (k.block _ h.2.2), h.2.1.trans (k.mono (by have := h.2.2; omega)), by have := h.2.2; have := k.size; omega⟩
theorem has_eq (k : Int) (b1 b2 b3 b4 : Bool) : (!(put k false 1 b1 == b1 && (put k false 2 b2 == b2 && (put k false 3 b3 == b3 && put k false 4 b4 == b4)))) = hasB k b1 b2 b3 b4 := by
  unfold put hasB
  by_cases h1 : k = 1
  · subst h1; simp
  by_cases h2 : k = 2
  · subst h2; simp
  by_cases h3 : k = 3
  · subst h3; simp
  by_cases h4 : k = 4
  · subst h4; simp
  simp [h1, h2, h3, h4]
set_option maxHeartbeats 1000000 in
theorem hasN (b1 b2 b3 b4 : Bool) (k : Int) (w : World) :
    Calls Tryz.prog 60 #[.agg #[.bool b1, .bool b2, .bool b3, .bool b4], .int .i64 k] w fun e w' => e = .returned (.bool (hasB k b1 b2 b3 b4)) ∧ Below w.heap.size w w' := by
  go_enter Tryz.func60, Tryz.ntmps60
  go_wp2_with fail
  obtain ⟨w0, hw0⟩ : ∃ w0, w0 = w.alloc (Obj.cells #[.bool b1, .bool b2, .bool b3, .bool b4] 92) := ⟨_, rfl⟩
  have hs0 : SN w b1 b2 b3 b4 w0 := by
    rw [hw0]
    refine ⟨?_, (Below.refl _ _).alloc (Nat.le_refl _) _, by simp⟩
    refine ⟨?_, ?_, ?_, ?_⟩ <;> simp [go_sem]
  rw [← hw0]
  clear hw0
  refine wp_region_held (S := SN w b1 b2 b3 b4) (by kernel_rfl) ?_
  change wpAnyH _ _ _ _ _ _ _ _ (World.drew _)
  have hS0 : SN w b1 b2 b3 b4 w0.drew := ⟨hs0.1, hs0.2.1.drew, hs0.2.2⟩
  refine takeW 0 5 (.agg #[.bool b1, .bool b2, .bool b3, .bool b4]) rfl rfl (by kernel_rfl) (by kernel_rfl) (by kernel_rfl) (fun _ _ _ h => h) (by kernel_rfl) (by (intro Y hSw; obtain ⟨⟨C1, C2, C3, C4⟩, _⟩ := hSw; go_simp)) (by assumption) ?_
  simp only [List.set_cons_zero, List.set_cons_succ]
  refine takeW 1 6 (.int .i64 k) rfl rfl (by kernel_rfl) (by kernel_rfl) (by kernel_rfl) (fun _ _ _ h => h) (by kernel_rfl) (by (intro w hSw; go_simp)) (by assumption) ?_
  simp only [List.set_cons_zero, List.set_cons_succ]
  refine takeW 3 8 (.agg #[.bool b1, .bool b2, .bool b3, .bool b4]) rfl rfl (by kernel_rfl) (by kernel_rfl) (by kernel_rfl) (fun _ _ _ h => h) (by kernel_rfl) (by (intro Y hSw; obtain ⟨⟨C1, C2, C3, C4⟩, _⟩ := hSw; go_simp)) (by assumption) ?_
  simp only [List.set_cons_zero, List.set_cons_succ]
  refine wpAnyH_all (rs := [2]) (by kernel_rfl) (by simp) ?_
  intro i hi; obtain rfl : i = 2 := by simpa using hi
  refine wpOp_step rfl (fun K hK => ?_)
  rw [if_pos (by kernel_rfl)]
  go_simp
  go_at_call 108
  refine (withN b1 b2 b3 b4 k false _).mono ?_
  rintro e y1 ⟨rfl, k1⟩
  have hS1 := hS0.later k1
  refine hK _ _ ⟨hS1, ?_⟩
  clear hK K hi
  refine takeW 4 9 (.bool (hasB k b1 b2 b3 b4)) rfl rfl (by kernel_rfl) (by kernel_rfl) (by kernel_rfl) (fun _ _ _ h => h) (by kernel_rfl) (by (intro Y hSw; go_simp; rw [eqNets]; simp only [Result.andThen_ok, has_eq])) (by assumption) ?_
  simp only [List.set_cons_zero, List.set_cons_succ]
  refine takeW 5 4 (.bool (hasB k b1 b2 b3 b4)) rfl rfl (by kernel_rfl) (by kernel_rfl) (by kernel_rfl) (fun _ _ _ h => h) (by kernel_rfl) (by (intro w hSw; go_simp)) (by assumption) ?_
  simp only [List.set_cons_zero, List.set_cons_succ]
  refine wpAnyH_done (by kernel_rfl) ?_ _
  go_wp2
  go_ret
  exact ⟨rfl, hS1.2.1⟩

end Go.Proofs.YtifndemkkaelaaaGreat
