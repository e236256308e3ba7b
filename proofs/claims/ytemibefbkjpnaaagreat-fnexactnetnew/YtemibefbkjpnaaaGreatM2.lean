/- Whether a number is within two. Steps of a region that draws its order. Marks of nets: with, has. Lists of nets: netsOf. -/
import Derived.Test.YtemibefbkjpnaaaGreatRows
import Derived.WalkKit
import Derived.ProofKit
import Derived.OpenShut
import Derived.ShutString
import Derived.ChangeOld
import Derived.Below
import Derived.Deep.QuietTactic
import Derived.BigQuiet
import Derived.WalkSmall
import Derived.Laws.OwnMore
import Derived.WalkSpells
import Derived.Deep.RegionHeld
import Derived.WalkLawsBesides
import Derived.ChangeKeysEq
namespace Go.Proofs.YtemibefbkjpnaaaGreat
open Go.ChangeShapes Go.WideShapes Go.ChangeAt Go.RowKit
open Go.ChangeMaps (open_string shut_string)
set_option linter.unusedVariables false
set_option maxRecDepth 100000

theorem inYes (n a b : Int) (w : World) (h : a ≤ n ∧ n ≤ b) : Calls Tryz.prog 43 #[.int .i64 n, .int .i64 a, .int .i64 b] w fun e w' => e = .returned (.bool true) ∧ w' = w := by
  obtain ⟨h1, h2⟩ := h
  go_enter Tryz.func43, Tryz.ntmps43
  go_wp2
  go_ret
  exact ⟨rfl, rfl⟩
theorem inNo (n a b : Int) (w : World) (h : n < a ∨ b < n) : Calls Tryz.prog 43 #[.int .i64 n, .int .i64 a, .int .i64 b] w fun e w' => e = .returned (.bool false) ∧ w' = w := by
  by_cases h1 : n < a
  · clear h
    go_enter Tryz.func43, Tryz.ntmps43
    go_wp2
    go_ret
    exact ⟨rfl, rfl⟩
  · have h2 : b < n := by omega
    have h3 : a ≤ n := by omega
    have hd : decide (n ≤ b) = false := by simp; omega
    clear h h1
    go_enter Tryz.func43, Tryz.ntmps43
    go_wp2
    go_ret
    exact ⟨rfl, rfl⟩


end Go.Proofs.YtemibefbkjpnaaaGreat
namespace Go.Proofs.YtemibefbkjpnaaaGreat
open Go.ChangeShapes Go.WideShapes Go.ChangeAt Go.RowKit
open Go.ChangeMaps (open_string shut_string)
set_option linter.unusedVariables false
set_option maxRecDepth 100000

/-- One operation of a region that draws its order, taken first: it yields v in every world that meets S; the frame laid out. -/
theorem takeW {P : Program} {ops : Array Oper} {Q : Exit → Act → World → Prop} {md : Region.Mode} {S : World → Prop} (i d : Nat) (v : Value) {oi : Oper} {fuel : Nat} {listed : Array Bool} {l : List Value} {ds : List Deferred} {w : World} (hi : ops[i]? = some oi) (hd : oi.dst = some d)
    (hs : Region.noSelect ops = true) (hf : Region.free md ops listed i = true) (hr : (Region.ready md ops listed).contains i = true)
    (hQ : ∀ c a w, Q (.panic c) (a.put oi.dst v) w → Q (.panic c) a w) (hw : Region.wanted oi (yielded ops l.toArray) = true) (hy : ∀ w, S w → (execOp (Act.eval ⟨l.toArray, ds⟩) oi).run P w = .ok (.value v) w) (hS : S w)
    (h : wpAnyH P md ops Q S fuel (listed.setIfInBounds i true) ⟨(l.set d v).toArray, ds⟩ w) : wpAnyH P md ops Q S (fuel + 1) listed ⟨l.toArray, ds⟩ w := by
  refine wpAnyH_take (v := v) hi hs hf hr hQ (.inl ⟨hw, hy⟩) hS ?_
  have e : (Act.mk l.toArray ds).put oi.dst v = ⟨(l.set d v).toArray, ds⟩ := by rw [hd]; simp [Act.put]
  rw [e]
  exact h
/-- The same of one that its guard passes over. -/
theorem takeS {P : Program} {ops : Array Oper} {Q : Exit → Act → World → Prop} {md : Region.Mode} {S : World → Prop} (i d : Nat) {oi : Oper} {fuel : Nat} {listed : Array Bool} {l : List Value} {ds : List Deferred} {w : World} (hi : ops[i]? = some oi) (hd : oi.dst = some d)
    (hs : Region.noSelect ops = true) (hf : Region.free md ops listed i = true) (hr : (Region.ready md ops listed).contains i = true)
    (hQ : ∀ c a w, Q (.panic c) (a.put oi.dst undef) w → Q (.panic c) a w) (hw : Region.wanted oi (yielded ops l.toArray) = false) (hS : S w)
    (h : wpAnyH P md ops Q S fuel (listed.setIfInBounds i true) ⟨(l.set d undef).toArray, ds⟩ w) : wpAnyH P md ops Q S (fuel + 1) listed ⟨l.toArray, ds⟩ w := by
  refine wpAnyH_take (v := undef) hi hs hf hr hQ (.inr ⟨hw, rfl⟩) hS ?_
  have e : (Act.mk l.toArray ds).put oi.dst undef = ⟨(l.set d undef).toArray, ds⟩ := by rw [hd]; simp [Act.put]
  rw [e]
  exact h

end Go.Proofs.YtemibefbkjpnaaaGreat
namespace Go.Proofs.YtemibefbkjpnaaaGreat
open Go.ChangeShapes Go.WideShapes Go.ChangeAt Go.RowKit
open Go.ChangeMaps (open_string shut_string)
set_option linter.unusedVariables false
set_option maxRecDepth 100000

/-- One mark behind 'with'. -/
def put (k : Int) (v : Bool) (i : Int) (b : Bool) : Bool := if k = i then v else b
theorem put_ne {k i : Int} (v b : Bool) (h : k ≠ i) : put k v i b = b := if_neg h
theorem put_eq (k : Int) (v b : Bool) : put k v k b = v := if_pos rfl

/-- Whether a net is marked. -/
def hasB (k : Int) (b1 b2 b3 b4 : Bool) : Bool := if k = 1 then b1 else if k = 2 then b2 else if k = 3 then b3 else if k = 4 then b4 else false
theorem Tryz.info4' : ∃ i, Tryz.prog.info? 4 = some i := by
  have h : (Tryz.prog.info? 4).isSome = true := by kernel_rfl
  exact Option.isSome_iff_exists.1 h
/-- The marks that lie at block p. -/
def NetAt (w : World) (p : Nat) (b1 b2 b3 b4 : Bool) : Prop :=
  w.cell? ⟨p, 0, none⟩ = some (.bool b1) ∧ w.cell? ⟨p, 1, none⟩ = some (.bool b2) ∧ w.cell? ⟨p, 2, none⟩ = some (.bool b3) ∧ w.cell? ⟨p, 3, none⟩ = some (.bool b4)
theorem NetAt.same {w w' : World} {p : Nat} {b1 b2 b3 b4 : Bool} (h : NetAt w p b1 b2 b3 b4) (e : w'.heap[p]? = w.heap[p]?) : NetAt w' p b1 b2 b3 b4 :=
  ⟨(World.cell?_of_block (a := ⟨p, 0, none⟩) e).trans h.1, (World.cell?_of_block (a := ⟨p, 1, none⟩) e).trans h.2.1, (World.cell?_of_block (a := ⟨p, 2, none⟩) e).trans h.2.2.1, (World.cell?_of_block (a := ⟨p, 3, none⟩) e).trans h.2.2.2⟩
def SN (w : World) (b1 b2 b3 b4 : Bool) (Y : World) : Prop := NetAt Y w.heap.size b1 b2 b3 b4 ∧ Below w.heap.size w Y ∧ w.heap.size < Y.heap.size
theorem SN.later {w : World} {b1 b2 b3 b4 : Bool} {Y Y' : World} (h : SN w b1 b2 b3 b4 Y) (k : Below Y.heap.size Y Y') : SN w b1 b2 b3 b4 Y' :=
  ⟨h.1.same (k.block _ h.2.2), h.2.1.trans (k.mono (by have := h.2.2; omega)), by have := h.2.2; have := k.size; omega⟩
theorem has_eq (k : Int) (b1 b2 b3 b4 : Bool) : (!(put k false 1 b1 == b1 && (put k false 2 b2 == b2 && (put k false 3 b3 == b3 && put k false 4 b4 == b4)))) = hasB k b1 b2 b3 b4 := by
  unfold put hasB
  by_cases h1 : k = 1
  · subst h1; simp
  by_cases h2 : k = 2
  · subst h2; simp
  by_cases h3 : k = 3
  · subst h3; simp
  by_cases h4 : k = 4
  · subst h4; simp
  simp [h1, h2, h3, h4]
end Go.Proofs.YtemibefbkjpnaaaGreat
namespace Go.Proofs.YtemibefbkjpnaaaGreat
open Go.ChangeShapes Go.WideShapes Go.ChangeAt Go.RowKit
open Go.ChangeMaps (open_string shut_string)
set_option linter.unusedVariables false
set_option maxRecDepth 100000

/-- Whether x is one of f 0, .., f (k-1). -/
def hasIn (f : Nat → Int) : Nat → Int → Bool
  | 0, _ => false
  | k + 1, x => hasIn f k x || decide (f k = x)
/-- Whether marking k turns anything. -/
def fresh (k : Int) (b1 b2 b3 b4 : Bool) : Bool := if k = 1 then !b1 else if k = 2 then !b2 else if k = 3 then !b3 else if k = 4 then !b4 else false
theorem fresh_eq (k : Int) (b1 b2 b3 b4 : Bool) : (put k true 1 b1 == b1 && (put k true 2 b2 == b2 && (put k true 3 b3 == b3 && put k true 4 b4 == b4))) = !(fresh k b1 b2 b3 b4) := by
  unfold put fresh
  by_cases h1 : k = 1
  · subst h1; cases b1 <;> simp
  by_cases h2 : k = 2
  · subst h2; cases b2 <;> simp
  by_cases h3 : k = 3
  · subst h3; cases b3 <;> simp
  by_cases h4 : k = 4
  · subst h4; cases b4 <;> simp
  simp [h1, h2, h3, h4]
theorem put_in (f : Nat → Int) (k : Nat) (i : Int) : put (f k) true i (hasIn f k i) = hasIn f (k + 1) i := by
  show _ = (hasIn f k i || decide (f k = i))
  unfold put
  by_cases h : f k = i
  · simp [h]
  · simp [h]
/-- Each of f 0, .., f (k-1) is a net, none twice. -/
def good (f : Nat → Int) : Nat → Bool
  | 0 => true
  | k + 1 => good f k && fresh (f k) (hasIn f k 1) (hasIn f k 2) (hasIn f k 3) (hasIn f k 4)
theorem good_le {f : Nat → Int} {k : Nat} (h : good f k = false) : ∀ {n : Nat}, k ≤ n → good f n = false := by
  intro n hn
  induction hn with
  | refl => exact h
  | step _ ih => show (good f _ && _) = false; rw [ih]; rfl
/-- The slice at 'ad' of 'len' integers reads as f 0, f 1, .. -/
def ViewI (w : World) (ad : Option Addr) (len : Nat) (f : Nat → Int) : Prop :=
  0 < len → ∃ b off, ad = some ⟨b, off, none⟩ ∧ ∀ i, i < len → w.cell? ⟨b, off + i, none⟩ = some (.int .i64 (f i))
theorem ViewI.carry {w w' : World} {ad : Option Addr} {len : Nat} {f : Nat → Int} (h : ViewI w ad len f) (hb : ∀ a, ad = some a → 0 < len → w'.heap[a.block]? = w.heap[a.block]?) : ViewI w' ad len f :=
  fun hp => by
    obtain ⟨b, off, e, hc⟩ := h hp
    exact ⟨b, off, e, fun i hi => (World.cell?_of_block (a := ⟨b, off + i, none⟩) (hb ⟨b, off, none⟩ e hp)).trans (hc i hi)⟩
theorem ViewI.lt {w : World} {ad : Option Addr} {len : Nat} {f : Nat → Int} (h : ViewI w ad len f) (x : Addr) (e : ad = some x) (hp : 0 < len) : x.block < w.heap.size := by
  obtain ⟨b, off, e', hc⟩ := h hp
  rw [e] at e'
  cases e'
  exact World.block_lt_of_cell? w _ (hc 0 hp)
theorem ViewI.below {w w' : World} {ad : Option Addr} {len B : Nat} {f : Nat → Int} (h : ViewI w ad len f) (k : Below B w w') (hB : w.heap.size ≤ B) : ViewI w' ad len f :=
  h.carry (fun x e hp => k.block _ (Nat.lt_of_lt_of_le (h.lt x e hp) hB))
/-- What netsOf's loop keeps. -/
structure NO (w : World) (f : Nat → Int) (k : Nat) (y : World) : Prop where
  bel : Below w.heap.size w y
  size : w.heap.size + 1 < y.heap.size
  res : NetAt y w.heap.size false false false false
  rfz : ∀ i, y.frozen? ⟨w.heap.size, i, none⟩ = false
  all : NetAt y (w.heap.size + 1) (hasIn f k 1) (hasIn f k 2) (hasIn f k 3) (hasIn f k 4)
  afz : ∀ i, y.frozen? ⟨w.heap.size + 1, i, none⟩ = false
theorem NO.later {w : World} {f : Nat → Int} {k : Nat} {y y' : World} (h : NO w f k y) (b : Below y.heap.size y y') : NO w f k y' := by
  have hs := h.size
  have e0 := b.block w.heap.size (by omega)
  have e1 := b.block (w.heap.size + 1) (by omega)
  exact ⟨h.bel.trans (b.mono (by omega)), by have := b.size; omega, h.res.same e0, fun i => (World.frozen?_of_block (a := ⟨w.heap.size, i, none⟩) e0).trans (h.rfz i), h.all.same e1, fun i => (World.frozen?_of_block (a := ⟨w.heap.size + 1, i, none⟩) e1).trans (h.afz i)⟩
theorem NO.step {w : World} {f : Nat → Int} {k : Nat} {y : World} (h : NO w f k y) : NO w f (k + 1) ((((y.setCell ⟨w.heap.size + 1, 0, none⟩ (.bool (hasIn f (k + 1) 1))).setCell ⟨w.heap.size + 1, 1, none⟩ (.bool (hasIn f (k + 1) 2))).setCell ⟨w.heap.size + 1, 2, none⟩ (.bool (hasIn f (k + 1) 3))).setCell ⟨w.heap.size + 1, 3, none⟩ (.bool (hasIn f (k + 1) 4))) := by
  obtain ⟨h1, h2, h3, h4, ⟨a1, a2, a3, a4⟩, h6⟩ := h
  refine ⟨(((h1.setCell (by simp) _).setCell (by simp) _).setCell (by simp) _).setCell (by simp) _, by simpa using h2, h3.same ?_, fun i => by simpa using h4 i, ?_, fun i => by simpa using h6 i⟩
  · rw [Below.heap_setCell _ _ _ _ (by simp), Below.heap_setCell _ _ _ _ (by simp), Below.heap_setCell _ _ _ _ (by simp), Below.heap_setCell _ _ _ _ (by simp)]
  · refine ⟨?_, ?_, ?_, ?_⟩ <;> simp [go_sem, *]
end Go.Proofs.YtemibefbkjpnaaaGreat
