/- Marks of nets: with, has. Lists of nets: netsOf. cmp.isNaN. -/
import Derived.Test.YtifndemkkaelaaaGreatRows
import Derived.WalkKit
import Derived.ProofKit
import Derived.OpenShut
import Derived.ShutString
import Derived.ChangeOld
import Derived.Below
import Derived.Deep.QuietTactic
import Derived.BigQuiet
import Derived.WalkSmall
import Derived.Laws.OwnMore
import Derived.WalkSpells
import Derived.WalkLawsBesides
import Derived.ChangeKeysEq
import Derived.Test.YtifndemkkaelaaaGreatZp2
namespace Go.Proofs.YtifndemkkaelaaaGreat
open Go.ChangeShapes Go.WideShapes Go.ChangeAt Go.RowKit
open Go.ChangeMaps (open_string shut_string)
set_option linter.unusedVariables false

/-- One mark behind 'with'. -/
def put (k : Int) (v : Bool) (i : Int) (b : Bool) : Bool := if k = i then v else b
theorem put_ne {k i : Int} (v b : Bool) (h : k ≠ i) : put k v i b = b := if_neg h
theorem put_eq (k : Int) (v b : Bool) : put k v k b = v := if_pos rfl

set_option maxHeartbeats 1000000 in
theorem withN (b1 b2 b3 b4 : Bool) (k : Int) (v : Bool) (w : World) :
    Calls Tryz.prog 108 #[.agg #[.bool b1, .bool b2, .bool b3, .bool b4], .int .i64 k, .bool v] w fun e w' => e = .returned (.agg #[.bool (put k v 1 b1), .bool (put k v 2 b2), .bool (put k v 3 b3), .bool (put k v 4 b4)]) ∧ Below w.heap.size w w' := by
  by_cases h1 : k = 1
  · subst h1
    go_enter Tryz.func108, Tryz.ntmps108
    go_wp2
    refine bodyPost_ret (v := .agg #[.bool v, .bool b2, .bool b3, .bool b4]) (by simp [results, Tryz.results108, go_sem, *]) rfl ⟨by simp [put], ?_⟩
    exact ((Below.refl _ _).alloc (Nat.le_refl _) _).alloc (by simp) _
  by_cases h2 : k = 2
  · subst h2
    go_enter Tryz.func108, Tryz.ntmps108
    go_wp2
    refine bodyPost_ret (v := .agg #[.bool b1, .bool v, .bool b3, .bool b4]) (by simp [results, Tryz.results108, go_sem, *]) rfl ⟨by simp [put], ?_⟩
    exact ((Below.refl _ _).alloc (Nat.le_refl _) _).alloc (by simp) _
  by_cases h3 : k = 3
  · subst h3
    go_enter Tryz.func108, Tryz.ntmps108
    go_wp2
    refine bodyPost_ret (v := .agg #[.bool b1, .bool b2, .bool v, .bool b4]) (by simp [results, Tryz.results108, go_sem, *]) rfl ⟨by simp [put], ?_⟩
    exact ((Below.refl _ _).alloc (Nat.le_refl _) _).alloc (by simp) _
  by_cases h4 : k = 4
  · subst h4
    go_enter Tryz.func108, Tryz.ntmps108
    go_wp2
    refine bodyPost_ret (v := .agg #[.bool b1, .bool b2, .bool b3, .bool v]) (by simp [results, Tryz.results108, go_sem, *]) rfl ⟨by simp [put], ?_⟩
    exact ((Below.refl _ _).alloc (Nat.le_refl _) _).alloc (by simp) _
  rw [put_ne _ _ h1, put_ne _ _ h2, put_ne _ _ h3, put_ne _ _ h4]
  by_cases hl : 1 ≤ k
  · have d1 : decide (1 ≤ k) = true := decide_eq_true hl
    have d2 : decide (k ≤ 4) = false := decide_eq_false (by omega)
    clear h1 h2 h3 h4
    go_enter Tryz.func108, Tryz.ntmps108
    go_wp2
    refine bodyPost_ret (v := .agg #[.bool b1, .bool b2, .bool b3, .bool b4]) (by simp [results, Tryz.results108, go_sem, *]) rfl ⟨rfl, ?_⟩
    exact ((Below.refl _ _).alloc (Nat.le_refl _) _).alloc (by simp) _
  · have d1 : decide (1 ≤ k) = false := decide_eq_false hl
    clear h1 h2 h3 h4
    go_enter Tryz.func108, Tryz.ntmps108
    go_wp2
    refine bodyPost_ret (v := .agg #[.bool b1, .bool b2, .bool b3, .bool b4]) (by simp [results, Tryz.results108, go_sem, *]) rfl ⟨rfl, ?_⟩
    exact ((Below.refl _ _).alloc (Nat.le_refl _) _).alloc (by simp) _

/-- Whether a net is marked. -/
def hasB (k : Int) (b1 b2 b3 b4 : Bool) : Bool := if k = 1 then b1 else if k = 2 then b2 else if k = 3 then b3 else if k = 4 then b4 else false
theorem Tryz.info4' : ∃ i, Tryz.prog.info? 4 = some i := by
  have h : (Tryz.prog.info? 4).isSome = true := by kernel_rfl
  exact Option.isSome_iff_exists.1 h
theorem eqNets (w : World) (a1 a2 a3 a4 b1 b2 b3 b4 : Bool) : (Op.equalIn 10000 92 (.agg #[.bool a1, .bool a2, .bool a3, .bool a4]) (.agg #[.bool b1, .bool b2, .bool b3, .bool b4])).run Tryz.prog w = .ok (a1 == b1 && (a2 == b2 && (a3 == b3 && a4 == b4))) w := by
  obtain ⟨i, hi⟩ := Tryz.info4'
  have hc : Tryz.prog.cellsOf 4 = 1 := by kernel_rfl
  have hu : Tryz.prog.underlying 92 = some (.array 4 4) := by kernel_rfl
  rw [run_equalIn_array w 9999 _ _ hu hi, hc]
  have h4 : Tryz.prog.underlying 4 = some .bool := by kernel_rfl
  have hb0 : ∀ (d : Nat) (a b : Bool), (Op.equalIn (d + 1) 4 (.bool a) (.bool b)).run Tryz.prog w = .ok (a == b) w := fun d a b => by
    simp only [Op.equalIn, Sem.run_bind, run_underlying h4, Result.andThen_ok, Sem.run_pure]
  have hb : ∀ (a b : Bool), (Op.equalIn 9999 4 (.bool a) (.bool b)).run Tryz.prog w = .ok (a == b) w := hb0 9998
  have hp : Tryz.prog.plainKey 4 = true := by kernel_rfl
  have p0 : ∀ (x0 x1 x2 x3 : Value), (part 4 #[x0, x1, x2, x3] 0).run Tryz.prog w = .ok x0 w := fun x0 x1 x2 x3 => run_part_plain w hp rfl
  have p1 : ∀ (x0 x1 x2 x3 : Value), (part 4 #[x0, x1, x2, x3] 1).run Tryz.prog w = .ok x1 w := fun x0 x1 x2 x3 => run_part_plain w hp rfl
  have p2 : ∀ (x0 x1 x2 x3 : Value), (part 4 #[x0, x1, x2, x3] 2).run Tryz.prog w = .ok x2 w := fun x0 x1 x2 x3 => run_part_plain w hp rfl
  have p3 : ∀ (x0 x1 x2 x3 : Value), (part 4 #[x0, x1, x2, x3] 3).run Tryz.prog w = .ok x3 w := fun x0 x1 x2 x3 => run_part_plain w hp rfl
  simp only [show List.range 4 = [0, 1, 2, 3] from rfl, Op.eqItems, Sem.run_bind, Nat.mul_one]
  rw [p0, Result.andThen_ok, p0, Result.andThen_ok, hb, Result.andThen_ok]
  cases a1 == b1
  · simp
  simp only [Bool.not_true, Bool.false_eq_true, if_false, Sem.run_bind, Bool.true_and]
  rw [p1, Result.andThen_ok, p1, Result.andThen_ok, hb, Result.andThen_ok]
  cases a2 == b2
  · simp
  simp only [Bool.not_true, Bool.false_eq_true, if_false, Sem.run_bind, Bool.true_and]
  rw [p2, Result.andThen_ok, p2, Result.andThen_ok, hb, Result.andThen_ok]
  cases a3 == b3
  · simp
  simp only [Bool.not_true, Bool.false_eq_true, if_false, Sem.run_bind, Bool.true_and]
  rw [p3, Result.andThen_ok, p3, Result.andThen_ok, hb, Result.andThen_ok]
  cases a4 == b4 <;> simp
/-- The marks that lie at block p. -/
def NetAt (w : World) (p : Nat) (b1 b2 b3 b4 : Bool) : Prop :=
  w.cell? ⟨p, 0, none⟩ = some (.bool b1) ∧ w.cell? ⟨p, 1, none⟩ = some (.bool b2) ∧ w.cell? ⟨p, 2, none⟩ = some (.bool b3) ∧ w.cell? ⟨p, 3, none⟩ = some (.bool b4)
theorem NetAt.same {w w' : World} {p : Nat} {b1 b2 b3 b4 : Bool} (h : NetAt w p b1 b2 b3 b4) (e : w'.heap[p]? = w.heap[p]?) : NetAt w' p b1 b2 b3 b4 :=
  ⟨(World.cell?_of_block (a := ⟨p, 0, none⟩) e).trans h.1, (World.cell?_of_block (a := ⟨p, 1, none⟩) e).trans h.2.1, (World.cell?_of_block (a := ⟨p, 2, none⟩) e).trans h.2.2.1, (World.cell?_of_block (a := ⟨p, 3, none⟩) e).trans h.2.2.2⟩
def SN (w : World) (b1 b2 b3 b4 : Bool) (Y : World) : Prop := NetAt Y w.heap.size b1 b2 b3 b4 ∧ Below w.heap.size w Y ∧ w.heap.size < Y.heap.size
theorem SN.later {w : World} {b1 b2 b3 b4 : Bool} {Y Y' : World} (h : SN w b1 b2 b3 b4 Y) (k : Below Y.heap.size Y Y') : SN w b1 b2 b3 b4 Y' :=
  ⟨h.1.same (k.block _ h.2.2), h.2.1.trans (k.mono (by have := h.2.2; omega)), by have := h.2.2; have := k.size; omega⟩
theorem has_eq (k : Int) (b1 b2 b3 b4 : Bool) : (!(put k false 1 b1 == b1 && (put k false 2 b2 == b2 && (put k false 3 b3 == b3 && put k false 4 b4 == b4)))) = hasB k b1 b2 b3 b4 := by
  unfold put hasB
  by_cases h1 : k = 1
  · subst h1; simp
  by_cases h2 : k = 2
  · subst h2; simp
  by_cases h3 : k = 3
  · subst h3; simp
  by_cases h4 : k = 4
  · subst h4; simp
  simp [h1, h2, h3, h4]
set_option maxHeartbeats 1000000 in
theorem hasN (b1 b2 b3 b4 : Bool) (k : Int) (w : World) :
    Calls Tryz.prog 60 #[.agg #[.bool b1, .bool b2, .bool b3, .bool b4], .int .i64 k] w fun e w' => e = .returned (.bool (hasB k b1 b2 b3 b4)) ∧ Below w.heap.size w w' := by
  go_enter Tryz.func60, Tryz.ntmps60
  go_wp2_with fail
  obtain ⟨w0, hw0⟩ : ∃ w0, w0 = w.alloc (Obj.cells #[.bool b1, .bool b2, .bool b3, .bool b4] 92) := ⟨_, rfl⟩
  have hs0 : SN w b1 b2 b3 b4 w0 := by
    rw [hw0]
    refine ⟨?_, (Below.refl _ _).alloc (Nat.le_refl _) _, by simp⟩
    refine ⟨?_, ?_, ?_, ?_⟩ <;> simp [go_sem]
  rw [← hw0]
  clear hw0
  refine wp_region_held (S := SN w b1 b2 b3 b4) (by kernel_rfl) ?_
  change wpAnyH _ _ _ _ _ _ _ _ (World.drew _)
  have hS0 : SN w b1 b2 b3 b4 w0.drew := ⟨hs0.1, hs0.2.1.drew, hs0.2.2⟩
  refine takeW 0 5 (.agg #[.bool b1, .bool b2, .bool b3, .bool b4]) rfl rfl (by kernel_rfl) (by kernel_rfl) (by kernel_rfl) (fun _ _ _ h => h) (by kernel_rfl) (by (intro Y hSw; obtain ⟨⟨C1, C2, C3, C4⟩, _⟩ := hSw; go_simp)) (by assumption) ?_
  simp only [List.set_cons_zero, List.set_cons_succ]
  refine takeW 1 6 (.int .i64 k) rfl rfl (by kernel_rfl) (by kernel_rfl) (by kernel_rfl) (fun _ _ _ h => h) (by kernel_rfl) (by (intro w hSw; go_simp)) (by assumption) ?_
  simp only [List.set_cons_zero, List.set_cons_succ]
  refine takeW 3 8 (.agg #[.bool b1, .bool b2, .bool b3, .bool b4]) rfl rfl (by kernel_rfl) (by kernel_rfl) (by kernel_rfl) (fun _ _ _ h => h) (by kernel_rfl) (by (intro Y hSw; obtain ⟨⟨C1, C2, C3, C4⟩, _⟩ := hSw; go_simp)) (by assumption) ?_
  simp only [List.set_cons_zero, List.set_cons_succ]
  refine wpAnyH_all (rs := [2]) (by kernel_rfl) (by simp) ?_
  intro i hi; obtain rfl : i = 2 := by simpa using hi
  refine wpOp_step rfl (fun K hK => ?_)
  rw [if_pos (by kernel_rfl)]
  go_simp
  go_at_call 108
  refine (withN b1 b2 b3 b4 k false _).mono ?_
  rintro e y1 ⟨rfl, k1⟩
  have hS1 := hS0.later k1
  refine hK _ _ ⟨hS1, ?_⟩
  clear hK K hi
  refine takeW 4 9 (.bool (hasB k b1 b2 b3 b4)) rfl rfl (by kernel_rfl) (by kernel_rfl) (by kernel_rfl) (fun _ _ _ h => h) (by kernel_rfl) (by (intro Y hSw; go_simp; rw [eqNets]; simp only [Result.andThen_ok, has_eq])) (by assumption) ?_
  simp only [List.set_cons_zero, List.set_cons_succ]
  refine takeW 5 4 (.bool (hasB k b1 b2 b3 b4)) rfl rfl (by kernel_rfl) (by kernel_rfl) (by kernel_rfl) (fun _ _ _ h => h) (by kernel_rfl) (by (intro w hSw; go_simp)) (by assumption) ?_
  simp only [List.set_cons_zero, List.set_cons_succ]
  refine wpAnyH_done (by kernel_rfl) ?_ _
  go_wp2
  go_ret
  exact ⟨rfl, hS1.2.1⟩

end Go.Proofs.YtifndemkkaelaaaGreat
namespace Go.Proofs.YtifndemkkaelaaaGreat
open Go.ChangeShapes Go.WideShapes Go.ChangeAt Go.RowKit
open Go.ChangeMaps (open_string shut_string)
set_option linter.unusedVariables false

/-- Whether x is one of f 0, .., f (k-1). -/
def hasIn (f : Nat → Int) : Nat → Int → Bool
  | 0, _ => false
  | k + 1, x => hasIn f k x || decide (f k = x)
/-- Whether marking k turns anything. -/
def fresh (k : Int) (b1 b2 b3 b4 : Bool) : Bool := if k = 1 then !b1 else if k = 2 then !b2 else if k = 3 then !b3 else if k = 4 then !b4 else false
theorem fresh_eq (k : Int) (b1 b2 b3 b4 : Bool) : (put k true 1 b1 == b1 && (put k true 2 b2 == b2 && (put k true 3 b3 == b3 && put k true 4 b4 == b4))) = !(fresh k b1 b2 b3 b4) := by
  unfold put fresh
  by_cases h1 : k = 1
  · subst h1; cases b1 <;> simp
  by_cases h2 : k = 2
  · subst h2; cases b2 <;> simp
  by_cases h3 : k = 3
  · subst h3; cases b3 <;> simp
  by_cases h4 : k = 4
  · subst h4; cases b4 <;> simp
  simp [h1, h2, h3, h4]
theorem put_in (f : Nat → Int) (k : Nat) (i : Int) : put (f k) true i (hasIn f k i) = hasIn f (k + 1) i := by
  show _ = (hasIn f k i || decide (f k = i))
  unfold put
  by_cases h : f k = i
  · simp [h]
  · simp [h]
/-- Each of f 0, .., f (k-1) is a net, none twice. -/
def good (f : Nat → Int) : Nat → Bool
  | 0 => true
  | k + 1 => good f k && fresh (f k) (hasIn f k 1) (hasIn f k 2) (hasIn f k 3) (hasIn f k 4)
theorem good_le {f : Nat → Int} {k : Nat} (h : good f k = false) : ∀ {n : Nat}, k ≤ n → good f n = false := by
  intro n hn
  induction hn with
  | refl => exact h
  | step _ ih => show (good f _ && _) = false; rw [ih]; rfl
/-- The slice at 'ad' of 'len' integers reads as f 0, f 1, .. -/
def ViewI (w : World) (ad : Option Addr) (len : Nat) (f : Nat → Int) : Prop :=
  0 < len → ∃ b off, ad = some ⟨b, off, none⟩ ∧ ∀ i, i < len → w.cell? ⟨b, off + i, none⟩ = some (.int .i64 (f i))
theorem ViewI.carry {w w' : World} {ad : Option Addr} {len : Nat} {f : Nat → Int} (h : ViewI w ad len f) (hb : ∀ a, ad = some a → 0 < len → w'.heap[a.block]? = w.heap[a.block]?) : ViewI w' ad len f :=
  fun hp => by
    obtain ⟨b, off, e, hc⟩ := h hp
    exact ⟨b, off, e, fun i hi => (World.cell?_of_block (a := ⟨b, off + i, none⟩) (hb ⟨b, off, none⟩ e hp)).trans (hc i hi)⟩
theorem ViewI.lt {w : World} {ad : Option Addr} {len : Nat} {f : Nat → Int} (h : ViewI w ad len f) (x : Addr) (e : ad = some x) (hp : 0 < len) : x.block < w.heap.size := by
  obtain ⟨b, off, e', hc⟩ := h hp
  rw [e] at e'
  cases e'
  exact World.block_lt_of_cell? w _ (hc 0 hp)
theorem ViewI.below {w w' : World} {ad : Option Addr} {len B : Nat} {f : Nat → Int} (h : ViewI w ad len f) (k : Below B w w') (hB : w.heap.size ≤ B) : ViewI w' ad len f :=
  h.carry (fun x e hp => k.block _ (Nat.lt_of_lt_of_le (h.lt x e hp) hB))
/-- What netsOf's loop keeps. -/
structure NO (w : World) (f : Nat → Int) (k : Nat) (y : World) : Prop where
  bel : Below w.heap.size w y
  size : w.heap.size + 1 < y.heap.size
  res : NetAt y w.heap.size false false false false
  rfz : ∀ i, y.frozen? ⟨w.heap.size, i, none⟩ = false
  all : NetAt y (w.heap.size + 1) (hasIn f k 1) (hasIn f k 2) (hasIn f k 3) (hasIn f k 4)
  afz : ∀ i, y.frozen? ⟨w.heap.size + 1, i, none⟩ = false
theorem NO.later {w : World} {f : Nat → Int} {k : Nat} {y y' : World} (h : NO w f k y) (b : Below y.heap.size y y') : NO w f k y' := by
  have hs := h.size
  have e0 := b.block w.heap.size (by omega)
  have e1 := b.block (w.heap.size + 1) (by omega)
  exact ⟨h.bel.trans (b.mono (by omega)), by have := b.size; omega, h.res.same e0, fun i => (World.frozen?_of_block (a := ⟨w.heap.size, i, none⟩) e0).trans (h.rfz i), h.all.same e1, fun i => (World.frozen?_of_block (a := ⟨w.heap.size + 1, i, none⟩) e1).trans (h.afz i)⟩
theorem NO.step {w : World} {f : Nat → Int} {k : Nat} {y : World} (h : NO w f k y) : NO w f (k + 1) ((((y.setCell ⟨w.heap.size + 1, 0, none⟩ (.bool (hasIn f (k + 1) 1))).setCell ⟨w.heap.size + 1, 1, none⟩ (.bool (hasIn f (k + 1) 2))).setCell ⟨w.heap.size + 1, 2, none⟩ (.bool (hasIn f (k + 1) 3))).setCell ⟨w.heap.size + 1, 3, none⟩ (.bool (hasIn f (k + 1) 4))) := by
  obtain ⟨h1, h2, h3, h4, ⟨a1, a2, a3, a4⟩, h6⟩ := h
  refine ⟨(((h1.setCell (by simp) _).setCell (by simp) _).setCell (by simp) _).setCell (by simp) _, by simpa using h2, h3.same ?_, fun i => by simpa using h4 i, ?_, fun i => by simpa using h6 i⟩
  · rw [Below.heap_setCell _ _ _ _ (by simp), Below.heap_setCell _ _ _ _ (by simp), Below.heap_setCell _ _ _ _ (by simp), Below.heap_setCell _ _ _ _ (by simp)]
  · refine ⟨?_, ?_, ?_, ?_⟩ <;> simp [go_sem, *]
set_option maxHeartbeats 1000000 in
theorem netsOf (ad : Option Addr) (len cap : Nat) (f : Nat → Int) (w : World) (hv : ViewI w ad len f) (hm : len ≤ maxLen) :
    Calls Tryz.prog 106 #[.slice ad len cap] w fun e w' => e = .returned (.agg #[.bool (good f len && hasIn f len 1), .bool (good f len && hasIn f len 2), .bool (good f len && hasIn f len 3), .bool (good f len && hasIn f len 4)]) ∧ Below w.heap.size w w' := by
  unfold maxLen at hm
  obtain ⟨w0, hw0⟩ : ∃ w0, w0 = (w.alloc (Obj.cells #[.bool false, .bool false, .bool false, .bool false] 92)).alloc (Obj.cells #[.bool false, .bool false, .bool false, .bool false] 92) := ⟨_, rfl⟩
  have M0 : NO w f 0 w0 := by
    rw [hw0]
    refine ⟨((Below.refl _ _).alloc (Nat.le_refl _) _).alloc (by simp) _, by simp, ?_, fun i => by simp [go_sem], ?_, fun i => by simp [go_sem]⟩
    · refine ⟨?_, ?_, ?_, ?_⟩ <;> simp [go_sem]
    · refine ⟨?_, ?_, ?_, ?_⟩ <;> simp [go_sem, hasIn]
  go_enter Tryz.func106, Tryz.ntmps106
  go_wp2
  rw [← hw0]
  clear hw0
  go_loopw [9] (fun i wr => ∃ k : Nat, k ≤ len ∧ i = .int .i64 k ∧ good f k = true ∧ NO w f k wr) (fun i _ => len - (intOf i).toNat)
  case atStart => exact ⟨0, Nat.zero_le _, rfl, rfl, M0⟩
  case round =>
    obtain ⟨k, hk, rfl, hg, M⟩ := hrel
    clear M0
    by_cases hlt : k < len
    · obtain ⟨b, off, rfl, hc⟩ := hv (by omega)
      have hck : wr.cell? ⟨b, off + k, none⟩ = some (.int .i64 (f k)) := (M.bel.cell (p := ⟨b, off + k, none⟩) (hv.lt ⟨b, off, none⟩ rfl (by omega))).trans (hc k hlt)
      obtain ⟨C1, C2, C3, C4⟩ := M.all
      go_wp2_with fail
      go_at_call 108
      refine (withN _ _ _ _ (f k) true wr).mono ?_
      rintro e w1 ⟨rfl, k1⟩
      have M1 := M.later k1
      have hE : ∀ y : World, (Op.equalIn 10000 92 (.agg #[.bool (hasIn f (k + 1) 1), .bool (hasIn f (k + 1) 2), .bool (hasIn f (k + 1) 3), .bool (hasIn f (k + 1) 4)]) (.agg #[.bool (hasIn f k 1), .bool (hasIn f k 2), .bool (hasIn f k 3), .bool (hasIn f k 4)])).run Tryz.prog y = .ok (!(fresh (f k) (hasIn f k 1) (hasIn f k 2) (hasIn f k 3) (hasIn f k 4))) y := fun y => by
        rw [eqNets, ← put_in, ← put_in, ← put_in, ← put_in, fresh_eq]
      rw [put_in, put_in, put_in, put_in]
      obtain ⟨x, hx⟩ : ∃ x, x = w1.alloc (Obj.cells #[.bool (hasIn f (k + 1) 1), .bool (hasIn f (k + 1) 2), .bool (hasIn f (k + 1) 3), .bool (hasIn f (k + 1) 4)] 92) := ⟨_, rfl⟩
      have kx : Below w1.heap.size w1 x := by rw [hx]; exact (Below.refl _ _).alloc (Nat.le_refl _) _
      have Mx := M1.later kx
      obtain ⟨D1, D2, D3, D4⟩ := Mx.all
      obtain ⟨R1, R2, R3, R4⟩ := Mx.res
      have f0 := Mx.rfz 0
      have f1 := Mx.rfz 1
      have f2 := Mx.rfz 2
      have f3 := Mx.rfz 3
      have g0 := Mx.afz 0
      have g1 := Mx.afz 1
      have g2 := Mx.afz 2
      have g3 := Mx.afz 3
      clear C1 C2 C3 C4 hck
      cases hfr : fresh (f k) (hasIn f k 1) (hasIn f k 2) (hasIn f k 3) (hasIn f k 4) with
      | false =>
        have hb : good f len = false := good_le (k := k + 1) (by show (good f k && _) = false; rw [hfr, Bool.and_false]) (by omega)
        simp only [hfr] at hE
        rw [hx] at D1 D2 D3 D4 R1 R2 R3 R4 f0 f1 f2 f3
        have hb' : Hid (good f len = false) := hb
        clear hfr hg hb
        go_wp2
        rw [hx] at Mx
        refine bodyPost_ret (v := .agg #[.bool false, .bool false, .bool false, .bool false]) (by simp [results, Tryz.results106, go_sem, *]) rfl ⟨by rw [hb'.out]; rfl, ?_⟩
        exact (((Mx.bel.setCell (by simp) _).setCell (by simp) _).setCell (by simp) _).setCell (by simp) _
      | true =>
        simp only [hfr] at hE
        have hb : good f (k + 1) = true := by show (good f k && _) = true; rw [hfr, hg]; rfl
        rw [hx] at D1 D2 D3 D4 g0 g1 g2 g3
        go_wp2
        rw [← hx]
        go_roundw
        case rel => exact ⟨k + 1, by omega, by go_num, hb, Mx.step⟩
        case measure => simp [intOf]; omega
    · obtain rfl : k = len := by omega
      obtain ⟨C1, C2, C3, C4⟩ := M.all
      obtain ⟨R1, R2, R3, R4⟩ := M.res
      have f0 := M.rfz 0
      have f1 := M.rfz 1
      have f2 := M.rfz 2
      have f3 := M.rfz 3
      go_wp2
      refine bodyPost_ret (v := .agg #[.bool (hasIn f k 1), .bool (hasIn f k 2), .bool (hasIn f k 3), .bool (hasIn f k 4)]) (by simp [results, Tryz.results106, go_sem, *]) rfl ⟨by rw [hg]; rfl, ?_⟩
      exact (((M.bel.setCell (by simp) _).setCell (by simp) _).setCell (by simp) _).setCell (by simp) _

end Go.Proofs.YtifndemkkaelaaaGreat
namespace Go.Proofs.YtifndemkkaelaaaGreat
open Go.ChangeShapes Go.WideShapes Go.ChangeAt Go.RowKit
open Go.ChangeMaps (open_string shut_string)
set_option linter.unusedVariables false

theorem nanI (x : Int) (w : World) : Calls Tryz.prog 139 #[.int .i64 x] w fun e w' => e = .returned (.bool false) ∧ w' = w := by
  go_enter Tryz.func139, Tryz.ntmps139
  go_wp2
  go_ret
  exact ⟨rfl, rfl⟩

end Go.Proofs.YtifndemkkaelaaaGreat
