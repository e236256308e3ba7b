/-    The steps of a region that draws its order, in short.       -/
import Derived.Test.YthgcbihhdbpbdaaGreatRM1
import Derived.Deep.RegionHeld
import Derived.WalkLawsBesides
import Derived.Laws.AppendOwn
import Derived.Maps.AppendAt
import Derived.Laws.AppendOwnNone
namespace Go.Proofs.YthgcbihhdbpbdaaGreat
open Go.ChangeShapes Go.WideShapes Go.ChangeAt Go.RowKit
open Go.ChangeMaps (open_string shut_string)
set_option linter.unusedVariables false
set_option maxRecDepth 100000
set_option maxHeartbeats 32000000
set_option linter.unusedSimpArgs false
open Go.Proofs.Tryz
attribute [local go_sem] ji ja
theorem Kq {P : Program} {ops : Array Oper} {Q : Exit → Act → World → Prop} {md : Region.Mode} {S : World → Prop} (i d : Nat) (v : Value) {oi : Oper} {fuel : Nat} {listed : Array Bool} {l : List Value} {ds : List Deferred} {w : World} (hi : ops[i]? = some oi) (hd : oi.dst = some d)
  (hs : Region.noSelect ops = true) (hf : Region.free md ops listed i = true) (hr : (Region.ready md ops listed).contains i = true)
  (hQ : ∀ c a w, Q (.panic c) (a.put oi.dst v) w → Q (.panic c) a w) (hw : Region.wanted oi (yielded ops l.toArray) = true) (hy : ∀ w, S w → (execOp (Act.eval ⟨l.toArray, ds⟩) oi).run P w = .ok (.value v) w) (hS : S w)
  (h : wpAnyH P md ops Q S fuel (listed.setIfInBounds i true) ⟨(l.set d v).toArray, ds⟩ w) : wpAnyH P md ops Q S (fuel + 1) listed ⟨l.toArray, ds⟩ w := by
 refine wpAnyH_take (v := v) hi hs hf hr hQ (.inl ⟨hw, hy⟩) hS ?_;have e : (Act.mk l.toArray ds).put oi.dst v = ⟨(l.set d v).toArray, ds⟩ := by rw [hd]; simp [Act.put]
 rw [e];exact h
theorem Kr {P : Program} {ops : Array Oper} {Q : Exit → Act → World → Prop} {md : Region.Mode} {S : World → Prop} (i d : Nat) {oi : Oper} {fuel : Nat} {listed : Array Bool} {l : List Value} {ds : List Deferred} {w : World} (hi : ops[i]? = some oi) (hd : oi.dst = some d)
  (hs : Region.noSelect ops = true) (hf : Region.free md ops listed i = true) (hr : (Region.ready md ops listed).contains i = true)
  (hQ : ∀ c a w, Q (.panic c) (a.put oi.dst undef) w → Q (.panic c) a w) (hw : Region.wanted oi (yielded ops l.toArray) = false) (hS : S w)
  (h : wpAnyH P md ops Q S fuel (listed.setIfInBounds i true) ⟨(l.set d undef).toArray, ds⟩ w) : wpAnyH P md ops Q S (fuel + 1) listed ⟨l.toArray, ds⟩ w := by
 refine wpAnyH_take (v := undef) hi hs hf hr hQ (.inr ⟨hw, rfl⟩) hS ?_;have e : (Act.mk l.toArray ds).put oi.dst undef = ⟨(l.set d undef).toArray, ds⟩ := by rw [hd]; simp [Act.put]
 rw [e];exact h
theorem AR {P : Program} {ops : Array Oper} {Q : Exit → Act → World → Prop} {id : Nat} {a : Act} {w : World} (S : World → Prop) (h : ∀ y, Bw w y → wpAnyH P .any ops Q S ops.size (Array.replicate ops.size false) a y) (hm : P.follows .mixedOrders = true := by kernel_rfl) : (Code.region id ops true).wp P Q a w := wp_region_held hm (h _ (Below.refl _ _).drew)
theorem AM {P : Program} {md : Region.Mode} {ops : Array Oper} {Q : Exit → Act → World → Prop} {S : World → Prop} {listed : Array Bool} {a : Act} {w : World} {n : Nat} (h : Q .normal a w) (hr : Region.ready md ops listed = [] := by kernel_rfl) : wpAnyH P md ops Q S n listed a w := wpAnyH_done hr h n
theorem Am {P : Program} {ops : Array Oper} {Q : Exit → Act → World → Prop} {i : Nat} {o : Oper} {K : Act → World → Prop} {a : Act} {w : World} (ho : ops[i]? = some o) (h : ∀ K' : Act → World → Prop, (∀ a w, K a w → K' a w) → Oper.wp P o a w K' Q) (hw : Region.wanted o (yielded ops a.tmps) = true := by kernel_rfl) : wpOp P ops Q i K a w := wpOp_step ho (fun K' hK => by rw [if_pos hw]; exact h K' hK)
def DH (P : Program) (md : Region.Mode) (ops : Array Oper) (Q : Exit → Act → World → Prop) (S : World → Prop) (z : Nat) : Nat → Array Bool → Act → World → Prop
 | 0, li, a, w => Region.ready md ops li = [] ∧ Q .normal a w
 | n + 1, li, a, w => (Region.ready md ops li = [] → Q .normal a w) ∧ ∀ i ∈ Region.ready md ops li, wpOp P ops Q i (fun a' w' => (i ≠ z → S w') ∧ DH P md ops Q S z n (li.setIfInBounds i true) a' w') a w
theorem JT {P : Program} {md : Region.Mode} {ops : Array Oper} {Q : Exit → Act → World → Prop} {S : World → Prop} {z : Nat} (n : Nat) : ∀ (li : Array Bool) (a : Act) (w : World), DH P md ops Q S z n li a w → wpAny P md ops Q n li a w := by
 induction n with
 | zero => exact fun _ _ _ h => h
 | succ n ih => exact fun _ _ _ h => ⟨h.1, fun i hi => wpOp_mono (fun a' w' r => ih _ a' w' r.2) (h.2 i hi)⟩
theorem Iv {P : Program} {md : Region.Mode} {ops : Array Oper} {Q : Exit → Act → World → Prop} {S : World → Prop} {z i : Nat} {oi oz : Oper} {v : Value} (hi : ops[i]? = some oi) (hz : ops[z]? = some oz) (hza : oz.after.any (fun e => Region.binds md e && e.on == i) = true) (hsel : ∀ (j : Nat) (o : Oper) cs b, ops[j]? = some o → o.op ≠ .select cs b) (hQ : ∀ c a w, Q (.panic c) (a.put oi.dst v) w → Q (.panic c) a w) (n : Nat) :
  ∀ (li : Array Bool) (a : Act) (w : World), (∀ j oj, ops[j]? = some oj → j ≠ i → li.getD j true = false → (∀ e ∈ oj.after, Region.binds md e = true → e.on ≠ i) → oi.apart ops oj = true) → i ∈ Region.ready md ops li → YieldsIf P ops S oi v a → S w → DH P md ops Q S z n (li.setIfInBounds i true) (a.put oi.dst v) w → DH P md ops Q S z (n + 1) li a w := by
 induction n with
 | zero =>
  intro li a w _ hr hy hS h;refine ⟨fun e => absurd hr (by rw [e]; simp), fun j hj => ?_⟩;rcases Decidable.em (j = i) with rfl | e
  ·
   exact hy.wpOp hi hS ⟨fun _ => hS, h⟩
  exact absurd (ready_mono hj e) (by rw [h.1]; simp)
 | succ n ih =>
  intro li a w hf hr hy hS h;refine ⟨fun e => absurd hr (by rw [e]; simp), fun j hj => ?_⟩;rcases Decidable.em (j = i) with rfl | e
  ·
   exact hy.wpOp hi hS ⟨fun _ => hS, h⟩
  obtain ⟨hju, oj, ho, hal⟩ := mem_ready.1 hj;have hiu := (mem_ready.1 hr).1;have hno : ∀ y ∈ oj.after, Region.binds md y = true → y.on ≠ i := by
   intro y hy_ hb q;have t := hal y hy_ hb;rw [q] at t;by_cases hs : i < li.size
   ·
    simp [hs] at hiu t
    rw [hiu] at t;cases t
   simp [Array.getElem?_eq_none (Nat.le_of_not_lt hs)] at hiu
  have hjz : j ≠ z := by
   rintro rfl;obtain rfl := Option.some.inj (ho.symm.trans hz);obtain ⟨y, hm, hy_⟩ := Array.any_eq_true'.1 hza;simp only [Bool.and_eq_true, beq_iff_eq] at hy_;exact hno y hm hy_.1 hy_.2
  refine wpOp_mono (fun a' w' r => ⟨r.2.1, ih _ a' w' (fun k ok hk hne hu hn => hf k ok hk hne (by rcases Decidable.em (j = k) with rfl | q; exact hju; rwa [getD_set_ne true q] at hu) hn) (ready_mono hr (fun q => e q.symm)) r.1 (r.2.1 hjz) (by rw [Array.setIfInBounds_comm _ _ e]; exact r.2.2)⟩) (wpOp_putIf ho (hf j oj ho e hju hno) (fun cs b => hsel i oi cs b hi) (fun cs b => hsel j oj cs b ho) hQ hy (h.2 j (ready_mono hj e)))
theorem DK {P : Program} {ops : Array Oper} {Q : Exit → Act → World → Prop} {md : Region.Mode} {S : World → Prop} {z : Nat} (i d : Nat) (v : Value) {oi oz : Oper} {n : Nat} {li : Array Bool} {l : List Value} {ds : List Deferred} {w : World} (hi : ops[i]? = some oi) (hd : oi.dst = some d) (hy : ∀ w, S w → (execOp (Act.eval ⟨l.toArray, ds⟩) oi).run P w = .ok (.value v) w) (hS : S w)
  (h : DH P md ops Q S z n (li.setIfInBounds i true) ⟨(l.set d v).toArray, ds⟩ w) (hz : ops[z]? = some oz := by rfl) (hza : oz.after.any (fun e => Region.binds md e && e.on == i) = true := by kernel_rfl)
  (hs : Region.noSelect ops = true := by kernel_rfl) (hf : Region.free md ops li i = true := by kernel_rfl) (hr : (Region.ready md ops li).contains i = true := by kernel_rfl)
  (hQ : ∀ c a w, Q (.panic c) (a.put oi.dst v) w → Q (.panic c) a w := by exact fun _ _ _ h => h) (hw : Region.wanted oi (yielded ops l.toArray) = true := by kernel_rfl) : DH P md ops Q S z (n + 1) li ⟨l.toArray, ds⟩ w := by
 refine Iv hi hz hza (Region.noSelect_spec hs) hQ n li _ w (Region.free_spec hi hf) (by simpa using hr) (.inl ⟨hw, hy⟩) hS ?_;have e : (Act.mk l.toArray ds).put oi.dst v = ⟨(l.set d v).toArray, ds⟩ := by rw [hd]; simp [Act.put]
 rw [e];exact h
theorem Dg {P : Program} {md : Region.Mode} {ops : Array Oper} {Q : Exit → Act → World → Prop} {S : World → Prop} {z : Nat} (i : Nat) {n : Nat} {li : Array Bool} {a : Act} {w : World} (h : wpOp P ops Q i (fun a' w' => (i ≠ z → S w') ∧ DH P md ops Q S z n (li.setIfInBounds i true) a' w') a w) (hr : Region.ready md ops li = [i] := by kernel_rfl) : DH P md ops Q S z (n + 1) li a w := by
 refine ⟨fun e => absurd (hr.symm.trans e) (by simp), fun j hj => ?_⟩;rw [hr] at hj;obtain rfl : j = i := by simpa using hj
 exact h
theorem Em {P : Program} {md : Region.Mode} {ops : Array Oper} {Q : Exit → Act → World → Prop} {S : World → Prop} {z : Nat} {li : Array Bool} {a : Act} {w : World} (h : Q .normal a w) (hr : Region.ready md ops li = [] := by kernel_rfl) : DH P md ops Q S z 0 li a w := ⟨hr, h⟩
theorem FD {P : Program} {ops : Array Oper} {Q : Exit → Act → World → Prop} (S : World → Prop) (z : Nat) {id : Nat} {a : Act} {w : World} (h : ∀ y, y = w.drew → DH P .any ops Q S z ops.size (Array.replicate ops.size false) a y) (hm : P.follows .mixedOrders = true := by kernel_rfl) : (Code.region id ops true).wp P Q a w :=
 wp_region_any hm (JT _ _ _ _ (h _ rfl))
theorem tl {P : Program} {ops : Array Oper} {Q : Exit → Act → World → Prop} {md : Region.Mode} {S : World → Prop} {z : Nat} (i d : Nat) (v : Value) {oi oz : Oper} {n : Nat} {li : Array Bool} {l l2 : List Value} {ds : List Deferred} {w : World}
 (h : DH P md ops Q S z n (li.setIfInBounds i true) ⟨l2.toArray, ds⟩ w) (hi : ops[i]? = some oi := by exact rfl) (hd : oi.dst = some d := by exact rfl) (hz : ops[z]? = some oz := by exact rfl) (hza : oz.after.any (fun e => Region.binds md e && e.on == i) = true := by kernel_rfl)
 (hs : Region.noSelect ops = true := by kernel_rfl) (hf : Region.free md ops li i = true := by kernel_rfl) (hr : (Region.ready md ops li).contains i = true := by kernel_rfl) (hQ : ∀ c a w, Q (.panic c) (a.put oi.dst v) w → Q (.panic c) a w := by exact fun _ _ _ h => h) (hw : Region.wanted oi (yielded ops l.toArray) = true := by kernel_rfl)
 (hy : ∀ w, S w → (execOp (Act.eval ⟨l.toArray, ds⟩) oi).run P w = .ok (.value v) w := by (intro w hSw; go_simp)) (hS : S w := by assumption) (hl : l.set d v = l2 := by simp only [List.set_cons_zero, List.set_cons_succ]; rfl) : DH P md ops Q S z (n + 1) li ⟨l.toArray, ds⟩ w := by
 subst hl;exact DK i d v hi hd hy hS h hz hza hs hf hr hQ hw
theorem wl {P : Program} {ops : Array Oper} {Q : Exit → Act → World → Prop} {md : Region.Mode} {S : World → Prop} {z : Nat} (i : Nat) {oi : Oper} {n : Nat} {li : Array Bool} {a : Act} {w : World} (h : ∀ K : Act → World → Prop, (∀ a' w', ((i ≠ z → S w') ∧ DH P md ops Q S z n (li.setIfInBounds i true) a' w') → K a' w') → Oper.wp P oi a w K Q) (hr : Region.ready md ops li = [i] := by kernel_rfl) (ho : ops[i]? = some oi := by exact rfl) (hw : Region.wanted oi (yielded ops a.tmps) = true := by kernel_rfl) : DH P md ops Q S z (n + 1) li a w := by
 refine Dg i ?_ hr;refine wpOp_step ho (fun K hK => ?_);rw [if_pos hw];exact h K hK
theorem G2 {P : Program} {ops : Array Oper} {Q : Exit → Act → World → Prop} {id : Nat} {a : Act} {w : World} (S : World → Prop) (z : Nat) (h : ∀ y, Bw w y → DH P .any ops Q S z ops.size (Array.replicate ops.size false) a y) (hm : P.follows .mixedOrders = true := by kernel_rfl) : (Code.region id ops true).wp P Q a w := FD S z (fun y hy => h y (by rw [hy]; exact (Below.refl _ _).drew)) hm
def Ac {X : Type} (enc : X → List Value) : List X → List Value
 | [] => []
 | x :: L => enc x ++ Ac enc L
theorem EP {X : Type} {enc : X → List Value} {n : Nat} (hn : ∀ x, (enc x).length = n) (L : List X) : (Ac enc L).length = L.length * n := by
 induction L with
 | nil => simp [Ac]
 | cons x L ih => simp only [Ac, List.length_append, hn, ih, List.length_cons, Nat.add_mul]; omega
theorem FH {X : Type} {enc : X → List Value} (A B : List X) : Ac enc (A ++ B) = Ac enc A ++ Ac enc B := by
 induction A with
 | nil => rfl
 | cons x A ih => simp [Ac, ih]
theorem FK {X : Type} {enc : X → List Value} {n : Nat} (hn : ∀ x, (enc x).length = n) (d : X) (L : List X) : ∀ (i j : Nat), i < L.length → j < n → (Ac enc L)[i * n + j]? = (enc (L.getD i d))[j]? := by
 induction L with
 | nil => intro i j h; simp at h
 | cons x L ih =>
  intro i j hi hj;cases i with
  | zero => simp only [Ac, Nat.zero_mul, Nat.zero_add, List.getD_cons_zero]; rw [List.getElem?_append_left (by rw [hn]; exact hj)]
  | succ i =>
   simp only [Ac, List.getD_cons_succ];rw [List.getElem?_append_right (by rw [hn, Nat.add_mul]; omega), hn, show (i + 1) * n + j - n = i * n + j by rw [Nat.add_mul]; omega];exact ih i j (by simpa using hi) hj
def AH {X : Type} (enc : X → List Value) (w : World) (ad : Option Addr) (L : List X) : Prop :=
 0 < L.length → ∃ b off, ad = some (ja b off) ∧ ∀ j v, (Ac enc L)[j]? = some v → w.cell? ⟨b, off + j, none⟩ = some v
theorem AH.nil {X : Type} {enc : X → List Value} {w : World} {ad : Option Addr} : AH enc w ad [] := fun h => absurd h (by simp)
theorem AH.lt {X : Type} {enc : X → List Value} {n : Nat} (hn : ∀ x, (enc x).length = n) (h0 : 0 < n) {w : World} {ad : Option Addr} {L : List X} (h : AH enc w ad L) : ∀ a, ad = some a → 0 < L.length → a.block < w.heap.size := by
 intro a e hp;obtain ⟨b, off, e2, hc⟩ := h hp;rw [e2] at e;cases e
 have hl : 0 < (Ac enc L).length := by rw [EP hn]; exact Nat.mul_pos hp h0
 exact World.block_lt_of_cell? w _ (hc 0 _ (List.getElem?_eq_getElem hl))
theorem AH.carry {X : Type} {enc : X → List Value} {w w' : World} {ad : Option Addr} {L : List X} (h : AH enc w ad L) (hb : ∀ a, ad = some a → 0 < L.length → w'.heap[a.block]? = w.heap[a.block]?) : AH enc w' ad L :=
 fun hp => by
  obtain ⟨b, off, e, hc⟩ := h hp
  exact ⟨b, off, e, fun j v hv => (World.cell?_of_block (a := ⟨b, off + j, none⟩) (hb (ja b off) e hp)).trans (hc j v hv)⟩
theorem AH.below {X : Type} {enc : X → List Value} {w w' : World} {ad : Option Addr} {L : List X} {B : Nat} (h : AH enc w ad L) (k : Below B w w') (hb : ∀ a, ad = some a → 0 < L.length → a.block < B) : AH enc w' ad L :=
 h.carry fun a e hp => k.block _ (hb a e hp)
theorem AH.at_ {X : Type} {enc : X → List Value} {n : Nat} (hn : ∀ x, (enc x).length = n) (d : X) {w : World} {b off : Nat} {L : List X} (h : AH enc w (some (ja b off)) L) {i : Nat} (hi : i < L.length) : ∀ j v, (enc (L.getD i d))[j]? = some v → w.cell? ⟨b, off + i * n + j, none⟩ = some v := by
 intro j v hv;obtain ⟨b', off', e, hc⟩ := h (by omega);simp only [Option.some.injEq, Addr.mk.injEq, and_true] at e;obtain ⟨rfl, rfl⟩ := e;have hj : j < n := by
  rw [← hn (L.getD i d)];exact (List.getElem?_eq_some_iff.1 hv).1
 have := hc (i * n + j) v ((FK hn d L i j hi hj).trans hv);rw [Nat.add_assoc];exact this
def CN (w : World) (g : Nat) : Nat → List Value → World
 | _, [] => w
 | o, v :: vs => CN (w.setCell (ja g o) v) g (o + 1) vs
def E3 (xs : List Value) : Nat → List Value → List Value
 | _, [] => xs
 | o, v :: vs => E3 (xs.set o v) (o + 1) vs
theorem HW (vs : List Value) : ∀ (xs : List Value) (o j : Nat), o + vs.length ≤ xs.length → (E3 xs o vs)[j]? = if o ≤ j ∧ j < o + vs.length then vs[j - o]? else xs[j]? := by
 induction vs with
 | nil => intro xs o j h; rw [if_neg (by simp)]; rfl
 | cons v vs ih =>
  intro xs o j h;simp only [E3, List.length_cons] at h ⊢;rw [ih (xs.set o v) (o + 1) j (by simp; omega)];by_cases h1 : o = j
  ·
   subst h1;rw [if_neg (by omega), if_pos (by omega), List.getElem?_set_self (by omega)];simp
  by_cases h2 : o + 1 ≤ j ∧ j < o + 1 + vs.length
  ·
   rw [if_pos h2, if_pos (by omega), show j - o = (j - (o + 1)) + 1 by omega, List.getElem?_cons_succ]
  rw [if_neg h2, if_neg (by omega), List.getElem?_set_ne h1]
theorem HG {X : Type} {enc : X → List Value} {n : Nat} (hn : ∀ x, (enc x).length = n) (h0 : 0 < n) (d : X) (L : List X) (i : Nat) (hi : i < L.length) (x : X) : E3 (Ac enc L) (i * n) (enc x) = Ac enc (L.set i x) := by
 have hle : i * n + n ≤ L.length * n := by
  have := Nat.mul_le_mul_right n (show i + 1 ≤ L.length from hi);rw [Nat.add_mul] at this;omega
 apply List.ext_getElem?
 intro j;rw [HW _ _ _ _ (by rw [EP hn, hn]; exact hle), hn];by_cases hj : j < L.length * n
 ·
  have e : j = j / n * n + j % n := by rw [Nat.mul_comm]; exact (Nat.div_add_mod j n).symm
  have hq : j / n < L.length := Nat.div_lt_of_lt_mul (by rw [Nat.mul_comm]; exact hj);have hr : j % n < n := Nat.mod_lt _ h0;have r1 : (Ac enc (L.set i x))[j]? = (enc ((L.set i x).getD (j / n) d))[j % n]? := by
   conv => lhs; rw [e]
   exact FK hn d _ _ _ (by simpa using hq) hr
  have r2 : (Ac enc L)[j]? = (enc (L.getD (j / n) d))[j % n]? := by
   conv => lhs; rw [e]
   exact FK hn d _ _ _ hq hr
  rw [r1, r2];by_cases hi2 : j / n = i
  ·
   have hjm : i * n + j % n = j := by rw [← hi2]; exact e.symm
   rw [if_pos (by omega), show j - i * n = j % n by omega, hi2];simp [List.getD, hi]
  have hno : ¬ (i * n ≤ j ∧ j < i * n + n) := by
   rintro ⟨a1, a2⟩;apply hi2
   rw [Nat.div_eq_of_lt_le]
   ·
    exact a1
   rw [Nat.add_mul]; omega
  rw [if_neg hno];simp [List.getD, List.getElem?_set_ne (Ne.symm hi2)]
 have l1 : (Ac enc L)[j]? = none := List.getElem?_eq_none (by rw [EP hn]; omega);have l2 : (Ac enc (L.set i x))[j]? = none := List.getElem?_eq_none (by rw [EP hn]; simp; omega);rw [l1, l2, if_neg (by omega)]
def AD {X : Type} (enc : X → List Value) (n : Nat) (T : TypeId) (base : Nat) (w : World) (v : Value) (L : List X) : Prop := w.ownsRow base T n v L.length (Ac enc L)
theorem AD.keep {X : Type} {enc : X → List Value} {n : Nat} {T : TypeId} {base : Nat} {w w' : World} {v : Value} {L : List X} (h : AD enc n T base w v L) (k : ∀ g, v.ownBlock = some g → w'.heap[g]? = w.heap[g]?) : AD enc n T base w' v L := by
 obtain ⟨h1, h2⟩ := h;refine ⟨h1, ?_⟩;rcases h2 with q | ⟨g, cap, cur, rfl, hb, hg, r⟩
 ·
  exact .inl q
 exact .inr ⟨g, cap, cur, rfl, hb, (k g rfl).trans hg, r⟩
theorem AD.lt {X : Type} {enc : X → List Value} {n : Nat} {T : TypeId} {base : Nat} {w : World} {v : Value} {L : List X} (h : AD enc n T base w v L) : ∀ k, v.ownBlock = some k → base ≤ k ∧ k < w.heap.size := World.ownsRow.lt h
theorem AD.below {X : Type} {enc : X → List Value} {n : Nat} {T : TypeId} {base B : Nat} {w w' : World} {v : Value} {L : List X} (h : AD enc n T base w v L) (k : Below B w w') (hB : ∀ g, v.ownBlock = some g → g < B) : AD enc n T base w' v L := h.keep fun g e => k.block g (hB g e)
theorem AD.later {X : Type} {enc : X → List Value} {n : Nat} {T : TypeId} {base : Nat} {w w' : World} {v : Value} {L : List X} (h : AD enc n T base w v L) (k : Bw w w') : AD enc n T base w' v L := h.below k fun g e => (h.lt g e).2
theorem AD.view {X : Type} {enc : X → List Value} {n : Nat} {T : TypeId} {base : Nat} {w : World} {ad : Option Addr} {len cap : Nat} {L : List X} (h : AD enc n T base w (.slice ad len cap) L) : len = L.length ∧ AH enc w ad L := by
 obtain ⟨h1, h2⟩ := h;rcases h2 with ⟨e, e0⟩ | ⟨g, c, cur, e, hb, hg, hc, hm, hs, ht⟩
 ·
  cases e
  exact ⟨e0.symm, fun hp => absurd hp (by omega)⟩
 simp only [Value.slice.injEq] at e;obtain ⟨rfl, rfl, rfl⟩ := e;refine ⟨rfl, fun hp => ⟨g, 0, rfl, fun j v hv => ?_⟩⟩;have hj : j < L.length * n := by rw [← h1]; exact (List.getElem?_eq_some_iff.1 hv).1
 have own : w.ownsRow base T n (.slice (some (ja g 0)) L.length cap) L.length (Ac enc L) := ⟨h1, .inr ⟨g, cap, cur, rfl, hb, hg, hc, hm, hs, ht⟩⟩;rw [Nat.zero_add, own.cellAt j hj];exact hv
theorem HL {base : Nat} {T : TypeId} {n g m cap : Nat} (vs : List Value) : ∀ {w : World} {xs : List Value} (o : Nat), w.ownsRow base T n (.slice (some (ja g 0)) m cap) m xs → o + vs.length ≤ m * n → (CN w g o vs).ownsRow base T n (.slice (some (ja g 0)) m cap) m (E3 xs o vs) := by
 induction vs with
 | nil => intro w xs o h _; exact h
 | cons v vs ih =>
  intro w xs o h hl;simp only [CN, E3, List.length_cons] at hl ⊢;exact ih (o + 1) (h.stored o v).1 (by omega)
theorem AD.set {X : Type} {enc : X → List Value} {n : Nat} (hn : ∀ x, (enc x).length = n) (h0 : 0 < n) {T : TypeId} {base : Nat} {w : World} {g cap : Nat} {L : List X} (h : AD enc n T base w (.slice (some (ja g 0)) L.length cap) L) {i : Nat} (hi : i < L.length) (x : X) : AD enc n T base (CN w g (i * n) (enc x)) (.slice (some (ja g 0)) L.length cap) (L.set i x) := by
 have hle : i * n + n ≤ L.length * n := by
  have := Nat.mul_le_mul_right n (show i + 1 ≤ L.length from hi);rw [Nat.add_mul] at this;omega
 have := HL (enc x) (i * n) (show w.ownsRow base T n _ L.length (Ac enc L) from h) (by rw [hn]; exact hle);rw [HG hn h0 x L i hi x] at this;unfold AD;rw [List.length_set];exact this
theorem AD.app {X : Type} {enc : X → List Value} {n : Nat} {T : TypeId} {base : Nat} {w : World} {v : Value} {L M : List X} {m : Nat} (h : w.ownsRow base T n v m (Ac enc L ++ Ac enc M)) (hm : m = L.length + M.length) : AD enc n T base w v (L ++ M) := by
 unfold AD;rw [FH, List.length_append, ← hm];exact h
theorem AD.nil {X : Type} {enc : X → List Value} {n : Nat} {T : TypeId} {base : Nat} {w : World} : AD enc n T base w (.slice none 0 0) ([] : List X) := ⟨by simp [Ac], .inl ⟨rfl, rfl⟩⟩
theorem DD {g : Nat} (vs : List Value) : ∀ (w : World) (o k : Nat), k ≠ g → (CN w g o vs).heap[k]? = w.heap[k]? := by
 induction vs with
 | nil => intro w o k _; rfl
 | cons v vs ih => intro w o k hk; simp only [CN]; rw [ih _ _ k hk, AE hk]
theorem Ih {g : Nat} (vs : List Value) : ∀ (w : World) (o : Nat), (CN w g o vs).heap.size = w.heap.size := by
 induction vs with
 | nil => intro w o; rfl
 | cons v vs ih => intro w o; simp only [CN]; rw [ih]; simp
theorem DC {B g : Nat} {a : World} (hB : B ≤ g) (vs : List Value) : ∀ {w : World} (o : Nat), Below B a w → Below B a (CN w g o vs) := by
 induction vs with
 | nil => intro w o h; exact h
 | cons v vs ih => intro w o h; exact ih (o + 1) (h.setCell hB v)
def C8 {X : Type} (enc : X → List Value) (n : Nat) (T : TypeId) (base : Nat) (w : World) (g : Nat) (L : List X) (k : Nat) : Prop :=
 ∃ xs, w.ownsRow base T n (.slice (some (ja g 0)) L.length L.length) L.length xs ∧ ∀ j, j < k * n → xs[j]? = (Ac enc L)[j]?
theorem C8.start {X : Type} {enc : X → List Value} {n : Nat} {T : TypeId} {base : Nat} {w : World} {g : Nat} {L : List X} {xs : List Value} (h : w.ownsRow base T n (.slice (some (ja g 0)) L.length L.length) L.length xs) : C8 enc n T base w g L 0 := ⟨xs, h, fun j hj => by omega⟩
theorem C8.keep {X : Type} {enc : X → List Value} {n : Nat} {T : TypeId} {base : Nat} {w w' : World} {g : Nat} {L : List X} {k : Nat} (h : C8 enc n T base w g L k) (e : w'.heap[g]? = w.heap[g]?) : C8 enc n T base w' g L k := by
 obtain ⟨xs, ⟨h1, h2⟩, h3⟩ := h;refine ⟨xs, ⟨h1, ?_⟩, h3⟩;rcases h2 with q | ⟨g', cap, cur, q, hb, hg, r⟩
 ·
  exact .inl q
 simp only [Value.slice.injEq, Option.some.injEq, Addr.mk.injEq, and_true] at q;obtain ⟨rfl, q2⟩ := q;exact .inr ⟨g, cap, cur, by simp [q2], hb, e.trans hg, r⟩
theorem C8.lt {X : Type} {enc : X → List Value} {n : Nat} {T : TypeId} {base : Nat} {w : World} {g : Nat} {L : List X} {k : Nat} (h : C8 enc n T base w g L k) : base ≤ g ∧ g < w.heap.size := by
 obtain ⟨xs, h1, _⟩ := h;exact h1.lt g rfl
theorem C8.cell {X : Type} {enc : X → List Value} {n : Nat} {T : TypeId} {base : Nat} {w : World} {g : Nat} {L : List X} {k : Nat} (h : C8 enc n T base w g L k) (j : Nat) (hj : j < L.length * n) : ∃ u, w.cell? (ja g j) = some u := by
 obtain ⟨xs, h1, _⟩ := h;rw [h1.cellAt j hj];exact ⟨xs[j]'(by rw [h1.1]; exact hj), List.getElem?_eq_getElem _⟩
theorem C8.frozen {X : Type} {enc : X → List Value} {n : Nat} {T : TypeId} {base : Nat} {w : World} {g : Nat} {L : List X} {k : Nat} (h : C8 enc n T base w g L k) (j : Nat) : w.frozen? (ja g j) = false := by
 obtain ⟨xs, h1, _⟩ := h;exact h1.frozenAt j
theorem Ie {i m n : Nat} (h : i < m) : i * n + n ≤ m * n := by
 have := Nat.mul_le_mul_right n (show i + 1 ≤ m from h);rw [Nat.add_mul] at this;omega
theorem C8.step {X : Type} {enc : X → List Value} {n : Nat} (hn : ∀ x, (enc x).length = n) (d : X) {T : TypeId} {base : Nat} {w : World} {g : Nat} {L : List X} {k : Nat} (h : C8 enc n T base w g L k) (hk : k < L.length) : C8 enc n T base (CN w g (k * n) (enc (L.getD k d))) g L (k + 1) := by
 obtain ⟨xs, h1, h2⟩ := h;have hle := Ie (n := n) hk;refine ⟨_, HL (enc (L.getD k d)) (k * n) h1 (by rw [hn]; exact hle), fun j hj => ?_⟩;rw [HW _ _ _ _ (by rw [h1.1, hn]; exact hle), hn];rw [Nat.add_mul] at hj;by_cases q : k * n ≤ j
 ·
  rw [if_pos ⟨q, by omega⟩];have := FK hn d L k (j - k * n) hk (by omega);rw [show k * n + (j - k * n) = j by omega] at this;exact this.symm
 rw [if_neg (by omega)];exact h2 j (by omega)
theorem C8.done {X : Type} {enc : X → List Value} {n : Nat} (hn : ∀ x, (enc x).length = n) {T : TypeId} {base : Nat} {w : World} {g : Nat} {L : List X} (h : C8 enc n T base w g L L.length) : AD enc n T base w (.slice (some (ja g 0)) L.length L.length) L := by
 obtain ⟨xs, h1, h2⟩ := h;have e : xs = Ac enc L := by
  apply List.ext_getElem?
  intro j;by_cases hj : j < L.length * n
  ·
   exact h2 j hj
  rw [List.getElem?_eq_none (by rw [h1.1]; omega), List.getElem?_eq_none (by rw [EP hn]; omega)]
 rw [e] at h1;exact h1
theorem AD.cell {X : Type} {enc : X → List Value} {n : Nat} (hn : ∀ x, (enc x).length = n) (d : X) {T : TypeId} {base : Nat} {w : World} {g cap : Nat} {L : List X} (h : AD enc n T base w (.slice (some (ja g 0)) L.length cap) L) {i : Nat} (hi : i < L.length) : ∀ j v, (enc (L.getD i d))[j]? = some v → w.cell? ⟨g, i * n + j, none⟩ = some v := by
 intro j v hv;have := h.view.2.at_ hn d hi j v hv;rw [Nat.zero_add] at this;exact this
theorem AD.frozen {X : Type} {enc : X → List Value} {n : Nat} {T : TypeId} {base : Nat} {w : World} {g cap : Nat} {L : List X} (h : AD enc n T base w (.slice (some (ja g 0)) L.length cap) L) (j : Nat) : w.frozen? (ja g j) = false := World.ownsRow.frozenAt h j
def BQ {X : Type} (mk : Nat → X) (L : List X) (k : Nat) : List X := (List.range k).map mk ++ L.drop k
theorem Ey {X : Type} {mk : Nat → X} {L : List X} {k : Nat} (h : k ≤ L.length) : (BQ mk L k).length = L.length := by simp [BQ]; omega
theorem Fg {X : Type} {mk : Nat → X} {L : List X} : BQ mk L 0 = L := by simp [BQ]
theorem Fh {X : Type} {mk : Nat → X} {L : List X} : BQ mk L L.length = (List.range L.length).map mk := by simp [BQ]
theorem Ex {X : Type} {mk : Nat → X} {L : List X} {k : Nat} (h : k < L.length) : (BQ mk L k).set k (mk k) = BQ mk L (k + 1) := by
 apply List.ext_getElem?
 intro j;unfold BQ;by_cases h1 : j < k
 ·
  rw [List.getElem?_set_ne (by omega), List.getElem?_append_left (by simp; omega), List.getElem?_append_left (by simp; omega)];simp [h1, Nat.lt_succ_of_lt h1]
 by_cases h2 : j = k
 ·
  subst h2;rw [List.getElem?_set_self (by simp; omega), List.getElem?_append_left (by simp)];simp
 rw [List.getElem?_set_ne (by omega), List.getElem?_append_right (by simp; omega), List.getElem?_append_right (by simp; omega)];simp only [List.length_map, List.length_range, List.getElem?_drop];congr 1
 omega
theorem AD.base {X : Type} {enc : X → List Value} {n : Nat} {T : TypeId} {base base' : Nat} {w : World} {v : Value} {L : List X} (h : AD enc n T base w v L) (hb : base' ≤ base) : AD enc n T base' w v L := by
 obtain ⟨h1, h2⟩ := h;refine ⟨h1, ?_⟩;rcases h2 with q | ⟨g, cap, cur, e, hg, r⟩
 ·
  exact .inl q
 exact .inr ⟨g, cap, cur, e, Nat.le_trans hb hg, r⟩
end Go.Proofs.YthgcbihhdbpbdaaGreat
namespace Go.Proofs.YthgcbihhdbpbdaaGreat
open Go.ChangeShapes Go.WideShapes Go.ChangeAt Go.RowKit
open Go.ChangeMaps (open_string shut_string)
set_option linter.unusedVariables false
set_option maxRecDepth 100000
set_option maxHeartbeats 32000000
set_option linter.unusedSimpArgs false
open Go.Proofs.Tryz
theorem tw {P : Program} {ops : Array Oper} {Q : Exit → Act → World → Prop} {md : Region.Mode} {S : World → Prop} (i d : Nat) (v : Value) {oi : Oper} {fuel : Nat} {listed : Array Bool} {l l2 : List Value} {ds : List Deferred} {w : World}
    (h : wpAnyH P md ops Q S fuel (listed.setIfInBounds i true) ⟨l2.toArray, ds⟩ w) (hi : ops[i]? = some oi := by exact rfl) (hd : oi.dst = some d := by exact rfl)
    (hs : Region.noSelect ops = true := by kernel_rfl) (hf : Region.free md ops listed i = true := by kernel_rfl) (hr : (Region.ready md ops listed).contains i = true := by kernel_rfl)
    (hQ : ∀ c a w, Q (.panic c) (a.put oi.dst v) w → Q (.panic c) a w := by exact fun _ _ _ h => h) (hw : Region.wanted oi (yielded ops l.toArray) = true := by kernel_rfl) (hy : ∀ w, S w → (execOp (Act.eval ⟨l.toArray, ds⟩) oi).run P w = .ok (.value v) w := by (intro w hSw; go_simp)) (hS : S w := by assumption)
    (hl : l.set d v = l2 := by simp only [List.set_cons_zero, List.set_cons_succ]; rfl) : wpAnyH P md ops Q S (fuel + 1) listed ⟨l.toArray, ds⟩ w := by
  subst hl
  exact Kq i d v hi hd hs hf hr hQ hw hy hS h
theorem ts {P : Program} {ops : Array Oper} {Q : Exit → Act → World → Prop} {md : Region.Mode} {S : World → Prop} (i d : Nat) {oi : Oper} {fuel : Nat} {listed : Array Bool} {l l2 : List Value} {ds : List Deferred} {w : World}
    (h : wpAnyH P md ops Q S fuel (listed.setIfInBounds i true) ⟨l2.toArray, ds⟩ w) (hi : ops[i]? = some oi := by exact rfl) (hd : oi.dst = some d := by exact rfl)
    (hs : Region.noSelect ops = true := by kernel_rfl) (hf : Region.free md ops listed i = true := by kernel_rfl) (hr : (Region.ready md ops listed).contains i = true := by kernel_rfl)
    (hQ : ∀ c a w, Q (.panic c) (a.put oi.dst undef) w → Q (.panic c) a w := by exact fun _ _ _ h => h) (hw : Region.wanted oi (yielded ops l.toArray) = false := by kernel_rfl) (hS : S w := by assumption)
    (hl : l.set d undef = l2 := by simp only [List.set_cons_zero, List.set_cons_succ]; rfl) : wpAnyH P md ops Q S (fuel + 1) listed ⟨l.toArray, ds⟩ w := by
  subst hl
  exact Kr i d hi hd hs hf hr hQ hw hS h
theorem Cj {p : Nat → Prop} (h : ∀ i, p i) : p 0 ∧ p 1 ∧ p 2 ∧ p 3 ∧ p 4 ∧ p 5 ∧ p 6 ∧ p 7 ∧ p 8 ∧ p 9 := ⟨h 0, h 1, h 2, h 3, h 4, h 5, h 6, h 7, h 8, h 9⟩
theorem w1 {P : Program} {ops : Array Oper} {Q : Exit → Act → World → Prop} {md : Region.Mode} {S : World → Prop} (i : Nat) {oi : Oper} {fuel : Nat} {listed : Array Bool} {a : Act} {w : World}
    (h : ∀ K : Act → World → Prop, (∀ a' w', (S w' ∧ wpAnyH P md ops Q S fuel (listed.setIfInBounds i true) a' w') → K a' w') → Oper.wp P oi a w K Q)
    (hr : Region.ready md ops listed = [i] := by kernel_rfl) (ho : ops[i]? = some oi := by exact rfl) (hw : Region.wanted oi (yielded ops a.tmps) = true := by kernel_rfl) : wpAnyH P md ops Q S (fuel + 1) listed a w := by
  refine wpAnyH_all (rs := [i]) hr (by simp) ?_
  intro j hj
  obtain rfl : j = i := by simpa using hj
  refine wpOp_step ho (fun K hK => ?_)
  rw [if_pos hw]
  exact h K hK
theorem AB {α : Type} (a : α) : ∃ y, y = a := ⟨a, rfl⟩
attribute [local go_sem] ji ja
def El (w : World) (ad : Option Addr) (len : Nat) (f : Nat → Int) : Prop :=
 0 < len → ∃ b off, ad = some (ja b off) ∧ ∀ i, i < len → w.cell? ⟨b, off + i, none⟩ = some (.int .u8 (f i))
theorem El.carry {w w' : World} {ad : Option Addr} {len : Nat} {f : Nat → Int} (h : El w ad len f) (hb : ∀ a, ad = some a → 0 < len → w'.heap[a.block]? = w.heap[a.block]?) : El w' ad len f :=
 fun hp => by
  obtain ⟨b, off, e, hc⟩ := h hp
  exact ⟨b, off, e, fun i hi => (World.cell?_of_block (a := ⟨b, off + i, none⟩) (hb (ja b off) e hp)).trans (hc i hi)⟩
theorem HE {w : World} {b j : Nat} {v : Value} (h : ∃ u, w.cell? (ja b j) = some u) : (w.setCell (ja b j) v).cell? (ja b j) = some v := by
 obtain ⟨u, hu⟩ := h;exact World.cell?_setCell_same _ _ _ hu
theorem HI {w : World} {b j i : Nat} {v : Value} (h : i ≠ j) : (w.setCell (ja b j) v).cell? (ja b i) = w.cell? (ja b i) :=
 World.cell?_setCell_other _ _ _ _ (fun e => h (by injection e with _ e2; exact e2.symm))
theorem Kf {P : Program} {w : World} {o : Oper} {a : Act} {K : Act → World → Prop} {Q : Exit → Act → World → Prop} (s x : Operand) (t : TypeId) (ho : o.op = .call { callee := .builtin .append, args := #[s, x], argTypes := #[t, t] })
  (base : Nat) (e : TypeId) (i : TypeInfo) (z : Value) (size bytes : Nat) (ht : P.underlying t = some (.slice e)) (hi : P.info? e = some i) (hz : i.zero = some z)
  (hsize : i.size = size) (hby : i.bytes = bytes) (hzs : z.cells.size = size) (hsz : 0 < size)
  (v : Value) (n : Nat) (xs : List Value) (hs : a.eval s = v) (hown : w.ownsRow base e size v n xs)
  (ad : Addr) (m c : Nat) (news : List Value) (hx : a.eval x = .slice (some ad) m c) (hl : news.length = m * size) (hnews : ∀ j u, news[j]? = some u → w.cell? (ad.add j) = some u) (h1 : ∀ u ∈ news, u.oneCell' = true)
  (h63 : n + m ≤ maxLen) (hbytes : (n + m) * bytes ≤ 140737488355328) (hbase : base ≤ w.heap.size)
  (h : ∀ v' w', w'.ownsRow base e size v' (n + m) (xs ++ news) → w.grownBy w' v.ownBlock → (v'.ownBlock = v.ownBlock ∨ v'.ownBlock = some w.heap.size) → K (a.put o.dst v') w') : o.wp P a w K Q := by
 obtain ⟨v', w', hr, h2, h3, h4, h5⟩ := run_append_own_at (P := P) w base t o.type e i z size bytes ht hi hz hsize hby hzs hsz v n xs hown ad m c news hl hnews h1 h63 hbytes hbase;unfold Oper.wp execOp;simp only [ho, resolve, invoke, builtin, Sem.run_bind, Sem.run_pure, Result.andThen_ok, List.map_toArray, List.map_cons, List.map_nil, hs, hx, hr];exact h v' w' h2 h3 h5
theorem JQ {P : Program} {w : World} {o : Oper} {a : Act} {K : Act → World → Prop} {Q : Exit → Act → World → Prop} (s x : Operand) (t : TypeId) (ho : o.op = .call { callee := .builtin .append, args := #[s, x], argTypes := #[t, t] })
  (base : Nat) (e : TypeId) (i : TypeInfo) (size : Nat) (ht : P.underlying t = some (.slice e)) (hi : P.info? e = some i)
  (v : Value) (n : Nat) (xs : List Value) (hs : a.eval s = v) (hown : w.ownsRow base e size v n xs) (hx : a.eval x = .slice none 0 0)
  (h : K (a.put o.dst v) w) : o.wp P a w K Q := by
 have hrun := run_append_owned_none (P := P) (w := w) base t o.type e i size ht hi v n xs hown;unfold Oper.wp;simp [execOp, ho, resolve, invoke, builtin, hs, hx, hrun, Result.andThen]
 exact h
theorem AH.news {X : Type} {enc : X → List Value} {w : World} {a : Addr} {L : List X} (h : AH enc w (some a) L) : ∀ j u, (Ac enc L)[j]? = some u → w.cell? (a.add j) = some u := by
 intro j u hu;have hp : 0 < L.length := by
  cases L with
  | nil => simp [Ac] at hu
  | cons x r => simp
 obtain ⟨b, off, e, hc⟩ := h hp;obtain rfl : a = (ja b off) := by simpa using e
 rw [add_plain];exact hc j u hu
theorem AH.none_nil {X : Type} {enc : X → List Value} {w : World} {L : List X} (h : AH enc w none L) : L = [] := by
 cases L with
 | nil => rfl
 | cons a r => obtain ⟨b, off, e, _⟩ := h (by simp); cases e
theorem AD.capn {X : Type} {enc : X → List Value} {n : Nat} {T : TypeId} {base : Nat} {w : World} {ad : Option Addr} {len cap : Nat} {L : List X} (h : AD enc n T base w (.slice ad len cap) L) : ad = none → cap = 0 := by
 intro e;rcases h.2 with ⟨q, _⟩ | ⟨g, c, cur, q, _⟩
 ·
  cases q; rfl
 cases e; simp at q
theorem AD.open_ {X : Type} {enc : X → List Value} {n : Nat} {T : TypeId} {base : Nat} {w : World} {v : Value} {L : List X} (h : AD enc n T base w v L) : ∃ ad cap, v = .slice ad L.length cap := by
 rcases h.2 with ⟨q, e⟩ | ⟨g, c, cur, q, _⟩
 ·
  exact ⟨none, 0, by rw [q, e]⟩
 exact ⟨_, _, q⟩
theorem IR {P : Program} {X : Type} {enc : X → List Value} {n : Nat} (hn : ∀ x, (enc x).length = n) (h1 : ∀ L, ∀ u ∈ Ac enc L, u.oneCell' = true) {w : World} {o : Oper} {a : Act} {K : Act → World → Prop} {Q : Exit → Act → World → Prop} (s x : Operand) (t : TypeId) (ho : o.op = .call { callee := .builtin .append, args := #[s, x], argTypes := #[t, t] })
  (base : Nat) (e : TypeId) (i : TypeInfo) (z : Value) (bytes : Nat) (ht : P.underlying t = some (.slice e)) (hi : P.info? e = some i) (hz : i.zero = some z)
  (hsize : i.size = n) (hby : i.bytes = bytes) (hzs : z.cells.size = n) (hsz : 0 < n) (hb2 : bytes ≤ 1000)
  (v : Value) (M : List X) (hs : a.eval s = v) (hown : AD enc n e base w v M)
  (ad : Option Addr) (cap : Nat) (L : List X) (hx : a.eval x = .slice ad L.length cap) (hc : ad = none → cap = 0) (hv : AH enc w ad L)
  (hlen : M.length + L.length ≤ 3000000) (hbase : base ≤ w.heap.size)
  (h : ∀ v' w', AD enc n e base w' v' (M ++ L) → w.grownBy w' v.ownBlock → (v'.ownBlock = v.ownBlock ∨ v'.ownBlock = some w.heap.size) → K (a.put o.dst v') w') : o.wp P a w K Q := by
 cases ad with
 | none =>
  obtain rfl := hv.none_nil;obtain rfl := hc rfl;exact JQ s x t ho base e i n ht hi v M.length (Ac enc M) hs hown hx (h v w (by simpa using hown) ⟨rfl, rfl, rfl, Nat.le_refl _, fun _ _ _ => rfl⟩ (.inl rfl))
 | some q =>
  have hmul : (M.length + L.length) * bytes ≤ 3000000 * 1000 := Nat.mul_le_mul hlen hb2;refine Kf s x t ho base e i z n bytes ht hi hz hsize hby hzs hsz v M.length (Ac enc M) hs hown q L.length cap (Ac enc L) hx (EP hn L) hv.news (h1 L) (by unfold maxLen; omega) (by omega) hbase ?_;intro v' w' o' g' e';exact h v' w' (AD.app o' rfl) g' e'
theorem CH {P : Program} {X : Type} {enc : X → List Value} {n : Nat} (hn : ∀ x, (enc x).length = n) (h1 : ∀ L, ∀ u ∈ Ac enc L, u.oneCell' = true) {w : World} {o : Oper} {l : List Value} {ds : List Deferred} {K : Act → World → Prop} {Q : Exit → Act → World → Prop} (dd : Nat) (s x : Operand) (t : TypeId) (hd : o.dst = some dd) (ho : o.op = .call { callee := .builtin .append, args := #[s, x], argTypes := #[t, t] })
  (base : Nat) (e : TypeId) (i : TypeInfo) (z : Value) (bytes : Nat) (ht : P.underlying t = some (.slice e)) (hi : P.info? e = some i) (hz : i.zero = some z)
  (hsize : i.size = n) (hby : i.bytes = bytes) (hzs : z.cells.size = n) (hsz : 0 < n) (hb2 : bytes ≤ 1000)
  (v : Value) (M : List X) (hs : (Act.mk l.toArray ds).eval s = v) (hown : AD enc n e base w v M)
  (ad : Option Addr) (cap : Nat) (L : List X) (hx : (Act.mk l.toArray ds).eval x = .slice ad L.length cap) (hc : ad = none → cap = 0) (hv : AH enc w ad L)
  (hlen : M.length + L.length ≤ 3000000) (hbase : base ≤ w.heap.size)
  (h : ∀ v' w', AD enc n e base w' v' (M ++ L) → w.grownBy w' v.ownBlock → (v'.ownBlock = v.ownBlock ∨ v'.ownBlock = some w.heap.size) → K ⟨(l.set dd v').toArray, ds⟩ w') : o.wp P ⟨l.toArray, ds⟩ w K Q := by
 have hput : ∀ v', (Act.mk l.toArray ds).put o.dst v' = ⟨(l.set dd v').toArray, ds⟩ := fun v' => by rw [hd]; simp [Act.put]
 exact IR hn h1 s x t ho base e i z bytes ht hi hz hsize hby hzs hsz hb2 v M hs hown ad cap L hx hc hv hlen hbase (fun v' w' a b c => by rw [hput]; exact h v' w' a b c)
theorem DX {P : Program} {X : Type} {enc : X → List Value} {n : Nat} (hn : ∀ x, (enc x).length = n) (h1 : ∀ L, ∀ u ∈ Ac enc L, u.oneCell' = true) {w : World} {ops : Array Oper} {rest : List Oper} {o : Oper} {a : Act} {Q : Exit → Act → World → Prop} (hgd : o.guard = none) (s x : Operand) (t : TypeId) (ho : o.op = .call { callee := .builtin .append, args := #[s, x], argTypes := #[t, t] })
  (base : Nat) (e : TypeId) (i : TypeInfo) (z : Value) (bytes : Nat) (ht : P.underlying t = some (.slice e)) (hi : P.info? e = some i) (hz : i.zero = some z)
  (hsize : i.size = n) (hby : i.bytes = bytes) (hzs : z.cells.size = n) (hsz : 0 < n) (hb2 : bytes ≤ 1000)
  (v : Value) (M : List X) (hs : a.eval s = v) (hown : AD enc n e base w v M)
  (ad : Option Addr) (cap : Nat) (L : List X) (hx : a.eval x = .slice ad L.length cap) (hc : ad = none → cap = 0) (hv : AH enc w ad L)
  (hlen : M.length + L.length ≤ 3000000) (hbase : base ≤ w.heap.size)
  (h : ∀ v' w', AD enc n e base w' v' (M ++ L) → w.grownBy w' v.ownBlock → (v'.ownBlock = v.ownBlock ∨ v'.ownBlock = some w.heap.size) → wpList P ops Q rest (a.put o.dst v') w') : wpList P ops Q (o :: rest) a w := by
 refine wpList_plain hgd fun K hK => ?_
 exact IR hn h1 s x t ho base e i z bytes ht hi hz hsize hby hzs hsz hb2 v M hs hown ad cap L hx hc hv hlen hbase (fun v' w' a b c => hK _ _ (h v' w' a b c))
theorem Cy (w : World) (o : Obj) : (w.alloc o).heap[w.heap.size]? = some o := by
 show (w.heap.push o)[w.heap.size]? = some o;simp
theorem AD.empty {X : Type} {enc : X → List Value} {n : Nat} {T : TypeId} (w : World) : AD enc n T w.heap.size (w.alloc (Obj.cells #[] T)) (.slice (some (ja w.heap.size 0)) 0 0) ([] : List X) :=
 ⟨by simp [Ac], .inr ⟨w.heap.size, 0, #[], rfl, Nat.le_refl _, Cy w _, Nat.le_refl _, Nat.zero_le _, by simp, by simp [Ac]⟩⟩
end Go.Proofs.YthgcbihhdbpbdaaGreat
namespace Go.Proofs.YthgcbihhdbpbdaaGreat
open Go.ChangeShapes Go.WideShapes Go.ChangeAt Go.RowKit
open Go.ChangeMaps (open_string shut_string)
set_option linter.unusedVariables false
set_option maxRecDepth 100000
set_option maxHeartbeats 32000000
set_option linter.unusedSimpArgs false
open Go.Proofs.Tryz
attribute [local go_sem] ji ja
theorem Kg (n : Int) : bits .and .i64 n 255 = n % 256 := by
 have h255 : (BitVec.ofInt 64 255).toNat = 2 ^ 8 - 1 := by decide
 have key : (BitVec.ofInt 64 n &&& BitVec.ofInt 64 255).toNat = (n % ((2 ^ 64 : Nat) : Int)).toNat % 2 ^ 8 := by
  rw [BitVec.toNat_and, BitVec.toNat_ofInt, h255, Nat.and_two_pow_sub_one_eq_mod]
 show IntKind.i64.wrap ((BitVec.ofInt 64 n &&& BitVec.ofInt 64 255).toNat : Nat) = n % 256;rw [key, IntKind.wrap_i64];omega
def Dv (w : World) (cb : Nat) (ad : Option Addr) (len cap : Nat) : Prop :=
 ∃ i h : Int, 0 ≤ i ∧ i ≤ len ∧ w.heap[cb]? = some (.cells #[.slice ad len cap, ji i, ji h] 100 (0, 0))
theorem Dv.carry {w w' : World} {cb : Nat} {ad : Option Addr} {len cap : Nat} (h : Dv w cb ad len cap) (e : w'.heap[cb]? = w.heap[cb]?) : Dv w' cb ad len cap := by
 obtain ⟨i, h, a, b, c⟩ := h;exact ⟨i, h, a, b, e.trans c⟩
theorem Dv.lt {w : World} {cb : Nat} {ad : Option Addr} {len cap : Nat} (h : Dv w cb ad len cap) : cb < w.heap.size := by
 obtain ⟨_, _, _, _, c⟩ := h;exact (Array.getElem?_eq_some_iff.1 c).1
theorem Hu {a b c : World} {r : Option Nat} (h : a.grownBy b r) (k : b.grownBy c r) : a.grownBy c r :=
 ⟨k.os.trans h.os, k.tape.trans h.tape, k.output.trans h.output, Nat.le_trans h.size k.size, fun j hj hne => (k.block j (Nat.lt_of_lt_of_le hj h.size) hne).trans (h.block j hj hne)⟩
theorem GM (a : World) (r : Option Nat) : a.grownBy a r := ⟨rfl, rfl, rfl, Nat.le_refl _, fun _ _ _ => rfl⟩
theorem GE {a b : World} {r : Option Nat} (h : a.grownBy b r) (n : Nat) : a.grownBy (b.drewN n) r := ⟨h.os, h.tape, h.output, h.size, h.block⟩
theorem Gq {a b : World} {g : Nat} (h : a.grownBy b (some g)) (o : Nat) (v : Value) : a.grownBy (b.setCell (ja g o) v) (some g) :=
 ⟨h.os, h.tape, h.output, by simpa using h.size, fun j hj hne => (AE (fun e => hne (by rw [e]))).trans (h.block j hj hne)⟩
theorem JM (cb : Nat) (ad : Option Addr) (len cap : Nat) (f : Nat → Int) (w : World) (hc : Dv w cb ad len cap) (hv : El w ad len f) (hne : ∀ a, ad = some a → 0 < len → a.block ≠ cb) (hl : len ≤ 1048576) (hf : ∀ i, 0 ≤ f i ∧ f i ≤ 255) :
  Calls prog 81 #[.pointer (some (ja cb 0))] w fun e w' => ∃ x, e = .returned (ji x) ∧ 0 ≤ x ∧ x ≤ 255 ∧ Dv w' cb ad len cap ∧ w.grownBy w' (some cb) := by
 obtain ⟨i, h, hi0, hi1, hh⟩ := hc;have hcell := fun j => cell_of_row w cb j _ _ _ hh
 have c0 : w.cell? (ja cb 0) = some (.slice ad len cap) := by rw [hcell 0]; rfl
 have c1 : w.cell? (ja cb 1) = some (ji i) := by rw [hcell 1]; rfl
 have c2 : w.cell? (ja cb 2) = some (ji h) := by rw [hcell 2]; rfl
 have z1 : w.frozen? (ja cb 1) = false := frozen_of_row w cb 1 _ _ hh;have z2 : w.frozen? (ja cb 2) = false := frozen_of_row w cb 2 _ _ hh;clear hcell;have h255 : ∀ n : Int, bits BinOp.and IntKind.i64 n 255 = n % 256 := Kg;by_cases hlt : i < len
 ·
  obtain ⟨b, off, rfl, hcv⟩ := hv (by omega);have hbn : b ≠ cb := hne _ rfl (by omega);obtain ⟨k, rfl⟩ : ∃ k : Nat, i = k := ⟨i.toNat, by omega⟩;have hck := hcv k (by omega);have hfk := hf k;have hdl : decide ((k : Int) < (len : Int)) = true := by simp; omega
  go_enter func81, ntmps81
  go_wp2
  generalize wrap64 (wrap64 (h * 6364136223846793005) + 1442695040888963407) = h'
  have hh1 : (w.setCell (ja cb 2) (ji h')).heap[cb]? = some (.cells #[.slice (some (ja b off)) len cap, ji k, ji h'] 100 (0, 0)) := heap_setCell_same w cb 2 _ _ _ hh;have hg1 : w.grownBy (w.setCell (ja cb 2) (ji h')) (some cb) := Gq (GM w _) 2 _;have hk1 : (w.setCell (ja cb 2) (ji h')).cell? ⟨b, off + k, none⟩ = some (.int .u8 (f k)) := by
   rw [World.cell?_setCell_other _ _ _ _ (fun e => hbn (by injection e with e1; exact e1.symm))];exact hck
  generalize w.setCell (ja cb 2) (ji h') = w1 at *
  have d0 : w1.cell? (ja cb 0) = some (.slice (some (ja b off)) len cap) := by rw [cell_of_row w1 cb 0 _ _ _ hh1]; rfl
  have d1 : w1.cell? (ja cb 1) = some (ji k) := by rw [cell_of_row w1 cb 1 _ _ _ hh1]; rfl
  have d2 : w1.cell? (ja cb 2) = some (ji h') := by rw [cell_of_row w1 cb 2 _ _ _ hh1]; rfl
  have y1 : w1.frozen? (ja cb 1) = false := frozen_of_row w1 cb 1 _ _ hh1;clear c0 c1 c2 z1 z2 hh hck hcv;go_quiet (fail)
  go_wp2
  go_quiet (fail)
  go_wp2
  go_quiet (fail)
  go_wp2
  go_ret
  exact ⟨_, rfl, by omega, by omega, ⟨(k : Int) + 1, h', by omega, by omega, heap_setCell_same w1 cb 1 _ _ _ hh1⟩, GE (Gq hg1 1 _) _⟩
 have hdl : decide (i < (len : Int)) = false := by simp; omega
 go_enter func81, ntmps81
 go_wp2
 generalize wrap64 (wrap64 (h * 6364136223846793005) + 1442695040888963407) = h'
 have hh1 : (w.setCell (ja cb 2) (ji h')).heap[cb]? = some (.cells #[.slice ad len cap, ji i, ji h'] 100 (0, 0)) := heap_setCell_same w cb 2 _ _ _ hh;have hg1 : w.grownBy (w.setCell (ja cb 2) (ji h')) (some cb) := Gq (GM w _) 2 _;generalize w.setCell (ja cb 2) (ji h') = w1 at *
 have d0 : w1.cell? (ja cb 0) = some (.slice ad len cap) := by rw [cell_of_row w1 cb 0 _ _ _ hh1]; rfl
 have d1 : w1.cell? (ja cb 1) = some (ji i) := by rw [cell_of_row w1 cb 1 _ _ _ hh1]; rfl
 have d2 : w1.cell? (ja cb 2) = some (ji h') := by rw [cell_of_row w1 cb 2 _ _ _ hh1]; rfl
 clear c0 c1 c2 z1 z2 hh hv hne;go_quiet (fail)
 go_wp2
 go_quiet (fail)
 go_wp2
 go_ret
 exact ⟨_, rfl, by omega, by omega, ⟨i, h', by omega, by omega, hh1⟩, GE (GE hg1 _) _⟩
structure BN (w : World) (cb : Nat) (ad : Option Addr) (len cap : Nat) (f : Nat → Int) : Prop where
 cur : Dv w cb ad len cap
 view : El w ad len f
 ne : ∀ a, ad = some a → 0 < len → a.block ≠ cb
 small : len ≤ 1048576
 bytes : ∀ i, 0 ≤ f i ∧ f i ≤ 255
theorem BN.grown {w w' : World} {cb : Nat} {ad : Option Addr} {len cap : Nat} {f : Nat → Int} (h : BN w cb ad len cap f) (hc : Dv w' cb ad len cap) (hg : w.grownBy w' (some cb)) : BN w' cb ad len cap f :=
 ⟨hc, h.view.carry (fun a e hp => hg.block _ (by obtain ⟨b, off, e2, hcv⟩ := h.view hp; have := World.block_lt_of_cell? w _ (hcv 0 hp); rw [e2] at e; cases e; exact this) (by have := h.ne a e hp; simpa using this)), h.ne, h.small, h.bytes⟩
theorem I8 {cb : Nat} {ad : Option Addr} {len cap : Nat} {f : Nat → Int} {w : World} (hs : BN w cb ad len cap f) :
  Calls prog 81 #[.pointer (some (ja cb 0))] w fun e w' => ∃ x, e = .returned (ji x) ∧ 0 ≤ x ∧ x ≤ 255 ∧ BN w' cb ad len cap f ∧ w.grownBy w' (some cb) := by
 refine (JM cb ad len cap f w hs.cur hs.view hs.ne hs.small hs.bytes).mono ?_;rintro e w' ⟨x, rfl, h0, h1, hc, hg⟩;exact ⟨x, rfl, h0, h1, hs.grown hc hg, hg⟩
theorem Bz {cb : Nat} {ad : Option Addr} {len cap : Nat} {f : Nat → Int} {w : World} (hs : BN w cb ad len cap f) (n : Int) (h0 : 0 < n) (h1 : n ≤ 256) :
  Calls prog 38 #[.pointer (some (ja cb 0)), ji n] w fun e w' => ∃ x, e = .returned (ji x) ∧ 0 ≤ x ∧ x < n ∧ BN w' cb ad len cap f ∧ w.grownBy w' (some cb) := by
 have hd0 : decide (n ≤ 0) = false := by simp; omega
 have hd1 : decide (n ≤ 256) = true := by simp; omega
 go_enter func38, ntmps38
 go_wp2_with fail
 go_at_call 81
 refine (I8 hs).mono ?_;rintro e w' ⟨x, rfl, hx0, hx1, hs', hg⟩;have hne : (n == 0) = false := by rw [beq_eq_false_iff_ne]; omega
 have hm0 := Int.emod_nonneg x (by omega : n ≠ 0);have hm1 := Int.emod_lt_of_pos x h0;have htm : x.tmod n = x % n := Int.tmod_eq_emod_of_nonneg hx0;go_wp2
 go_ret
 exact ⟨_, rfl, hm0, hm1, hs', hg⟩
theorem Dv.new {w : World} {ad : Option Addr} {len cap : Nat} {h : Int} : Dv (w.alloc (.cells #[.slice ad len cap, ji 0, ji h] 100)) w.heap.size ad len cap :=
 ⟨0, h, by omega, by omega, heap_alloc_new w _⟩
theorem Jp (ad : Option Addr) (len cap : Nat) (f : Nat → Int) (w : World) (hv : El w ad len f) (hB : ∀ a, ad = some a → 0 < len → a.block < w.heap.size) (hl : len ≤ 1048576) (hf : ∀ i, 0 ≤ f i ∧ f i ≤ 255) :
  Calls prog 37 #[.slice ad len cap] w fun e w' => e = .returned (.pointer (some (ja w.heap.size 0))) ∧ BN w' w.heap.size ad len cap f ∧ Bw w w' ∧ w'.heap.size = w.heap.size + 1 := by
 go_enter func37, ntmps37
 go_wp2
 go_loop [3, 4] (fun x i => ∃ (k : Nat) (h : Int), k ≤ len ∧ i = .int .i64 k ∧ x = .int .i64 h) (fun _ i => len - (intOf i).toNat)
 case atStart => exact ⟨0, _, Nat.zero_le _, rfl, rfl⟩
 case round =>
  obtain ⟨k, h, hk, rfl, rfl⟩ := hrel;by_cases hlt : k < len ∧ k < 4000
  ·
   obtain ⟨b, off, rfl, hc⟩ := hv (by omega);have hck := hc k hlt.1;have hfk := hf k;have hd0 : decide ((k : Int) < (len : Int)) = true := by simp; omega
   have hd1 : decide ((k : Int) < 4000) = true := by simp; omega
   have hk1 : k < len := hlt.1;clear hlt;go_wp2
   go_round
   case rel => exact ⟨k + 1, _, by omega, by go_num, rfl⟩
   case measure => simp [intOf]; omega
  have fin : ∀ h : Int, BN (w.alloc (.cells #[.slice ad len cap, ji 0, ji h] 100)) w.heap.size ad len cap f := fun h =>
   ⟨Dv.new, hv.carry (fun a e hp => ((Below.refl w.heap.size w).alloc (Nat.le_refl _) _).block _ (hB a e hp)), fun a e hp => Nat.ne_of_lt (hB a e hp), hl, hf⟩
  by_cases hk2 : k < len
  ·
   have hd0 : decide ((k : Int) < (len : Int)) = true := by simp; omega
   have hd1 : decide ((k : Int) < 4000) = false := by simp; omega
   clear hlt;go_wp2
   go_ret
   exact ⟨rfl, fin h, (Below.refl _ _).alloc (Nat.le_refl _) _, by simp⟩
  have hd0 : decide ((k : Int) < (len : Int)) = false := by simp; omega
  clear hlt;go_wp2
  go_ret
  exact ⟨rfl, fin h, (Below.refl _ _).alloc (Nat.le_refl _) _, by simp⟩
theorem H0 {cb : Nat} {ad : Option Addr} {len cap : Nat} {f : Nat → Int} {w : World} (hs : BN w cb ad len cap f) (b n c : Nat) (g : Nat → Int) (hb : b ≠ cb) (h0 : 0 < n) (h1 : n ≤ 256) (hg : ∀ i, i < n → w.cell? (ja b i) = some (ji (g i))) :
  Calls prog 41 #[.pointer (some (ja cb 0)), .slice (some (ja b 0)) n c] w fun e w' => ∃ i, i < n ∧ e = .returned (ji (g i)) ∧ BN w' cb ad len cap f ∧ w.grownBy w' (some cb) := by
 go_enter func41, ntmps41
 go_wp2_with fail
 go_at_call 38
 refine (Bz hs n (by omega) (by omega)).mono ?_;rintro e w' ⟨x, rfl, hx0, hx1, hs', hgr⟩;obtain ⟨i, rfl⟩ : ∃ i : Nat, x = i := ⟨x.toNat, by omega⟩;have hi : i < n := by omega
 have hci : w'.cell? (ja b i) = some (ji (g i)) := (World.cell?_of_block (a := (ja b i)) (hgr.block b (World.block_lt_of_cell? w _ (hg i hi)) (by simpa using hb))).trans (hg i hi);clear hg;go_wp2
 go_ret
 exact ⟨i, hi, rfl, hs', hgr⟩
open Classical in
theorem EQ {cb : Nat} {ad : Option Addr} {len cap : Nat} {f : Nat → Int} {w : World} (hs : BN w cb ad len cap f) (P : Int → Prop) (b n c : Nat) (hb : b ≠ cb) (h0 : 0 < n) (h1 : n ≤ 256) (hg : ∀ i, i < n → ∃ y, w.cell? (ja b i) = some (ji y) ∧ P y) :
  Calls prog 41 #[.pointer (some (ja cb 0)), .slice (some (ja b 0)) n c] w fun e w' => ∃ y, e = .returned (ji y) ∧ P y ∧ BN w' cb ad len cap f ∧ w.grownBy w' (some cb) := by
 refine (H0 hs b n c (fun i => if h : i < n then (hg i h).choose else 0) hb h0 h1 (fun i hi => by simp only [dif_pos hi]; exact (hg i hi).choose_spec.1)).mono ?_;rintro e w' ⟨i, hi, rfl, hs', hgr⟩;exact ⟨_, rfl, by simp only [dif_pos hi]; exact (hg i hi).choose_spec.2, hs', hgr⟩
theorem Dl (w : World) (a : Array Value) (E i : Nat) {v : Value} (h : a[i]? = some v) : (w.alloc (.cells a E)).cell? (ja w.heap.size i) = some v :=
 (cell_of_row _ w.heap.size i _ _ _ (heap_alloc_new w _)).trans h
structure FY (w : World) (ad : Option Addr) (len : Nat) (f : Nat → Int) : Prop where
 view : El w ad len f
 lt : ∀ a, ad = some a → 0 < len → a.block < w.heap.size
 small : len ≤ 1048576
 bytes : ∀ i, 0 ≤ f i ∧ f i ≤ 255
theorem FY.later {w w' : World} {ad : Option Addr} {len : Nat} {f : Nat → Int} (h : FY w ad len f) {B : Nat} (hb : Below B w w') (hB : w.heap.size ≤ B) : FY w' ad len f :=
 ⟨h.view.carry (fun a e hp => hb.block _ (Nat.lt_of_lt_of_le (h.lt a e hp) hB)), fun a e hp => Nat.lt_of_lt_of_le (h.lt a e hp) hb.size, h.small, h.bytes⟩
theorem Ht {cb : Nat} {ad : Option Addr} {len cap : Nat} {f : Nat → Int} {w : World} (hs : BN w cb ad len cap f) (n : Int) (h0 : 0 < n) (h1 : n ≤ 256) :
  Calls prog 87 #[.pointer (some (ja cb 0)), ji n] w fun e w' => ∃ b : Bool, e = .returned (.bool b) ∧ BN w' cb ad len cap f ∧ w.grownBy w' (some cb) := by
 go_enter func87, ntmps87
 go_wp2_with fail
 go_at_call 38
 refine (Bz hs n h0 h1).mono ?_;rintro e w' ⟨x, rfl, hx0, hx1, hs', hg⟩;go_wp2
 go_ret
 exact ⟨_, rfl, hs', hg⟩
end Go.Proofs.YthgcbihhdbpbdaaGreat
namespace Go.Proofs.YthgcbihhdbpbdaaGreat
open Go.ChangeShapes Go.WideShapes Go.ChangeAt Go.RowKit
open Go.ChangeMaps (open_string shut_string)
set_option linter.unusedVariables false
set_option maxRecDepth 100000
set_option maxHeartbeats 32000000
set_option linter.unusedSimpArgs false
open Go.Proofs.Tryz
theorem HY {P : Program} {md : Region.Mode} {ops : Array Oper} {Q : Exit → Act → World → Prop} {S : World → Prop} {ds : List Deferred} {k : Nat} (I : Nat → Array Bool → List Value → World → Prop)
  (step : ∀ n listed l W, I (n + 1) listed l W → ∃ rs, Region.ready md ops listed = rs ∧ rs ≠ [] ∧ ∀ i, i ∈ rs → ∀ K : Act → World → Prop, (∀ l' W', S W' → I n (listed.setIfInBounds i true) l' W' → K ⟨l'.toArray, ds⟩ W') → wpOp P ops Q i K ⟨l.toArray, ds⟩ W)
  (fin : ∀ listed l W, I 0 listed l W → wpAnyH P md ops Q S k listed ⟨l.toArray, ds⟩ W) :
  ∀ n listed l W, I n listed l W → wpAnyH P md ops Q S (n + k) listed ⟨l.toArray, ds⟩ W
 | 0, listed, l, W, h => by rw [Nat.zero_add]; exact fin listed l W h
 | n + 1, listed, l, W, h => by
  obtain ⟨rs, hr, hne, hs⟩ := step n listed l W h
  rw [show n + 1 + k = (n + k) + 1 by omega]
  exact wpAnyH_all hr hne (fun i hi => hs i hi _ (fun l' W' hS hI => ⟨hS, HY I step fin n _ l' W' hI⟩))
theorem AD.apart {X Y : Type} {e1 : X → List Value} {e2 : Y → List Value} {n1 n2 : Nat} {T1 T2 : TypeId} {b1 b2 : Nat} {w : World} {v1 v2 : Value} {L1 : List X} {L2 : List Y} (h1 : AD e1 n1 T1 b1 w v1 L1) (h2 : AD e2 n2 T2 b2 w v2 L2) (hT : T1 ≠ T2) {g : Nat} (e : v1.ownBlock = some g) : v2.ownBlock ≠ some g := by
 intro e2';rcases h1.2 with ⟨q, _⟩ | ⟨g1, c1, u1, q1, _, o1, _⟩
 ·
  rw [q] at e; cases e
 rcases h2.2 with ⟨q, _⟩ | ⟨g2, c2, u2, q2, _, o2, _⟩
 ·
  rw [q] at e2'; cases e2'
 rw [q1] at e;rw [q2] at e2';cases e
 cases e2'
 rw [o1] at o2;simp only [Option.some.injEq, Obj.cells.injEq] at o2;exact hT o2.2.1
structure IJ (w : World) (ad : Option Addr) (len : Nat) (f : Nat → Int) : Prop where
 lm : len ≤ maxLen
 view : El w ad len f
 lt : ∀ a, ad = some a → 0 < len → a.block < w.heap.size
 bytes : ∀ i, 0 ≤ f i ∧ f i ≤ 255
theorem Ij {H : Type} {enc : TypeId × Value → H} {w : World} {r : Reach} {b0 : Nat} {v : Value} {d : DataW H} {p : List MemPlace} (hv : Value.okWide prog w r b0 22 v) (h : DataW.Trod enc prog w 0 (fun _ => true) true 22 v d p) :
  ∃ ad len cap f, v = .slice ad len cap ∧ IJ w ad len f := by
 obtain ⟨n, hn⟩ := h;obtain ⟨a0, len0, cap0, rfl⟩ := okWide_slice (P := prog) (t := 22) (e := 5) underlying22 hv;have hcell0 : ∀ x, (Value.slice a0 len0 cap0).cells.toList = [x] → Value.slice a0 len0 cap0 = x := fun x h => by simpa [Value.cells] using h
 rcases open_ints underlying22 underlying5 (by kernel_rfl) hn with ⟨hcs, _⟩ | ⟨x, l, cp, zs, hcs, _, hl, hm, hz, _, hcell, hwz⟩
 ·
  exact ⟨none, 0, 0, fun _ => 0, hcell0 _ hcs, by unfold maxLen; omega, fun h => absurd h (by omega), fun a h => by simp at h, fun i => by simp⟩
 simp at hz
 refine ⟨some x, l, cp, fun i => zs.getD i 0, hcell0 _ hcs, by omega, fun hp => ?_, fun a h hp => ?_, fun i => ?_⟩
 ·
  obtain ⟨b, off, rfl, hc⟩ := ints_at hcell (by omega);exact ⟨b, off, rfl, fun i hi => hc i (by omega)⟩
 ·
  obtain rfl : x = a := by simpa using h
  have hc := hcell 0 (by omega);simpa [Addr.add] using World.block_lt_of_cell? w _ hc
 by_cases hi : i < zs.length
 ·
  have := bounds_u8 (hwz (zs.getD i 0) (by simp [List.getD, hi]));exact this
 simp [List.getD, List.getElem?_eq_none (by omega : zs.length ≤ i)]
theorem Ke (ad : Option Addr) (len cap : Nat) (w : World) (h : (1048576 : Int) < (len : Int)) : Calls prog 5 #[.slice ad len cap] w fun e w' => e = .returned (.bool true) ∧ w' = w := by
 go_enter func5, ntmps5
 go_wp2
 go_ret
 exact ⟨rfl, rfl⟩
theorem LX (ad : Option Addr) (len cap : Nat) (w : World) (h : len ≤ 1048576) : Calls prog 5 #[.slice ad len cap] w fun e w' => e = .returned (.bool false) ∧ w' = w := by
 have h' : decide ((1048576 : Int) < (len : Int)) = false := decide_eq_false (by omega);go_enter func5, ntmps5
 go_wp2
 go_ret
 exact ⟨rfl, rfl⟩
end Go.Proofs.YthgcbihhdbpbdaaGreat
