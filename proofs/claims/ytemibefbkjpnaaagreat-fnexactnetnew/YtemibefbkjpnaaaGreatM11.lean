/- Nets that a call owns. Lists of bridges, marked. Contracts of the small functions over integers that the laws call. Numbers and links that come in. -/
import Derived.Test.YtemibefbkjpnaaaGreatRows
import Derived.WalkKit
import Derived.ProofKit
import Derived.OpenShut
import Derived.ShutString
import Derived.ChangeOld
import Derived.Below
import Derived.Deep.QuietTactic
import Derived.BigQuiet
import Derived.WalkSmall
import Derived.Laws.OwnMore
import Derived.WalkSpells
import Derived.WalkLawsBesides
import Derived.Deep.Cut
import Derived.Test.YtemibefbkjpnaaaGreatM10
import Derived.Test.YtemibefbkjpnaaaGreatM1
import Derived.Test.YtemibefbkjpnaaaGreatKPts3
import Derived.Test.YtemibefbkjpnaaaGreatM3
import Derived.Test.YtemibefbkjpnaaaGreatM2
import Derived.Deep.Slices
import Derived.Lib.SmallJoins
import Derived.Test.YtemibefbkjpnaaaGreatM4
namespace Go.Proofs.YtemibefbkjpnaaaGreat
open Go.ChangeShapes Go.WideShapes Go.ChangeAt Go.RowKit
open Go.ChangeMaps (open_string shut_string)
set_option linter.unusedVariables false
set_option maxRecDepth 100000

theorem getD_push {X : Type} (L : List X) (x d : X) (i : Nat) : (L ++ [x]).getD i d = if i < L.length then L.getD i d else if i = L.length then x else d := by
  by_cases h : i < L.length
  · rw [if_pos h]; simp [List.getD, List.getElem?_append_left h]
  · rw [if_neg h]
    by_cases e : i = L.length
    · rw [if_pos e, e]; simp [List.getD]
    · rw [if_neg e]
      have : (L ++ [x])[i]? = none := List.getElem?_eq_none (by simp; omega)
      simp [List.getD, this]
/-- One bridge more. -/
theorem NOwn.push {lo hi : Nat} {w w' : World} {v v' : Value} {Bs : List Bd} {x : Bd} (h : NOwn lo hi w v Bs) (hs : hi ≤ w.heap.size)
    (row : FOwn bdEnc 2 40 lo w' v' (Bs ++ [x])) (gr : w.grownBy w' v.ownBlock) (hv : v'.ownBlock = v.ownBlock ∨ ∃ g, v'.ownBlock = some g ∧ w.heap.size ≤ g)
    (nx : FOwn ptEnc 11 75 lo w x.v x.L) (hx : ∀ g, x.v.ownBlock = some g → hi ≤ g ∧ g < w.heap.size) : NOwn lo w'.heap.size w' v' (Bs ++ [x]) := by
  have hvl : ∀ g, v.ownBlock = some g → lo ≤ g ∧ g < w.heap.size := fun g e => h.row.lt g e
  have sz := gr.size
  have hvg : ∀ g, v'.ownBlock = some g → v.ownBlock = some g ∨ w.heap.size ≤ g := fun g e => by
    rcases hv with q | ⟨g', q, hg⟩
    · exact .inl (by rw [← q]; exact e)
    · rw [q] at e
      cases e
      exact .inr hg
  have nb : ∀ i, i < Bs.length → ∀ g, (Bs.getD i Bd.nil).v.ownBlock = some g → g < hi := fun i hi g e => h.nhi i hi g e
  have get : ∀ i, i < (Bs ++ [x]).length → (i < Bs.length ∧ (Bs ++ [x]).getD i Bd.nil = Bs.getD i Bd.nil) ∨ (i = Bs.length ∧ (Bs ++ [x]).getD i Bd.nil = x) := fun i hi => by
    rw [getD_push]
    have : i < Bs.length + 1 := by simpa using hi
    by_cases q : i < Bs.length
    · exact .inl ⟨q, if_pos q⟩
    · have e : i = Bs.length := by omega
      exact .inr ⟨e, by rw [if_neg q, if_pos e]⟩
  refine ⟨row, fun i hi => ?_, fun g e => (row.lt g e).2, fun i hi g e => ?_, fun i hi g g' e e' => ?_, fun i j hij hj g g' e e' => ?_⟩
  · rcases get i hi with ⟨q, r⟩ | ⟨q, r⟩
    · rw [r]
      exact (h.nest i q).keep (fun g e => gr.block g (by have := nb i q g e; omega) (fun e2 => h.apart i q g g (by rw [← e2]) e rfl))
    · rw [r]
      exact nx.keep (fun g e => gr.block g (hx g e).2 (fun e2 => by have := h.rhi g (by rw [← e2]); have := (hx g e).1; omega))
  · rcases get i hi with ⟨q, r⟩ | ⟨q, r⟩
    · rw [r] at e
      have := nb i q g e
      omega
    · rw [r] at e
      have := (hx g e).2
      omega
  · rcases get i hi with ⟨q, r⟩ | ⟨q, r⟩
    · rw [r] at e'
      rcases hvg g e with k | k
      · exact h.apart i q g g' k e'
      · have := nb i q g' e'
        omega
    · rw [r] at e'
      have := hx g' e'
      rcases hvg g e with k | k
      · have := h.rhi g k
        omega
      · omega
  · have hj' : j < Bs.length + 1 := by simpa using hj
    rcases get i (by omega) with ⟨q, r⟩ | ⟨q, r⟩
    · rw [r] at e
      rcases get j hj with ⟨q2, r2⟩ | ⟨q2, r2⟩
      · rw [r2] at e'
        exact h.aparts i j hij q2 g g' e e'
      · rw [r2] at e'
        have := nb i q g e
        have := (hx g' e').1
        omega
    · omega
/-- A bridge in the place of another. -/
theorem NOwn.set {lo hi : Nat} {w : World} {g cap : Nat} {Bs : List Bd} {i : Nat} (h : NOwn lo hi w (.slice (some ⟨g, 0, none⟩) Bs.length cap) Bs) (hs : hi ≤ w.heap.size) (hi' : i < Bs.length) (x : Bd)
    (nx : FOwn ptEnc 11 75 lo w x.v x.L) (hx : ∀ k, x.v.ownBlock = some k → hi ≤ k ∧ k < w.heap.size) : NOwn lo w.heap.size (putAll w g (i * 2) (bdEnc x)) (.slice (some ⟨g, 0, none⟩) (Bs.set i x).length cap) (Bs.set i x) := by
  have row : FOwn bdEnc 2 40 lo (putAll w g (i * 2) (bdEnc x)) (.slice (some ⟨g, 0, none⟩) (Bs.set i x).length cap) (Bs.set i x) := by
    rw [List.length_set]
    exact h.row.set bdEnc_len (by omega) hi' x
  have hg : g < hi := h.rhi g rfl
  have bl : ∀ k, k ≠ g → (putAll w g (i * 2) (bdEnc x)).heap[k]? = w.heap[k]? := fun k hk => heap_putAll _ _ _ _ hk
  have get : ∀ j, j < (Bs.set i x).length → (j ≠ i ∧ j < Bs.length ∧ (Bs.set i x).getD j Bd.nil = Bs.getD j Bd.nil) ∨ (j = i ∧ (Bs.set i x).getD j Bd.nil = x) := fun j hj => by
    rw [List.length_set] at hj
    by_cases e : j = i
    · subst e
      exact .inr ⟨rfl, by simp [List.getD, hj]⟩
    · exact .inl ⟨e, hj, by simp [List.getD, List.getElem?_set_ne (Ne.symm e)]⟩
  refine ⟨row, fun j hj => ?_, fun k e => ?_, fun j hj k e => ?_, fun j hj k k' e e' => ?_, fun j l hjl hl k k' e e' => ?_⟩
  · rcases get j hj with ⟨q, q2, r⟩ | ⟨q, r⟩
    · rw [r]
      exact (h.nest j q2).keep (fun k e => bl k (fun e2 => h.apart j q2 g k rfl e e2.symm))
    · rw [r]
      exact nx.keep (fun k e => bl k (by have := (hx k e).1; omega))
  · obtain rfl : g = k := by simpa [Value.ownBlock] using e
    omega
  · rcases get j hj with ⟨q, q2, r⟩ | ⟨q, r⟩
    · rw [r] at e
      have := h.nhi j q2 k e
      omega
    · rw [r] at e
      exact (hx k e).2
  · obtain rfl : g = k := by simpa [Value.ownBlock] using e
    rcases get j hj with ⟨q, q2, r⟩ | ⟨q, r⟩
    · rw [r] at e'
      exact h.apart j q2 g k' rfl e'
    · rw [r] at e'
      have := (hx k' e').1
      omega
  · rcases get j (by omega) with ⟨q, q2, r⟩ | ⟨q, r⟩
    · rw [r] at e
      rcases get l hl with ⟨p, p2, s⟩ | ⟨p, s⟩
      · rw [s] at e'
        exact h.aparts j l hjl p2 k k' e e'
      · rw [s] at e'
        have := h.nhi j q2 k e
        have := (hx k' e').1
        omega
    · rw [r] at e
      rcases get l hl with ⟨p, p2, s⟩ | ⟨p, s⟩
      · rw [s] at e'
        have := h.nhi l p2 k' e'
        have := (hx k e).1
        omega
      · omega
theorem NOwn.nil {lo hi : Nat} {w : World} : NOwn lo hi w (.slice none 0 0) [] :=
  ⟨FOwn.nil, fun i h => absurd h (by simp), fun g e => by simp [Value.ownBlock] at e, fun i h => absurd h (by simp), fun i h => absurd h (by simp), fun i j _ h => absurd h (by simp)⟩
/-- A net whose memory is its own: the links' from lo on below mid, the bridges' from mid on below hi. -/
structure NetOwn (lo mid hi : Nat) (w : World) (vB : Value) (Cs : List Bd) (vK : Value) (K : List Lk) : Prop where
  own : NOwn mid hi w vB Cs
  own2 : FOwn lkEnc 4 34 lo w vK K
  khi : ∀ g, vK.ownBlock = some g → g < mid
  lm : lo ≤ mid
  mh : mid ≤ hi
  hs : hi ≤ w.heap.size
theorem NetOwn.keep {lo mid hi : Nat} {w w' : World} {vB : Value} {Cs : List Bd} {vK : Value} {K : List Lk} (h : NetOwn lo mid hi w vB Cs vK K) (k : ∀ g, lo ≤ g → g < hi → w'.heap[g]? = w.heap[g]?) (hs : w.heap.size ≤ w'.heap.size) : NetOwn lo mid hi w' vB Cs vK K :=
  ⟨h.own.keep (fun g h1 h2 => k g (Nat.le_trans h.lm h1) h2), h.own2.keep (fun g e => k g (h.own2.lt g e).1 (Nat.lt_of_lt_of_le (h.khi g e) h.mh)), h.khi, h.lm, h.mh, Nat.le_trans h.hs hs⟩
theorem NetOwn.later {lo mid hi : Nat} {w w' : World} {vB : Value} {Cs : List Bd} {vK : Value} {K : List Lk} (h : NetOwn lo mid hi w vB Cs vK K) (k : Below w.heap.size w w') : NetOwn lo mid hi w' vB Cs vK K :=
  h.keep (fun g _ hg => k.block g (Nat.lt_of_lt_of_le hg h.hs)) k.size
theorem NetOwn.nn {lo mid hi : Nat} {w : World} {adB : Option Addr} {cB : Nat} {Cs : List Bd} {adK : Option Addr} {cK : Nat} {K : List Lk} (h : NetOwn lo mid hi w (.slice adB Cs.length cB) Cs (.slice adK K.length cK) K) (hl : Cs.length ≤ 1048576) (hls : ∀ i, i < Cs.length → (Cs.getD i Bd.nil).L.length ≤ 1048576) (hk : K.length ≤ 1048576) : NN w adB Cs adK K :=
  ⟨h.own.view.2, h.own2.view.2, hl, hls, hk⟩
theorem FOwn.cap_ {X : Type} {enc : X → List Value} {n : Nat} {T : TypeId} {base : Nat} {w : World} {ad : Option Addr} {cap : Nat} {L : List X} (h : FOwn enc n T base w (.slice ad L.length cap) L) : L.length ≤ cap := by
  rcases h.2 with ⟨q, e⟩ | ⟨g, c, cur, q, _, _, hc, _⟩
  · rw [e]; exact Nat.zero_le _
  · simp only [Value.slice.injEq] at q
    rw [q.2.2]
    exact hc

end Go.Proofs.YtemibefbkjpnaaaGreat
namespace Go.Proofs.YtemibefbkjpnaaaGreat
open Go.ChangeShapes Go.WideShapes Go.ChangeAt Go.RowKit
open Go.ChangeMaps (open_string shut_string)
set_option linter.unusedVariables false
set_option maxRecDepth 100000

/-- All blocks but those from lo on below hi are as they were. -/
structure KeptR (lo hi : Nat) (w w' : World) : Prop where
  os : w'.os = w.os
  tape : w'.tape = w.tape
  output : w'.output = w.output
  size : w.heap.size ≤ w'.heap.size
  block : ∀ k, k < w.heap.size → (k < lo ∨ hi ≤ k) → w'.heap[k]? = w.heap[k]?
theorem KeptR.refl (lo hi : Nat) (w : World) : KeptR lo hi w w := ⟨rfl, rfl, rfl, Nat.le_refl _, fun _ _ _ => rfl⟩
theorem KeptR.trans {lo hi : Nat} {a b c : World} (h : KeptR lo hi a b) (k : KeptR lo hi b c) : KeptR lo hi a c :=
  ⟨k.os.trans h.os, k.tape.trans h.tape, k.output.trans h.output, Nat.le_trans h.size k.size, fun j hj hn => (k.block j (Nat.lt_of_lt_of_le hj h.size) hn).trans (h.block j hj hn)⟩
theorem KeptR.below {lo hi : Nat} {a b : World} (h : KeptR lo hi a b) (hs : lo ≤ a.heap.size) : Below lo a b := ⟨h.os, h.tape, h.output, h.size, fun j hj => h.block j (by omega) (.inl hj)⟩
theorem KeptR.of_below {lo hi : Nat} {a b : World} (h : Below a.heap.size a b) : KeptR lo hi a b := ⟨h.os, h.tape, h.output, h.size, fun j hj _ => h.block j hj⟩
theorem KeptR.wide {lo hi lo' hi' : Nat} {a b : World} (h : KeptR lo hi a b) (h1 : lo' ≤ lo) (h2 : hi ≤ hi') : KeptR lo' hi' a b := ⟨h.os, h.tape, h.output, h.size, fun j hj q => h.block j hj (by omega)⟩
theorem KeptR.of_grown {lo hi : Nat} {g : Option Nat} {a b : World} (h : a.grownBy b g) (hg : ∀ k, g = some k → lo ≤ k ∧ k < hi) : KeptR lo hi a b := ⟨h.os, h.tape, h.output, h.size, fun j hj q => h.block j hj (fun e => by have := hg j e.symm; omega)⟩
theorem KeptR.set {lo hi : Nat} {a b : World} (h : KeptR lo hi a b) {g o : Nat} (hg : lo ≤ g ∧ g < hi) (v : Value) : KeptR lo hi a (b.setCell ⟨g, o, none⟩ v) :=
  ⟨h.os, h.tape, h.output, by simpa using h.size, fun j hj hn => (Below.heap_setCell _ _ _ _ (fun e => by have : j = g := e; omega)).trans (h.block j hj hn)⟩
/-- How many marks the first j take. -/
def kTo (Bs : List Bd) : Nat → Nat
  | 0 => 0
  | j + 1 => kTo Bs j + 1 + 11 * (Bs.getD j Bd.nil).L.length
theorem kTo_lTo (Bs : List Bd) : ∀ j, kTo Bs j = j + 11 * lTo Bs j
  | 0 => rfl
  | j + 1 => by
    show kTo Bs j + 1 + _ = j + 1 + 11 * (lTo Bs j + _)
    rw [kTo_lTo Bs j]
    omega
theorem kTo_mono (Bs : List Bd) {i j : Nat} (h : i ≤ j) : kTo Bs i ≤ kTo Bs j := by
  induction h with
  | refl => exact Nat.le_refl _
  | step _ ih => exact Nat.le_trans ih (by show _ ≤ kTo Bs _ + 1 + _; omega)
/-- One of them, marked. -/
def mkd (Bs : List Bd) (k0 : Int) (j : Nat) : Bd := ⟨k0 + (kTo Bs j : Int), (Bs.getD j Bd.nil).ad, (Bs.getD j Bd.nil).cap, (List.range (Bs.getD j Bd.nil).L.length).map (ptMk (k0 + (kTo Bs j : Int) + 1))⟩
/-- The first n marked. -/
def marksN (Bs : List Bd) (k0 : Int) (n : Nat) : List Bd := (List.range Bs.length).map fun j => if j < n then mkd Bs k0 j else Bs.getD j Bd.nil
theorem marksN_len (Bs : List Bd) (k0 : Int) (n : Nat) : (marksN Bs k0 n).length = Bs.length := by simp [marksN]
theorem marksN_get (Bs : List Bd) (k0 : Int) (n : Nat) {j : Nat} (h : j < Bs.length) : (marksN Bs k0 n).getD j Bd.nil = if j < n then mkd Bs k0 j else Bs.getD j Bd.nil := by simp [marksN, List.getD, h]
theorem marksN_zero (Bs : List Bd) (k0 : Int) : marksN Bs k0 0 = Bs := by
  refine List.ext_getElem (by simp [marksN]) fun i h1 h2 => ?_
  simp [marksN, List.getD, h2]
theorem marksN_succ (Bs : List Bd) (k0 : Int) {n : Nat} (h : n < Bs.length) : (marksN Bs k0 n).set n (mkd Bs k0 n) = marksN Bs k0 (n + 1) := by
  refine List.ext_getElem (by simp [marksN]) fun i h1 h2 => ?_
  have hi : i < Bs.length := by simpa [marksN] using h2
  rw [List.getElem_set]
  simp only [marksN, List.getElem_map, List.getElem_range]
  by_cases e : n = i
  · subst e
    rw [if_pos rfl, if_pos (by omega)]
  · rw [if_neg e]
    by_cases q : i < n
    · rw [if_pos q, if_pos (by omega)]
    · rw [if_neg q, if_neg (by omega)]
theorem mkd_v (Bs : List Bd) (k0 : Int) (j : Nat) : (mkd Bs k0 j).v = (Bs.getD j Bd.nil).v := by
  unfold mkd Bd.v
  simp
theorem marksN_v (Bs : List Bd) (k0 : Int) (n : Nat) {j : Nat} (h : j < Bs.length) : ((marksN Bs k0 n).getD j Bd.nil).v = (Bs.getD j Bd.nil).v := by
  rw [marksN_get _ _ _ h]
  split
  · exact mkd_v Bs k0 j
  · rfl
theorem row_id {g : Nat} {cap lo : Nat} {w : World} {Ms : List Bd} {n : Nat} (hn : n < Ms.length) (h : FOwn bdEnc 2 40 lo w (.slice (some ⟨g, 0, none⟩) Ms.length cap) Ms) {x : Bd} (hv : x.v = (Ms.getD n Bd.nil).v) : FOwn bdEnc 2 40 lo (w.setCell ⟨g, n * 2, none⟩ (.int .i64 x.id)) (.slice (some ⟨g, 0, none⟩) (Ms.set n x).length cap) (Ms.set n x) := by
  have hs := (World.ownsRow.stored (show w.ownsRow lo 40 2 _ Ms.length (fcells bdEnc Ms) from h) (n * 2) (.int .i64 x.id)).1
  have e : (fcells bdEnc Ms).set (n * 2) (.int .i64 x.id) = fcells bdEnc (Ms.set n x) := by
    rw [← setAll_cells bdEnc_len (by omega) Bd.nil Ms n hn x]
    show _ = ((fcells bdEnc Ms).set (n * 2) (.int .i64 x.id)).set (n * 2 + 1) (.slice x.ad x.L.length x.cap)
    have hl := fcells_len bdEnc_len Ms
    have hc : (fcells bdEnc Ms)[n * 2 + 1]? = some (.slice x.ad x.L.length x.cap) := by
      rw [fcells_at bdEnc_len Bd.nil Ms n 1 hn (by omega)]
      show some (Ms.getD n Bd.nil).v = some x.v
      rw [hv]
    apply List.ext_getElem?
    intro j
    by_cases q : j = n * 2 + 1
    · subst q
      rw [List.getElem?_set_ne (by omega), hc, List.getElem?_set_self (by rw [List.length_set, hl]; omega)]
    · rw [List.getElem?_set_ne (Ne.symm q)]
  rw [e] at hs
  unfold FOwn
  rw [List.length_set]
  exact hs
theorem NOwn.mark {lo hi : Nat} {g cap : Nat} {w w2 : World} {Ms : List Bd} {n : Nat} (h : NOwn lo hi w (.slice (some ⟨g, 0, none⟩) Ms.length cap) Ms) (hs : hi ≤ w.heap.size) (hn : n < Ms.length) {x : Bd} (hv : x.v = (Ms.getD n Bd.nil).v)
    (o2 : FOwn ptEnc 11 75 lo w2 x.v x.L) (gr : (w.setCell ⟨g, n * 2, none⟩ (.int .i64 x.id)).grownBy w2 x.v.ownBlock) : NOwn lo hi w2 (.slice (some ⟨g, 0, none⟩) (Ms.set n x).length cap) (Ms.set n x) ∧ KeptR lo hi w w2 := by
  have hgl := h.row.lt g rfl
  have hgh := h.rhi g rfl
  have hxb : ∀ k, x.v.ownBlock = some k → lo ≤ k ∧ k < hi ∧ k ≠ g := fun k e => by
    rw [hv] at e
    exact ⟨((h.nest n hn).lt k e).1, h.nhi n hn k e, fun q => h.apart n hn g k rfl e q.symm⟩
  have bl : ∀ k, k < w.heap.size → k ≠ g → (∀ q, x.v.ownBlock = some q → q ≠ k) → w2.heap[k]? = w.heap[k]? := fun k hk h1 h2 => (gr.block k (by simpa using hk) (fun e => h2 k e.symm rfl)).trans (Below.heap_setCell _ _ _ _ h1)
  have get : ∀ j, j < (Ms.set n x).length → (j ≠ n ∧ j < Ms.length ∧ (Ms.set n x).getD j Bd.nil = Ms.getD j Bd.nil) ∨ (j = n ∧ (Ms.set n x).getD j Bd.nil = x) := fun j hj => by
    rw [List.length_set] at hj
    by_cases e : j = n
    · subst e
      exact .inr ⟨rfl, by simp [List.getD, hj]⟩
    · exact .inl ⟨e, hj, by simp [List.getD, List.getElem?_set_ne (Ne.symm e)]⟩
  have gv : ∀ j, j < (Ms.set n x).length → j < Ms.length ∧ ((Ms.set n x).getD j Bd.nil).v = (Ms.getD j Bd.nil).v := fun j hj => by
    rcases get j hj with ⟨_, q, r⟩ | ⟨q, r⟩
    · exact ⟨q, by rw [r]⟩
    · exact ⟨by rw [q]; exact hn, by rw [r, hv, q]⟩
  refine ⟨⟨?_, fun j hj => ?_, fun k e => h.rhi k e, fun j hj k e => ?_, fun j hj k k' e e' => ?_, fun i j hij hj k k' e e' => ?_⟩, ?_⟩
  · refine (row_id hn h.row hv).keep (fun k e => ?_)
    obtain rfl : g = k := by simpa [Value.ownBlock] using e
    exact gr.block g (by simpa using hgl.2) (fun e => (hxb g e.symm).2.2 rfl)
  · rcases get j hj with ⟨q, q2, r⟩ | ⟨q, r⟩
    · rw [r]
      refine (h.nest j q2).keep (fun k e => bl k ((h.nest j q2).lt k e).2 (fun q3 => h.apart j q2 g k rfl e q3.symm) (fun p hp hq => ?_))
      rw [hv] at hp
      rcases Nat.lt_or_gt_of_ne q with q4 | q4
      · exact h.aparts j n q4 hn k p e hp hq.symm
      · exact h.aparts n j q4 q2 p k hp e hq
    · rw [r]
      exact o2
  · obtain ⟨q, r⟩ := gv j hj
    rw [r] at e
    exact h.nhi j q k e
  · obtain ⟨q, r⟩ := gv j hj
    rw [r] at e'
    exact h.apart j q k k' e e'
  · obtain ⟨q, r⟩ := gv j hj
    obtain ⟨q2, r2⟩ := gv i (by omega)
    rw [r] at e'
    rw [r2] at e
    exact h.aparts i j hij q k k' e e'
  · refine KeptR.trans ((KeptR.refl lo hi w).set ⟨hgl.1, hgh⟩ _) (KeptR.of_grown gr (fun k e => ⟨(hxb k e).1, (hxb k e).2.1⟩))
set_option maxHeartbeats 4000000 in
theorem bdMark (ad : Option Addr) (cap : Nat) (Bs : List Bd) (k0 : Int) (lo hi : Nat) (w : World) (h : NOwn lo hi w (.slice ad Bs.length cap) Bs) (hs : hi ≤ w.heap.size) (hl : Bs.length ≤ 100) (hls : ∀ i, i < Bs.length → (Bs.getD i Bd.nil).L.length ≤ 100) (hk0 : 0 ≤ k0) (hk1 : k0 ≤ 100000000) :
    Calls Tryz.prog 75 #[.slice ad Bs.length cap, .int .i64 k0] w fun e w' => e = .returned (.int .i64 (k0 + (kTo Bs Bs.length : Int))) ∧ NOwn lo hi w' (.slice ad Bs.length cap) (marksN Bs k0 Bs.length) ∧ KeptR lo hi w w' := by
  by_cases hz : Bs.length = 0
  · obtain rfl : Bs = [] := List.eq_nil_of_length_eq_zero hz
    go_enter Tryz.func75, Tryz.ntmps75
    go_wp2
    refine wp_loop_rounds 1 ?_; rw [rounds_succ]
    go_wp2
    go_ret
    exact ⟨by simp [kTo], by first | (rw [marksN_zero]; exact h) | exact h, KeptR.refl _ _ _⟩
  obtain ⟨g, rfl⟩ : ∃ g, ad = some ⟨g, 0, none⟩ := by
    rcases h.row.2 with ⟨_, q⟩ | ⟨g, cap, cur, q, _⟩
    · omega
    · simp only [Value.slice.injEq] at q
      exact ⟨g, q.1⟩
  have hkb : ∀ j, j ≤ Bs.length → kTo Bs j ≤ 200000 := fun j hj => by
    have h1 : ∀ i, i ≤ Bs.length → lTo Bs i ≤ 100 * i := by
      intro i
      induction i with
      | zero => intro _; exact Nat.le_refl _
      | succ i ih =>
        intro hi
        have := ih (by omega)
        have := hls i (by omega)
        show lTo Bs i + _ ≤ _
        omega
    have := h1 j hj
    rw [kTo_lTo]
    omega
  have M0 : NOwn lo hi w (.slice (some ⟨g, 0, none⟩) Bs.length cap) (marksN Bs k0 0) := by rw [marksN_zero]; exact h
  clear h hz
  go_enter Tryz.func75, Tryz.ntmps75
  go_wp2
  go_loopw [1, 5] (fun q i wr => ∃ (k : Nat) (x : Int), k ≤ Bs.length ∧ i = .int .i64 k ∧ q = .int .i64 x ∧ Hid (x = k0 + (kTo Bs k : Int)) ∧ NOwn lo hi wr (.slice (some ⟨g, 0, none⟩) Bs.length cap) (marksN Bs k0 k) ∧ KeptR lo hi w wr) (fun _ i _ => Bs.length - (intOf i).toNat)
  case atStart => exact ⟨0, k0, Nat.zero_le _, rfl, rfl, by unfold Hid; simp [kTo], M0, KeptR.refl _ _ _⟩
  case round =>
    obtain ⟨k, x, hk, rfl, rfl, hx, M, KR⟩ := hrel
    clear M0
    by_cases hlt : k < Bs.length
    · have hx0 : 0 ≤ x := by have := hx.out; omega
      have hx1 : x ≤ 100200000 := by have := hx.out; have := hkb k (by omega); omega
      have hlk := hls k hlt
      have hb3 : Hid (kTo Bs (k + 1) = kTo Bs k + 1 + 11 * (Bs.getD k Bd.nil).L.length) := rfl
      have hml : Hid ((marksN Bs k0 k).length = Bs.length) := marksN_len _ _ _
      have hck := M.view.2.at_ (i := k) (by rw [hml.out]; exact hlt)
      have hnk := M.nest k (by rw [hml.out]; exact hlt)
      rw [marksN_get Bs k0 k hlt, if_neg (by omega)] at hck hnk
      have M' : NOwn lo hi wr (.slice (some ⟨g, 0, none⟩) (marksN Bs k0 k).length cap) (marksN Bs k0 k) := by rw [hml.out]; exact M
      have hfz := M'.row.frozen (k * 2)
      have hsz : hi ≤ wr.heap.size := Nat.le_trans hs KR.size
      have hmv : Hid ((mkd Bs k0 k).v = ((marksN Bs k0 k).getD k Bd.nil).v) := by unfold Hid; rw [mkd_v, marksN_v _ _ _ hlt]
      have hgap := fun q => M.apart k (by rw [hml.out]; exact hlt) g q rfl
      rw [marksN_v _ _ _ hlt] at hgap
      have st := fun (w2 : World) => M'.mark (w2 := w2) (n := k) hsz (by rw [hml.out]; exact hlt) (x := mkd Bs k0 k) hmv.out
      rw [mkd_v, marksN_succ Bs k0 hlt] at st
      simp only [marksN_len] at st
      have hmi : (mkd Bs k0 k).id = x := hx.out.symm
      have hmL : (mkd Bs k0 k).L = (List.range (Bs.getD k Bd.nil).L.length).map (ptMk (x + 1)) := by unfold mkd; rw [hx.out]
      rw [hmi, hmL] at st
      obtain ⟨⟨id, a1, c1, L1⟩, hh⟩ : ∃ m, Bs.getD k Bd.nil = m := ⟨_, rfl⟩
      rw [hh] at hck hnk hlk hgap hb3
      simp only [hh] at st
      unfold Bd.v at hnk hgap st
      dsimp only at hnk hlk hgap st
      obtain ⟨c0, c1_⟩ := hck
      rw [Nat.zero_add] at c0 c1_
      dsimp only at c0 c1_
      have c1' : (wr.setCell ⟨g, k * 2, none⟩ (.int .i64 x)).cell? ⟨g, k * 2 + 1, none⟩ = some (.slice a1 L1.length c1) := (pset_else (by simp)).trans c1_
      have hn1 : FOwn ptEnc 11 75 lo (wr.setCell ⟨g, k * 2, none⟩ (.int .i64 x)) (.slice a1 L1.length c1) L1 := hnk.keep (fun j e => Below.heap_setCell _ _ _ _ (fun q => hgap j e q.symm))
      clear hh M M' hnk hgap hmi hmL hmv
      go_wp2_with fail
      go_at_call 109
      refine (ptMark a1 c1 (x + 1) lo L1 _ hn1 (by omega) (by omega) (by omega)).mono ?_
      rintro e w2 ⟨rfl, o2, gr⟩
      obtain ⟨M1, K1⟩ := st w2 o2 gr
      clear st o2 gr hn1
      go_wp2
      go_roundw
      case rel => exact ⟨k + 1, x + 1 + 11 * (L1.length : Int), by omega, by go_num, rfl, by have := hx.out; have := hb3.out; unfold Hid; omega, M1, KR.trans K1⟩
      case measure => simp [intOf]; omega
    · obtain rfl : k = Bs.length := by omega
      go_wp2
      go_ret
      exact ⟨by rw [← hx.out]; rfl, M, KR⟩
set_option maxHeartbeats 4000000 in
theorem bdHeld (ad : Option Addr) (cap : Nat) (Bs : List Bd) (k0 : Int) (w : World) (hv : NV w ad (marksN Bs k0 Bs.length)) (hl : Bs.length ≤ 100) (hls : ∀ i, i < Bs.length → (Bs.getD i Bd.nil).L.length ≤ 100) (hk0 : 0 ≤ k0) (hk1 : k0 ≤ 100000000) :
    Calls Tryz.prog 76 #[.slice ad Bs.length cap, .int .i64 k0] w fun e w' => e = .returned (.int .i64 (k0 + (kTo Bs Bs.length : Int))) ∧ w' = w := by
  have hkb : ∀ j, j ≤ Bs.length → kTo Bs j ≤ 200000 := fun j hj => by
    have h1 : ∀ i, i ≤ Bs.length → lTo Bs i ≤ 100 * i := by
      intro i
      induction i with
      | zero => intro _; exact Nat.le_refl _
      | succ i ih =>
        intro hi
        have := ih (by omega)
        have := hls i (by omega)
        show lTo Bs i + _ ≤ _
        omega
    have := h1 j hj
    rw [kTo_lTo]
    omega
  go_enter Tryz.func76, Tryz.ntmps76
  go_wp2
  go_loop [1, 5] (fun q i => ∃ (k : Nat) (x : Int), k ≤ Bs.length ∧ i = .int .i64 k ∧ q = .int .i64 x ∧ Hid (x = k0 + (kTo Bs k : Int))) (fun _ i => Bs.length - (intOf i).toNat)
  case atStart => exact ⟨0, k0, Nat.zero_le _, rfl, rfl, by unfold Hid; simp [kTo]⟩
  case round =>
    obtain ⟨k, x, hk, rfl, rfl, hx⟩ := hrel
    by_cases hlt : k < Bs.length
    · have hx0 : 0 ≤ x := by have := hx.out; omega
      have hx1 : x ≤ 100200000 := by have := hx.out; have := hkb k (by omega); omega
      have hlk := hls k hlt
      have hb3 : Hid (kTo Bs (k + 1) = kTo Bs k + 1 + 11 * (Bs.getD k Bd.nil).L.length) := rfl
      obtain ⟨b, off, rfl⟩ := hv.ad_ (by rw [marksN_len]; omega)
      have hck := hv.at_ (i := k) (by rw [marksN_len]; exact hlt)
      have hnk := hv.nest k (by rw [marksN_len]; exact hlt)
      rw [marksN_get Bs k0 Bs.length hlt, if_pos hlt] at hck hnk
      unfold mkd at hck hnk
      rw [← hx.out] at hck hnk
      obtain ⟨⟨id, a1, c1, L1⟩, hh⟩ : ∃ m, Bs.getD k Bd.nil = m := ⟨_, rfl⟩
      rw [hh] at hck hnk hlk hb3
      dsimp only at hnk hlk
      obtain ⟨c0, c1_⟩ := hck
      dsimp only at c0 c1_
      rw [List.length_map, List.length_range] at c1_
      have hneg : ¬ x + 1 + 11 * (L1.length : Int) < 0 := by omega
      clear hh hv
      go_wp2_with fail
      go_at_call 110
      refine (ptHeld a1 L1.length c1 (x + 1) w hnk (by omega) (by omega) (by omega)).mono ?_
      rintro e w2 ⟨rfl, rfl⟩
      go_wp2
      go_round
      case rel => exact ⟨k + 1, x + 1 + 11 * (L1.length : Int), by omega, by go_num, rfl, by have := hx.out; have := hb3.out; unfold Hid; omega⟩
      case measure => simp [intOf]; omega
    · obtain rfl : k = Bs.length := by omega
      go_wp2
      go_ret
      exact ⟨by rw [← hx.out]; rfl, rfl⟩

end Go.Proofs.YtemibefbkjpnaaaGreat
namespace Go.Proofs.YtemibefbkjpnaaaGreat
open Go.ChangeShapes Go.WideShapes Go.ChangeAt Go.RowKit
open Go.ChangeMaps (open_string shut_string)
set_option linter.unusedVariables false
set_option maxRecDepth 100000

theorem ViewI.mk0 {w : World} {b len : Nat} {f : Nat → Int} (h : ∀ i, i < len → w.cell? ⟨b, i, none⟩ = some (.int .i64 (f i))) : ViewI w (some ⟨b, 0, none⟩) len f :=
  fun _ => ⟨b, 0, rfl, fun i hi => by rw [Nat.zero_add]; exact h i hi⟩
theorem ViewI.congr {w : World} {ad : Option Addr} {len : Nat} {f g : Nat → Int} (h : ViewI w ad len f) (e : ∀ i, i < len → f i = g i) : ViewI w ad len g :=
  fun hp => by
    obtain ⟨b, off, e', hc⟩ := h hp
    exact ⟨b, off, e', fun i hi => by rw [← e i hi]; exact hc i hi⟩
set_option maxHeartbeats 400000 in
theorem eqInts (ad ad' : Option Addr) (len cap cap' : Nat) (f : Nat → Int) (w : World) (hv : ViewI w ad len f) (hv' : ViewI w ad' len f) (hl : len ≤ 1048576) :
    Calls Tryz.prog 30 #[.slice ad len cap, .slice ad' len cap'] w fun e w' => e = .returned (.bool true) ∧ ∃ n, w' = w.drewN n := by
  go_enter Tryz.func30, Tryz.ntmps30
  go_wp2
  go_loopw [5] (fun i wr => ∃ k n : Nat, k ≤ len ∧ i = .int .i64 k ∧ wr = w.drewN n) (fun i _ => len - (intOf i).toNat)
  case atStart => exact ⟨0, 0, Nat.zero_le _, rfl, rfl⟩
  case round =>
    obtain ⟨k, n, hk, rfl, rfl⟩ := hrel
    by_cases hlt : k < len
    · obtain ⟨b, off, rfl, hc⟩ := hv (by omega)
      obtain ⟨b', off', rfl, hc'⟩ := hv' (by omega)
      have hck := hc k hlt
      have hck' := hc' k hlt
      go_wp2
      go_quiet (fail)
      go_wp2
      go_roundw
      case rel => exact ⟨k + 1, _, by omega, by go_num, rfl⟩
      case measure => simp [intOf]; omega
    · obtain rfl : k = len := by omega
      go_wp2
      go_ret
      exact ⟨rfl, _, rfl⟩
theorem Tryz.infoI' : (Tryz.prog.info? 3).map (fun i => (i.zero, i.size, i.bytes)) = some (some (.int .i64 0), 1, 8) := by kernel_rfl
/-- What a loop that fills the block B has done behind k rounds. -/
def FilledI (B len : Nat) (f : Nat → Int) (k : Nat) (w wr : World) : Prop :=
  Below B w wr ∧ B < wr.heap.size ∧ (∀ j, j < len → ∃ u, wr.cell? ⟨B, j, none⟩ = some u) ∧ (∀ j, j < len → wr.frozen? ⟨B, j, none⟩ = false) ∧ ∀ j, j < k → wr.cell? ⟨B, j, none⟩ = some (.int .i64 (f j))
theorem FilledI.step {B len : Nat} {f : Nat → Int} {k : Nat} {w wr : World} (h : FilledI B len f k w wr) (hk : k < len) : FilledI B len f (k + 1) w (wr.setCell ⟨B, k, none⟩ (.int .i64 (f k))) := by
  obtain ⟨h1, h2, h3, h4, h5⟩ := h
  refine ⟨h1.setCell (Nat.le_refl _) _, by simpa using h2, ?_, ?_, ?_⟩
  · intro j hj
    exact cell?_setCell_some (h3 j hj).choose_spec
  · intro j hj
    simpa using h4 j hj
  · intro j hj
    by_cases e : j = k
    · subst e
      exact cell_set_same (h3 j hk)
    · rw [cell_set_ne e]
      exact h5 j (by omega)

theorem filledI_made {w w1 : World} {len : Nat} {f : Nat → Int} {xs : List Value} (hown : w1.ownsRow w.heap.size 3 1 (.slice (some ⟨w.heap.size, 0, none⟩) len len) len xs) (hgrow : w.grownBy w1 none) : FilledI w.heap.size len f 0 w w1 := by
  refine ⟨(Below.refl _ _).grown hgrow (Nat.le_refl _) (by simp), ?_, ?_, ?_, fun j hj => by omega⟩
  · rcases hown.2 with ⟨h, _⟩ | ⟨g, cap, cur, h, _, hg, _⟩
    · simp at h
    · simp only [Value.slice.injEq, Option.some.injEq, Addr.mk.injEq, and_true, true_and] at h
      obtain ⟨rfl, _⟩ := h
      exact (Array.getElem?_eq_some_iff.1 hg).1
  · intro j hj
    have hx := hown.1
    rw [hown.cellAt j (by omega)]
    exact ⟨xs[j]'(by omega), List.getElem?_eq_getElem (by omega)⟩
  · intro j hj
    exact hown.frozenAt j

set_option maxHeartbeats 400000 in
theorem toInts (ad : Option Addr) (len cap : Nat) (f : Nat → Int) (w : World) (hv : ViewI w ad len f) (hl : len ≤ 1048576) (hB : ∀ a, ad = some a → 0 < len → a.block < w.heap.size) :
    Calls Tryz.prog 27 #[.slice ad len cap] w fun e w' => e = .returned (.slice (some ⟨w.heap.size, 0, none⟩) len len) ∧ FilledI w.heap.size len f len w w' := by
  obtain ⟨i0, hi, hz0, hz1, hz2⟩ := info_parts Tryz.infoI'
  go_enter Tryz.func27, Tryz.ntmps27
  go_wp2_with (first | (refine wpList_make_full _ rfl _ _ 43 rfl w.heap.size 3 i0 (.int .i64 0) 1 Tryz.underlying43 hi hz0 hz1 .i64 .i64 _ _ len rfl rfl rfl rfl ?c1 ?c2 ?c3 ?_))
  case c1 => rw [hz2]; omega
  case c2 => unfold maxLen; omega
  case c3 => exact Nat.le_refl _
  intro w1 hown hgrow
  have F0 : FilledI w.heap.size len f 0 w w1 := filledI_made hown hgrow
  clear hown hgrow
  go_wp2
  go_loopw [4] (fun i wr => ∃ k : Nat, k ≤ len ∧ i = .int .i64 k ∧ FilledI w.heap.size len f k w wr) (fun i _ => len - (intOf i).toNat)
  case atStart => exact ⟨0, Nat.zero_le _, rfl, F0⟩
  case round =>
    obtain ⟨k, hk, rfl, F⟩ := hrel
    clear F0
    by_cases hlt : k < len
    · obtain ⟨b, off, rfl, hc⟩ := hv (by omega)
      have hck : wr.cell? ⟨b, off + k, none⟩ = some (.int .i64 (f k)) := (F.1.cell (p := ⟨b, off + k, none⟩) (hB ⟨b, off, none⟩ rfl (by omega))).trans (hc k hlt)
      obtain ⟨u, hu⟩ := F.2.2.1 k hlt
      have hfz := F.2.2.2.1 k hlt
      have F1 := F.step hlt
      clear F hc
      go_wp2
      go_roundw
      case rel => exact ⟨k + 1, by omega, by go_num, F1⟩
      case measure => simp [intOf]; omega
    · obtain rfl : k = len := by omega
      go_wp2
      go_ret
      exact ⟨rfl, F⟩

/-- The same, from a world w that came before. -/
theorem toIntsIn (ad : Option Addr) (len cap : Nat) (f : Nat → Int) (w wc : World) (hv : ViewI w ad len f) (hl : len ≤ 1048576) (hB : ∀ a, ad = some a → 0 < len → a.block < w.heap.size) (hb : Below w.heap.size w wc) :
    Calls Tryz.prog 27 #[.slice ad len cap] wc fun e w' => e = .returned (.slice (some ⟨wc.heap.size, 0, none⟩) len len) ∧ Below w.heap.size w w' ∧ Below wc.heap.size wc w' ∧ wc.heap.size < w'.heap.size ∧ ViewI w' (some ⟨wc.heap.size, 0, none⟩) len f := by
  have hv' : ViewI wc ad len f := fun hp => by
    obtain ⟨b, off, e, hc⟩ := hv hp
    exact ⟨b, off, e, fun i hi => (hb.cell (p := ⟨b, off + i, none⟩) (hB ⟨b, off, none⟩ e hp)).trans (hc i hi)⟩
  refine (toInts ad len cap f wc hv' hl (fun a h hp => Nat.lt_of_lt_of_le (hB a h hp) hb.size)).mono ?_
  rintro e w' ⟨rfl, F⟩
  exact ⟨rfl, hb.trans (F.1.mono hb.size), F.1, F.2.1, ViewI.mk0 F.2.2.2.2⟩
/-- What markByteS has done behind k rounds, at a row at (b, off). -/
def MarkedI (b off len : Nat) (m : Int) (k : Nat) (w wr : World) : Prop :=
  w.grownBy wr (some b) ∧ (∀ j, j < len → (∃ u, wr.cell? ⟨b, off + j, none⟩ = some u) ∧ wr.frozen? ⟨b, off + j, none⟩ = false) ∧ ∀ j, j < k → wr.cell? ⟨b, off + j, none⟩ = some (.int .i64 (m + j))
theorem MarkedI.step {b off len : Nat} {m : Int} {k : Nat} {w wr : World} (h : MarkedI b off len m k w wr) (hk : k < len) : MarkedI b off len m (k + 1) w (wr.setCell ⟨b, off + k, none⟩ (.int .i64 (m + k))) := by
  obtain ⟨h1, h2, h3⟩ := h
  refine ⟨⟨h1.os, h1.tape, h1.output, by simpa using h1.size, fun j hj hne => ?_⟩, fun j hj => ⟨?_, ?_⟩, fun j hj => ?_⟩
  · rw [Below.heap_setCell _ _ _ _ (fun e => hne (by rw [e]))]
    exact h1.block j hj hne
  · exact cell?_setCell_some (h2 j hj).1.choose_spec
  · simpa using (h2 j hj).2
  · by_cases e : j = k
    · subst e
      exact cell_set_same (h2 j hk).1
    · rw [cell_set_ne (by omega)]
      exact h3 j (by omega)

set_option maxHeartbeats 400000 in
theorem markInts (ad : Option Addr) (len cap : Nat) (m : Int) (w : World) (hr : Room w ad len) (hl : len ≤ 1048576) (hm0 : 0 ≤ m) (hm1 : m ≤ 1000000000000) :
    Calls Tryz.prog 32 #[.slice ad len cap, .int .i64 m] w fun e w' => e = .returned (.int .i64 (m + len)) ∧ ViewI w' ad len (fun i => m + i) ∧ Room w' ad len ∧ (w' = w ∨ ∃ a, ad = some a ∧ 0 < len ∧ w.grownBy w' (some a.block)) := by
  by_cases hz : len = 0
  · subst hz
    go_enter Tryz.func32, Tryz.ntmps32
    go_wp2
    refine wp_loop_rounds 1 ?_; rw [rounds_succ]
    go_wp2
    go_ret
    exact ⟨by simp, fun h => absurd h (by omega), fun h => absurd h (by omega), .inl rfl⟩
  · obtain ⟨b, off, rfl, hc⟩ := hr (by omega)
    have M0 : MarkedI b off len m 0 w w := ⟨⟨rfl, rfl, rfl, Nat.le_refl _, fun _ _ _ => rfl⟩, hc, fun j hj => absurd hj (by omega)⟩
    clear hc hr
    go_enter Tryz.func32, Tryz.ntmps32
    go_wp2
    go_loopw [1, 5] (fun q i wr => ∃ k : Nat, k ≤ len ∧ i = .int .i64 k ∧ q = .int .i64 (m + k) ∧ MarkedI b off len m k w wr) (fun _ i _ => len - (intOf i).toNat)
    case atStart => exact ⟨0, Nat.zero_le _, rfl, by simp, M0⟩
    case round =>
      obtain ⟨k, hk, rfl, rfl, M⟩ := hrel
      clear M0
      by_cases hlt : k < len
      · obtain ⟨u, hu⟩ := (M.2.1 k hlt).1
        have hfz := (M.2.1 k hlt).2
        have M1 := M.step hlt
        clear M
        go_wp2
        go_roundw
        case rel => exact ⟨k + 1, by omega, by go_num, by go_num, by simpa using M1⟩
        case measure => simp [intOf]; omega
      · obtain rfl : k = len := by omega
        go_wp2
        go_ret
        exact ⟨rfl, fun _ => ⟨b, off, rfl, M.2.2⟩, fun _ => ⟨b, off, rfl, M.2.1⟩, .inr ⟨_, rfl, by omega, M.1⟩⟩



end Go.Proofs.YtemibefbkjpnaaaGreat
namespace Go.Proofs.YtemibefbkjpnaaaGreat
open Go.ChangeShapes Go.WideShapes Go.ChangeAt Go.RowKit
open Go.ChangeMaps (open_string shut_string)
set_option linter.unusedVariables false
set_option maxRecDepth 100000

/-- What is known of a list of numbers that comes in. -/
structure IntsIn (w : World) (ad : Option Addr) (ids : List Int) : Prop where
  lm : ids.length ≤ maxLen
  hv : ViewI w ad ids.length (fun i => ids.getD i 0)
  hB : ∀ a, ad = some a → 0 < ids.length → a.block < w.heap.size
set_option maxRecDepth 100000 in
theorem intsIn_open {H : Type} {enc : TypeId × Value → H} {w : World} {r : Reach} {b0 : Nat} {v : Value} {d : DataW H} {p : List MemPlace} (hv : Value.okWide Tryz.prog w r b0 43 v) (h : DataW.Trod enc Tryz.prog w 0 (fun _ => true) true 43 v d p) :
    ∃ ad cap ids, v = .slice ad (List.length ids) cap ∧ IntsIn w ad ids := by
  obtain ⟨n, hn⟩ := h
  obtain ⟨a0, len0, cap0, rfl⟩ := okWide_slice (P := Tryz.prog) (t := 43) (e := 3) Tryz.underlying43 hv
  have hcell0 : ∀ x, (Value.slice a0 len0 cap0).cells.toList = [x] → Value.slice a0 len0 cap0 = x := fun x h => by simpa [Value.cells] using h
  rcases open_ints Tryz.underlying43 Tryz.underlying3 (by kernel_rfl) hn with ⟨hcs, _⟩ | ⟨x, l, cp, zs, hcs, _, hl, hm, hz, _, hcell, hwz⟩
  · exact ⟨none, 0, [], hcell0 _ hcs, by simp, fun h => absurd h (by simp), fun a h => by simp at h⟩
  · simp at hz
    refine ⟨some x, cp, (List.range l).map (fun i => zs.getD i 0), by rw [hcell0 _ hcs]; simp, by simp; omega, fun hp => ?_, fun a h hp => ?_⟩
    · simp at hp
      obtain ⟨b, off, rfl, hc⟩ := ints_at hcell (by omega)
      refine ⟨b, off, rfl, fun i hi => ?_⟩
      simp at hi
      rw [hc i (by omega)]
      simp [List.getD, hi]
    · obtain rfl : x = a := by simpa using h
      simp at hp
      have hc := hcell 0 (by omega)
      simpa [Addr.add] using World.block_lt_of_cell? w _ hc
/-- What is known of a list of links that comes in. -/
structure LinksIn (w : World) (ad : Option Addr) (cap : Nat) (K : List Lk) : Prop where
  lm : K.length ≤ maxLen
  hv : FView lkEnc w ad K
  hn : ad = none → cap = 0
set_option maxRecDepth 100000 in
theorem linksIn_open {H : Type} {enc : TypeId × Value → H} {w : World} {r : Reach} {b0 : Nat} {v : Value} {d : DataW H} {p : List MemPlace} (hv : Value.okWide Tryz.prog w r b0 50 v) (h : DataW.Trod enc Tryz.prog w 0 (fun _ => true) true 50 v d p) :
    ∃ ad cap K, v = .slice ad (List.length K) cap ∧ LinksIn w ad cap K := by
  obtain ⟨n, hn⟩ := h
  obtain ⟨a0, len0, cap0, rfl⟩ := okWide_slice (P := Tryz.prog) (t := 50) (e := 103) Tryz.underlying50 hv
  obtain ⟨ad, cap, K, e, m, hV, hz⟩ := lkRow_open (v := .slice a0 len0 cap0) (by simpa [Value.cells] using hn)
  exact ⟨ad, cap, K, e, m, hV, hz⟩
/-- Numbers that a call made: they are read, and may be written. -/
structure IRow (lo : Nat) (w : World) (g : Nat) (n : Nat) (f : Nat → Int) : Prop where
  v : ViewI w (some ⟨g, 0, none⟩) n f
  r : Room w (some ⟨g, 0, none⟩) n
  lt : lo ≤ g ∧ g < w.heap.size
theorem IRow.later {lo : Nat} {w w' : World} {g n : Nat} {f : Nat → Int} (h : IRow lo w g n f) (k : Below w.heap.size w w') : IRow lo w' g n f :=
  ⟨h.v.carry (fun a e _ => by cases e; exact k.block g h.lt.2), h.r.carry (fun a e _ => by cases e; exact k.block g h.lt.2), h.lt.1, Nat.lt_of_lt_of_le h.lt.2 k.size⟩
theorem intTo (ad : Option Addr) (cap : Nat) (L : List Int) (w : World) (hv : ViewI w ad L.length (fun i => L.getD i 0)) (hB : ∀ a, ad = some a → 0 < L.length → a.block < w.heap.size) (hl : L.length ≤ 1048576) :
    Calls Tryz.prog 27 #[.slice ad L.length cap] w fun e w' => ∃ g, e = .returned (.slice (some ⟨g, 0, none⟩) L.length L.length) ∧ IRow w.heap.size w' g L.length (fun i => L.getD i 0) ∧ Below w.heap.size w w' := by
  refine (toInts ad L.length cap (fun i => L.getD i 0) w hv hl hB).mono ?_
  rintro e w' ⟨rfl, F⟩
  exact ⟨w.heap.size, rfl, ⟨ViewI.mk0 F.2.2.2.2, fun _ => ⟨w.heap.size, 0, rfl, fun i hi => ⟨by simpa using F.2.2.1 i hi, by simpa using F.2.2.2.1 i hi⟩⟩, Nat.le_refl _, F.2.1⟩, F.1⟩
theorem intEq (ad ad' : Option Addr) (cap cap' : Nat) (n : Nat) (f : Nat → Int) (w : World) (hv : ViewI w ad n f) (hv' : ViewI w ad' n f) (hl : n ≤ 1048576) :
    Calls Tryz.prog 30 #[.slice ad n cap, .slice ad' n cap'] w fun e w' => e = .returned (.bool true) ∧ Below w.heap.size w w' := by
  refine (eqInts ad ad' n cap cap' f w hv hv' hl).mono ?_
  rintro e w' ⟨rfl, m, rfl⟩
  exact ⟨rfl, ⟨rfl, rfl, rfl, Nat.le_refl _, fun _ _ => rfl⟩⟩
theorem intMark (g cap : Nat) (m : Int) (lo n : Nat) (f : Nat → Int) (w : World) (h : IRow lo w g n f) (hl : n ≤ 1048576) (hm0 : 0 ≤ m) (hm1 : m ≤ 1000000000000) :
    Calls Tryz.prog 32 #[.slice (some ⟨g, 0, none⟩) n cap, .int .i64 m] w fun e w' => e = .returned (.int .i64 (m + n)) ∧ KeptR g (g + 1) w w' := by
  refine (markInts (some ⟨g, 0, none⟩) n cap m w h.r hl hm0 hm1).mono ?_
  rintro e w' ⟨rfl, _, _, q⟩
  refine ⟨rfl, ?_⟩
  rcases q with rfl | ⟨a, e, _, gr⟩
  · exact KeptR.refl _ _ _
  · cases e
    exact KeptR.of_grown gr (fun k e => by simp only [Option.some.injEq] at e; omega)

end Go.Proofs.YtemibefbkjpnaaaGreat
