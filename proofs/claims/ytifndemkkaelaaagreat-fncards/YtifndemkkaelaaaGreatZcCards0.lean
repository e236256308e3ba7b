/- cards0 -/
import Derived.Test.YtifndemkkaelaaaGreatRows
import Derived.WalkKit
import Derived.ProofKit
import Derived.OpenShut
import Derived.ShutString
import Derived.ChangeOld
import Derived.Below
import Derived.Deep.QuietTactic
import Derived.BigQuiet
import Derived.WalkSmall
import Derived.Laws.OwnMore
import Derived.WalkSpells
import Derived.WalkLawsBesides
import Derived.Test.YtifndemkkaelaaaGreatZc30
import Derived.Test.YtifndemkkaelaaaGreatZcSame
import Derived.Test.YtifndemkkaelaaaGreatZcGateI
import Derived.Test.YtifndemkkaelaaaGreatZc1
import Derived.Test.YtifndemkkaelaaaGreatZc22
namespace Go.Proofs.YtifndemkkaelaaaGreat
open Go.ChangeShapes Go.WideShapes Go.ChangeAt Go.RowKit
open Go.ChangeMaps (open_string shut_string)
set_option linter.unusedVariables false
set_option maxRecDepth 100000

theorem do_get' (Ns : List Ob) (i : Nat) (h : i < Ns.length) : (Ns.getD i Ob.nil).d ∈ Ns.map Ob.d := List.mem_map_of_mem (by simp [List.getD, List.getElem?_eq_getElem h])
theorem same_refl (a b c : Int) (f : Nat → Int) (n : Nat) : sameF a b c a b c (sameT f n f n) = true := by
  unfold sameF sameT
  simp
theorem bd_get {L : List Int} (h : ∀ x ∈ L, 0 ≤ x ∧ x ≤ 255) (i : Nat) : 0 ≤ L.getD i 0 ∧ L.getD i 0 ≤ 255 := by
  by_cases hi : i < L.length
  · exact h _ (by simp [List.getD, List.getElem?_eq_getElem hi])
  · simp [List.getD, List.getElem?_eq_none (by omega : L.length ≤ i)]
theorem okImpl (a b c : Int) (ad : Option Addr) (len cap : Nat) (w : World) (hm : len ≤ maxLen) :
    Calls Tryz.prog 18 #[.agg #[.int .i64 a, .int .i64 b, .int .i64 c, .slice ad len cap]] w fun e w' => e = .returned (.bool (okF a b c len)) ∧ Below w.heap.size w w' := by
  go_enter Tryz.func18, Tryz.ntmps18
  go_wp2_with fail
  go_at_call 58
  refine (fits w.heap.size a b c ad len cap _ hm (by refine ⟨?_, ?_, ?_, ?_⟩ <;> simp [go_sem])).mono ?_
  rintro e w1 ⟨rfl, rfl⟩
  go_wp2
  go_ret
  exact ⟨rfl, (Below.refl _ _).alloc (Nat.le_refl _) _⟩
theorem outD_ok {d : Int × List Int} {a b c : Int} {L : List Int} (h : (outD d a b c L).ok = true) : okF (outD d a b c L).a (outD d a b c L).b (outD d a b c L).c (outD d a b c L).M.length = true ∧ (outD d a b c L).M = L := by
  unfold outD outR at h ⊢
  split at h
  · rename_i q
    rw [if_pos q]
    refine ⟨?_, rfl⟩
    have q1 := q.1
    unfold okF at q1 ⊢
    simp only [decide_eq_true_eq] at q1 ⊢
    split <;> omega
  · cases h
def OutAt (O : List Bool) (p : Int) (M : List Int) (y : Int × Int × Int × Int × List Int) (i : Nat) : Prop := y.1 = (i : Int) ∧ (i : Int) ≠ p ∧ O.getD i false = true ∧ okF y.2.1 y.2.2.1 y.2.2.2.1 y.2.2.2.2.length = true ∧ y.2.2.2.2 = M
theorem goesAt_at {O : List Bool} {D : DL} {p : Int} {x : FR} {kn : Bool} {only : Int} {i : Nat} {y : Int × Int × Int × Int × List Int} (h : y ∈ goesAt O D p x kn only i) : OutAt O p x.M y i := by
  unfold goesAt at h
  split at h
  · cases h
  · split at h
    · cases h
    · split at h
      · cases h
      · split at h
        · rename_i h1 h2 h3 h4
          obtain rfl := List.mem_singleton.1 h
          obtain ⟨g1, g2⟩ := outD_ok h4
          exact ⟨rfl, h1, by simpa using h2, g1, g2⟩
        · cases h
theorem goesTo_at {O : List Bool} {D : DL} {p : Int} {x : FR} {kn : Bool} {only : Int} : ∀ k, (∀ y ∈ goesTo O D p x kn only k, ∃ i, i < k ∧ OutAt O p x.M y i) ∧ (goesTo O D p x kn only k).Pairwise (fun y z => y.1 < z.1)
  | 0 => ⟨fun y hy => by simp [goesTo] at hy, by simp [goesTo]⟩
  | k + 1 => by
    obtain ⟨h1, h2⟩ := goesTo_at (O := O) (D := D) (p := p) (x := x) (kn := kn) (only := only) k
    have g1 := (goesAt_one O D p x kn only k).1
    rw [goesTo]
    refine ⟨fun y hy => ?_, ?_⟩
    · rcases List.mem_append.1 hy with q | q
      · obtain ⟨i, hi, r⟩ := h1 y q
        exact ⟨i, by omega, r⟩
      · exact ⟨k, by omega, goesAt_at q⟩
    · rw [List.pairwise_append]
      refine ⟨h2, ?_, fun y hy z hz => ?_⟩
      · match hg : goesAt O D p x kn only k with
        | [] => exact List.Pairwise.nil
        | [_] => simp
        | _ :: _ :: _ => rw [hg] at g1; simp at g1
      · obtain ⟨i, hi, r⟩ := h1 y hy
        have r' := goesAt_at hz
        rw [r.1, r'.1]
        omega
theorem pIn_M {O : List Bool} {D : DL} {T : List Hd} {p a b c : Int} {L : List Int} (h : (pIn O D T p a b c L).ok = true) : pGo O D T p = true ∧ (pIn O D T p a b c L).M = L := by
  unfold pIn at h ⊢
  by_cases hg : pGo O D T p = true
  · rw [if_pos hg] at h ⊢
    refine ⟨hg, ?_⟩
    unfold insD insR at h ⊢
    split at h
    · rename_i q
      rw [if_pos q]
    · cases h
  · rw [if_neg hg] at h
    cases h
structure Fine (O : List Bool) (p : Int) (L : List Int) (Ns : List Ob) : Prop where
  p0 : 0 < Ns.length → 0 ≤ p ∧ p < (O.length : Int) ∧ O.getD p.toNat false = true
  lo : ∀ i, i < Ns.length → 0 ≤ (Ns.getD i Ob.nil).p ∧ (Ns.getD i Ob.nil).p < (O.length : Int) ∧ (Ns.getD i Ob.nil).p ≠ p ∧ O.getD (Ns.getD i Ob.nil).p.toNat false = true
  ok : ∀ i, i < Ns.length → okF (Ns.getD i Ob.nil).a (Ns.getD i Ob.nil).b (Ns.getD i Ob.nil).c (Ns.getD i Ob.nil).L.length = true
  ld : ∀ i, i < Ns.length → (Ns.getD i Ob.nil).L = L
  asc : ∀ i, i < Ns.length → 0 < i → (Ns.getD (i - 1) Ob.nil).p < (Ns.getD i Ob.nil).p
theorem fine_of {O : List Bool} {D : DL} {T : List Hd} {p a b c : Int} {L : List Int} {Ns : List Ob} (h : Ns.map Ob.d = pOuts O D T p a b c L) : Fine O p L Ns := by
  have hall : (pGo O D T p = true ∧ (∀ y ∈ pOuts O D T p a b c L, ∃ i, i < O.length ∧ OutAt O p L y i) ∧ (pOuts O D T p a b c L).Pairwise (fun y z => y.1 < z.1)) ∨ pOuts O D T p a b c L = [] := by
    unfold pOuts
    by_cases q : (pIn O D T p a b c L).ok = true
    · rw [if_pos q]
      obtain ⟨g1, g2⟩ := pIn_M q
      have := goesTo_at (O := O) (D := D) (p := p) (x := pIn O D T p a b c L) (kn := (whereR T (pIn O D T p a b c L).a (pIn O D T p a b c L).c).2 && ((pIn O D T p a b c L).a != 0)) (only := (whereR T (pIn O D T p a b c L).a (pIn O D T p a b c L).c).1) O.length
      rw [g2] at this
      exact .inl ⟨g1, this⟩
    · rw [if_neg q]
      exact .inr rfl
  have hl : Ns.length = (pOuts O D T p a b c L).length := by rw [← h, List.length_map]
  rcases hall with ⟨hg, h1, h2⟩ | h0
  · unfold pGo at hg
    simp only [Bool.and_eq_true, decide_eq_true_eq] at hg
    have key : ∀ i, i < Ns.length → ∃ j, j < O.length ∧ OutAt O p L (Ns.getD i Ob.nil).d j := fun i hi => h1 _ (by rw [← h]; exact do_get' Ns i hi)
    refine ⟨fun _ => ⟨hg.2.1.1, hg.2.1.2, hg.2.2⟩, fun i hi => ?_, fun i hi => ?_, fun i hi => ?_, fun i hi hp => ?_⟩
    · obtain ⟨j, hj, e, r1, r2, _⟩ := key i hi
      have e : (Ns.getD i Ob.nil).p = (j : Int) := e
      rw [e]
      exact ⟨by omega, by omega, r1, by simpa using r2⟩
    · obtain ⟨j, hj, e, r1, r2, r3, _⟩ := key i hi
      exact r3
    · obtain ⟨j, hj, e, r1, r2, r3, r4⟩ := key i hi
      exact r4
    · rw [← h] at h2
      have h3 := List.pairwise_iff_getElem.1 h2 (i - 1) i (by rw [List.length_map]; omega) (by rw [List.length_map]; omega) (by omega)
      simp only [List.getElem_map] at h3
      have e1 : Ns.getD i Ob.nil = Ns[i] := by simp [List.getD, List.getElem?_eq_getElem hi]
      have e2 : Ns.getD (i - 1) Ob.nil = Ns[i - 1] := by simp [List.getD, List.getElem?_eq_getElem (by omega : i - 1 < Ns.length)]
      rw [e1, e2]
      exact h3
  · have : Ns.length = 0 := by rw [hl, h0]; rfl
    exact ⟨fun q => by omega, fun i hi => by omega, fun i hi => by omega, fun i hi => by omega, fun i hi => by omega⟩
theorem cOk_tab {O : List Bool} {D : DL} {T : List Hd} {p a b c : Int} {L : List Int} (h : cOk O D T = true) : cOk O D (pTab O D T p a b c L) = true := by
  unfold cOk at h ⊢
  simp only [Bool.and_eq_true] at h ⊢
  refine ⟨h.1, h.2.1, h.2.2.1, h.2.2.2.1, ?_⟩
  unfold pTab
  split
  · unfold hearR
    split
    · assumption
    · exact h.2.2.2.2
  · exact h.2.2.2.2
theorem gO_at {O : List Bool} {D : DL} {T : List Hd} {p : Int} {on : Bool} (h : cOk O D T = true) (h0 : 0 ≤ p) (h1 : p < (O.length : Int)) : (gO O D T p on).getD p.toNat false = on := by
  unfold gO
  by_cases q : gTurn O D T p on = true
  · rw [if_pos q]
    have : p.toNat < O.length := by omega
    simp [List.getD, this]
  · rw [if_neg q]
    unfold gTurn at q
    rw [h, decide_eq_true (⟨h0, h1⟩ : 0 ≤ p ∧ p < (O.length : Int))] at q
    simpa using q
structure VwI (w : World) (hi : Nat) (ad : Option Addr) (len : Nat) (f : Nat → Int) : Prop where
  v : View w ad len f
  i : ∀ x, ad = some x → 0 < len → x.block < hi
theorem VwI.of {w : World} {ad : Option Addr} {len : Nat} {f : Nat → Int} (h : View w ad len f) : VwI w w.heap.size ad len f := ⟨h, fun x e p => h.lt x e p⟩
theorem VwI.below {w w' : World} {hi B : Nat} {ad : Option Addr} {len : Nat} {f : Nat → Int} (h : VwI w hi ad len f) (k : Below B w w') (hB : hi ≤ B) : VwI w' hi ad len f := ⟨h.v.carry (fun x e p => k.block _ (by have := h.i x e p; omega)), h.i⟩
theorem ob_same {Ms Ms' : List Ob} (hd : Ms'.map Ob.d = Ms.map Ob.d) (i : Nat) : (Ms'.getD i Ob.nil).p = (Ms.getD i Ob.nil).p ∧ (Ms'.getD i Ob.nil).a = (Ms.getD i Ob.nil).a ∧ (Ms'.getD i Ob.nil).b = (Ms.getD i Ob.nil).b ∧ (Ms'.getD i Ob.nil).c = (Ms.getD i Ob.nil).c ∧ (Ms'.getD i Ob.nil).L = (Ms.getD i Ob.nil).L := by
  have := congrArg (fun D => D.getD i (0, 0, 0, 0, [])) hd
  simp only [do_get] at this
  simpa [Ob.d] using this

end Go.Proofs.YtifndemkkaelaaaGreat
