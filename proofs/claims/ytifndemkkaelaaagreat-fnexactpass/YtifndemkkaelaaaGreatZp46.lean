/- How a card comes in, of what it says. Lists of what goes out, marked and held; how great what Pass answers is. What is known of a frame that comes in. -/
import Derived.Test.YtifndemkkaelaaaGreatRows
import Derived.WalkKit
import Derived.ProofKit
import Derived.OpenShut
import Derived.ShutString
import Derived.ChangeOld
import Derived.Below
import Derived.Deep.QuietTactic
import Derived.BigQuiet
import Derived.WalkSmall
import Derived.Laws.OwnMore
import Derived.WalkSpells
import Derived.WalkLawsBesides
import Derived.Test.YtifndemkkaelaaaGreatZpCard2
import Derived.Test.YtifndemkkaelaaaGreatZp16
import Derived.Laws.AppendOwnNone
import Derived.Laws.CopyOwn
import Derived.Test.YtifndemkkaelaaaGreatZpPassI
import Derived.Test.YtifndemkkaelaaaGreatZpOut1
import Derived.Test.YtifndemkkaelaaaGreatZp36
import Derived.Lib.SmallJoins
import Derived.Test.YtifndemkkaelaaaGreatZpFrameOwn
namespace Go.Proofs.YtifndemkkaelaaaGreat
open Go.ChangeShapes Go.WideShapes Go.ChangeAt Go.RowKit
open Go.ChangeMaps (open_string shut_string)
set_option linter.unusedVariables false
set_option maxRecDepth 100000

/-- What is known of a card that comes in, of what it says. -/
def CardI (w : World) (adO : Option Addr) (O : List Bool) (adM : Option Addr) (D : DL) (adT : Option Addr) (T : List Hd) : Prop := ∃ Ms : List Mb, Ms.map Mb.d = D ∧ CardIn w adO O adM Ms adT T
theorem CardI.view {w : World} {adO : Option Addr} {O : List Bool} {adM : Option Addr} {D : DL} {adT : Option Addr} {T : List Hd} (h : CardI w adO O adM D adT T) : CdV w 0 w.heap.size adO O adM D adT T := by
  obtain ⟨Ms, e, I⟩ := h
  exact ⟨I.vO, fun x q p => ⟨Nat.zero_le _, I.vO.lt x q p⟩, ⟨Ms, e, I.vM, fun x q p => ⟨Nat.zero_le _, I.vM.lt x q p⟩, fun i hi x q p => ⟨Nat.zero_le _, ViewI.lt (I.vM.nest i hi) x q p⟩⟩, I.hT.hv, fun x q p => ⟨Nat.zero_le _, I.hT.hB x q p⟩⟩
theorem CardIn.later {w w' : World} {adO : Option Addr} {O : List Bool} {adM : Option Addr} {Ms : List Mb} {adT : Option Addr} {T : List Hd} (h : CardIn w adO O adM Ms adT T) (k : Below w.heap.size w w') : CardIn w' adO O adM Ms adT T :=
  ⟨h.mO, h.vO.below k (Nat.le_refl _), h.mM, h.vM.below k (Nat.le_refl _), h.mMs, ⟨h.hT.lm, h.hT.hv.below h.hT.hB k, h.hT.hB.le k.size, h.hT.wf⟩⟩
theorem CardI.later {w w' : World} {adO : Option Addr} {O : List Bool} {adM : Option Addr} {D : DL} {adT : Option Addr} {T : List Hd} (h : CardI w adO O adM D adT T) (k : Below w.heap.size w w') : CardI w' adO O adM D adT T := by
  obtain ⟨Ms, e, I⟩ := h
  exact ⟨Ms, e, I.later k⟩
set_option maxRecDepth 100000 in
theorem cardI_open {H : Type} {enc : TypeId × Value → H} {w : World} {r : Reach} {b0 : Nat} {v : Value} {d : DataW H} {p : List MemPlace} (hv : Value.okWide Tryz.prog w r b0 56 v) (h : DataW.Trod enc Tryz.prog w 0 (fun _ => true) true 56 v d p) :
    ∃ adO cO O adM cM D adT cT T, v = .agg #[.slice adO (List.length O) cO, .slice adM (List.length D) cM, .slice adT (List.length T) cT] ∧ CardI w adO O adM D adT T := by
  obtain ⟨adO, cO, O, adM, cM, Ms, adT, cT, T, rfl, I⟩ := cardIn_open hv h
  exact ⟨adO, cO, O, adM, cM, Ms.map Mb.d, adT, cT, T, by rw [List.length_map], Ms, rfl, I⟩
theorem szCD (adO : Option Addr) (cO : Nat) (O : List Bool) (adM : Option Addr) (cM : Nat) (D : DL) (adT : Option Addr) (cT : Nat) (T : List Hd) (w : World) (I : CardI w adO O adM D adT T) :
    Calls Tryz.prog 21 #[.agg #[.slice adO O.length cO, .slice adM D.length cM, .slice adT T.length cT], .int .i64 1048576] w fun e w' => (∃ r : Int, e = .returned (.int .i64 r) ∧ -1 ≤ r ∧ r ≤ 1048576 ∧ (0 ≤ r → O.length + totD D + T.length ≤ 1048576)) ∧ Below w.heap.size w w' := by
  obtain ⟨Ms, rfl, I⟩ := I
  rw [List.length_map, tot_siz, ← lTo_siz, List.length_map]
  exact szC adO cO O adM cM Ms adT cT T w I

end Go.Proofs.YtifndemkkaelaaaGreat
namespace Go.Proofs.YtifndemkkaelaaaGreat
open Go.ChangeShapes Go.WideShapes Go.ChangeAt Go.RowKit
open Go.ChangeMaps (open_string shut_string)
set_option linter.unusedVariables false
set_option maxRecDepth 100000

/-- A list of what goes out that can be read; all of it lies from lo on, below hi. -/
structure ObI (w : World) (lo hi : Nat) (ad : Option Addr) (Ns : List Ob) : Prop where
  v : ObV w ad Ns
  r : ∀ x, ad = some x → 0 < Ns.length → lo ≤ x.block ∧ x.block < hi
  n : ∀ i, i < Ns.length → ∀ x, (Ns.getD i Ob.nil).ad = some x → 0 < (Ns.getD i Ob.nil).L.length → lo ≤ x.block ∧ x.block < hi
theorem ObI.keep {w w' : World} {lo hi : Nat} {ad : Option Addr} {Ns : List Ob} (h : ObI w lo hi ad Ns) (k : ∀ j, lo ≤ j → j < hi → w'.heap[j]? = w.heap[j]?) : ObI w' lo hi ad Ns :=
  ⟨h.v.carry (fun x e p => k _ (h.r x e p).1 (h.r x e p).2) (fun i hi x e p => k _ (h.n i hi x e p).1 (h.n i hi x e p).2), h.r, h.n⟩
theorem ObI.below {w w' : World} {lo hi B : Nat} {ad : Option Addr} {Ns : List Ob} (h : ObI w lo hi ad Ns) (k : Below B w w') (hB : hi ≤ B) : ObI w' lo hi ad Ns := h.keep fun j _ hj => k.block _ (by omega)
theorem ObI.kept {w w' : World} {lo hi l2 h2 : Nat} {ad : Option Addr} {Ns : List Ob} (h : ObI w lo hi ad Ns) (k : KeptR l2 h2 w w') (ht : hi ≤ w.heap.size) (hd : hi ≤ l2 ∨ h2 ≤ lo) : ObI w' lo hi ad Ns := h.keep fun j h1 h2 => k.block _ (by omega) (by omega)
/-- The same, whose memory is its own. -/
structure ObJ (w : World) (lo hi : Nat) (ad : Option Addr) (Ns : List Ob) : Prop where
  ex : ∃ fp, ObW w ad Ns fp ∧ ∀ x ∈ fp, lo ≤ x ∧ x < hi
theorem ObJ.view {w : World} {lo hi : Nat} {ad : Option Addr} {Ns : List Ob} (h : ObJ w lo hi ad Ns) : ObI w lo hi ad Ns := by
  obtain ⟨fp, m, f⟩ := h.ex
  exact ⟨m.view, fun x e p => f _ (m.rowIn x e p), fun i hi x e p => f _ (m.nestIn i hi x e p)⟩
theorem ObJ.keep {w w' : World} {lo hi : Nat} {ad : Option Addr} {Ns : List Ob} (h : ObJ w lo hi ad Ns) (k : ∀ j, lo ≤ j → j < hi → w'.heap[j]? = w.heap[j]?) : ObJ w' lo hi ad Ns := by
  obtain ⟨fp, m, f⟩ := h.ex
  exact ⟨fp, m.carryP (fun x hx => k x (f x hx).1 (f x hx).2), f⟩
theorem ObJ.below {w w' : World} {lo hi B : Nat} {ad : Option Addr} {Ns : List Ob} (h : ObJ w lo hi ad Ns) (k : Below B w w') (hB : hi ≤ B) : ObJ w' lo hi ad Ns := h.keep fun j _ hj => k.block _ (by omega)
theorem ObJ.kept {w w' : World} {lo hi l2 h2 : Nat} {ad : Option Addr} {Ns : List Ob} (h : ObJ w lo hi ad Ns) (k : KeptR l2 h2 w w') (ht : hi ≤ w.heap.size) (hd : hi ≤ l2 ∨ h2 ≤ lo) : ObJ w' lo hi ad Ns := h.keep fun j h1 h2 => k.block _ (by omega) (by omega)
/-- A list that was marked from k0 on, t marks in all. -/
structure ObH (w : World) (lo hi : Nat) (ad : Option Addr) (n : Nat) (k0 t : Int) : Prop where
  ex : ∃ Ms : List Ob, Ms.length = n ∧ ObI w lo hi ad Ms ∧ (∀ i, i < Ms.length → Ms.getD i Ob.nil = (Ms.getD i Ob.nil).mark (k0 + (kToOb Ms i : Int))) ∧ Ms.length ≤ 1048576 ∧ lToO Ms Ms.length ≤ 1048576 ∧ t = (kToOb Ms Ms.length : Int)
theorem ObH.keep {w w' : World} {lo hi : Nat} {ad : Option Addr} {n : Nat} {k0 t : Int} (h : ObH w lo hi ad n k0 t) (k : ∀ j, lo ≤ j → j < hi → w'.heap[j]? = w.heap[j]?) : ObH w' lo hi ad n k0 t := by
  obtain ⟨Ms, e, i, r⟩ := h.ex
  exact ⟨Ms, e, i.keep k, r⟩
theorem ObH.below {w w' : World} {lo hi B : Nat} {ad : Option Addr} {n : Nat} {k0 t : Int} (h : ObH w lo hi ad n k0 t) (k : Below B w w') (hB : hi ≤ B) : ObH w' lo hi ad n k0 t := h.keep fun j _ hj => k.block _ (by omega)
theorem ob_mark_twice (m : Ob) (k : Int) : (m.mark k).mark k = m.mark k := by unfold Ob.mark; simp [seqOb]
theorem lToO_marks (Ms : List Ob) (k : Int) (n : Nat) : ∀ j, j ≤ Ms.length → lToO (marksOb Ms k n) j = lToO Ms j
  | 0, _ => rfl
  | j + 1, h => by
    show lToO (marksOb Ms k n) j + ((marksOb Ms k n).getD j Ob.nil).L.length = lToO Ms j + (Ms.getD j Ob.nil).L.length
    rw [lToO_marks Ms k n j (by omega), marksOb_len Ms k n (by omega)]
theorem markOJ (ad : Option Addr) (cap : Nat) (Ms : List Ob) (lo hi : Nat) (k0 : Int) (w : World) (h : ObJ w lo hi ad Ms) (hl : Ms.length ≤ 1048576) (hls : lToO Ms Ms.length ≤ 1048576) (hk0 : 0 ≤ k0) (hk1 : k0 ≤ 100000000) :
    Calls Tryz.prog 30 #[.slice ad Ms.length cap, .int .i64 k0] w fun e w' => e = .returned (.int .i64 (k0 + (kToOb Ms Ms.length : Int))) ∧ ObH w' lo hi ad Ms.length k0 (kToOb Ms Ms.length : Int) ∧ KeptR lo hi w w' := by
  obtain ⟨fp, m, f⟩ := h.ex
  refine (markOs ad cap Ms fp k0 w m hl hls hk0 hk1).mono ?_
  rintro e w' ⟨rfl, m', k⟩
  refine ⟨rfl, ⟨marksOb Ms k0 Ms.length, marksOb_length _ _ _, (⟨fp, m', f⟩ : ObJ w' lo hi ad (marksOb Ms k0 Ms.length)).view, fun i hi' => ?_, by rw [marksOb_length]; exact hl, ?_, ?_⟩, KeptR.of_F k f⟩
  · rw [marksOb_length] at hi'
    rw [marksOb_get Ms k0 Ms.length hi', if_pos hi', kToOb_marks Ms k0 Ms.length i (by omega), ob_mark_twice]
  · rw [marksOb_length, lToO_marks Ms k0 Ms.length _ (Nat.le_refl _)]; exact hls
  · rw [marksOb_length, kToOb_marks Ms k0 Ms.length _ (Nat.le_refl _)]
theorem heldOJ (ad : Option Addr) (cap n : Nat) (lo hi : Nat) (k0 t : Int) (w : World) (h : ObH w lo hi ad n k0 t) (hk0 : 0 ≤ k0) (hk1 : k0 ≤ 100000000) :
    Calls Tryz.prog 32 #[.slice ad n cap, .int .i64 k0] w fun e w' => e = .returned (.int .i64 (k0 + t)) ∧ w' = w := by
  obtain ⟨Ms, rfl, i, m, l1, l2, rfl⟩ := h.ex
  exact heldOs ad cap Ms k0 w i.v m l1 l2 hk0 hk1
/-- The load of a frame whose memory is its own. -/
structure FrI (w : World) (lo hi : Nat) (ad : Option Addr) (len : Nat) (f : Nat → Int) : Prop where
  v : View w ad len f
  r : Room w ad len
  i : ∀ x, ad = some x → lo ≤ x.block ∧ x.block < hi
theorem FrI.keep {w w' : World} {lo hi : Nat} {ad : Option Addr} {len : Nat} {f : Nat → Int} (h : FrI w lo hi ad len f) (k : ∀ j, lo ≤ j → j < hi → w'.heap[j]? = w.heap[j]?) : FrI w' lo hi ad len f :=
  ⟨h.v.carry (fun x e _ => k _ (h.i x e).1 (h.i x e).2), h.r.carry (fun x e _ => k _ (h.i x e).1 (h.i x e).2), h.i⟩
theorem FrI.below {w w' : World} {lo hi B : Nat} {ad : Option Addr} {len : Nat} {f : Nat → Int} (h : FrI w lo hi ad len f) (k : Below B w w') (hB : hi ≤ B) : FrI w' lo hi ad len f := h.keep fun j _ hj => k.block _ (by omega)
theorem FrI.kept {w w' : World} {lo hi l2 h2 : Nat} {ad : Option Addr} {len : Nat} {f : Nat → Int} (h : FrI w lo hi ad len f) (k : KeptR l2 h2 w w') (ht : hi ≤ w.heap.size) (hd : hi ≤ l2 ∨ h2 ≤ lo) : FrI w' lo hi ad len f := h.keep fun j h1 h2 => k.block _ (by omega) (by omega)
theorem KeptR.of_kept {lo hi : Nat} {ad : Option Addr} {w w' : World} (h : Kept ad w w') (i : ∀ x, ad = some x → lo ≤ x.block ∧ x.block < hi) : KeptR lo hi w w' := by
  obtain ⟨r, g, hr⟩ := h
  exact ⟨g.os, g.tape, g.output, g.size, fun j hj hn => g.block j hj (fun q => by
    obtain ⟨x, e, q'⟩ := hr j q.symm
    have := i x e
    omega)⟩
theorem toFI (a b c : Int) (ad : Option Addr) (cap : Nat) (L : List Int) (w : World) (hv : View w ad L.length (fun i => L.getD i 0)) (hl : L.length ≤ 1048576) :
    Calls Tryz.prog 24 #[.agg #[.int .i64 a, .int .i64 b, .int .i64 c, .slice ad L.length cap]] w fun e w' => ∃ N, e = .returned (.agg #[.int .i64 a, .int .i64 b, .int .i64 c, .slice (some ⟨N, 0, none⟩) L.length L.length]) ∧ w.heap.size ≤ N ∧ N < w'.heap.size ∧ FrI w' w.heap.size w'.heap.size (some ⟨N, 0, none⟩) L.length (fun i => L.getD i 0) ∧ Below w.heap.size w w' := by
  refine (toF a b c ad L.length cap (fun i => L.getD i 0) w hv hl (fun x e p => hv.lt x e p)).mono ?_
  rintro e w' ⟨N, rfl, n1, n2, v, r, k⟩
  exact ⟨N, rfl, n1, n2, ⟨v, r, fun x e => by cases e; exact ⟨n1, n2⟩⟩, k⟩
/-- Nets of a right member are few. -/
theorem asc_ge {f : Nat → Int} : ∀ (n : Nat), asc f (n + 1) = true → (n : Int) + 1 ≤ f n
  | 0, h => by
    have := asc_in h 0 (by omega)
    simpa using this.1
  | n + 1, h => by
    have h' : (asc f (n + 1) && (decide (1 ≤ f (n + 1) ∧ f (n + 1) ≤ 4) && (decide (n + 1 = 0) || decide (f (n + 1 - 1) < f (n + 1))))) = true := h
    simp only [Bool.and_eq_true, Bool.or_eq_true, decide_eq_true_eq, Nat.add_sub_cancel] at h'
    have h1 := asc_ge n h'.1
    have h2 : f n < f (n + 1) := by
      rcases h'.2.2 with q | q
      · omega
      · exact q
    push_cast
    omega
theorem asc_len {f : Nat → Int} {n : Nat} (h : asc f n = true) : n ≤ 4 := by
  cases n with
  | zero => omega
  | succ n =>
    have h1 := asc_ge n h
    have h2 := asc_in h n (by omega)
    omega
theorem totD_ok : ∀ (D : DL), D.all okMem = true → totD D ≤ 5 * D.length
  | [], _ => by simp [totD]
  | d :: D, h => by
    simp only [List.all_cons, Bool.and_eq_true] at h
    have h1 := totD_ok D h.2
    have h2 : d.2.length ≤ 4 := by
      have := h.1
      unfold okMem mOk at this
      simp only [Bool.and_eq_true] at this
      exact asc_len this.1
    show 1 + d.2.length + totD D ≤ 5 * (d :: D).length
    simp only [List.length_cons]
    omega
theorem hear_len (T : List Hd) (x : Hd) : (hearR T x).length ≤ 12 ∨ hearR T x = T := by
  unfold hearR
  by_cases h : tokB (insS x false T) = true
  · rw [if_pos h]; exact .inl (tokB_of h).1
  · rw [if_neg h]; exact .inr rfl
theorem cOk_small {O : List Bool} {D : DL} {T : List Hd} (h : cOk O D T = true) : O.length ≤ 4 ∧ totD D ≤ 20 ∧ T.length ≤ 12 := by
  unfold cOk at h
  simp only [Bool.and_eq_true, decide_eq_true_eq] at h
  have h1 := totD_ok D h.2.2.2.1
  have h2 := (tokB_of h.2.2.2.2).1
  exact ⟨h.2.1, by omega, h2⟩
theorem pIn_go {O : List Bool} {D : DL} {T : List Hd} {p a b c : Int} {L : List Int} (h : (pIn O D T p a b c L).ok = true) : cOk O D T = true ∧ (pIn O D T p a b c L).M.length ≤ 30 := by
  unfold pIn at h ⊢
  by_cases hg : pGo O D T p = true
  · rw [if_pos hg] at h ⊢
    refine ⟨?_, ?_⟩
    · unfold pGo at hg
      simp only [Bool.and_eq_true] at hg
      exact hg.1
    · unfold insD insR at h ⊢
      split at h
      · rename_i q
        rw [if_pos q]
        have := q.1
        unfold okF at this
        simp only [decide_eq_true_eq] at this
        show L.length ≤ 30
        omega
      · cases h
  · rw [if_neg hg] at h
    cases h
theorem pTab_size {O : List Bool} {D : DL} {T : List Hd} {p a b c : Int} {L : List Int} (h : O.length + totD D + T.length ≤ 1048576) : O.length + totD D + (pTab O D T p a b c L).length ≤ 1048576 := by
  unfold pTab
  by_cases q : (pIn O D T p a b c L).ok = true
  · rw [if_pos q]
    have h1 := cOk_small (pIn_go q).1
    rcases hear_len T ⟨(pIn O D T p a b c L).b, (pIn O D T p a b c L).c, p, 20⟩ with e | e
    · omega
    · rw [e]; exact h
  · rw [if_neg q]; exact h
theorem goesAt_one (O : List Bool) (D : DL) (p : Int) (x : FR) (kn : Bool) (only : Int) (i : Nat) : (goesAt O D p x kn only i).length ≤ 1 ∧ ∀ y ∈ goesAt O D p x kn only i, y.2.2.2.2.length ≤ x.M.length := by
  unfold goesAt
  split
  · exact ⟨by simp, fun y hy => by cases hy⟩
  · split
    · exact ⟨by simp, fun y hy => by cases hy⟩
    · split
      · exact ⟨by simp, fun y hy => by cases hy⟩
      · split
        · refine ⟨by simp, fun y hy => ?_⟩
          obtain rfl := List.mem_singleton.1 hy
          exact outR_len _ _ _ _ _ _ _
        · exact ⟨by simp, fun y hy => by cases hy⟩
theorem goesTo_few (O : List Bool) (D : DL) (p : Int) (x : FR) (kn : Bool) (only : Int) : ∀ k, (goesTo O D p x kn only k).length ≤ k ∧ ∀ y ∈ goesTo O D p x kn only k, y.2.2.2.2.length ≤ x.M.length
  | 0 => ⟨by simp [goesTo], fun y hy => by simp [goesTo] at hy⟩
  | k + 1 => by
    obtain ⟨h1, h2⟩ := goesTo_few O D p x kn only k
    obtain ⟨g1, g2⟩ := goesAt_one O D p x kn only k
    rw [goesTo]
    refine ⟨by rw [List.length_append]; omega, fun y hy => ?_⟩
    rcases List.mem_append.1 hy with q | q
    · exact h2 y q
    · exact g2 y q
theorem pOuts_few (O : List Bool) (D : DL) (T : List Hd) (p a b c : Int) (L : List Int) : (pOuts O D T p a b c L).length ≤ 4 ∧ ∀ y ∈ pOuts O D T p a b c L, y.2.2.2.2.length ≤ 30 := by
  unfold pOuts
  by_cases q : (pIn O D T p a b c L).ok = true
  · rw [if_pos q]
    obtain ⟨h1, h2⟩ := goesTo_few O D p (pIn O D T p a b c L) ((whereR T (pIn O D T p a b c L).a (pIn O D T p a b c L).c).2 && ((pIn O D T p a b c L).a != 0)) (whereR T (pIn O D T p a b c L).a (pIn O D T p a b c L).c).1 O.length
    obtain ⟨g1, g2⟩ := pIn_go q
    have := (cOk_small g1).1
    exact ⟨by omega, fun y hy => Nat.le_trans (h2 y hy) g2⟩
  · rw [if_neg q]
    exact ⟨by simp, fun y hy => by cases hy⟩
/-- What is known of a list of what goes out: it is short. -/
theorem outs_small {X : OL} (hX : X.length ≤ 4 ∧ ∀ y ∈ X, y.2.2.2.2.length ≤ 30) {Ns : List Ob} (h : Ns.map Ob.d = X) : Ns.length ≤ 4 ∧ (∀ i, i < Ns.length → (Ns.getD i Ob.nil).L.length ≤ 30) ∧ lToO Ns Ns.length ≤ 120 := by
  have hl : Ns.length = X.length := by rw [← h, List.length_map]
  have hi : ∀ i, i < Ns.length → (Ns.getD i Ob.nil).L.length ≤ 30 := fun i hi => by
    have := hX.2 ((Ns.getD i Ob.nil).d) (by rw [← h]; exact List.mem_map_of_mem (by simp [List.getD, List.getElem?_eq_getElem hi]))
    exact this
  refine ⟨by omega, hi, ?_⟩
  have key : ∀ k, k ≤ Ns.length → lToO Ns k ≤ 30 * k := by
    intro k
    induction k with
    | zero => intro _; exact Nat.le_refl _
    | succ k ih =>
      intro hk
      have := ih (by omega)
      have := hi k (by omega)
      show lToO Ns k + (Ns.getD k Ob.nil).L.length ≤ 30 * (k + 1)
      omega
  have := key Ns.length (Nat.le_refl _)
  omega
theorem ObI.wide {w : World} {lo hi lo' hi' : Nat} {ad : Option Addr} {Ns : List Ob} (h : ObI w lo hi ad Ns) (h1 : lo' ≤ lo) (h2 : hi ≤ hi') : ObI w lo' hi' ad Ns :=
  ⟨h.v, fun x e p => by have := h.r x e p; omega, fun i hi x e p => by have := h.n i hi x e p; omega⟩
theorem join_region8 {P : Program} {reg : Code} {K : Act → World → Prop} {Q : Exit → Act → World → Prop} {l : List Value} {ds : List Deferred} {W : World} (R : List Value → List Value → World → Prop) (h1 : ∀ l' W', R l l' W' → K ⟨l'.toArray, ds⟩ W') (h2 : ∀ K2 : Act → World → Prop, Hid (∀ l' W', R l l' W' → K2 ⟨l'.toArray, ds⟩ W') → Code.wp P reg (Exit.then K2 Q) ⟨l.toArray, ds⟩ W) : Code.wp P reg (Exit.then K Q) ⟨l.toArray, ds⟩ W := h2 K h1
theorem CdH.kept {w w' : World} {lo hi l2 h2 : Nat} {adO : Option Addr} {nO : Nat} {adM : Option Addr} {nM : Nat} {adT : Option Addr} {nT : Nat} {k0 t : Int} (h : CdH w lo hi adO nO adM nM adT nT k0 t) (k : KeptR l2 h2 w w') (ht : hi ≤ w.heap.size) (hd : hi ≤ l2 ∨ h2 ≤ lo) : CdH w' lo hi adO nO adM nM adT nT k0 t := h.keep fun j h1 h2 => k.block _ (by omega) (by omega)

end Go.Proofs.YtifndemkkaelaaaGreat
namespace Go.Proofs.YtifndemkkaelaaaGreat
open Go.ChangeShapes Go.WideShapes Go.ChangeAt Go.RowKit
open Go.ChangeMaps (open_string shut_string)
set_option linter.unusedVariables false
set_option maxRecDepth 100000

/-- What is known of a frame that comes in: its numbers fit, its load reads as bytes. -/
structure FrameIn (w : World) (a b c : Int) (ad : Option Addr) (len cap : Nat) (f : Nat → Int) : Prop where
  wa : (Lit.int .i64 a).wf = true
  wb : (Lit.int .i64 b).wf = true
  wc : (Lit.int .i64 c).wf = true
  lm : len ≤ maxLen
  hv : View w ad len f
  hB : ∀ x, ad = some x → 0 < len → x.block < w.heap.size
  hf : ∀ i, 0 ≤ f i ∧ f i ≤ 255
theorem frameIn_open {H : Type} {enc : TypeId × Value → H} {w : World} {r : Reach} {b0 : Nat} {v : Value} {d : DataW H} {p : List MemPlace} (hv : Value.okWide Tryz.prog w r b0 57 v) (h : DataW.Trod enc Tryz.prog w 0 (fun _ => true) true 57 v d p) :
    ∃ a b c ad len cap f, v = .agg #[.int .i64 a, .int .i64 b, .int .i64 c, .slice ad len cap] ∧ FrameIn w a b c ad len cap f := by
  obtain ⟨v0, v1, v2, v3, y0, y1, y2, y3, n, rfl, _, _, h0, h1, h2, h3⟩ := Go.Joins.open_agg4 Tryz.underlying57 (by kernel_rfl) (by kernel_rfl) hv h
  obtain ⟨a, ha, _, wa⟩ := DataW.trod_int Tryz.underlying3 h0
  obtain ⟨b, hb, _, wb⟩ := DataW.trod_int Tryz.underlying3 h1
  obtain ⟨c, hc, _, wc⟩ := DataW.trod_int Tryz.underlying3 h2
  simp at ha hb hc
  subst ha hb hc
  rcases open_ints Tryz.underlying22 Tryz.underlying5 (by kernel_rfl) h3 with ⟨hcs, _⟩ | ⟨x, l, cp, zs, hcs, _, hl, hm, hz, _, hcell, hwz⟩
  · simp at hcs
    subst hcs
    exact ⟨a, b, c, none, 0, 0, fun _ => 0, rfl, wa, wb, wc, by unfold maxLen; omega, fun h => absurd h (by omega), fun a h => by simp at h, fun i => by simp⟩
  · simp at hcs
    subst hcs
    simp at hz
    refine ⟨a, b, c, some x, l, cp, fun i => zs.getD i 0, rfl, wa, wb, wc, by omega, fun hp => ?_, fun a h hp => ?_, fun i => ?_⟩
    · obtain ⟨b, off, rfl, hc⟩ := ints_at hcell (by omega)
      exact ⟨b, off, rfl, fun i hi => hc i (by omega)⟩
    · obtain rfl : x = a := by simpa using h
      have hc := hcell 0 (by omega)
      simpa [Addr.add] using World.block_lt_of_cell? w _ hc
    · by_cases hi : i < zs.length
      · have := bounds_u8 (hwz (zs.getD i 0) (by simp [List.getD, hi]))
        exact this
      · simp [List.getD, List.getElem?_eq_none (by omega : zs.length ≤ i)]

end Go.Proofs.YtifndemkkaelaaaGreat
