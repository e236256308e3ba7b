/- Many bridges, in plain lists. The state of spec.l10Round. spec.Reach, walked. Rings, by place. laws.within, laws.sameInts, walked. impl.openLinks, walked. impl.Reach, walked. impl.Spans, walked. spec.Ringless, walked. -/
import Derived.Test.YtdfjfodfnildiaaRows
import Derived.WalkKit
import Derived.ProofKit
import Derived.OpenShut
import Derived.ShutString
import Derived.ChangeOld
import Derived.Below
import Derived.Deep.QuietTactic
import Derived.BigQuiet
import Derived.WalkSmall
import Derived.Laws.OwnMore
import Derived.WalkSpells
import Derived.WalkLawsBesides
import Derived.Test.YtdfjfodfnildiaaQM10
import Derived.Deep.Cut
import Derived.Laws.StructEq
import Derived.Test.YtdfjfodfnildiaaQKSp1
import Derived.Test.YtdfjfodfnildiaaQKSp3
import Derived.Maps.AppendAt
import Derived.Test.YtdfjfodfnildiaaQKTr8
import Derived.Test.YtdfjfodfnildiaaQM15
import Derived.Test.YtdfjfodfnildiaaQM2
import Derived.Test.YtdfjfodfnildiaaQM9
import Derived.Test.YtdfjfodfnildiaaQKTr3
import Derived.Test.YtdfjfodfnildiaaQM6
namespace Go.Proofs.Ytdfjfodfnildiaa
open Go.ChangeShapes Go.WideShapes Go.ChangeAt Go.RowKit
open Go.ChangeMaps (open_string shut_string)
set_option linter.unusedVariables false
set_option maxRecDepth 100000

def handL (K : List Lk) (i : Nat) (X : List Bg) (o : Ou) : List Bg :=
  if o.k = 1 then (match otherL K i o.pt with
    | some (t, q) => X.set t.toNat ⟨(X.getD t.toNat Bg.nil).id, reactL (X.getD t.toNat Bg.nil).id (X.getD t.toNat Bg.nil).L (claimIk q o)⟩
    | none => X) else X
def stepL (K : List Lk) (X : List Bg) (i : Nat) : List Bg := (reactO (X.getD i Bg.nil).id (X.getD i Bg.nil).L tickIk).foldl (handL K i) (tickB X i)
end Go.Proofs.Ytdfjfodfnildiaa
namespace Go.Proofs.Ytdfjfodfnildiaa
open Go.ChangeShapes Go.WideShapes Go.ChangeAt Go.RowKit
open Go.ChangeMaps (open_string shut_string)
set_option linter.unusedVariables false
set_option maxRecDepth 100000

def roundL (K : List Lk) (X : List Bg) : Nat → List Bg
  | 0 => X
  | k + 1 => stepL K (roundL K X k) k
structure RdSt (old : Nat → Prop) (g P n lo mid cB : Nat) (adK : Option Addr) (cK : Nat) (K : List Lk) (w wr : World) (Cs : List Bd) : Prop where
  own : NetOwn lo mid wr.heap.size wr (.slice (some ⟨g, 0, none⟩) n cB) Cs (.slice adK K.length cK) K
  pb : NeAt wr P (.slice (some ⟨g, 0, none⟩) n cB) (.slice adK K.length cK)
  rb : NeBox wr (P + 1) (.slice none 0 0) (.slice none 0 0)
  gr : w.grownBy wr (some g)
  hg : g < P
  hl : Cs.length = n
  ls : ∀ i, i < Cs.length → (Cs.getD i Bd.nil).L.length ≤ 1048576
  np : ∀ i, i < Cs.length → ∀ q, (Cs.getD i Bd.nil).v.ownBlock = some q → (q < P ∧ old q) ∨ P + 1 < q
theorem RdSt.later {old : Nat → Prop} {g P n lo mid cB : Nat} {adK : Option Addr} {cK : Nat} {K : List Lk} {w wr : World} {Cs : List Bd} {w2 : World} (h : RdSt old g P n lo mid cB adK cK K w wr Cs) (k : Below wr.heap.size wr w2) : RdSt old g P n lo mid cB adK cK K w w2 Cs := by
  refine ⟨?_, h.pb.below k h.pb.lt, h.rb.later k, grown_trans h.gr (grown_of k), h.hg, h.hl, h.ls, h.np⟩
  have := h.own.later k
  exact ⟨this.own.wide (Nat.le_refl _) k.size, this.own2, this.khi, this.lm, Nat.le_trans this.mh k.size, Nat.le_refl _⟩
theorem RdSt.nn {old : Nat → Prop} {g P n lo mid cB : Nat} {adK : Option Addr} {cK : Nat} {K : List Lk} {w wr : World} {Cs : List Bd} (h : RdSt old g P n lo mid cB adK cK K w wr Cs) (hn : n ≤ 1048576) (hk : K.length ≤ 1048576) : NN wr (some ⟨g, 0, none⟩) Cs adK K :=
  ⟨h.own.own.view.2, h.own.own2.view.2, by rw [h.hl]; exact hn, h.ls, hk⟩
theorem RdSt.midg {old : Nat → Prop} {g P n lo mid cB : Nat} {adK : Option Addr} {cK : Nat} {K : List Lk} {w wr : World} {Cs : List Bd} (h : RdSt old g P n lo mid cB adK cK K w wr Cs) : mid ≤ g := (h.own.own.row.lt g rfl).1
theorem RdSt.set {old : Nat → Prop} {g P n lo mid cB : Nat} {adK : Option Addr} {cK : Nat} {K : List Lk} {w wr : World} {Cs : List Bd} {w2 : World} {i : Nat} (h : RdSt old g P n lo mid cB adK cK K w wr Cs) (k : Below wr.heap.size wr w2) (hi : i < Cs.length) (x : Bd)
    (nx : FOwn ptEnc 11 68 wr.heap.size w2 x.v x.L) (hx : x.L.length ≤ 1048576) :
    RdSt old g P n lo mid cB adK cK K w ((w2.setCell ⟨g, i * 2, none⟩ (.int .i64 x.id)).setCell ⟨g, i * 2 + 1, none⟩ (.slice x.ad x.L.length x.cap)) (Cs.set i x) := by
  have h2 := h.later k
  have hm := h.midg
  have hmw : mid ≤ wr.heap.size := h.own.mh
  have hl := h.hl
  have ho := h.own.own.below k (Nat.le_refl _)
  rw [← hl] at ho
  have hs := ho.set k.size hi x (nx.base hmw) (fun q e => nx.lt q e)
  rw [bdPut, List.length_set, hl] at hs
  have bl : ∀ j, j ≠ g → ((w2.setCell ⟨g, i * 2, none⟩ (.int .i64 x.id)).setCell ⟨g, i * 2 + 1, none⟩ (.slice x.ad x.L.length x.cap)).heap[j]? = w2.heap[j]? := fun j hj => by rw [Below.heap_setCell _ _ _ _ hj, Below.heap_setCell _ _ _ _ hj]
  have ss : ((w2.setCell ⟨g, i * 2, none⟩ (.int .i64 x.id)).setCell ⟨g, i * 2 + 1, none⟩ (.slice x.ad x.L.length x.cap)).heap.size = w2.heap.size := by simp
  have hg := h.hg
  refine ⟨⟨by rw [ss]; exact hs, h2.own.own2.keep (fun q e => bl q (by have := h.own.khi q e; omega)), h.own.khi, h.own.lm, by rw [ss]; exact h2.own.mh, by rw [ss]; exact Nat.le_refl _⟩,
    h2.pb.keep (bl P (by omega)), h2.rb.keep (bl (P + 1) (by omega)), grown_set _ (grown_set _ h2.gr), hg, by rw [List.length_set]; exact hl, fun j hj => ?_, fun j hj q eq => ?_⟩
  rotate_left
  · rw [List.length_set] at hj
    by_cases e : j = i
    · subst e
      rw [show (Cs.set j x).getD j Bd.nil = x by simp [List.getD, hj]] at eq
      have h1 := (nx.lt q eq).1
      have h2 := h.rb.lt
      exact .inr (by omega)
    · rw [show (Cs.set i x).getD j Bd.nil = Cs.getD j Bd.nil by simp [List.getD, List.getElem?_set_ne (Ne.symm e)]] at eq
      exact h.np j hj q eq
  rw [List.length_set] at hj
  by_cases e : j = i
  · subst e
    rw [show (Cs.set j x).getD j Bd.nil = x by simp [List.getD, hj]]
    exact hx
  · rw [show (Cs.set i x).getD j Bd.nil = Cs.getD j Bd.nil by simp [List.getD, List.getElem?_set_ne (Ne.symm e)]]
    exact h.ls j hj
theorem RdSt.row {old : Nat → Prop} {g P n lo mid cB : Nat} {adK : Option Addr} {cK : Nat} {K : List Lk} {w wr : World} {Cs : List Bd} {i : Nat} (h : RdSt old g P n lo mid cB adK cK K w wr Cs) (hi : i < Cs.length) : ∀ Y, Below wr.heap.size wr Y → BdAtO Y g (i * 2) (Cs.getD i Bd.nil) ∧ (∀ o, Y.frozen? ⟨g, o, none⟩ = false) ∧ FView ptEnc Y (Cs.getD i Bd.nil).ad (Cs.getD i Bd.nil).L := fun Y hY => by
  have h2 := (h.later hY).own.own
  rw [← h.hl] at h2
  have := h2.view.2.at_ hi
  rw [Nat.zero_add] at this
  exact ⟨this, fun o => h2.row.frozen o, h2.view.2.nest i hi⟩
theorem RdSt.nil0 {old : Nat → Prop} {g P n lo mid cB : Nat} {adK : Option Addr} {cK : Nat} {K : List Lk} {w wr : World} {Cs : List Bd} {i : Nat} (h : RdSt old g P n lo mid cB adK cK K w wr Cs) (hi : i < Cs.length) : (Cs.getD i Bd.nil).ad = none → (Cs.getD i Bd.nil).cap = 0 := h.own.own.view.2.nil0 i hi
theorem othV_cases (o : Option (Int × Int)) : ∃ (t q : Int) (ok : Bool), othV o = .tuple #[.int .i64 t, .int .i64 q, .bool ok] ∧ ((ok = true ∧ o = some (t, q)) ∨ (ok = false ∧ o = none)) := by
  cases o with
  | none => exact ⟨0, 0, false, rfl, .inr ⟨rfl, rfl⟩⟩
  | some z => exact ⟨z.1, z.2, true, rfl, .inl ⟨rfl, rfl⟩⟩
theorem foldL_take {X Y : Type} (f : Y → X → Y) (L : List X) (d : X) (y : Y) {m : Nat} (h : m < L.length) : (L.take (m + 1)).foldl f y = f ((L.take m).foldl f y) (L.getD m d) := by
  rw [take_one L d h, List.foldl_append]
  rfl
theorem roundL_len (K : List Lk) (X : List Bg) : ∀ k, (roundL K X k).length = X.length
  | 0 => rfl
  | k + 1 => by
    have hand : ∀ (O : List Ou) (Y : List Bg), (O.foldl (handL K k) Y).length = Y.length := by
      intro O
      induction O with
      | nil => intro Y; rfl
      | cons o O ih =>
        intro Y
        show (O.foldl (handL K k) (handL K k Y o)).length = _
        rw [ih]
        unfold handL
        split
        · split <;> simp
        · rfl
    show (stepL K (roundL K X k) k).length = _
    unfold stepL tickB
    rw [hand, List.length_set, roundL_len K X k]

end Go.Proofs.Ytdfjfodfnildiaa
namespace Go.Proofs.Ytdfjfodfnildiaa
open Go.ChangeShapes Go.WideShapes Go.ChangeAt Go.RowKit
open Go.ChangeMaps (open_string shut_string)
set_option linter.unusedVariables false
set_option maxRecDepth 100000

def ReachIs (B : List Bg) (K : List Lk) (m : Int) (al : Bool) (L : List Int) : Prop :=
  (¬ (NetP B K ∧ 0 ≤ m ∧ m < (B.length : Int)) ∧ L = []) ∨ (NetP B K ∧ ∃ f : Nat, m = (f : Int) ∧ f < B.length ∧ ∃ M, Marks (if al = true then K else K.filter (openB B)) B.length (f : Int) M ∧ L = idx 0 M)
theorem ReachIs.unique {B : List Bg} {K : List Lk} {m : Int} {al : Bool} {L M : List Int} (h : ReachIs B K m al L) (k : ReachIs B K m al M) : L = M := by
  rcases h with ⟨h1, rfl⟩ | ⟨h1, f, rfl, hf, M1, m1, rfl⟩
  · rcases k with ⟨_, rfl⟩ | ⟨k1, f, rfl, hf, _⟩
    · rfl
    · exact absurd ⟨k1, by omega, by omega⟩ h1
  · rcases k with ⟨k1, _⟩ | ⟨_, f', e, _, M2, m2, rfl⟩
    · exact absurd ⟨h1, by omega, by omega⟩ k1
    · obtain rfl : f = f' := by omega
      rw [m1.unique m2]
theorem reach_small {B : List Bg} {K : List Lk} {m : Int} {al : Bool} {L : List Int} (h : ReachIs B K m al L) : L.length ≤ 1048576 := by
  rcases h with ⟨_, rfl⟩ | ⟨h1, f, _, _, M, hM, rfl⟩
  · simp
  · have h2 := idx_len M 0
    have h3 := hM.len
    have h4 := h1.many.2
    omega
theorem sel_none (B : List Bg) (al : Bool) (K : List Lk) : selL (pickF B al (-1)) 0 K = if al = true then K else K.filter (openB B) := by
  cases al
  · rw [if_neg (by decide)]
    refine selL_filter _ _ K 0 (fun j l _ _ => ?_)
    have : decide ((j : Int) ≠ -1) = true := decide_eq_true (by omega)
    simp only [pickF, this, Bool.true_and, Bool.false_or]
  · rw [if_pos rfl]
    refine selL_all _ K (fun j l => ?_) 0
    have : decide ((j : Int) ≠ -1) = true := decide_eq_true (by omega)
    simp only [pickF, this, Bool.true_and, Bool.true_or]
theorem sel_one (B : List Bg) (A : List Lk) (x : Lk) (C : List Lk) : selL (pickF B false (A.length : Int)) 0 (A ++ x :: C) = (A ++ C).filter (openB B) := by
  rw [selL_app, Nat.zero_add, List.filter_append]
  congr 1
  · refine selL_filter _ _ A 0 (fun j l _ h => ?_)
    have : decide ((j : Int) ≠ (A.length : Int)) = true := decide_eq_true (by omega)
    simp only [pickF, this, Bool.true_and, Bool.false_or]
  · have : pickF B false (A.length : Int) A.length x = false := by simp [pickF]
    simp only [selL, this]
    refine selL_filter _ _ C (A.length + 1) (fun j l h _ => ?_)
    have : decide ((j : Int) ≠ (A.length : Int)) = true := decide_eq_true (by omega)
    simp only [pickF, this, Bool.true_and, Bool.false_or]
set_option maxHeartbeats 8000000 in
theorem reachS (adB : Option Addr) (capB : Nat) (Bs : List Bd) (adK : Option Addr) (capK : Nat) (K : List Lk) (m : Int) (al : Bool) (w : World) (h : NN w adB Bs adK K) :
    Calls Try.prog 16 #[.agg #[.slice adB Bs.length capB, .slice adK K.length capK], .int .i64 m, .bool al] w fun e w' => ∃ L a c, ReachIs (dB Bs) K m al L ∧ e = .returned (.slice a (List.length L) c) ∧ FOwn ivEnc 1 3 w.heap.size w' (.slice a L.length c) L ∧ Below w.heap.size w w' := by
  obtain ⟨y, hy⟩ : ∃ y, y = w.alloc (Obj.cells #[.slice adB Bs.length capB, .slice adK K.length capK] 27) := ⟨_, rfl⟩
  have B0 : Below w.heap.size w y := by rw [hy]; exact below_new _
  have A : NeAt y w.heap.size (.slice adB Bs.length capB) (.slice adK K.length capK) := by rw [hy]; exact NeAt.new w _
  have hN := h.later B0
  have hk := h.hk
  have hlB := h.hl
  clear h
  by_cases hok : NetP (dB Bs) K
  rotate_left
  · replace hok : Hid _ := hok
    go_enter Try.func16, Try.ntmps16
    go_wp2_with fail
    go_at_call 42
    rw [← hy]
    clear hy
    refine (netOkS adB capB Bs adK capK K y hN).mono ?_
    rintro e y1 ⟨⟨R1, rfl, hR1⟩, kq⟩
    obtain rfl := bool_no hR1 hok.out
    clear hR1
    have B1 := B0.trans (kq.mono B0.size)
    have A := A.below kq A.lt
    have hN := hN.later kq
    clear kq B0
    have E : FOwn ivEnc 1 3 y1.heap.size (y1.alloc (Obj.cells #[] 3)) (.slice (some ⟨y1.heap.size, 0, none⟩) 0 0) ([] : List Int) := FOwn.empty y1
    have bE := B1.alloc B1.size (Obj.cells #[] 3)
    have sE := B1.size
    go_wp2
    go_ret
    exact ⟨[], _, _, .inl ⟨fun q => hok.out q.1, rfl⟩, rfl, E.base sE, bE⟩
  replace hok : Hid _ := hok
  go_enter Try.func16, Try.ntmps16
  go_wp2_with fail
  go_at_call 42
  rw [← hy]
  clear hy
  refine (netOkS adB capB Bs adK capK K y hN).mono ?_
  rintro e y1 ⟨⟨R1, rfl, hR1⟩, kq⟩
  obtain rfl : R1 = true := hR1.2 hok.out
  clear hR1
  have B1 := B0.trans (kq.mono B0.size)
  have A := A.below kq A.lt
  have hN := hN.later kq
  clear kq B0
  have cc := A
  obtain ⟨a0, a1⟩ := cc
  by_cases h1 : 0 ≤ m ∧ m ≤ (Bs.length : Int) - 1
  rotate_left
  · have h1n : m < 0 ∨ (Bs.length : Int) - 1 < m := by omega
    replace h1 : Hid _ := h1
    have E : FOwn ivEnc 1 3 y1.heap.size (y1.alloc (Obj.cells #[] 3)) (.slice (some ⟨y1.heap.size, 0, none⟩) 0 0) ([] : List Int) := FOwn.empty y1
    have bE := B1.alloc B1.size (Obj.cells #[] 3)
    have sE := B1.size
    go_wp2_with fail
    go_at_call 43
    refine (inNo _ _ _ _ h1n).mono ?_
    rintro e w' ⟨rfl, hw'⟩
    obtain rfl := hw'.symm
    go_wp2
    go_ret
    exact ⟨[], _, _, .inl ⟨fun q => h1.out ⟨q.2.1, by have := q.2.2; rw [dB_len] at this; omega⟩, rfl⟩, rfl, E.base sE, bE⟩
  obtain ⟨f, rfl⟩ := Int.eq_ofNat_of_zero_le h1.1
  have hf : f < Bs.length := by omega
  go_wp2_with fail
  go_at_call 43
  refine (inYes _ _ _ _ h1).mono ?_
  rintro e w' ⟨rfl, hw'⟩
  obtain rfl := hw'.symm
  go_wp2_with fail
  go_at_call 44
  clear a0 a1
  refine (reachL adB capB Bs adK capK K f al (-1) y1 hN hok hf).mono ?_
  rintro e z ⟨M, a, c, hM, rfl, O, kz⟩
  rw [sel_none] at hM
  replace hM : Hid _ := hM
  have OZ := O.base B1.size
  have bZ := B1.trans (kz.mono B1.size)
  clear O kz
  go_wp2
  go_ret
  exact ⟨idx 0 M, a, c, .inr ⟨hok.out, f, rfl, by rw [dB_len]; exact hf, M, by rw [dB_len]; exact hM.out, rfl⟩, rfl, OZ, bZ⟩

end Go.Proofs.Ytdfjfodfnildiaa
namespace Go.Proofs.Ytdfjfodfnildiaa
open Go.ChangeShapes Go.WideShapes Go.ChangeAt Go.RowKit
open Go.ChangeMaps (open_string shut_string)
set_option linter.unusedVariables false
set_option maxRecDepth 100000

theorem split_at (K : List Lk) {k : Nat} (h : k < K.length) : K = K.take k ++ K.getD k Lk.nil :: K.drop (k + 1) := by
  have e : K.getD k Lk.nil :: K.drop (k + 1) = K.drop k := by
    rw [show K.getD k Lk.nil = K[k] by simp [List.getD, h]]
    exact (List.drop_eq_getElem_cons h).symm
  rw [e, List.take_append_drop]
theorem split_is {A C : List Lk} {x : Lk} : (A ++ x :: C).take A.length = A ∧ (A ++ x :: C).getD A.length Lk.nil = x ∧ (A ++ x :: C).drop (A.length + 1) = C := by
  refine ⟨by simp, by simp [List.getD], ?_⟩
  rw [List.drop_append]
  simp
theorem ring_idx (p : Lk → Bool) (K : List Lk) : RingP p K ↔ ∀ j, j < (K.filter p).length → ¬ Con ((K.filter p).take j ++ (K.filter p).drop (j + 1)) ((K.filter p).getD j Lk.nil).a ((K.filter p).getD j Lk.nil).b := by
  rw [ring_filter]
  constructor
  · intro h j hj
    exact h _ _ _ (split_at (K.filter p) hj)
  · intro h A x C e
    have := h A.length (by rw [e]; simp)
    rw [e] at this
    obtain ⟨e1, e2, e3⟩ := split_is (A := A) (C := C) (x := x)
    rwa [e1, e2, e3] at this
theorem ring_sel (B : List Bg) (K : List Lk) : RingP (openB B) K ↔ ∀ k, k < K.length → openB B (K.getD k Lk.nil) = true → ¬ Con (selL (pickF B false (k : Int)) 0 K) (K.getD k Lk.nil).a (K.getD k Lk.nil).b := by
  constructor
  · intro h k hk ho
    have e := split_at K hk
    have := h _ _ _ e ho
    have q := sel_one B (K.take k) (K.getD k Lk.nil) (K.drop (k + 1))
    rw [← e, List.length_take, Nat.min_eq_left (Nat.le_of_lt hk)] at q
    rwa [q]
  · intro h A x C e ho
    subst e
    have := h A.length (by simp)
    obtain ⟨e1, e2, e3⟩ := split_is (A := A) (C := C) (x := x)
    rw [e2, sel_one] at this
    exact this ho
theorem FView.take {X : Type} {enc : X → List Value} {w : World} {ad : Option Addr} {L : List X} (h : FView enc w ad L) (k : Nat) : FView enc w ad (L.take k) := by
  intro hp
  obtain ⟨b, off, e, hc⟩ := h (by rw [List.length_take] at hp; omega)
  refine ⟨b, off, e, fun j v hv => hc j v ?_⟩
  rw [← List.take_append_drop k L, fcells_app, List.getElem?_append_left (List.getElem?_eq_some_iff.1 hv).1]
  exact hv
theorem FView.drop {X : Type} {enc : X → List Value} {n : Nat} (hn : ∀ x, (enc x).length = n) {w : World} {b off : Nat} {L : List X} (h : FView enc w (some ⟨b, off, none⟩) L) {k : Nat} (hk : k ≤ L.length) : FView enc w (some ⟨b, off + k * n, none⟩) (L.drop k) := by
  intro hp
  obtain ⟨b', off', e, hc⟩ := h (by rw [List.length_drop] at hp; omega)
  cases e
  refine ⟨b, off + k * n, rfl, fun j v hv => ?_⟩
  have hl : (fcells enc (L.take k)).length = k * n := by rw [fcells_len hn, List.length_take, Nat.min_eq_left hk]
  have := hc (k * n + j) v (by
    rw [← List.take_append_drop k L, fcells_app, List.getElem?_append_right (by omega), hl]
    rw [show k * n + j - k * n = j by omega]
    exact hv)
  rw [Nat.add_assoc]
  exact this
theorem marks_in {K : List Lk} {n f : Nat} {M : List Bool} {x : Int} (h : Marks K n (f : Int) M) (hx : 0 ≤ x ∧ x < (n : Int)) : x ∈ idx 0 M ↔ Con K (f : Int) x := by
  rw [idx_mem]
  constructor
  · rintro ⟨j, h1, h2, h3⟩
    rw [h.len] at h1
    rw [Nat.zero_add] at h3
    rw [h3]
    exact (h.is j h1).1 h2
  · intro q
    refine ⟨x.toNat, by rw [h.len]; omega, ?_, by omega⟩
    rw [h.is x.toNat (by omega), Int.toNat_of_nonneg hx.1]
    exact q
theorem has_mem {L : List Int} {x : Int} : hasIn (fun i => L.getD i 0) L.length x = true ↔ x ∈ L := by
  rw [hasIn_mem L x L.length (Nat.le_refl _)]
  constructor
  · rintro ⟨i, hi, rfl⟩
    rw [show L.getD i 0 = L[i] by simp [List.getD, hi]]
    exact List.getElem_mem hi
  · intro h
    obtain ⟨i, hi, rfl⟩ := List.getElem_of_mem h
    exact ⟨i, hi, by simp [List.getD, hi]⟩

end Go.Proofs.Ytdfjfodfnildiaa
namespace Go.Proofs.Ytdfjfodfnildiaa
open Go.ChangeShapes Go.WideShapes Go.ChangeAt Go.RowKit
open Go.ChangeMaps (open_string shut_string)
set_option linter.unusedVariables false
set_option maxRecDepth 100000

set_option maxHeartbeats 400000 in
theorem withinI (ad : Option Addr) (len cap : Nat) (f : Nat → Int) (x : Int) (w : World) (hv : ViewI w ad len f) (hm : len ≤ maxLen) :
    Calls Try.prog 28 #[.slice ad len cap, .int .i64 x] w fun e w' => e = .returned (.bool (hasIn f len x)) ∧ w' = w := by
  unfold maxLen at hm
  go_enter Try.func28, Try.ntmps28
  go_wp2
  go_loop [5] (fun i => ∃ k : Nat, k ≤ len ∧ i = .int .i64 k ∧ hasIn f k x = false) (fun i => len - (intOf i).toNat)
  case atStart => exact ⟨0, Nat.zero_le _, rfl, rfl⟩
  case round =>
    obtain ⟨k, hk, rfl, hn⟩ := hrel
    by_cases hlt : k < len
    · obtain ⟨b, off, rfl, hc⟩ := hv (by omega)
      have hck := hc k hlt
      by_cases he : f k = x
      · have hb : Hid (hasIn f len x = true) := (hasIn_iff f x len).2 ⟨k, hlt, he⟩
        clear hn
        subst he
        go_wp2
        go_ret
        exact ⟨by rw [hb.out]; rfl, rfl⟩
      · have hd : decide (f k = x) = false := decide_eq_false he
        have hb : hasIn f (k + 1) x = false := by show (hasIn f k x || _) = false; rw [hn, hd]; rfl
        clear hn
        go_wp2
        go_round
        case rel => exact ⟨k + 1, by omega, by go_num, hb⟩
        case measure => simp [intOf]; omega
    · obtain rfl : k = len := by omega
      go_wp2
      go_ret
      exact ⟨rfl, rfl⟩
set_option maxHeartbeats 400000 in
theorem sameIn (ad ad' : Option Addr) (len cap cap' : Nat) (f : Nat → Int) (w : World) (hv : ViewI w ad len f) (hv' : ViewI w ad' len f) (hl : len ≤ 1048576) :
    Calls Try.prog 15 #[.slice ad len cap, .slice ad' len cap'] w fun e w' => e = .returned (.bool true) ∧ ∃ n, w' = w.drewN n := by
  go_enter Try.func15, Try.ntmps15
  go_wp2
  go_loopw [5] (fun i wr => ∃ k n : Nat, k ≤ len ∧ i = .int .i64 k ∧ wr = w.drewN n) (fun i _ => len - (intOf i).toNat)
  case atStart => exact ⟨0, 0, Nat.zero_le _, rfl, rfl⟩
  case round =>
    obtain ⟨k, n, hk, rfl, rfl⟩ := hrel
    by_cases hlt : k < len
    · obtain ⟨b, off, rfl, hc⟩ := hv (by omega)
      obtain ⟨b', off', rfl, hc'⟩ := hv' (by omega)
      have hck := hc k hlt
      have hck' := hc' k hlt
      go_wp2
      go_quiet (fail)
      go_wp2
      go_roundw
      case rel => exact ⟨k + 1, _, by omega, by go_num, rfl⟩
      case measure => simp [intOf]; omega
    · obtain rfl : k = len := by omega
      go_wp2
      go_ret
      exact ⟨rfl, _, rfl⟩
theorem reach_nil {B : List Bd} {K : List Lk} {m : Int} {al : Bool} {L : List Int} (h : ReachIs (dB B) K m al L) (hz : L.length = 0) : ¬ (NetP (dB B) K ∧ 0 ≤ m ∧ m < (B.length : Int)) := by
  rcases h with ⟨h, _⟩ | ⟨_, f, rfl, hf, M, hM, rfl⟩
  · rw [dB_len] at h; exact h
  · have : (f : Int) ∈ idx 0 M := (marks_in hM ⟨by omega, by omega⟩).2 (Con.refl _ _)
    rw [List.eq_nil_of_length_eq_zero hz] at this
    cases this

end Go.Proofs.Ytdfjfodfnildiaa
namespace Go.Proofs.Ytdfjfodfnildiaa
open Go.ChangeShapes Go.WideShapes Go.ChangeAt Go.RowKit
open Go.ChangeMaps (open_string shut_string)
set_option linter.unusedVariables false
set_option maxRecDepth 100000

theorem FView.oneK (w : World) (t : TypeId) (x : Lk) : FView lkEnc (w.alloc (Obj.cells #[.int .i64 x.a, .int .i64 x.p, .int .i64 x.b, .int .i64 x.q] t)) (some ⟨w.heap.size, 0, none⟩) [x] := by
  intro _
  refine ⟨w.heap.size, 0, rfl, fun j v hv => ?_⟩
  match j, hv with
  | 0, hv => cases hv; simp [go_sem]
  | 1, hv => cases hv; simp [go_sem]
  | 2, hv => cases hv; simp [go_sem]
  | 3, hv => cases hv; simp [go_sem]
  | j + 4, hv => simp [fcells, lkEnc] at hv
theorem filter_take (p : Lk → Bool) (K : List Lk) {k : Nat} (h : k < K.length) : (K.take (k + 1)).filter p = (K.take k).filter p ++ (if p (K.getD k Lk.nil) = true then [K.getD k Lk.nil] else []) := by
  rw [take_oneK K h, List.filter_append]
  congr 1
  simp [List.filter_cons]
set_option maxHeartbeats 8000000 in
theorem openLI (adB : Option Addr) (capB : Nat) (Bs : List Bd) (adK : Option Addr) (capK : Nat) (K : List Lk) (w : World) (h : NN w adB Bs adK K) (hP : ∀ l, l ∈ K → PortP (dB Bs) l.a l.p ∧ PortP (dB Bs) l.b l.q) :
    Calls Try.prog 40 #[.agg #[.slice adB Bs.length capB, .slice adK K.length capK]] w fun e w' => ∃ a c, e = .returned (.slice a (K.filter (openB (dB Bs))).length c) ∧ FOwn lkEnc 4 64 w.heap.size w' (.slice a (K.filter (openB (dB Bs))).length c) (K.filter (openB (dB Bs))) ∧ Below w.heap.size w w' := by
  obtain ⟨i0, hi, hz0, hz1, hz2⟩ := info_parts lkInfo
  obtain ⟨p, hp⟩ : ∃ p, p = openB (dB Bs) := ⟨_, rfl⟩
  rw [← hp]
  replace hp : Hid _ := hp
  have hl := h.hk
  obtain ⟨y, hy⟩ : ∃ y, y = w.alloc (Obj.cells #[.slice adB Bs.length capB, .slice adK K.length capK] 27) := ⟨_, rfl⟩
  have B0 : Below w.heap.size w y := by rw [hy]; exact below_new _
  have A0 : NeAt y w.heap.size (.slice adB Bs.length capB) (.slice adK K.length capK) := by rw [hy]; exact NeAt.new w _
  have hN := h.later B0
  have S0 := A0.lt
  go_enter Try.func40, Try.ntmps40
  go_upto_region 1 with fail
  rw [← hy]
  clear hy h
  have cc := A0
  obtain ⟨a0, a1⟩ := cc
  go_wp2
  clear a0 a1
  go_loopw [3, 9] (fun v i wr => ∃ k : Nat, k ≤ K.length ∧ i = .int .i64 (k : Int) ∧ FOwn lkEnc 4 64 y.heap.size wr v ((K.take k).filter p) ∧ Below y.heap.size y wr) (fun _ i _ => K.length - (intOf i).toNat)
  case atStart => exact ⟨0, Nat.zero_le _, rfl, FOwn.nil, Below.refl _ _⟩
  case round =>
    obtain ⟨k, hk, rfl, O, kb⟩ := hrel
    by_cases hlt : k < K.length
    · obtain ⟨M, hM⟩ : ∃ M, (K.take k).filter p = M := ⟨_, rfl⟩
      have hMl : M.length ≤ k := by
        rw [← hM]
        exact Nat.le_trans (List.length_filter_le _ _) (by simp; omega)
      rw [hM] at O
      replace hM : Hid _ := hM
      obtain ⟨adk, capk, rfl⟩ := O.open_
      have hN1 := hN.later kb
      have A1 := A0.below kb S0
      have vk := hN1.vk
      obtain ⟨b, off, rfl, _⟩ := vk (by omega)
      obtain ⟨x, hh⟩ : ∃ h, K.getD k Lk.nil = h := ⟨_, rfl⟩
      have hck : LkAtO wr b (off + k * 4) x := by
        rw [← hh]
        exact lkAtO_of (vk.at_ lkEnc_len Lk.nil hlt)
      have hm : x ∈ K := by
        rw [← hh, show K.getD k Lk.nil = K[k] by simp [List.getD, hlt]]
        exact List.getElem_mem hlt
      have hq := hP x hm
      have hst : Hid ((K.take (k + 1)).filter p = M ++ (if p x = true then [x] else [])) := by
        unfold Hid
        rw [filter_take p K hlt, hM.out, hh]
      clear hh hm
      obtain ⟨c0, c1, c2, c3⟩ := hck
      obtain ⟨u, hu⟩ : ∃ u, u = wr.alloc (Obj.cells #[.int .i64 x.a, .int .i64 x.p, .int .i64 x.b, .int .i64 x.q] 64) := ⟨_, rfl⟩
      have ku : Below wr.heap.size wr u := by rw [hu]; exact below_new _
      have X : LkAtO u wr.heap.size 0 x := by rw [hu]; constructor <;> simp [go_sem]
      have xl : wr.heap.size < u.heap.size := World.block_lt_of_cell? u _ X.c0
      have bu := kb.trans (ku.mono kb.size)
      have Ou := O.later ku
      have Nu := hN1.later ku
      have Au := A1.below ku A1.lt
      clear ku vk O A1 hN1
      go_upto_region 5 with fail
      rw [← hu]
      clear hu c0 c1 c2 c3
      have cc := Au
      obtain ⟨a0, a1⟩ := cc
      have dd := X
      obtain ⟨x0, x1, x2, x3⟩ := dd
      simp only [Nat.zero_add] at x0 x1 x2 x3
      go_wp2_with fail
      go_at_call 45
      clear a0 a1 x0 x1 x2 x3
      refine (isOpenI adB capB Bs (some ⟨b, off, none⟩) capK K x u Nu hq.1 hq.2).mono ?_
      rintro e u1 ⟨rfl, k1⟩
      rw [← hp.out]
      have b1 := bu.trans (k1.mono bu.size)
      have X1 := X.below k1 xl
      have O1 := Ou.later k1
      have s1 := k1.size
      have sb := kb.size
      clear k1 bu X Ou Nu Au hq
      obtain ⟨o, ho⟩ : ∃ o, p x = o := ⟨_, rfl⟩
      rw [ho] at hst ⊢
      clear ho
      cases o
      · have hst : Hid ((K.take (k + 1)).filter p = M) := by have := hst.out; unfold Hid; simpa using this
        go_wp2
        go_roundw
        case rel => exact ⟨k + 1, by omega, by go_num, by rw [hst.out]; exact O1, b1⟩
        case measure => simp [intOf]; omega
      · have hst : Hid ((K.take (k + 1)).filter p = M ++ [x]) := by have := hst.out; unfold Hid; simpa using this
        obtain ⟨x0, x1, x2, x3⟩ := X1
        simp only [Nat.zero_add] at x0 x1 x2 x3
        have V1 := FView.oneK u1 64 x
        have O2 := O1.later (below_new (w := u1) (Obj.cells #[.int .i64 x.a, .int .i64 x.p, .int .i64 x.b, .int .i64 x.q] 64))
        go_wp2_with (first | (at_builtin; refine fappL lkEnc_len lkEnc_ones rfl _ _ 25 rfl y.heap.size 64 i0 (.agg #[.int .i64 0, .int .i64 0, .int .i64 0, .int .i64 0]) 32 Try.underlying25 hi hz0 hz1 hz2 rfl (by decide) (by decide) (.slice adk M.length capk) M rfl O2 (some ⟨u1.heap.size, 0, none⟩) 1 [x] rfl (fun e => by cases e) V1 ?z0 ?z1 ?_) | go_in)
        case z0 => simp; omega
        case z1 => simp; omega
        intro vZ wZ hownZ hgrowZ _
        have ho2 : ∀ g_, (Value.slice adk M.length capk).ownBlock = some g_ → y.heap.size ≤ g_ := fun g_ e => (O2.lt g_ e).1
        have KZ : Below y.heap.size y wZ := (b1.alloc (by omega) _).grown hgrowZ (by simp; omega) ho2
        clear hgrowZ V1 O2 ho2 O1 x0 x1 x2 x3
        go_wp2
        go_roundw
        case rel => exact ⟨k + 1, by omega, by go_num, by rw [hst.out]; exact hownZ, KZ⟩
        case measure => simp [intOf]; omega
    · obtain rfl : k = K.length := by omega
      rw [List.take_length] at O
      obtain ⟨adk, capk, rfl⟩ := O.open_
      have BZ := B0.trans (kb.mono B0.size)
      have OZ := O.base B0.size
      go_wp2
      go_ret
      exact ⟨_, _, rfl, OZ, BZ⟩

end Go.Proofs.Ytdfjfodfnildiaa
namespace Go.Proofs.Ytdfjfodfnildiaa
open Go.ChangeShapes Go.WideShapes Go.ChangeAt Go.RowKit
open Go.ChangeMaps (open_string shut_string)
set_option linter.unusedVariables false
set_option maxRecDepth 100000

theorem ix5 (M : List Bool) {b0 b1 b2 b3 b4 : Bool} (h0 : M.getD 0 false = b0) (h1 : M.getD 1 false = b1) (h2 : M.getD 2 false = b2) (h3 : M.getD 3 false = b3) (h4 : M.getD 4 false = b4) (k : Nat) (hk : k < 5) : ∀ w : World, (Instr.index 58 (.agg #[.bool b0, .bool b1, .bool b2, .bool b3, .bool b4]) (.int .i64 (k : Int))).run Try.prog w = .ok (.bool (M.getD k false)) w := by
  rcases (by omega : k = 0 ∨ k = 1 ∨ k = 2 ∨ k = 3 ∨ k = 4) with rfl | rfl | rfl | rfl | rfl
  · intro w; rw [h0]; kernel_rfl
  · intro w; rw [h1]; kernel_rfl
  · intro w; rw [h2]; kernel_rfl
  · intro w; rw [h3]; kernel_rfl
  · intro w; rw [h4]; kernel_rfl
set_option maxHeartbeats 8000000 in
theorem reachI (adB : Option Addr) (capB : Nat) (Bs : List Bd) (adK : Option Addr) (capK : Nat) (K : List Lk) (m : Int) (al : Bool) (w : World) (h : NN w adB Bs adK K) (hcap : Bs.length ≤ capB) :
    Calls Try.prog 9 #[.agg #[.slice adB Bs.length capB, .slice adK K.length capK], .int .i64 m, .bool al] w fun e w' => ∃ L a c, ReachIs (dB Bs) K m al L ∧ e = .returned (.slice a (List.length L) c) ∧ FOwn ivEnc 1 3 w.heap.size w' (.slice a L.length c) L ∧ Below w.heap.size w w' := by
  obtain ⟨j0, hj, hj0, hj1, hj2⟩ := info_parts ivInfo
  obtain ⟨y, hy⟩ : ∃ y, y = w.alloc (Obj.cells #[.slice adB Bs.length capB, .slice adK K.length capK] 27) := ⟨_, rfl⟩
  have B0 : Below w.heap.size w y := by rw [hy]; exact below_new _
  have A : NeAt y w.heap.size (.slice adB Bs.length capB) (.slice adK K.length capK) := by rw [hy]; exact NeAt.new w _
  have hN := h.later B0
  have hk := h.hk
  have hlB := h.hl
  clear h
  by_cases hok : NetP (dB Bs) K
  rotate_left
  · replace hok : Hid _ := hok
    go_enter Try.func9, Try.ntmps9
    go_wp2_with fail
    go_at_call 27
    rw [← hy]
    clear hy
    refine (netOkI adB capB Bs adK capK K y hN hcap).mono ?_
    rintro e y1 ⟨⟨R1, rfl, hR1⟩, kq⟩
    obtain rfl := bool_no hR1 hok.out
    clear hR1
    have B1 := B0.trans (kq.mono B0.size)
    have A := A.below kq A.lt
    have hN := hN.later kq
    clear kq B0
    go_wp2
    go_ret
    exact ⟨[], _, _, .inl ⟨fun q => hok.out q.1, rfl⟩, rfl, FOwn.nil, B1⟩
  replace hok : Hid _ := hok
  go_enter Try.func9, Try.ntmps9
  go_wp2_with fail
  go_at_call 27
  rw [← hy]
  clear hy
  refine (netOkI adB capB Bs adK capK K y hN hcap).mono ?_
  rintro e y1 ⟨⟨R1, rfl, hR1⟩, kq⟩
  obtain rfl : R1 = true := hR1.2 hok.out
  clear hR1
  have B1 := B0.trans (kq.mono B0.size)
  have A := A.below kq A.lt
  have hN := hN.later kq
  clear kq B0
  by_cases h1 : m < 0
  · have d1 : decide (m < 0) = true := decide_eq_true h1
    go_wp2
    go_ret
    exact ⟨[], _, _, .inl ⟨fun q => by have := q.2.1; omega, rfl⟩, rfl, FOwn.nil, B1⟩
  have d1 : decide (m < 0) = false := decide_eq_false h1
  have cc := A
  obtain ⟨a0, a1⟩ := cc
  by_cases h2 : (Bs.length : Int) ≤ m
  · have d2 : decide ((Bs.length : Int) ≤ m) = true := decide_eq_true h2
    go_wp2
    go_ret
    exact ⟨[], _, _, .inl ⟨fun q => by have := q.2.2; rw [dB_len] at this; omega, rfl⟩, rfl, FOwn.nil, B1⟩
  have d2 : decide ((Bs.length : Int) ≤ m) = false := decide_eq_false h2
  clear a0 a1
  obtain ⟨f, rfl⟩ := Int.eq_ofNat_of_zero_le (show 0 ≤ m by omega)
  have hf : f < Bs.length := by omega
  have h5 : Bs.length ≤ 5 := by have := hok.out.many.2; rwa [dB_len] at this
  have hNn : InN K Bs.length := by have := hok.out.inN; rwa [dB_len] at this
  have h5N : InN K 5 := fun l hl => ⟨⟨(hNn l hl).1.1, by have := (hNn l hl).1.2; omega⟩, (hNn l hl).2.1, by have := (hNn l hl).2.2; omega⟩
  cases al
  · have cc := A
    obtain ⟨a0, a1⟩ := cc
    go_wp2_with fail
    go_at_call 40
    clear a0 a1
    refine (openLI adB capB Bs adK capK K y1 hN (fun l hl => netP_ports hok.out hl)).mono ?_
    rintro e y2 ⟨aO, cO, rfl, O, k2⟩
    have B2 := B1.trans (k2.mono B1.size)
    have VO := O.view.2
    have hlO : (K.filter (openB (dB Bs))).length ≤ 1048576 := Nat.le_trans (List.length_filter_le _ _) hk
    clear k2 O B1
    go_wp2_with fail
    go_at_call 41
    refine (cameI aO cO (K.filter (openB (dB Bs))) f y2 VO hlO (by omega) (h5N.sub (fun l hl => (List.mem_filter.1 hl).1))).mono ?_
    rintro e z ⟨M, hM, rfl, kz⟩
    have bz := B2.trans (kz.mono B2.size)
    clear kz VO hlO B2
    obtain ⟨hM1, hM2⟩ := hM.cut (hNn.sub (fun l hl => (List.mem_filter.1 hl).1)) ⟨by omega, by omega⟩ h5
    have hlM : M.length = 5 := hM.len
    have hRI : Hid (ReachIs (dB Bs) K (f : Int) false (idx 0 M)) := .inr ⟨hok.out, f, rfl, by rw [dB_len]; exact hf, M.take Bs.length, by rw [dB_len]; exact hM1, hM2⟩
    clear hM hM1 hM2
    obtain ⟨b0, g0⟩ : ∃ b, M.getD 0 false = b := ⟨_, rfl⟩
    obtain ⟨b1, g1⟩ : ∃ b, M.getD 1 false = b := ⟨_, rfl⟩
    obtain ⟨b2, g2⟩ : ∃ b, M.getD 2 false = b := ⟨_, rfl⟩
    obtain ⟨b3, g3⟩ : ∃ b, M.getD 3 false = b := ⟨_, rfl⟩
    obtain ⟨b4, g4⟩ : ∃ b, M.getD 4 false = b := ⟨_, rfl⟩
    rw [g0, g1, g2, g3, g4]
    replace g0 : Hid _ := g0
    replace g1 : Hid _ := g1
    replace g2 : Hid _ := g2
    replace g3 : Hid _ := g3
    replace g4 : Hid _ := g4
    replace hlM : Hid _ := hlM
    go_wp2
    have zs := bz.size
    go_loopw [8, 34] (fun v q wr => ∃ k : Nat, k ≤ 5 ∧ q = .int .i64 k ∧ FOwn ivEnc 1 3 z.heap.size wr v (idx 0 (M.take k)) ∧ Below z.heap.size z wr) (fun _ q _ => 5 - (intOf q).toNat)
    case atStart => exact ⟨0, Nat.zero_le _, rfl, FOwn.nil, Below.refl _ _⟩
    case round =>
      obtain ⟨k, hk2, rfl, O, kb⟩ := hrel
      by_cases hlt : k < 5
      · have hst := idx_take M (i := k) (by rw [hlM.out]; exact hlt)
        have ix := ix5 M g0.out g1.out g2.out g3.out g4.out k hlt
        obtain ⟨L, hL⟩ : ∃ L, idx 0 (M.take k) = L := ⟨_, rfl⟩
        have hLl : L.length ≤ k := by rw [← hL]; exact Nat.le_trans (idx_len _ _) (by simp; omega)
        rw [hL] at O hst
        clear hL
        obtain ⟨ak, ck2, rfl⟩ := O.open_
        obtain ⟨o, ho⟩ : ∃ o, M.getD k false = o := ⟨_, rfl⟩
        rw [ho] at ix hst
        clear ho
        replace hst : Hid _ := hst
        cases o
        · have hst : Hid (idx 0 (M.take (k + 1)) = L) := by have := hst.out; unfold Hid; simpa using this
          go_wp2
          go_roundw
          case rel => exact ⟨k + 1, by omega, by go_num, by rw [hst.out]; exact O, kb⟩
          case measure => simp [intOf]; omega
        · have hst : Hid (idx 0 (M.take (k + 1)) = L ++ [(k : Int)]) := by have := hst.out; unfold Hid; simpa using this
          have V1 := FView.oneI wr 3 (k : Int)
          have kx : Below wr.heap.size wr (wr.alloc (Obj.cells #[.int .i64 (k : Int)] 3)) := below_new _
          have O4 := O.later kx
          have b4 := kb.trans (kx.mono kb.size)
          have s4 := b4.size
          clear kx
          go_wp2_with (first | (at_builtin; refine fappL ivEnc_len ivEnc_ones rfl _ _ 30 rfl z.heap.size 3 j0 (.int .i64 0) 8 Try.underlying30 hj hj0 hj1 hj2 rfl (by decide) (by decide) (.slice ak L.length ck2) L rfl O4 (some ⟨wr.heap.size, 0, none⟩) 1 [(k : Int)] rfl (fun e => by cases e) V1 ?z0False ?z1False ?_) | go_in)
          case z0False => first | omega | (simp; omega)
          case z1False => have := kb.size; omega
          intro vZ wZ hownZ hgrowZ _
          have hob : ∀ q, (Value.slice ak L.length ck2).ownBlock = some q → z.heap.size ≤ q := fun q e => (O4.lt q e).1
          have bZ : Below z.heap.size z wZ := b4.grown hgrowZ (by exact s4) hob
          clear hgrowZ V1 O4 hob O b4 ix
          go_wp2
          go_roundw
          case rel => exact ⟨k + 1, by omega, by go_num, by rw [hst.out]; exact hownZ, bZ⟩
          case measure => simp [intOf]; omega
      · obtain rfl : k = 5 := by omega
        rw [show M.take 5 = M by rw [← hlM.out, List.take_length]] at O
        obtain ⟨ak, ck2, rfl⟩ := O.open_
        have OZ := O.base zs
        have bZ := bz.trans (kb.mono zs)
        go_wp2
        go_ret
        exact ⟨_, _, _, hRI.out, rfl, OZ, bZ⟩
  · have cc := A
    obtain ⟨a0, a1⟩ := cc
    go_wp2_with fail
    go_at_call 41
    clear a0 a1
    refine (cameI adK capK K f y1 hN.vk hk (by omega) h5N).mono ?_
    rintro e z ⟨M, hM, rfl, kz⟩
    have bz := B1.trans (kz.mono B1.size)
    clear kz
    obtain ⟨hM1, hM2⟩ := hM.cut hNn ⟨by omega, by omega⟩ h5
    have hlM : M.length = 5 := hM.len
    have hRI : Hid (ReachIs (dB Bs) K (f : Int) true (idx 0 M)) := .inr ⟨hok.out, f, rfl, by rw [dB_len]; exact hf, M.take Bs.length, by rw [dB_len]; exact hM1, hM2⟩
    clear hM hM1 hM2
    obtain ⟨b0, g0⟩ : ∃ b, M.getD 0 false = b := ⟨_, rfl⟩
    obtain ⟨b1, g1⟩ : ∃ b, M.getD 1 false = b := ⟨_, rfl⟩
    obtain ⟨b2, g2⟩ : ∃ b, M.getD 2 false = b := ⟨_, rfl⟩
    obtain ⟨b3, g3⟩ : ∃ b, M.getD 3 false = b := ⟨_, rfl⟩
    obtain ⟨b4, g4⟩ : ∃ b, M.getD 4 false = b := ⟨_, rfl⟩
    rw [g0, g1, g2, g3, g4]
    replace g0 : Hid _ := g0
    replace g1 : Hid _ := g1
    replace g2 : Hid _ := g2
    replace g3 : Hid _ := g3
    replace g4 : Hid _ := g4
    replace hlM : Hid _ := hlM
    go_wp2
    have zs := bz.size
    go_loopw [8, 34] (fun v q wr => ∃ k : Nat, k ≤ 5 ∧ q = .int .i64 k ∧ FOwn ivEnc 1 3 z.heap.size wr v (idx 0 (M.take k)) ∧ Below z.heap.size z wr) (fun _ q _ => 5 - (intOf q).toNat)
    case atStart => exact ⟨0, Nat.zero_le _, rfl, FOwn.nil, Below.refl _ _⟩
    case round =>
      obtain ⟨k, hk2, rfl, O, kb⟩ := hrel
      by_cases hlt : k < 5
      · have hst := idx_take M (i := k) (by rw [hlM.out]; exact hlt)
        have ix := ix5 M g0.out g1.out g2.out g3.out g4.out k hlt
        obtain ⟨L, hL⟩ : ∃ L, idx 0 (M.take k) = L := ⟨_, rfl⟩
        have hLl : L.length ≤ k := by rw [← hL]; exact Nat.le_trans (idx_len _ _) (by simp; omega)
        rw [hL] at O hst
        clear hL
        obtain ⟨ak, ck2, rfl⟩ := O.open_
        obtain ⟨o, ho⟩ : ∃ o, M.getD k false = o := ⟨_, rfl⟩
        rw [ho] at ix hst
        clear ho
        replace hst : Hid _ := hst
        cases o
        · have hst : Hid (idx 0 (M.take (k + 1)) = L) := by have := hst.out; unfold Hid; simpa using this
          go_wp2
          go_roundw
          case rel => exact ⟨k + 1, by omega, by go_num, by rw [hst.out]; exact O, kb⟩
          case measure => simp [intOf]; omega
        · have hst : Hid (idx 0 (M.take (k + 1)) = L ++ [(k : Int)]) := by have := hst.out; unfold Hid; simpa using this
          have V1 := FView.oneI wr 3 (k : Int)
          have kx : Below wr.heap.size wr (wr.alloc (Obj.cells #[.int .i64 (k : Int)] 3)) := below_new _
          have O4 := O.later kx
          have b4 := kb.trans (kx.mono kb.size)
          have s4 := b4.size
          clear kx
          go_wp2_with (first | (at_builtin; refine fappL ivEnc_len ivEnc_ones rfl _ _ 30 rfl z.heap.size 3 j0 (.int .i64 0) 8 Try.underlying30 hj hj0 hj1 hj2 rfl (by decide) (by decide) (.slice ak L.length ck2) L rfl O4 (some ⟨wr.heap.size, 0, none⟩) 1 [(k : Int)] rfl (fun e => by cases e) V1 ?z0True ?z1True ?_) | go_in)
          case z0True => first | omega | (simp; omega)
          case z1True => have := kb.size; omega
          intro vZ wZ hownZ hgrowZ _
          have hob : ∀ q, (Value.slice ak L.length ck2).ownBlock = some q → z.heap.size ≤ q := fun q e => (O4.lt q e).1
          have bZ : Below z.heap.size z wZ := b4.grown hgrowZ (by exact s4) hob
          clear hgrowZ V1 O4 hob O b4 ix
          go_wp2
          go_roundw
          case rel => exact ⟨k + 1, by omega, by go_num, by rw [hst.out]; exact hownZ, bZ⟩
          case measure => simp [intOf]; omega
      · obtain rfl : k = 5 := by omega
        rw [show M.take 5 = M by rw [← hlM.out, List.take_length]] at O
        obtain ⟨ak, ck2, rfl⟩ := O.open_
        have OZ := O.base zs
        have bZ := bz.trans (kb.mono zs)
        go_wp2
        go_ret
        exact ⟨_, _, _, hRI.out, rfl, OZ, bZ⟩

end Go.Proofs.Ytdfjfodfnildiaa
namespace Go.Proofs.Ytdfjfodfnildiaa
open Go.ChangeShapes Go.WideShapes Go.ChangeAt Go.RowKit
open Go.ChangeMaps (open_string shut_string)
set_option linter.unusedVariables false
set_option maxRecDepth 100000

set_option maxHeartbeats 16000000 in
theorem spanI (adB : Option Addr) (capB : Nat) (Bs : List Bd) (adK : Option Addr) (capK : Nat) (K : List Lk) (w : World) (h : NN w adB Bs adK K) (hcap : Bs.length ≤ capB) :
    Calls Try.prog 21 #[.agg #[.slice adB Bs.length capB, .slice adK K.length capK]] w fun e w' => YN e (NetP (dB Bs) K ∧ SpanP (openB (dB Bs)) K (dB Bs).length) ∧ Below w.heap.size w w' := by
  rw [dB_len]
  suffices H : ∀ PQ : Prop, Hid (PQ ↔ NetP (dB Bs) K ∧ SpanP (openB (dB Bs)) K Bs.length) → Calls Try.prog 21 #[.agg #[.slice adB Bs.length capB, .slice adK K.length capK]] w fun e w' => YN e PQ ∧ Below w.heap.size w w' from H _ Iff.rfl
  intro PQ hQ0
  obtain ⟨y, hy⟩ : ∃ y, y = w.alloc (Obj.cells #[.slice adB Bs.length capB, .slice adK K.length capK] 27) := ⟨_, rfl⟩
  have B0 : Below w.heap.size w y := by rw [hy]; exact below_new _
  have A : NeAt y w.heap.size (.slice adB Bs.length capB) (.slice adK K.length capK) := by rw [hy]; exact NeAt.new w _
  have hN := h.later B0
  have hk := h.hk
  have hlB := h.hl
  clear h
  by_cases hok : NetP (dB Bs) K
  rotate_left
  · replace hok : Hid _ := hok
    go_enter Try.func21, Try.ntmps21
    go_wp2_with fail
    go_at_call 27
    rw [← hy]
    clear hy
    refine (netOkI adB capB Bs adK capK K y hN hcap).mono ?_
    rintro e y1 ⟨⟨R1, rfl, hR1⟩, kq⟩
    obtain rfl := bool_no hR1 hok.out
    clear hR1
    have B1 := B0.trans (kq.mono B0.size)
    have A := A.below kq A.lt
    have hN := hN.later kq
    clear kq B0
    go_wp2
    go_ret
    exact ⟨YN.no (fun h => hok.out (hQ0.out.1 h).1), B1⟩
  replace hok : Hid _ := hok
  have hk6 : K.length ≤ 6 := hok.out.few
  have h5 : Bs.length ≤ 5 := by have := hok.out.many.2; rwa [dB_len] at this
  have hNn : Hid (InN K Bs.length) := by have := hok.out.inN; rw [dB_len] at this; exact this
  have hN5 : Hid (InN K 5) := fun l hl => by
    have := hNn.out l hl
    omega
  have hQ : Hid (PQ ↔ ∀ i, i < Bs.length → SpanAt (openB (dB Bs)) K Bs.length i) := by
    unfold Hid
    rw [hQ0.out]
    exact ⟨fun q => q.2, fun q => ⟨hok.out, q⟩⟩
  clear hQ0
  go_enter Try.func21, Try.ntmps21
  go_wp2_with fail
  go_at_call 27
  rw [← hy]
  clear hy
  refine (netOkI adB capB Bs adK capK K y hN hcap).mono ?_
  rintro e y1 ⟨⟨R1, rfl, hR1⟩, kq⟩
  obtain rfl : R1 = true := hR1.2 hok.out
  clear hR1
  have B1 := B0.trans (kq.mono B0.size)
  have A := A.below kq A.lt
  have hN := hN.later kq
  clear kq B0
  have cc := A
  obtain ⟨a0, a1⟩ := cc
  go_wp2_with fail
  go_at_call 40
  clear a0 a1
  refine (openLI adB capB Bs adK capK K y1 hN (fun l hl => netP_ports hok.out hl)).mono ?_
  rintro e y2 ⟨aO, cO, rfl, OO, k2⟩
  have B2 := B1.trans (k2.mono B1.size)
  have A := A.below k2 A.lt
  have vK := (hN.later k2).vk
  clear k2 B1 hN
  have hlO : (K.filter (openB (dB Bs))).length ≤ 6 := Nat.le_trans (List.length_filter_le _ _) hk6
  have hNO : Hid (InN (K.filter (openB (dB Bs))) 5) := hN5.out.sub (fun l hl => (List.mem_filter.1 hl).1)
  obtain ⟨p, hp⟩ : ∃ p, openB (dB Bs) = p := ⟨_, rfl⟩
  rw [hp] at OO hlO hQ hNO ⊢
  clear hp
  obtain ⟨O, hO⟩ : ∃ O, K.filter p = O := ⟨_, rfl⟩
  rw [hO] at OO hlO hNO ⊢
  replace hO : Hid _ := hO
  have vO := OO.view.2
  have bO := vO.lt lkEnc_len (by omega)
  have bK := vK.lt lkEnc_len (by omega)
  clear OO
  have cc := A
  obtain ⟨a0, a1⟩ := cc
  go_wp2
  clear a0 a1
  go_loopw [13] (fun q wr => ∃ k : Nat, k ≤ Bs.length ∧ q = .int .i64 (k : Int) ∧ Hid (∀ i, i < k → SpanAt p K Bs.length i) ∧ Below y2.heap.size y2 wr) (fun q _ => Bs.length - (intOf q).toNat)
  case atStart => exact ⟨0, Nat.zero_le _, rfl, fun j hj => absurd hj (by omega), Below.refl _ _⟩
  case round =>
    obtain ⟨k, hk1, rfl, hF, kb⟩ := hrel
    have A := A.below kb A.lt
    by_cases hlt : k < Bs.length
    · have vOw : ∀ Y, Below wr.heap.size wr Y → FView lkEnc Y aO O := fun Y hY => vO.below (kb.trans (hY.mono kb.size)) bO
      have vKw : ∀ Y, Below wr.heap.size wr Y → FView lkEnc Y adK K := fun Y hY => vK.below (kb.trans (hY.mono kb.size)) bK
      go_upto_region 7 with fail
      refine wp_region_held (S := fun Y => Below wr.heap.size wr Y) (by kernel_rfl) ?_
      change wpAnyH _ _ _ _ _ _ _ _ (World.drew _)
      have hb0 : Below wr.heap.size wr wr.drew := (Below.refl _ _).drew
      obtain ⟨u0, hy0⟩ : ∃ y_, y_ = wr.drew := ⟨_, rfl⟩
      rw [← hy0] at hb0 ⊢
      clear hy0
      refine takeW 0 16 (.slice aO O.length cO) rfl rfl (by kernel_rfl) (by kernel_rfl) (by kernel_rfl) (fun _ _ _ h => h) (by kernel_rfl) (by (intro w hSw; go_simp)) (by assumption) ?_
      simp only [List.set_cons_zero, List.set_cons_succ]
      refine takeW 1 17 (.int .i64 (k : Int)) rfl rfl (by kernel_rfl) (by kernel_rfl) (by kernel_rfl) (fun _ _ _ h => h) (by kernel_rfl) (by (intro w hSw; go_simp)) (by assumption) ?_
      simp only [List.set_cons_zero, List.set_cons_succ]
      refine takeW 3 19 (.pointer (some ⟨w.heap.size, 1, none⟩)) rfl rfl (by kernel_rfl) (by kernel_rfl) (by kernel_rfl) (fun _ _ _ h => h) (by kernel_rfl) (by (intro w hSw; go_simp)) (by assumption) ?_
      simp only [List.set_cons_zero, List.set_cons_succ]
      refine takeW 4 20 (.slice adK K.length capK) rfl rfl (by kernel_rfl) (by kernel_rfl) (by kernel_rfl) (fun _ _ _ h => h) (by kernel_rfl) (by (intro Y hSw; obtain ⟨X0, X1⟩ := A.below hSw A.lt; go_simp)) (by assumption) ?_
      simp only [List.set_cons_zero, List.set_cons_succ]
      refine takeW 5 21 (.int .i64 (k : Int)) rfl rfl (by kernel_rfl) (by kernel_rfl) (by kernel_rfl) (fun _ _ _ h => h) (by kernel_rfl) (by (intro w hSw; go_simp)) (by assumption) ?_
      simp only [List.set_cons_zero, List.set_cons_succ]
      refine wpAnyH_all (rs := [2]) (by kernel_rfl) (by simp) ?_
      intro i hi; obtain rfl : i = 2 := by simpa using hi
      refine wpOp_step rfl (fun Kz hKz => ?_)
      rw [if_pos (by kernel_rfl)]
      go_simp
      go_at_call 41
      refine (cameI aO cO O k u0 (vOw u0 hb0) (by omega) (by omega) hNO.out).mono ?_
      rintro e u1 ⟨N, hN1, rfl, kq⟩
      have hb1 : Below wr.heap.size wr u1 := hb0.trans (kq.mono hb0.size)
      clear kq
      obtain ⟨a0, g0⟩ : ∃ b, N.getD 0 false = b := ⟨_, rfl⟩
      obtain ⟨a1, g1⟩ : ∃ b, N.getD 1 false = b := ⟨_, rfl⟩
      obtain ⟨a2, g2⟩ : ∃ b, N.getD 2 false = b := ⟨_, rfl⟩
      obtain ⟨a3, g3⟩ : ∃ b, N.getD 3 false = b := ⟨_, rfl⟩
      obtain ⟨a4, g4⟩ : ∃ b, N.getD 4 false = b := ⟨_, rfl⟩
      rw [g0, g1, g2, g3, g4]
      refine hKz _ _ ⟨hb1, ?_⟩
      clear hKz Kz hi
      refine wpAnyH_all (rs := [6]) (by kernel_rfl) (by simp) ?_
      intro i hi; obtain rfl : i = 6 := by simpa using hi
      refine wpOp_step rfl (fun Kz hKz => ?_)
      rw [if_pos (by kernel_rfl)]
      go_simp
      go_at_call 41
      refine (cameI adK capK K k u1 (vKw u1 hb1) (by omega) (by omega) hN5.out).mono ?_
      rintro e u2 ⟨M, hM1, rfl, kq⟩
      have hb2 : Below wr.heap.size wr u2 := hb1.trans (kq.mono hb1.size)
      clear kq
      obtain ⟨b0, f0⟩ : ∃ b, M.getD 0 false = b := ⟨_, rfl⟩
      obtain ⟨b1, f1⟩ : ∃ b, M.getD 1 false = b := ⟨_, rfl⟩
      obtain ⟨b2, f2⟩ : ∃ b, M.getD 2 false = b := ⟨_, rfl⟩
      obtain ⟨b3, f3⟩ : ∃ b, M.getD 3 false = b := ⟨_, rfl⟩
      obtain ⟨b4, f4⟩ : ∃ b, M.getD 4 false = b := ⟨_, rfl⟩
      rw [f0, f1, f2, f3, f4]
      have hiff := eq5_is hN1.len hM1.len
      rw [g0, g1, g2, g3, g4, f0, f1, f2, f3, f4] at hiff
      clear g0 g1 g2 g3 g4 f0 f1 f2 f3 f4
      have q5 : ∀ w, (Op.equalIn 10000 58 (.agg #[.bool a0, .bool a1, .bool a2, .bool a3, .bool a4]) (.agg #[.bool b0, .bool b1, .bool b2, .bool b3, .bool b4])).run Try.prog w = .ok (a0 == b0 && (a1 == b1 && (a2 == b2 && (a3 == b3 && a4 == b4)))) w := fun w => eq5 w a0 a1 a2 a3 a4 b0 b1 b2 b3 b4
      obtain ⟨o, ho⟩ : ∃ o, (a0 == b0 && (a1 == b1 && (a2 == b2 && (a3 == b3 && a4 == b4)))) = o := ⟨_, rfl⟩
      rw [ho] at hiff
      simp only [ho] at q5
      clear ho
      have hsp : Hid (o = true ↔ SpanAt p K Bs.length k) := hiff.trans (span_five hNn.out (by omega) hlt hM1 (by rw [hO.out]; exact hN1))
      clear hiff hM1 hN1
      refine hKz _ _ ⟨hb2, ?_⟩
      clear hKz Kz hi
      refine takeW 7 23 (.bool (!o)) rfl rfl (by kernel_rfl) (by kernel_rfl) (by kernel_rfl) (fun _ _ _ h => h) (by kernel_rfl) (by (intro w hSw; go_simp)) (by assumption) ?_
      simp only [List.set_cons_zero, List.set_cons_succ]
      refine wpAnyH_done (by kernel_rfl) ?_ _
      have bZ := kb.trans (hb2.mono kb.size)
      clear hb0 hb1 hb2 q5 vOw vKw
      cases o
      · have BZ := B2.trans (bZ.mono B2.size)
        have hno : Hid (¬ SpanAt p K Bs.length k) := by
          unfold Hid
          intro q
          have := hsp.out.2 q
          cases this
        go_wp2
        go_ret
        exact ⟨YN.no (fun h => hno.out (hQ.out.1 h k hlt)), BZ⟩
      · have hyes : Hid (SpanAt p K Bs.length k) := hsp.out.1 rfl
        go_wp2
        go_roundw
        case rel =>
          refine ⟨k + 1, by omega, by go_num, fun i hi => ?_, bZ⟩
          by_cases ei : i = k
          · rw [ei]; exact hyes.out
          · exact hF.out i (by omega)
        case measure => simp [intOf]; omega
    · obtain rfl : k = Bs.length := by omega
      have BZ := B2.trans (kb.mono B2.size)
      go_wp2
      go_ret
      exact ⟨YN.yes (hQ.out.2 hF.out), BZ⟩

end Go.Proofs.Ytdfjfodfnildiaa
namespace Go.Proofs.Ytdfjfodfnildiaa
open Go.ChangeShapes Go.WideShapes Go.ChangeAt Go.RowKit
open Go.ChangeMaps (open_string shut_string)
set_option linter.unusedVariables false
set_option maxRecDepth 100000

set_option maxHeartbeats 16000000 in
theorem ringS (adB : Option Addr) (capB : Nat) (Bs : List Bd) (adK : Option Addr) (capK : Nat) (K : List Lk) (w : World) (h : NN w adB Bs adK K) :
    Calls Try.prog 20 #[.agg #[.slice adB Bs.length capB, .slice adK K.length capK]] w fun e w' => YN e (NetP (dB Bs) K ∧ RingP (openB (dB Bs)) K) ∧ Below w.heap.size w w' := by
  suffices H : ∀ PQ : Prop, Hid (PQ ↔ NetP (dB Bs) K ∧ RingP (openB (dB Bs)) K) → Calls Try.prog 20 #[.agg #[.slice adB Bs.length capB, .slice adK K.length capK]] w fun e w' => YN e PQ ∧ Below w.heap.size w w' from H _ Iff.rfl
  intro PQ hQ0
  obtain ⟨y, hy⟩ : ∃ y, y = w.alloc (Obj.cells #[.slice adB Bs.length capB, .slice adK K.length capK] 27) := ⟨_, rfl⟩
  have B0 : Below w.heap.size w y := by rw [hy]; exact below_new _
  have A : NeAt y w.heap.size (.slice adB Bs.length capB) (.slice adK K.length capK) := by rw [hy]; exact NeAt.new w _
  have hN := h.later B0
  have hk := h.hk
  have hlB := h.hl
  clear h
  by_cases hok : NetP (dB Bs) K
  rotate_left
  · replace hok : Hid _ := hok
    go_enter Try.func20, Try.ntmps20
    go_wp2_with fail
    go_at_call 42
    rw [← hy]
    clear hy
    refine (netOkS adB capB Bs adK capK K y hN).mono ?_
    rintro e y1 ⟨⟨R1, rfl, hR1⟩, kq⟩
    obtain rfl := bool_no hR1 hok.out
    clear hR1
    have B1 := B0.trans (kq.mono B0.size)
    have A := A.below kq A.lt
    have hN := hN.later kq
    clear kq B0
    go_wp2
    go_ret
    exact ⟨YN.no (fun h => hok.out (hQ0.out.1 h).1), B1⟩
  replace hok : Hid _ := hok
  have h5 : Bs.length ≤ 5 := by have := hok.out.many.2; rwa [dB_len] at this
  have hNn : Hid (InN K Bs.length) := by have := hok.out.inN; rw [dB_len] at this; exact this
  have hQ : Hid (PQ ↔ ∀ k, k < K.length → openB (dB Bs) (K.getD k Lk.nil) = true → ¬ Con (selL (pickF (dB Bs) false (k : Int)) 0 K) (K.getD k Lk.nil).a (K.getD k Lk.nil).b) := by
    unfold Hid
    rw [← ring_sel, hQ0.out]
    exact ⟨fun q => q.2, fun q => ⟨hok.out, q⟩⟩
  clear hQ0
  go_enter Try.func20, Try.ntmps20
  go_wp2_with fail
  go_at_call 42
  rw [← hy]
  clear hy
  refine (netOkS adB capB Bs adK capK K y hN).mono ?_
  rintro e y1 ⟨⟨R1, rfl, hR1⟩, kq⟩
  obtain rfl : R1 = true := hR1.2 hok.out
  clear hR1
  have B1 := B0.trans (kq.mono B0.size)
  have A := A.below kq A.lt
  have hN := hN.later kq
  clear kq B0
  have cc := A
  obtain ⟨a0, a1⟩ := cc
  go_wp2
  clear a0 a1
  go_loopw [3] (fun q wr => ∃ k : Nat, k ≤ K.length ∧ q = .int .i64 (k : Int) ∧ Hid (∀ j, j < k → openB (dB Bs) (K.getD j Lk.nil) = true → ¬ Con (selL (pickF (dB Bs) false (j : Int)) 0 K) (K.getD j Lk.nil).a (K.getD j Lk.nil).b) ∧ Below y1.heap.size y1 wr) (fun q _ => K.length - (intOf q).toNat)
  case atStart => exact ⟨0, Nat.zero_le _, rfl, fun j hj => absurd hj (by omega), Below.refl _ _⟩
  case round =>
    obtain ⟨k, hk1, rfl, hF, kb⟩ := hrel
    have A := A.below kb A.lt
    have cc := A
    obtain ⟨a0, a1⟩ := cc
    by_cases hlt : k < K.length
    · have hNr := hN.later kb
      obtain ⟨b, off, rfl, _⟩ := hN.vk (by omega)
      have hNw : ∀ Y, Below wr.heap.size wr Y → NN Y adB Bs (some ⟨b, off, none⟩) K := fun Y hY => hNr.later hY
      obtain ⟨x', hh⟩ : ∃ h, K.getD k Lk.nil = h := ⟨_, rfl⟩
      have hx : ∀ Y, Below wr.heap.size wr Y → LkAtO Y b (off + k * 4) x' := fun Y hY => by
        rw [← hh]
        exact lkAtO_of ((hNw Y hY).vk.at_ lkEnc_len Lk.nil hlt)
      have hm := getD_mem hlt
      rw [hh] at hm
      have hpp : Hid (openB (dB Bs) x' = true ↔ PassP (dB Bs) K (k : Int)) := by
        unfold Hid PassP
        simp only [Int.toNat_natCast]
        rw [hh]
        exact ⟨fun h => ⟨hok.out, by omega, by omega, h⟩, fun h => h.2.2.2⟩
      replace hh : Hid _ := hh
      obtain ⟨⟨xa0, xa1⟩, xb0, xb1⟩ := hNn.out x' hm
      clear hm hNr
      obtain ⟨xa, xp, xb, xq⟩ := x'
      dsimp only at xa0 xa1 xb0 xb1
      obtain ⟨i, rfl⟩ := Int.eq_ofNat_of_zero_le xa0
      obtain ⟨j, rfl⟩ := Int.eq_ofNat_of_zero_le xb0
      by_cases hop : openB (dB Bs) ⟨i, xp, j, xq⟩ = true
      rotate_left
      · replace hop : Hid _ := hop
        go_upto_region 6 with fail
        clear a0 a1
        refine wp_region_held (S := fun Y => Below wr.heap.size wr Y) (by kernel_rfl) ?_
        change wpAnyH _ _ _ _ _ _ _ _ (World.drew _)
        have hb0 : Below wr.heap.size wr wr.drew := (Below.refl _ _).drew
        obtain ⟨u0, hy0⟩ : ∃ y_, y_ = wr.drew := ⟨_, rfl⟩
        rw [← hy0] at hb0 ⊢
        clear hy0
        refine takeW 0 14 (.agg #[.slice adB Bs.length capB, .slice (some ⟨b, off, none⟩) K.length capK]) rfl rfl (by kernel_rfl) (by kernel_rfl) (by kernel_rfl) (fun _ _ _ h => h) (by kernel_rfl) (by (intro Y hSw; obtain ⟨X0, X1⟩ := A.below hSw A.lt; go_simp)) (by assumption) ?_
        simp only [List.set_cons_zero, List.set_cons_succ]
        refine takeW 1 15 (.int .i64 (k : Int)) rfl rfl (by kernel_rfl) (by kernel_rfl) (by kernel_rfl) (fun _ _ _ h => h) (by kernel_rfl) (by (intro w hSw; go_simp)) (by assumption) ?_
        simp only [List.set_cons_zero, List.set_cons_succ]
        refine wpAnyH_all (rs := [2]) (by kernel_rfl) (by simp) ?_
        intro i hi; obtain rfl : i = 2 := by simpa using hi
        refine wpOp_step rfl (fun Kz hKz => ?_)
        rw [if_pos (by kernel_rfl)]
        go_simp
        go_at_call 18
        refine (passS adB capB Bs (some ⟨b, off, none⟩) capK K (k : Int) u0 (hNw u0 hb0)).mono ?_
        rintro e u1 ⟨⟨R1, rfl, hR1⟩, kq⟩
        have hb1 : Below wr.heap.size wr u1 := hb0.trans (kq.mono hb0.size)
        clear kq
        obtain rfl := bool_no hR1 (fun q => hop.out (hpp.out.2 q))
        clear hR1
        refine hKz _ _ ⟨hb1, ?_⟩
        clear hKz Kz hi
        refine takeW 3 17 (.bool false) rfl rfl (by kernel_rfl) (by kernel_rfl) (by kernel_rfl) (fun _ _ _ h => h) (by kernel_rfl) (by (intro w hSw; go_simp)) (by assumption) ?_
        simp only [List.set_cons_zero, List.set_cons_succ]
        refine takeS 4 18 rfl rfl (by kernel_rfl) (by kernel_rfl) (by kernel_rfl) (fun _ _ _ h => h) (by kernel_rfl) (by assumption) ?_
        simp only [List.set_cons_zero, List.set_cons_succ]
        refine takeS 5 19 rfl rfl (by kernel_rfl) (by kernel_rfl) (by kernel_rfl) (fun _ _ _ h => h) (by kernel_rfl) (by assumption) ?_
        simp only [List.set_cons_zero, List.set_cons_succ]
        refine takeS 6 20 rfl rfl (by kernel_rfl) (by kernel_rfl) (by kernel_rfl) (fun _ _ _ h => h) (by kernel_rfl) (by assumption) ?_
        simp only [List.set_cons_zero, List.set_cons_succ]
        refine takeS 7 21 rfl rfl (by kernel_rfl) (by kernel_rfl) (by kernel_rfl) (fun _ _ _ h => h) (by kernel_rfl) (by assumption) ?_
        simp only [List.set_cons_zero, List.set_cons_succ]
        refine takeS 8 22 rfl rfl (by kernel_rfl) (by kernel_rfl) (by kernel_rfl) (fun _ _ _ h => h) (by kernel_rfl) (by assumption) ?_
        simp only [List.set_cons_zero, List.set_cons_succ]
        refine takeS 9 23 rfl rfl (by kernel_rfl) (by kernel_rfl) (by kernel_rfl) (fun _ _ _ h => h) (by kernel_rfl) (by assumption) ?_
        simp only [List.set_cons_zero, List.set_cons_succ]
        refine takeS 10 24 rfl rfl (by kernel_rfl) (by kernel_rfl) (by kernel_rfl) (fun _ _ _ h => h) (by kernel_rfl) (by assumption) ?_
        simp only [List.set_cons_zero, List.set_cons_succ]
        refine takeS 11 25 rfl rfl (by kernel_rfl) (by kernel_rfl) (by kernel_rfl) (fun _ _ _ h => h) (by kernel_rfl) (by assumption) ?_
        simp only [List.set_cons_zero, List.set_cons_succ]
        refine takeS 12 26 rfl rfl (by kernel_rfl) (by kernel_rfl) (by kernel_rfl) (fun _ _ _ h => h) (by kernel_rfl) (by assumption) ?_
        simp only [List.set_cons_zero, List.set_cons_succ]
        refine takeS 13 27 rfl rfl (by kernel_rfl) (by kernel_rfl) (by kernel_rfl) (fun _ _ _ h => h) (by kernel_rfl) (by assumption) ?_
        simp only [List.set_cons_zero, List.set_cons_succ]
        refine takeS 14 28 rfl rfl (by kernel_rfl) (by kernel_rfl) (by kernel_rfl) (fun _ _ _ h => h) (by kernel_rfl) (by assumption) ?_
        simp only [List.set_cons_zero, List.set_cons_succ]
        refine takeS 15 29 rfl rfl (by kernel_rfl) (by kernel_rfl) (by kernel_rfl) (fun _ _ _ h => h) (by kernel_rfl) (by assumption) ?_
        simp only [List.set_cons_zero, List.set_cons_succ]
        refine takeS 16 30 rfl rfl (by kernel_rfl) (by kernel_rfl) (by kernel_rfl) (fun _ _ _ h => h) (by kernel_rfl) (by assumption) ?_
        simp only [List.set_cons_zero, List.set_cons_succ]
        refine takeS 17 31 rfl rfl (by kernel_rfl) (by kernel_rfl) (by kernel_rfl) (fun _ _ _ h => h) (by kernel_rfl) (by assumption) ?_
        simp only [List.set_cons_zero, List.set_cons_succ]
        refine takeS 18 32 rfl rfl (by kernel_rfl) (by kernel_rfl) (by kernel_rfl) (fun _ _ _ h => h) (by kernel_rfl) (by assumption) ?_
        simp only [List.set_cons_zero, List.set_cons_succ]
        refine takeS 19 33 rfl rfl (by kernel_rfl) (by kernel_rfl) (by kernel_rfl) (fun _ _ _ h => h) (by kernel_rfl) (by assumption) ?_
        simp only [List.set_cons_zero, List.set_cons_succ]
        refine takeW 20 34 (.bool false) rfl rfl (by kernel_rfl) (by kernel_rfl) (by kernel_rfl) (fun _ _ _ h => h) (by kernel_rfl) (by (intro w hSw; go_simp)) (by assumption) ?_
        simp only [List.set_cons_zero, List.set_cons_succ]
        refine wpAnyH_done (by kernel_rfl) ?_ _
        have bZ := kb.trans (hb1.mono kb.size)
        go_wp2
        go_roundw
        case rel =>
          refine ⟨k + 1, by omega, by go_num, fun j' hj ho => ?_, bZ⟩
          by_cases ej : j' = k
          · rw [ej, hh.out] at ho; exact absurd ho hop.out
          · exact hF.out j' (by omega) ho
        case measure => simp [intOf]; omega
      replace hop : Hid _ := hop
      go_upto_region 6 with fail
      clear a0 a1
      refine wp_region_held (S := fun Y => Below wr.heap.size wr Y) (by kernel_rfl) ?_
      change wpAnyH _ _ _ _ _ _ _ _ (World.drew _)
      have hb0 : Below wr.heap.size wr wr.drew := (Below.refl _ _).drew
      obtain ⟨u0, hy0⟩ : ∃ y_, y_ = wr.drew := ⟨_, rfl⟩
      rw [← hy0] at hb0 ⊢
      clear hy0
      refine takeW 0 14 (.agg #[.slice adB Bs.length capB, .slice (some ⟨b, off, none⟩) K.length capK]) rfl rfl (by kernel_rfl) (by kernel_rfl) (by kernel_rfl) (fun _ _ _ h => h) (by kernel_rfl) (by (intro Y hSw; obtain ⟨X0, X1⟩ := A.below hSw A.lt; go_simp)) (by assumption) ?_
      simp only [List.set_cons_zero, List.set_cons_succ]
      refine takeW 1 15 (.int .i64 (k : Int)) rfl rfl (by kernel_rfl) (by kernel_rfl) (by kernel_rfl) (fun _ _ _ h => h) (by kernel_rfl) (by (intro w hSw; go_simp)) (by assumption) ?_
      simp only [List.set_cons_zero, List.set_cons_succ]
      refine wpAnyH_all (rs := [2]) (by kernel_rfl) (by simp) ?_
      intro i hi; obtain rfl : i = 2 := by simpa using hi
      refine wpOp_step rfl (fun Kz hKz => ?_)
      rw [if_pos (by kernel_rfl)]
      go_simp
      go_at_call 18
      refine (passS adB capB Bs (some ⟨b, off, none⟩) capK K (k : Int) u0 (hNw u0 hb0)).mono ?_
      rintro e u1 ⟨⟨R1, rfl, hR1⟩, kq⟩
      have hb1 : Below wr.heap.size wr u1 := hb0.trans (kq.mono hb0.size)
      clear kq
      obtain rfl : R1 = true := hR1.2 (hpp.out.1 hop.out)
      clear hR1
      refine hKz _ _ ⟨hb1, ?_⟩
      clear hKz Kz hi
      refine takeW 3 17 (.bool true) rfl rfl (by kernel_rfl) (by kernel_rfl) (by kernel_rfl) (fun _ _ _ h => h) (by kernel_rfl) (by (intro w hSw; go_simp)) (by assumption) ?_
      simp only [List.set_cons_zero, List.set_cons_succ]
      refine takeW 4 18 (.agg #[.slice adB Bs.length capB, .slice (some ⟨b, off, none⟩) K.length capK]) rfl rfl (by kernel_rfl) (by kernel_rfl) (by kernel_rfl) (fun _ _ _ h => h) (by kernel_rfl) (by (intro Y hSw; obtain ⟨X0, X1⟩ := A.below hSw A.lt; go_simp)) (by assumption) ?_
      simp only [List.set_cons_zero, List.set_cons_succ]
      refine takeW 5 19 (.pointer (some ⟨w.heap.size, 1, none⟩)) rfl rfl (by kernel_rfl) (by kernel_rfl) (by kernel_rfl) (fun _ _ _ h => h) (by kernel_rfl) (by (intro w hSw; go_simp)) (by assumption) ?_
      simp only [List.set_cons_zero, List.set_cons_succ]
      refine takeW 6 20 (.slice (some ⟨b, off, none⟩) K.length capK) rfl rfl (by kernel_rfl) (by kernel_rfl) (by kernel_rfl) (fun _ _ _ h => h) (by kernel_rfl) (by (intro Y hSw; obtain ⟨X0, X1⟩ := A.below hSw A.lt; go_simp)) (by assumption) ?_
      simp only [List.set_cons_zero, List.set_cons_succ]
      refine takeW 7 21 (.int .i64 (k : Int)) rfl rfl (by kernel_rfl) (by kernel_rfl) (by kernel_rfl) (fun _ _ _ h => h) (by kernel_rfl) (by (intro w hSw; go_simp)) (by assumption) ?_
      simp only [List.set_cons_zero, List.set_cons_succ]
      refine takeW 8 22 (.pointer (some ⟨b, off + k * 4, none⟩)) rfl rfl (by kernel_rfl) (by kernel_rfl) (by kernel_rfl) (fun _ _ _ h => h) (by kernel_rfl) (by (intro Y hSw; go_simp; try omega)) (by assumption) ?_
      simp only [List.set_cons_zero, List.set_cons_succ]
      refine takeW 9 23 (.pointer (some ⟨b, off + k * 4, none⟩)) rfl rfl (by kernel_rfl) (by kernel_rfl) (by kernel_rfl) (fun _ _ _ h => h) (by kernel_rfl) (by (intro w hSw; go_simp)) (by assumption) ?_
      simp only [List.set_cons_zero, List.set_cons_succ]
      refine takeW 10 24 (.int .i64 (i : Int)) rfl rfl (by kernel_rfl) (by kernel_rfl) (by kernel_rfl) (fun _ _ _ h => h) (by kernel_rfl) (by (intro Y hSw; obtain ⟨X0, X1, X2, X3⟩ := hx Y hSw; go_simp)) (by assumption) ?_
      simp only [List.set_cons_zero, List.set_cons_succ]
      refine takeW 11 25 (.int .i64 (k : Int)) rfl rfl (by kernel_rfl) (by kernel_rfl) (by kernel_rfl) (fun _ _ _ h => h) (by kernel_rfl) (by (intro w hSw; go_simp)) (by assumption) ?_
      simp only [List.set_cons_zero, List.set_cons_succ]
      refine takeW 13 27 (.pointer (some ⟨w.heap.size, 1, none⟩)) rfl rfl (by kernel_rfl) (by kernel_rfl) (by kernel_rfl) (fun _ _ _ h => h) (by kernel_rfl) (by (intro w hSw; go_simp)) (by assumption) ?_
      simp only [List.set_cons_zero, List.set_cons_succ]
      refine takeW 14 28 (.slice (some ⟨b, off, none⟩) K.length capK) rfl rfl (by kernel_rfl) (by kernel_rfl) (by kernel_rfl) (fun _ _ _ h => h) (by kernel_rfl) (by (intro Y hSw; obtain ⟨X0, X1⟩ := A.below hSw A.lt; go_simp)) (by assumption) ?_
      simp only [List.set_cons_zero, List.set_cons_succ]
      refine takeW 15 29 (.int .i64 (k : Int)) rfl rfl (by kernel_rfl) (by kernel_rfl) (by kernel_rfl) (fun _ _ _ h => h) (by kernel_rfl) (by (intro w hSw; go_simp)) (by assumption) ?_
      simp only [List.set_cons_zero, List.set_cons_succ]
      refine takeW 16 30 (.pointer (some ⟨b, off + k * 4, none⟩)) rfl rfl (by kernel_rfl) (by kernel_rfl) (by kernel_rfl) (fun _ _ _ h => h) (by kernel_rfl) (by (intro Y hSw; go_simp; try omega)) (by assumption) ?_
      simp only [List.set_cons_zero, List.set_cons_succ]
      refine takeW 17 31 (.pointer (some ⟨b, off + k * 4 + 2, none⟩)) rfl rfl (by kernel_rfl) (by kernel_rfl) (by kernel_rfl) (fun _ _ _ h => h) (by kernel_rfl) (by (intro w hSw; go_simp)) (by assumption) ?_
      simp only [List.set_cons_zero, List.set_cons_succ]
      refine takeW 18 32 (.int .i64 (j : Int)) rfl rfl (by kernel_rfl) (by kernel_rfl) (by kernel_rfl) (fun _ _ _ h => h) (by kernel_rfl) (by (intro Y hSw; obtain ⟨X0, X1, X2, X3⟩ := hx Y hSw; go_simp)) (by assumption) ?_
      simp only [List.set_cons_zero, List.set_cons_succ]
      refine wpAnyH_all (rs := [12]) (by kernel_rfl) (by simp) ?_
      intro i hi; obtain rfl : i = 12 := by simpa using hi
      refine wpOp_step rfl (fun Kz hKz => ?_)
      rw [if_pos (by kernel_rfl)]
      go_simp
      go_at_call 44
      refine (reachL adB capB Bs (some ⟨b, off, none⟩) capK K i false (k : Int) u1 (hNw u1 hb1) hok (by omega)).mono ?_
      rintro e u2 ⟨M, aN, cN, hM, rfl, ON, kq⟩
      have hb2 : Below wr.heap.size wr u2 := hb1.trans (kq.mono hb1.size)
      clear kq
      replace hM : Hid _ := hM
      refine hKz _ _ ⟨hb2, ?_⟩
      clear hKz Kz hi
      refine wpAnyH_all (rs := [19]) (by kernel_rfl) (by simp) ?_
      intro i hi; obtain rfl : i = 19 := by simpa using hi
      refine wpOp_step rfl (fun Kz hKz => ?_)
      rw [if_pos (by kernel_rfl)]
      go_simp
      go_at_call 47
      refine (l4Has aN (idx 0 M).length cN (fun i => (idx 0 M).getD i 0) (j : Int) u2 ON.view.2.toI (by have := idx_len M 0; have := hM.out.len; unfold maxLen; omega)).mono ?_
      rintro e u3 ⟨rfl, hw3⟩
      obtain rfl := hw3.symm
      obtain ⟨R, hR⟩ : ∃ R, hasIn (fun i => (idx 0 M).getD i 0) (idx 0 M).length (j : Int) = R := ⟨_, rfl⟩
      have hcon : Hid (R = true ↔ Con (selL (pickF (dB Bs) false (k : Int)) 0 K) (i : Int) (j : Int)) := by unfold Hid; rw [← hR, has_mem, marks_in hM.out ⟨by omega, by omega⟩]
      rw [hR]
      clear hR ON hM
      refine hKz _ _ ⟨hb2, ?_⟩
      clear hKz Kz hi
      refine takeW 20 34 (.bool R) rfl rfl (by kernel_rfl) (by kernel_rfl) (by kernel_rfl) (fun _ _ _ h => h) (by kernel_rfl) (by (intro w hSw; go_simp)) (by assumption) ?_
      simp only [List.set_cons_zero, List.set_cons_succ]
      refine wpAnyH_done (by kernel_rfl) ?_ _
      have bZ := kb.trans (hb2.mono kb.size)
      clear hb0 hb1 hb2
      cases R
      · have hno : Hid (¬ Con (selL (pickF (dB Bs) false (k : Int)) 0 K) (i : Int) (j : Int)) := by
          unfold Hid
          intro q
          have := hcon.out.2 q
          cases this
        go_wp2
        go_roundw
        case rel =>
          refine ⟨k + 1, by omega, by go_num, fun j' hj ho => ?_, bZ⟩
          by_cases ej : j' = k
          · rw [ej, hh.out]; exact hno.out
          · exact hF.out j' (by omega) ho
        case measure => simp [intOf]; omega
      · have hyes : Hid (Con (selL (pickF (dB Bs) false (k : Int)) 0 K) (i : Int) (j : Int)) := hcon.out.1 rfl
        have BZ := B1.trans (bZ.mono B1.size)
        go_wp2
        go_ret
        refine ⟨YN.no (fun h => ?_), BZ⟩
        have := hQ.out.1 h k hlt (by rw [hh.out]; exact hop.out)
        rw [hh.out] at this
        exact this hyes.out
    · obtain rfl : k = K.length := by omega
      have BZ := B1.trans (kb.mono B1.size)
      go_wp2
      go_ret
      exact ⟨YN.yes (hQ.out.2 hF.out), BZ⟩

end Go.Proofs.Ytdfjfodfnildiaa
