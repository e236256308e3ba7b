/- What a new net is, in plain lists. Lists of bridges, copied. Lists of links, copied. Nets, copied. Lists of bridges, compared. Lists of links, compared. Nets, compared. Nets that a call made. Nets that a call owns. impl.bridgesFit, walked. impl.endsFit, walked. impl.portsFit, walked. impl.NetOk, walked. slices.Clone of links and impl.raise, walked. What NetNew answers. Lists of bridges, marked. Lists of links, marked. Nets, marked. Contracts of the small functions over bytes that the laws call. Contracts of the small functions over integers that the laws call. Numbers and links that come in. Nets marked; lists of numbers marked and held. -/
import Derived.Test.YtdfjfodfnildiabRows
import Derived.WalkKit
import Derived.ProofKit
import Derived.OpenShut
import Derived.ShutString
import Derived.ChangeOld
import Derived.Below
import Derived.Deep.QuietTactic
import Derived.BigQuiet
import Derived.WalkSmall
import Derived.Laws.OwnMore
import Derived.WalkSpells
import Derived.WalkLawsBesides
import Derived.Deep.Cut
import Derived.Test.YtdfjfodfnildiabNm0
import Derived.Test.YtdfjfodfnildiabRe3
import Derived.Test.YtdfjfodfnildiabBr9
import Derived.Test.YtdfjfodfnildiabNb0
import Derived.Test.YtdfjfodfnildiabBr2
import Derived.Test.YtdfjfodfnildiabLk1
import Derived.Test.YtdfjfodfnildiabNe0
import Derived.Test.YtdfjfodfnildiabTakes
import Derived.Test.YtdfjfodfnildiabNo2
import Derived.Test.YtdfjfodfnildiabFlatApp
import Derived.Laws.StructEq
import Derived.Maps.AppendAt
import Derived.Test.YtdfjfodfnildiabPts3
import Derived.Test.YtdfjfodfnildiabBase
import Derived.Test.YtdfjfodfnildiabNets2
import Derived.Deep.Slices
import Derived.Lib.SmallJoins
import Derived.Test.YtdfjfodfnildiabIv0
namespace Go.Proofs.Ytdfjfodfnildiab
open Go.ChangeShapes Go.WideShapes Go.ChangeAt Go.RowKit
open Go.ChangeMaps (open_string shut_string)
set_option linter.unusedVariables false
set_option maxRecDepth 100000

/-- A port that came up. -/
def upPt : Pt := ⟨true, false, 0, 0, 0, 0, 0, 0, 2, 4, false⟩
def linkIk (q : Int) : Ik := ⟨3, q, 0, 0, 0, 0, 0, true⟩
/-- Four ports, of which those of S are up. -/
def mkS (S : Nat → Bool) : List Pt := [if S 0 then upPt else Pt.nil, if S 1 then upPt else Pt.nil, if S 2 then upPt else Pt.nil, if S 3 then upPt else Pt.nil]
def mkB (b0 b1 b2 b3 : Bool) : List Pt := [if b0 then upPt else Pt.nil, if b1 then upPt else Pt.nil, if b2 then upPt else Pt.nil, if b3 then upPt else Pt.nil]
def lsEq : List Pt → List Pt → Bool
  | [], [] => true
  | x :: L, y :: M => ptEq x y && lsEq L M
  | _, _ => false
theorem lsEq_eq : ∀ {L M : List Pt}, lsEq L M = true → L = M
  | [], [], _ => rfl
  | x :: L, y :: M, h => by
    simp only [lsEq, Bool.and_eq_true] at h
    have hx : x = y := by
      have q := h.1
      obtain ⟨a0, a1, a2, a3, a4, a5, a6, a7, a8, a9, a10⟩ := x
      obtain ⟨b0, b1, b2, b3, b4, b5, b6, b7, b8, b9, b10⟩ := y
      simpa [ptEq] using q
    rw [hx, lsEq_eq h.2]
  | [], _ :: _, h => by simp [lsEq] at h
  | _ :: _, [], h => by simp [lsEq] at h
def bls : List Bool := [false, true]
def raiseChk : Bool := (List.range 9).all fun i => bls.all fun b0 => bls.all fun b1 => bls.all fun b2 => bls.all fun b3 =>
  lsEq (reactL (((i + 1 : Nat)) : Int) (mkB b0 b1 b2 b3) (linkIk 0)) (mkB true b1 b2 b3) && lsEq (reactL (((i + 1 : Nat)) : Int) (mkB b0 b1 b2 b3) (linkIk 1)) (mkB b0 true b2 b3) && lsEq (reactL (((i + 1 : Nat)) : Int) (mkB b0 b1 b2 b3) (linkIk 2)) (mkB b0 b1 true b3) && lsEq (reactL (((i + 1 : Nat)) : Int) (mkB b0 b1 b2 b3) (linkIk 3)) (mkB b0 b1 b2 true)
set_option maxRecDepth 100000 in
theorem raise_chk : raiseChk = true := by kernel_rfl
theorem raise_all {id : Int} (h : 1 ≤ id ∧ id ≤ 9) (b0 b1 b2 b3 : Bool) : reactL id (mkB b0 b1 b2 b3) (linkIk 0) = mkB true b1 b2 b3 ∧ reactL id (mkB b0 b1 b2 b3) (linkIk 1) = mkB b0 true b2 b3 ∧ reactL id (mkB b0 b1 b2 b3) (linkIk 2) = mkB b0 b1 true b3 ∧ reactL id (mkB b0 b1 b2 b3) (linkIk 3) = mkB b0 b1 b2 true := by
  have hc := raise_chk
  unfold raiseChk at hc
  have hb : ∀ b : Bool, b ∈ bls := fun b => by cases b <;> simp [bls]
  have := List.all_eq_true.1 hc (id.toNat - 1) (List.mem_range.2 (by omega))
  have := List.all_eq_true.1 this b0 (hb b0)
  have := List.all_eq_true.1 this b1 (hb b1)
  have := List.all_eq_true.1 this b2 (hb b2)
  have := List.all_eq_true.1 this b3 (hb b3)
  rw [show (((id.toNat - 1 + 1 : Nat)) : Int) = id by omega] at this
  simp only [Bool.and_eq_true] at this
  obtain ⟨⟨⟨t0, t1⟩, t2⟩, t3⟩ := this
  exact ⟨lsEq_eq t0, lsEq_eq t1, lsEq_eq t2, lsEq_eq t3⟩
theorem raise_S {id : Int} (h : 1 ≤ id ∧ id ≤ 9) (S : Nat → Bool) {p : Nat} (hp : p < 4) : reactL id (mkS S) (linkIk (p : Int)) = mkS (fun x => S x || x == p) := by
  have r := raise_all h (S 0) (S 1) (S 2) (S 3)
  have e : ∀ T : Nat → Bool, mkS T = mkB (T 0) (T 1) (T 2) (T 3) := fun T => rfl
  rw [e, e]
  rcases (by omega : p = 0 ∨ p = 1 ∨ p = 2 ∨ p = 3) with rfl | rfl | rfl | rfl
  · simpa using r.1
  · simpa using r.2.1
  · simpa using r.2.2.1
  · simpa using r.2.2.2
theorem mkS_len (S : Nat → Bool) : (mkS S).length = 4 := rfl
theorem mkS_congr {S T : Nat → Bool} (h : ∀ x, x < 4 → S x = T x) : mkS S = mkS T := by
  unfold mkS
  rw [h 0 (by omega), h 1 (by omega), h 2 (by omega), h 3 (by omega)]
theorem mkS_none : mkS (fun _ => false) = List.replicate 4 Pt.nil := rfl
/-- A bridge of a new net. -/
def newBg (id : Int) (S : Nat → Bool) : Bg := if nOk id 4 then ⟨id, mkS S⟩ else ⟨0, []⟩
theorem newBg_0 (id : Int) : newBg id (fun _ => false) = ⟨newI id 4, newL id 4⟩ := by
  unfold newBg newI newL
  by_cases h : nOk id 4 = true
  · rw [if_pos h, if_pos h, if_pos h]; rfl
  · rw [if_neg h, if_neg h, if_neg h]
theorem newBg_congr {id : Int} {S T : Nat → Bool} (h : ∀ x, x < 4 → S x = T x) : newBg id S = newBg id T := by
  unfold newBg
  rw [mkS_congr h]
theorem nOk_4 {id : Int} (h : nOk id 4 = true) : 1 ≤ id ∧ id ≤ 9 := by
  unfold nOk at h
  simp only [Bool.and_eq_true, decide_eq_true_eq] at h
  exact h.1
theorem newBg_len (id : Int) (S : Nat → Bool) : (newBg id S).L.length ≤ 4 := by
  unfold newBg
  split
  · exact Nat.le_refl _
  · exact Nat.zero_le _
theorem newBg_raise (id : Int) (S : Nat → Bool) {p : Nat} (hp : p < (newBg id S).L.length) : (⟨(newBg id S).id, reactL (newBg id S).id (newBg id S).L (linkIk (p : Int))⟩ : Bg) = newBg id (fun x => S x || x == p) := by
  unfold newBg at hp ⊢
  by_cases h : nOk id 4 = true
  · rw [if_pos h] at hp ⊢
    rw [if_pos h]
    dsimp only
    rw [raise_S (nOk_4 h) S hp]
  · rw [if_neg h] at hp
    simp at hp
/-- The first n bridges of a new net. -/
def netN (ids : List Int) (T : Nat → Nat → Bool) (n : Nat) : List Bg := (List.range n).map fun i => newBg (ids.getD i 0) (T i)
theorem netN_len (ids : List Int) (T : Nat → Nat → Bool) (n : Nat) : (netN ids T n).length = n := by simp [netN]
theorem netN_get (ids : List Int) (T : Nat → Nat → Bool) {n i : Nat} (h : i < n) : (netN ids T n).getD i Bg.nil = newBg (ids.getD i 0) (T i) := by simp [netN, List.getD, h]
theorem netN_succ (ids : List Int) (T : Nat → Nat → Bool) (n : Nat) : netN ids T (n + 1) = netN ids T n ++ [newBg (ids.getD n 0) (T n)] := by simp [netN, List.range_succ]
theorem netN_congr {ids : List Int} {T U : Nat → Nat → Bool} {n : Nat} (h : ∀ i x, i < n → x < 4 → T i x = U i x) : netN ids T n = netN ids U n := by
  unfold netN
  refine List.map_congr_left fun i hi => newBg_congr fun x hx => h i x (List.mem_range.1 hi) hx
/-- Ports that some link names. -/
def ofK (K : List Lk) (i x : Nat) : Bool := decide (0 < onceL K i x)
/-- A port that comes up, if there is one. -/
def lift (T : Nat → Nat → Bool) (a p : Int) : Nat → Nat → Bool := fun i x => T i x || (decide ((i : Int) = a) && decide ((x : Int) = p))
theorem lift_no {ids : List Int} {T : Nat → Nat → Bool} {n : Nat} {a p : Int} (h : ¬ PortP (netN ids T n) a p) : netN ids (lift T a p) n = netN ids T n := by
  unfold netN
  refine List.map_congr_left fun i hi => ?_
  have hi := List.mem_range.1 hi
  by_cases q : nOk (ids.getD i 0) 4 = true
  · refine newBg_congr fun x hx => ?_
    unfold lift
    by_cases e : (i : Int) = a ∧ (x : Int) = p
    · exfalso
      refine h ⟨⟨by omega, by rw [netN_len]; omega⟩, by omega, ?_⟩
      rw [show a.toNat = i by omega, netN_get _ _ hi]
      unfold newBg
      rw [if_pos q]
      show p < ((mkS (T i)).length : Int)
      rw [mkS_len]
      omega
    · have : (decide ((i : Int) = a) && decide ((x : Int) = p)) = false := by
        rw [Bool.and_eq_false_iff]
        simp only [decide_eq_false_iff_not]
        by_cases e1 : (i : Int) = a
        · exact .inr (fun e2 => e ⟨e1, e2⟩)
        · exact .inl e1
      rw [this, Bool.or_false]
  · unfold newBg
    rw [if_neg q, if_neg q]
theorem lift_yes {ids : List Int} {T : Nat → Nat → Bool} {n : Nat} {a p : Nat} (ha : a < n) (hp : p < ((netN ids T n).getD a Bg.nil).L.length) : (netN ids T n).set a ⟨((netN ids T n).getD a Bg.nil).id, reactL ((netN ids T n).getD a Bg.nil).id ((netN ids T n).getD a Bg.nil).L (linkIk (p : Int))⟩ = netN ids (lift T a p) n := by
  rw [netN_get _ _ ha] at hp ⊢
  rw [newBg_raise _ _ hp]
  refine List.ext_getElem (by simp [netN]) fun i h1 h2 => ?_
  have hi : i < n := by simpa [netN] using h2
  rw [List.getElem_set]
  by_cases e : a = i
  · subst e
    rw [if_pos rfl]
    simp only [netN, List.getElem_map, List.getElem_range]
    refine newBg_congr fun x _ => ?_
    unfold lift
    by_cases ex : x = p
    · subst ex; simp
    · have : ¬ (x : Int) = (p : Int) := by omega
      simp [ex, this]
  · rw [if_neg e]
    simp only [netN, List.getElem_map, List.getElem_range]
    refine newBg_congr fun x _ => ?_
    unfold lift
    have : ¬ (i : Int) = (a : Int) := by omega
    simp [this]
theorem ofK_take (K : List Lk) {j : Nat} (h : j < K.length) (i x : Nat) : lift (lift (ofK (K.take j)) (K.getD j Lk.nil).a (K.getD j Lk.nil).p) (K.getD j Lk.nil).b (K.getD j Lk.nil).q i x = ofK (K.take (j + 1)) i x := by
  unfold lift ofK
  rw [once_take K _ _ h]
  have h0 := once_nonneg (K.take j) i x
  generalize onceL (K.take j) i x = o at h0 ⊢
  generalize K.getD j Lk.nil = l
  by_cases c1 : l.a = (i : Int) ∧ l.p = (x : Int)
  · rw [if_pos c1]
    have e1 : ((i : Int) = l.a) := c1.1.symm
    have e2 : ((x : Int) = l.p) := c1.2.symm
    rw [decide_eq_true e1, decide_eq_true e2]
    have : decide (0 < o + (1 + if l.b = (i : Int) ∧ l.q = (x : Int) then 1 else 0)) = true := decide_eq_true (by split <;> omega)
    rw [this]
    simp
  · rw [if_neg c1]
    have e1 : (decide ((i : Int) = l.a) && decide ((x : Int) = l.p)) = false := by
      rw [Bool.and_eq_false_iff]
      simp only [decide_eq_false_iff_not]
      by_cases q : (i : Int) = l.a
      · exact .inr (fun e2 => c1 ⟨q.symm, e2.symm⟩)
      · exact .inl q
    rw [e1, Bool.or_false]
    by_cases c2 : l.b = (i : Int) ∧ l.q = (x : Int)
    · rw [if_pos c2]
      rw [decide_eq_true (show (i : Int) = l.b from c2.1.symm), decide_eq_true (show (x : Int) = l.q from c2.2.symm)]
      rw [decide_eq_true (show 0 < o + (0 + 1) by omega)]
      simp
    · rw [if_neg c2]
      have e2 : (decide ((i : Int) = l.b) && decide ((x : Int) = l.q)) = false := by
        rw [Bool.and_eq_false_iff]
        simp only [decide_eq_false_iff_not]
        by_cases q : (i : Int) = l.b
        · exact .inr (fun e2 => c2 ⟨q.symm, e2.symm⟩)
        · exact .inl q
      rw [e2, Bool.or_false]
      simp
/-- Whether they make a net. -/
def NewP (ids : List Int) (K : List Lk) : Prop := ids.length ≤ 5 ∧ NetP (netN ids (ofK K) ids.length) K

end Go.Proofs.Ytdfjfodfnildiab
namespace Go.Proofs.Ytdfjfodfnildiab
open Go.ChangeShapes Go.WideShapes Go.ChangeAt Go.RowKit
open Go.ChangeMaps (open_string shut_string)
set_option linter.unusedVariables false
set_option maxRecDepth 100000

/-- The same, its list at the block n. -/
def Bd.to (m : Bd) (n : Nat) : Bd := ⟨m.id, some ⟨n, 0, none⟩, m.L.length, m.L⟩
/-- The list of the copies. -/
def cpyN (Bs : List Bd) (Ns : Nat → Nat) : List Bd := (List.range Bs.length).map (fun j => (Bs.getD j Bd.nil).to (Ns j))
theorem cpyN_len (Bs : List Bd) (Ns : Nat → Nat) : (cpyN Bs Ns).length = Bs.length := by simp [cpyN]
theorem cpyN_get (Bs : List Bd) (Ns : Nat → Nat) {j : Nat} (h : j < Bs.length) : (cpyN Bs Ns).getD j Bd.nil = (Bs.getD j Bd.nil).to (Ns j) := by simp [cpyN, List.getD, h]
theorem cpyN_d (Bs : List Bd) (Ns : Nat → Nat) : (cpyN Bs Ns).map Bd.d = Bs.map Bd.d := by
  refine List.ext_getElem (by simp [cpyN]) fun i h1 h2 => ?_
  have hi : i < Bs.length := by simpa using h2
  simp [cpyN, Bd.d, Bd.to, List.getD, hi]
theorem FFill.congr {X : Type} {enc : X → List Value} {n : Nat} (hn : ∀ x, (enc x).length = n) (h0 : 0 < n) (d : X) {T : TypeId} {base : Nat} {w : World} {g : Nat} {L M : List X} {k : Nat} (h : FFill enc n T base w g L k) (hk : k ≤ L.length) (hl : M.length = L.length) (e : ∀ i, i < k → M.getD i d = L.getD i d) : FFill enc n T base w g M k := by
  obtain ⟨xs, h1, h2⟩ := h
  refine ⟨xs, by rw [hl]; exact h1, fun j hj => ?_⟩
  rw [h2 j hj]
  have hq : j / n < k := Nat.div_lt_of_lt_mul (by rw [Nat.mul_comm]; exact hj)
  have hr : j % n < n := Nat.mod_lt _ h0
  have ej : j = j / n * n + j % n := by rw [Nat.mul_comm]; exact (Nat.div_add_mod j n).symm
  rw [ej, fcells_at hn d L _ _ (by omega) hr, fcells_at hn d M _ _ (by omega) hr, e _ hq]
/-- What a loop that fills the block B with bridges has done behind k rounds; Ns: where their lists lie. -/
structure NF (B : Nat) (Bs : List Bd) (Ns : Nat → Nat) (k : Nat) (w wr : World) : Prop where
  bel : Below B w wr
  fill : FFill bdEnc 2 54 B wr B (cpyN Bs Ns) k
  nest : ∀ j, j < k → FOwn ptEnc 11 68 B wr (.slice (some ⟨Ns j, 0, none⟩) (Bs.getD j Bd.nil).L.length (Bs.getD j Bd.nil).L.length) (Bs.getD j Bd.nil).L
  nb : ∀ j, j < k → B < Ns j ∧ Ns j < wr.heap.size
  inc : ∀ i j, i < j → j < k → Ns i < Ns j
theorem NF.later {B : Nat} {Bs : List Bd} {Ns : Nat → Nat} {k : Nat} {w wr w2 : World} (h : NF B Bs Ns k w wr) (b : Below wr.heap.size wr w2) : NF B Bs Ns k w w2 := by
  have hl := h.fill.lt
  have hs := b.size
  exact ⟨h.bel.trans (b.mono (by omega)), h.fill.keep (b.block _ hl.2), fun j hj => (h.nest j hj).later b, fun j hj => ⟨(h.nb j hj).1, by have := (h.nb j hj).2; omega⟩, h.inc⟩
theorem NF.step {B : Nat} {Bs : List Bd} {Ns : Nat → Nat} {k : Nat} {w wr : World} {N : Nat} (h : NF B Bs Ns k w wr) (hk : k < Bs.length) (hN : B < N ∧ N < wr.heap.size) (hi : ∀ j, j < k → Ns j < N)
    (hv : FOwn ptEnc 11 68 B wr (.slice (some ⟨N, 0, none⟩) (Bs.getD k Bd.nil).L.length (Bs.getD k Bd.nil).L.length) (Bs.getD k Bd.nil).L) :
    NF B Bs (fun j => if j = k then N else Ns j) (k + 1) w ((wr.setCell ⟨B, k * 2, none⟩ (.int .i64 (Bs.getD k Bd.nil).id)).setCell ⟨B, k * 2 + 1, none⟩ (.slice (some ⟨N, 0, none⟩) (Bs.getD k Bd.nil).L.length (Bs.getD k Bd.nil).L.length)) := by
  have hb : ∀ g, g ≠ B → ((wr.setCell ⟨B, k * 2, none⟩ (.int .i64 (Bs.getD k Bd.nil).id)).setCell ⟨B, k * 2 + 1, none⟩ (.slice (some ⟨N, 0, none⟩) (Bs.getD k Bd.nil).L.length (Bs.getD k Bd.nil).L.length)).heap[g]? = wr.heap[g]? := fun g hg => by
    rw [Below.heap_setCell _ _ _ _ hg, Below.heap_setCell _ _ _ _ hg]
  have F : FFill bdEnc 2 54 B wr B (cpyN Bs (fun j => if j = k then N else Ns j)) k := h.fill.congr bdEnc_len (by omega) Bd.nil (by rw [cpyN_len]; omega) (by rw [cpyN_len, cpyN_len]) (fun i hi => by
    rw [cpyN_get _ _ (by omega), cpyN_get _ _ (by omega)]
    have : i ≠ k := by omega
    simp only [this, if_false])
  have F1 := F.step bdEnc_len Bd.nil (by rw [cpyN_len]; exact hk)
  rw [cpyN_get _ _ hk, bdPut] at F1
  simp only [if_true, Bd.to] at F1
  refine ⟨(h.bel.setCell (Nat.le_refl _) _).setCell (Nat.le_refl _) _, F1, fun j hj => ?_, fun j hj => ?_, fun i j hij hj => ?_⟩
  · by_cases e : j = k
    · subst e
      simp only [if_true]
      exact hv.keep (fun g q => hb _ (by have : N = g := by simpa [Value.ownBlock] using q
                                         omega))
    · simp only [e, if_false]
      exact (h.nest j (by omega)).keep (fun g q => hb _ (by have : Ns j = g := by simpa [Value.ownBlock] using q
                                                            have := (h.nb j (by omega)).1
                                                            omega))
  · by_cases e : j = k
    · simp only [e, if_true]; simpa using hN
    · simp only [e, if_false]; simpa using h.nb j (by omega)
  · by_cases e : j = k
    · have : i ≠ k := by omega
      simp only [e, this, if_true, if_false]
      exact hi i (by omega)
    · have : i ≠ k := by omega
      simp only [e, this, if_false]
      exact h.inc i j hij (by omega)
theorem NF.own {B : Nat} {Bs : List Bd} {Ns : Nat → Nat} {w wr : World} (h : NF B Bs Ns Bs.length w wr) : NOwn B wr.heap.size wr (.slice (some ⟨B, 0, none⟩) Bs.length Bs.length) (cpyN Bs Ns) := by
  have hl := cpyN_len Bs Ns
  have F := h.fill
  rw [← hl] at F
  have O := F.done bdEnc_len
  rw [hl] at O
  have hv : ∀ i, i < Bs.length → ((cpyN Bs Ns).getD i Bd.nil).v = .slice (some ⟨Ns i, 0, none⟩) (Bs.getD i Bd.nil).L.length (Bs.getD i Bd.nil).L.length := fun i hi => by rw [cpyN_get _ _ hi]; rfl
  have hb : ∀ i, i < Bs.length → ∀ g, ((cpyN Bs Ns).getD i Bd.nil).v.ownBlock = some g → Ns i = g := fun i hi g e => by
    rw [hv i hi] at e
    simpa [Value.ownBlock] using e
  refine ⟨O, fun i hi => ?_, fun g e => ?_, fun i hi g e => ?_, fun i hi g g' e e' => ?_, fun i j hij hj g g' e e' => ?_⟩
  · rw [hl] at hi
    rw [hv i hi, cpyN_get _ _ hi]
    exact h.nest i hi
  · obtain rfl : B = g := by simpa [Value.ownBlock] using e
    exact h.fill.lt.2
  · rw [hl] at hi
    have := hb i hi g e
    have := (h.nb i hi).2
    omega
  · rw [hl] at hi
    have := hb i hi g' e'
    have := (h.nb i hi).1
    obtain rfl : B = g := by simpa [Value.ownBlock] using e
    omega
  · rw [hl] at hj
    have := hb i (by omega) g e
    have := hb j hj g' e'
    have := h.inc i j hij hj
    omega
theorem nf_made {w w1 : World} {Bs : List Bd} {Ns : Nat → Nat} {xs : List Value} (hown : w1.ownsRow w.heap.size 54 2 (.slice (some ⟨w.heap.size, 0, none⟩) Bs.length Bs.length) Bs.length xs) (hgrow : w.grownBy w1 none) : NF w.heap.size Bs Ns 0 w w1 := by
  refine ⟨(Below.refl _ _).grown hgrow (Nat.le_refl _) (by simp), FFill.start (by rw [cpyN_len]; exact hown), fun j hj => by omega, fun j hj => by omega, fun i j _ hj => by omega⟩
theorem brInfo2 : (Try.prog.info? 54).map (fun i => (i.zero, i.size, i.bytes)) = some (some (.agg #[.int .i64 0, .slice none 0 0]), 2, 32) := by kernel_rfl
set_option maxHeartbeats 1000000 in
theorem bdTo (ad : Option Addr) (cap : Nat) (Bs : List Bd) (w : World) (hv : NV w ad Bs) (hl : Bs.length ≤ 1048576) (hls : ∀ i, i < Bs.length → (Bs.getD i Bd.nil).L.length ≤ 1048576) :
    Calls Try.prog 23 #[.slice ad Bs.length cap] w fun e w' => ∃ Ns, e = .returned (.slice (some ⟨w.heap.size, 0, none⟩) Bs.length Bs.length) ∧ NF w.heap.size Bs Ns Bs.length w w' := by
  obtain ⟨i0, hi, hz0, hz1, hz2⟩ := info_parts brInfo2
  go_enter Try.func23, Try.ntmps23
  go_wp2_with (first | (refine wpList_make_full _ rfl _ _ 28 rfl w.heap.size 54 i0 (.agg #[.int .i64 0, .slice none 0 0]) 2 Try.underlying28 hi hz0 hz1 .i64 .i64 _ _ Bs.length rfl rfl rfl rfl ?c1 ?c2 ?c3 ?_))
  case c1 => rw [hz2]; omega
  case c2 => unfold maxLen; omega
  case c3 => exact Nat.le_refl _
  intro w1 hown hgrow
  have F0 : NF w.heap.size Bs (fun _ => 0) 0 w w1 := nf_made hown hgrow
  clear hown hgrow
  go_wp2
  go_loopw [4] (fun i wr => ∃ (k : Nat) (Ns : Nat → Nat), k ≤ Bs.length ∧ i = .int .i64 k ∧ NF w.heap.size Bs Ns k w wr) (fun i _ => Bs.length - (intOf i).toNat)
  case atStart => exact ⟨0, _, Nat.zero_le _, rfl, F0⟩
  case round =>
    obtain ⟨k, Ns, hk, rfl, F⟩ := hrel
    clear F0
    by_cases hlt : k < Bs.length
    · obtain ⟨b, off, rfl⟩ := hv.ad_ (by omega)
      have hck := (hv.below F.bel (Nat.le_refl _)).at_ hlt
      have hnk := (hv.below F.bel (Nat.le_refl _)).nest k hlt
      have hlk := hls k hlt
      have hs := F.bel.size
      have hfl := F.fill.lt
      have st := fun (w2 : World) (N : Nat) (G : NF w.heap.size Bs Ns k w w2) (h1 : wr.heap.size ≤ N) (h2 : N < w2.heap.size) => G.step (N := N) hlt ⟨by omega, h2⟩ (fun j hj => by have := (F.nb j hj).2; omega)
      obtain ⟨m, hh⟩ : ∃ m, Bs.getD k Bd.nil = m := ⟨_, rfl⟩
      rw [hh] at hck hnk hlk
      simp only [hh] at st
      obtain ⟨c1, c2⟩ := hck
      clear hv hls hh
      go_wp2_with fail
      go_at_call 44
      refine (brTo m.id m.ad m.cap m.L wr hnk hlk).mono ?_
      rintro e w2 ⟨N, rfl, n1, n2, o2, k2⟩
      have G := F.later k2
      have G1 := st w2 N G n1 n2 (o2.base hs)
      obtain ⟨u0, hu0⟩ := G.fill.cell (k * 2) (by rw [cpyN_len]; omega)
      obtain ⟨u1, hu1⟩ := G.fill.cell (k * 2 + 1) (by rw [cpyN_len]; omega)
      have f0 := G.fill.frozen (k * 2)
      have f1 := G.fill.frozen (k * 2 + 1)
      clear F G st o2 hnk hfl
      go_wp2
      go_roundw
      case rel => exact ⟨k + 1, _, by omega, by go_num, G1⟩
      case measure => simp [intOf]; omega
    · obtain rfl : k = Bs.length := by omega
      go_wp2
      go_ret
      exact ⟨Ns, rfl, F⟩

end Go.Proofs.Ytdfjfodfnildiab
namespace Go.Proofs.Ytdfjfodfnildiab
open Go.ChangeShapes Go.WideShapes Go.ChangeAt Go.RowKit
open Go.ChangeMaps (open_string shut_string)
set_option linter.unusedVariables false
set_option maxRecDepth 100000

theorem lkInfo : (Try.prog.info? 70).map (fun i => (i.zero, i.size, i.bytes)) = some (some (.agg #[.int .i64 0, .int .i64 0, .int .i64 0, .int .i64 0]), 4, 32) := by kernel_rfl
set_option maxHeartbeats 2000000 in
theorem lkToS (ad : Option Addr) (cap : Nat) (L : List Lk) (w : World) (hv : FView lkEnc w ad L) (hl : L.length ≤ 1048576) :
    Calls Try.prog 24 #[.slice ad L.length cap] w fun e w' => e = .returned (.slice (some ⟨w.heap.size, 0, none⟩) L.length L.length) ∧ FOwn lkEnc 4 70 w.heap.size w' (.slice (some ⟨w.heap.size, 0, none⟩) L.length L.length) L ∧ Below w.heap.size w w' := by
  obtain ⟨i0, hi, hz0, hz1, hz2⟩ := info_parts lkInfo
  have hB := hv.lt lkEnc_len (by omega)
  go_enter Try.func24, Try.ntmps24
  go_wp2_with (first | (refine wpList_make_full _ rfl _ _ 29 rfl w.heap.size 70 i0 (.agg #[.int .i64 0, .int .i64 0, .int .i64 0, .int .i64 0]) 4 Try.underlying29 hi hz0 hz1 .i64 .i64 _ _ L.length rfl rfl rfl rfl ?c1 ?c2 ?c3 ?_))
  case c1 => rw [hz2]; omega
  case c2 => unfold maxLen; omega
  case c3 => exact Nat.le_refl _
  intro w1 hown hgrow
  have F0 : FFill lkEnc 4 70 w.heap.size w1 w.heap.size L 0 := FFill.start hown
  have B0 : Below w.heap.size w w1 := (Below.refl _ _).grown hgrow (Nat.le_refl _) (by simp)
  clear hown hgrow
  go_wp2
  go_loopw [4] (fun i wr => ∃ k : Nat, k ≤ L.length ∧ i = .int .i64 k ∧ FFill lkEnc 4 70 w.heap.size wr w.heap.size L k ∧ Below w.heap.size w wr) (fun i _ => L.length - (intOf i).toNat)
  case atStart => exact ⟨0, Nat.zero_le _, rfl, F0, B0⟩
  case round =>
    obtain ⟨k, hk, rfl, F, B⟩ := hrel
    clear F0 B0
    by_cases hlt : k < L.length
    · obtain ⟨b, off, rfl, _⟩ := hv (by omega)
      obtain ⟨h, hh⟩ : ∃ h, L.getD k Lk.nil = h := ⟨_, rfl⟩
      have hck : LkAtO wr b (off + k * 4) h := by
        rw [← hh]
        exact lkAtO_of ((hv.below B hB).at_ lkEnc_len Lk.nil hlt)
      obtain ⟨c0, c1, c2, c3⟩ := hck
      have hsz := F.lt
      go_wp2_with fail
      go_at_call 45
      refine (toLk h wr).mono ?_
      rintro e w2 ⟨rfl, k2⟩
      have G := F.keep (k2.block _ hsz.2)
      have B2 := B.trans (k2.mono (Nat.le_of_lt hsz.2))
      obtain ⟨u0, hu0⟩ := G.cell (k * 4) (by omega)
      obtain ⟨u1, hu1⟩ := G.cell (k * 4 + 1) (by omega)
      obtain ⟨u2, hu2⟩ := G.cell (k * 4 + 2) (by omega)
      obtain ⟨u3, hu3⟩ := G.cell (k * 4 + 3) (by omega)
      have f0 := G.frozen (k * 4)
      have f1 := G.frozen (k * 4 + 1)
      have f2 := G.frozen (k * 4 + 2)
      have f3 := G.frozen (k * 4 + 3)
      have G1 := G.step lkEnc_len Lk.nil hlt
      have B3 := below_putAll (Nat.le_refl _) (lkEnc h) (k * 4) B2
      rw [hh, lkPut] at G1
      rw [lkPut] at B3
      clear F G B B2 hh hsz
      go_wp2
      go_roundw
      case rel => exact ⟨k + 1, by omega, by go_num, G1, B3⟩
      case measure => simp [intOf]; omega
    · obtain rfl : k = L.length := by omega
      go_wp2
      go_ret
      exact ⟨rfl, F.done lkEnc_len, B⟩

end Go.Proofs.Ytdfjfodfnildiab
namespace Go.Proofs.Ytdfjfodfnildiab
open Go.ChangeShapes Go.WideShapes Go.ChangeAt Go.RowKit
open Go.ChangeMaps (open_string shut_string)
set_option linter.unusedVariables false
set_option maxRecDepth 100000

/-- What toNet makes. -/
structure NetMade (w w' : World) (gB gK : Nat) (Bs : List Bd) (K : List Lk) (Cs : List Bd) : Prop where
  d : Cs.map Bd.d = Bs.map Bd.d
  len : Cs.length = Bs.length
  own : NOwn w.heap.size gK w' (.slice (some ⟨gB, 0, none⟩) Bs.length Bs.length) Cs
  own2 : FOwn lkEnc 4 70 w.heap.size w' (.slice (some ⟨gK, 0, none⟩) K.length K.length) K
  lt : w.heap.size ≤ gK ∧ gK < w'.heap.size
  bel : Below w.heap.size w w'
set_option maxHeartbeats 2000000 in
theorem neTo (adB : Option Addr) (capB : Nat) (Bs : List Bd) (adK : Option Addr) (capK : Nat) (K : List Lk) (w : World) (vb : NV w adB Bs) (vk : FView lkEnc w adK K) (hl : Bs.length ≤ 1048576) (hls : ∀ i, i < Bs.length → (Bs.getD i Bd.nil).L.length ≤ 1048576) (hk : K.length ≤ 1048576) :
    Calls Try.prog 8 #[.agg #[.slice adB Bs.length capB, .slice adK K.length capK]] w fun e w' => ∃ gB gK Cs, e = .returned (.agg #[.slice (some ⟨gB, 0, none⟩) Bs.length Bs.length, .slice (some ⟨gK, 0, none⟩) K.length K.length]) ∧ NetMade w w' gB gK Bs K Cs := by
  have hkB := vk.lt lkEnc_len (by omega)
  obtain ⟨y, hy⟩ : ∃ y, y = ((w.alloc (Obj.cells #[.slice adB Bs.length capB, .slice adK K.length capK] 25)).alloc (Obj.cells #[.slice none 0 0, .slice none 0 0] 31)).alloc (Obj.cells #[.slice none 0 0, .slice none 0 0] 31) := ⟨_, rfl⟩
  have B0 : Below w.heap.size w y := by rw [hy]; exact (((Below.refl _ _).alloc (Nat.le_refl _) _).alloc (by simp) _).alloc (by simp; omega) _
  have A0 : NeAt y w.heap.size (.slice adB Bs.length capB) (.slice adK K.length capK) := by rw [hy]; constructor <;> simp [go_sem]
  have A1 : NeAt y (w.heap.size + 1) (.slice none 0 0) (.slice none 0 0) := by rw [hy]; constructor <;> simp [go_sem]
  have A2 : NeAt y (w.heap.size + 1 + 1) (.slice none 0 0) (.slice none 0 0) := by rw [hy]; constructor <;> simp [go_sem]
  have F1 : ∀ i, y.frozen? ⟨w.heap.size + 1, i, none⟩ = false := fun i => by rw [hy]; simp [go_sem]
  have F2 : ∀ i, y.frozen? ⟨w.heap.size + 1 + 1, i, none⟩ = false := fun i => by rw [hy]; simp [go_sem]
  have S0 := A2.lt
  go_enter Try.func8, Try.ntmps8
  go_wp2_with fail
  go_at_call 23
  rw [← hy]
  clear hy
  refine (bdTo adB capB Bs y (vb.below B0 (Nat.le_refl _)) hl hls).mono ?_
  rintro e w1 ⟨Ns, rfl, F⟩
  generalize hg : y.heap.size = g at F S0 ⊢
  have hgb : Hid (w.heap.size ≤ g) := by have := B0.size; unfold Hid; omega
  have hg1 := F.fill.lt
  have O1 := F.own
  have dl : Hid ((cpyN Bs Ns).length = Bs.length) := cpyN_len Bs Ns
  have dd : Hid ((cpyN Bs Ns).map Bd.d = Bs.map Bd.d) := cpyN_d Bs Ns
  have k1 : Below g y w1 := F.bel
  generalize cpyN Bs Ns = Cs at O1 dl dd
  clear F
  have A0 := A0.below k1 (by omega)
  have A1 := A1.below k1 (by omega)
  have A2 := A2.below k1 (by omega)
  have F1 : ∀ i, w1.frozen? ⟨w.heap.size + 1, i, none⟩ = false := fun i => (World.frozen?_of_block (a := ⟨w.heap.size + 1, i, none⟩) (k1.block (w.heap.size + 1) (by omega))).trans (F1 i)
  have F2 : ∀ i, w1.frozen? ⟨w.heap.size + 1 + 1, i, none⟩ = false := fun i => (World.frozen?_of_block (a := ⟨w.heap.size + 1 + 1, i, none⟩) (k1.block (w.heap.size + 1 + 1) (by omega))).trans (F2 i)
  have B1 := B0.trans (k1.mono (by have := hgb.out; omega))
  clear hg k1 B0 vb
  obtain ⟨z, hz⟩ : ∃ z, z = w1.setCell ⟨w.heap.size + 1 + 1, 0, none⟩ (.slice (some ⟨g, 0, none⟩) Bs.length Bs.length) := ⟨_, rfl⟩
  have zs : z.heap.size = w1.heap.size := by rw [hz]; simp
  have zb : ∀ j, j ≠ w.heap.size + 1 + 1 → z.heap[j]? = w1.heap[j]? := fun j hj => by rw [hz]; exact Below.heap_setCell _ _ _ _ hj
  have B2 : Below w.heap.size w z := by rw [hz]; exact B1.setCell (by show _ ≤ w.heap.size + 1 + 1; omega) _
  have E0 : NeAt z w.heap.size (.slice adB Bs.length capB) (.slice adK K.length capK) := A0.keep (zb _ (by omega))
  have E1 : NeAt z (w.heap.size + 1) (.slice none 0 0) (.slice none 0 0) := A1.keep (zb _ (by omega))
  have E2 : NeAt z (w.heap.size + 1 + 1) (.slice (some ⟨g, 0, none⟩) Bs.length Bs.length) (.slice none 0 0) := by
    rw [hz]
    exact ⟨pset_same A2.c0, (pset_else (by decide)).trans A2.c1⟩
  have G1 : ∀ i, z.frozen? ⟨w.heap.size + 1, i, none⟩ = false := fun i => (World.frozen?_of_block (a := ⟨w.heap.size + 1, i, none⟩) (zb (w.heap.size + 1) (by omega))).trans (F1 i)
  have G2 : ∀ i, z.frozen? ⟨w.heap.size + 1 + 1, i, none⟩ = false := fun i => by rw [hz, World.frozen?_setCell]; exact F2 i
  have O2 : NOwn g w1.heap.size z (.slice (some ⟨g, 0, none⟩) Bs.length Bs.length) Cs := O1.keep fun j hj _ => zb j (by omega)
  clear O1 B1 zb
  have f20 := F2 0
  obtain ⟨a20, a21⟩ := A2
  obtain ⟨a00, a01⟩ := A0
  go_wp2_with fail
  go_at_call 24
  rw [← hz]
  clear hz a20 a21 a00 a01 f20 F1 F2 A1
  refine (lkToS adK capK K z (vk.below B2 hkB) hk).mono ?_
  rintro e w2 ⟨rfl, OK, k2⟩
  rw [zs] at OK k2 ⊢
  have hgk : w1.heap.size < w2.heap.size := (OK.lt _ rfl).2
  have E1 := E1.below k2 (by omega)
  have E2 := E2.below k2 (by omega)
  have G1 : ∀ i, w2.frozen? ⟨w.heap.size + 1, i, none⟩ = false := fun i => (World.frozen?_of_block (a := ⟨w.heap.size + 1, i, none⟩) (k2.block (w.heap.size + 1) (by omega))).trans (G1 i)
  have G2 : ∀ i, w2.frozen? ⟨w.heap.size + 1 + 1, i, none⟩ = false := fun i => (World.frozen?_of_block (a := ⟨w.heap.size + 1 + 1, i, none⟩) (k2.block (w.heap.size + 1 + 1) (by omega))).trans (G2 i)
  have B3 := B2.trans (k2.mono (by omega))
  have O3 := O2.below k2 (Nat.le_refl _)
  generalize hgk2 : w1.heap.size = gK at OK O3 hgk ⊢
  have hgg : Hid (g < gK) := by unfold Hid; omega
  clear hgk2 k2 B2 O2 E0 hg1 zs
  obtain ⟨a0, a1⟩ := E1
  obtain ⟨c0, c1⟩ := E2
  have f10 := G1 0
  have f11 := G1 1
  have f21 := G2 1
  obtain ⟨u, hu⟩ : ∃ u, u = ((w2.setCell ⟨w.heap.size + 1 + 1, 1, none⟩ (.slice (some ⟨gK, 0, none⟩) K.length K.length)).setCell ⟨w.heap.size + 1, 0, none⟩ (.slice (some ⟨g, 0, none⟩) Bs.length Bs.length)).setCell ⟨w.heap.size + 1, 1, none⟩ (.slice (some ⟨gK, 0, none⟩) K.length K.length) := ⟨_, rfl⟩
  have ub : ∀ j, w.heap.size + 1 + 1 < j → u.heap[j]? = w2.heap[j]? := fun j hj => by
    rw [hu, Below.heap_setCell _ _ _ _ (by show j ≠ w.heap.size + 1; omega), Below.heap_setCell _ _ _ _ (by show j ≠ w.heap.size + 1; omega), Below.heap_setCell _ _ _ _ (by show j ≠ w.heap.size + 1 + 1; omega)]
  have M : NetMade w u g gK Bs K Cs := by
    have h1 := hgg.out
    have h2 := hgb.out
    refine ⟨dd.out, dl.out, ?_, ?_, ⟨by omega, by rw [hu]; simpa using hgk⟩, ?_⟩
    · exact (O3.keep fun j hj _ => ub j (by omega)).wide h2 (Nat.le_refl _)
    · refine (OK.base (by omega)).keep fun j e => ub j ?_
      have : gK = j := by simpa [Value.ownBlock] using e
      omega
    · rw [hu]
      exact ((B3.setCell (by show _ ≤ w.heap.size + 1 + 1; omega) _).setCell (by show _ ≤ w.heap.size + 1; omega) _).setCell (by show _ ≤ w.heap.size + 1; omega) _
  clear ub O3 OK B3 G1 G2 dd dl
  go_wp2
  rw [← hu]
  refine bodyPost_ret (v := .agg #[.slice (some ⟨g, 0, none⟩) Bs.length Bs.length, .slice (some ⟨gK, 0, none⟩) K.length K.length]) (by rw [hu]; simp [results, Try.results8, go_sem, *]) rfl ⟨g, gK, Cs, rfl, M⟩

end Go.Proofs.Ytdfjfodfnildiab
namespace Go.Proofs.Ytdfjfodfnildiab
open Go.ChangeShapes Go.WideShapes Go.ChangeAt Go.RowKit
open Go.ChangeMaps (open_string shut_string)
set_option linter.unusedVariables false
set_option maxRecDepth 100000

set_option maxHeartbeats 1000000 in
theorem bdEq (ad ad' : Option Addr) (cap cap' : Nat) (Bs Bs' : List Bd) (w : World) (hv : NV w ad Bs) (hv' : NV w ad' Bs') (hd : Bs'.map Bd.d = Bs.map Bd.d) (hl : Bs.length ≤ 1048576) (hls : ∀ i, i < Bs.length → (Bs.getD i Bd.nil).L.length ≤ 1048576) :
    Calls Try.prog 28 #[.slice ad Bs.length cap, .slice ad' Bs'.length cap'] w fun e w' => e = .returned (.bool true) ∧ Below w.heap.size w w' := by
  have hlen : Bs'.length = Bs.length := by have := congrArg List.length hd; simpa using this
  have hsame : ∀ i, (Bs'.getD i Bd.nil).id = (Bs.getD i Bd.nil).id ∧ (Bs'.getD i Bd.nil).L = (Bs.getD i Bd.nil).L := fun i => by
    have := congrArg (fun D => D.getD i Bg.nil) hd
    simp only [bd_get] at this
    simpa [Bd.d] using this
  rw [hlen]
  go_enter Try.func28, Try.ntmps28
  go_wp2
  go_loopw [5] (fun i wr => ∃ k : Nat, k ≤ Bs.length ∧ i = .int .i64 k ∧ Below w.heap.size w wr) (fun i _ => Bs.length - (intOf i).toNat)
  case atStart => exact ⟨0, Nat.zero_le _, rfl, Below.refl _ _⟩
  case round =>
    obtain ⟨k, hk, rfl, hb⟩ := hrel
    by_cases hlt : k < Bs.length
    · obtain ⟨b, off, rfl⟩ := hv.ad_ (by omega)
      obtain ⟨b', off', rfl⟩ := hv'.ad_ (by omega)
      have hlk := hls k hlt
      have hn : ∀ Y, Below w.heap.size w Y → FView ptEnc Y (Bs.getD k Bd.nil).ad (Bs.getD k Bd.nil).L := fun Y hY => (hv.below hY (Nat.le_refl _)).nest k hlt
      have hn' : ∀ Y, Below w.heap.size w Y → FView ptEnc Y (Bs'.getD k Bd.nil).ad (Bs'.getD k Bd.nil).L := fun Y hY => (hv'.below hY (Nat.le_refl _)).nest k (by omega)
      have hc : ∀ Y, Below w.heap.size w Y → BdAtO Y b (off + k * 2) (Bs.getD k Bd.nil) := fun Y hY => (hv.below hY (Nat.le_refl _)).at_ hlt
      have hc' : ∀ Y, Below w.heap.size w Y → BdAtO Y b' (off' + k * 2) (Bs'.getD k Bd.nil) := fun Y hY => (hv'.below hY (Nat.le_refl _)).at_ (by omega)
      obtain ⟨e1, e2⟩ := hsame k
      obtain ⟨⟨id, a1, c1, L1⟩, hh⟩ : ∃ m, Bs.getD k Bd.nil = m := ⟨_, rfl⟩
      obtain ⟨⟨id', a2, c2, L2⟩, hh'⟩ : ∃ m, Bs'.getD k Bd.nil = m := ⟨_, rfl⟩
      rw [hh] at e1 e2 hlk
      rw [hh'] at e1 e2
      simp only [hh] at hn hc
      simp only [hh'] at hn' hc'
      dsimp only at e1 e2 hlk hn hn'
      subst e1 e2
      clear hh hh' hv hv' hsame hls hd hlen
      go_wp2_with fail
      refine wp_region_held (S := fun Y => Below w.heap.size w Y) (by kernel_rfl) ?_
      change wpAnyH _ _ _ _ _ _ _ _ (World.drew _)
      have hb0 : Below w.heap.size w wr.drew := hb.drew
      refine takeW 0 17 (.slice (some ⟨b, off, none⟩) Bs.length cap) rfl rfl (by kernel_rfl) (by kernel_rfl) (by kernel_rfl) (fun _ _ _ h => h) (by kernel_rfl) (by (intro w hSw; go_simp)) (by assumption) ?_
      simp only [List.set_cons_zero, List.set_cons_succ]
      refine takeW 1 18 (.int .i64 k) rfl rfl (by kernel_rfl) (by kernel_rfl) (by kernel_rfl) (fun _ _ _ h => h) (by kernel_rfl) (by (intro w hSw; go_simp)) (by assumption) ?_
      simp only [List.set_cons_zero, List.set_cons_succ]
      refine takeW 2 19 (.pointer (some ⟨b, off + k * 2, none⟩)) rfl rfl (by kernel_rfl) (by kernel_rfl) (by kernel_rfl) (fun _ _ _ h => h) (by kernel_rfl) (by (intro Y hSw; go_simp; try omega)) (by assumption) ?_
      simp only [List.set_cons_zero, List.set_cons_succ]
      refine takeW 3 20 (.agg #[.int .i64 id', .slice a1 L2.length c1]) rfl rfl (by kernel_rfl) (by kernel_rfl) (by kernel_rfl) (fun _ _ _ h => h) (by kernel_rfl) (by (intro Y hSw; obtain ⟨X1, X2⟩ := hc Y hSw; go_simp)) (by assumption) ?_
      simp only [List.set_cons_zero, List.set_cons_succ]
      refine takeW 4 21 (.slice (some ⟨b', off', none⟩) Bs.length cap') rfl rfl (by kernel_rfl) (by kernel_rfl) (by kernel_rfl) (fun _ _ _ h => h) (by kernel_rfl) (by (intro w hSw; go_simp)) (by assumption) ?_
      simp only [List.set_cons_zero, List.set_cons_succ]
      refine takeW 5 22 (.int .i64 k) rfl rfl (by kernel_rfl) (by kernel_rfl) (by kernel_rfl) (fun _ _ _ h => h) (by kernel_rfl) (by (intro w hSw; go_simp)) (by assumption) ?_
      simp only [List.set_cons_zero, List.set_cons_succ]
      refine takeW 6 23 (.pointer (some ⟨b', off' + k * 2, none⟩)) rfl rfl (by kernel_rfl) (by kernel_rfl) (by kernel_rfl) (fun _ _ _ h => h) (by kernel_rfl) (by (intro Y hSw; go_simp; try omega)) (by assumption) ?_
      simp only [List.set_cons_zero, List.set_cons_succ]
      refine takeW 7 24 (.agg #[.int .i64 id', .slice a2 L2.length c2]) rfl rfl (by kernel_rfl) (by kernel_rfl) (by kernel_rfl) (fun _ _ _ h => h) (by kernel_rfl) (by (intro Y hSw; obtain ⟨X1, X2⟩ := hc' Y hSw; go_simp)) (by assumption) ?_
      simp only [List.set_cons_zero, List.set_cons_succ]
      refine wpAnyH_all (rs := [8]) (by kernel_rfl) (by simp) ?_
      intro i hi; obtain rfl : i = 8 := by simpa using hi
      refine wpOp_step rfl (fun K hK => ?_)
      rw [if_pos (by kernel_rfl)]
      go_simp
      go_at_call 51
      refine (brEq id' a1 a2 c1 c2 L2 _ (hn _ hb0) (hn' _ hb0) hlk).mono ?_
      rintro e y1 ⟨rfl, j1⟩
      have hb1 : Below w.heap.size w y1 := hb0.trans (j1.mono hb0.size)
      refine hK _ _ ⟨hb1, ?_⟩
      clear hK K hi
      refine takeW 9 26 (.bool false) rfl rfl (by kernel_rfl) (by kernel_rfl) (by kernel_rfl) (fun _ _ _ h => h) (by kernel_rfl) (by (intro w hSw; go_simp)) (by assumption) ?_
      simp only [List.set_cons_zero, List.set_cons_succ]
      refine wpAnyH_done (by kernel_rfl) ?_ _
      go_wp2
      go_roundw
      case rel => exact ⟨k + 1, by omega, by go_num, hb1⟩
      case measure => simp [intOf]; omega
    · obtain rfl : k = Bs.length := by omega
      go_wp2
      go_ret
      exact ⟨rfl, hb⟩

end Go.Proofs.Ytdfjfodfnildiab
namespace Go.Proofs.Ytdfjfodfnildiab
open Go.ChangeShapes Go.WideShapes Go.ChangeAt Go.RowKit
open Go.ChangeMaps (open_string shut_string)
set_option linter.unusedVariables false
set_option maxRecDepth 100000

set_option maxHeartbeats 2000000 in
theorem lkEqS (ad ad' : Option Addr) (cap cap' : Nat) (L : List Lk) (w : World) (hv : FView lkEnc w ad L) (hv' : FView lkEnc w ad' L) (hl : L.length ≤ 1048576) :
    Calls Try.prog 29 #[.slice ad L.length cap, .slice ad' L.length cap'] w fun e w' => e = .returned (.bool true) ∧ Below w.heap.size w w' := by
  have hB := hv.lt lkEnc_len (by omega)
  have hB' := hv'.lt lkEnc_len (by omega)
  go_enter Try.func29, Try.ntmps29
  go_wp2
  go_loopw [5] (fun i wr => ∃ k : Nat, k ≤ L.length ∧ i = .int .i64 k ∧ Below w.heap.size w wr) (fun i _ => L.length - (intOf i).toNat)
  case atStart => exact ⟨0, Nat.zero_le _, rfl, Below.refl _ _⟩
  case round =>
    obtain ⟨k, hk, rfl, hb⟩ := hrel
    by_cases hlt : k < L.length
    · obtain ⟨b, off, rfl, _⟩ := hv (by omega)
      obtain ⟨b', off', rfl, _⟩ := hv' (by omega)
      obtain ⟨h, hh⟩ : ∃ h, L.getD k Lk.nil = h := ⟨_, rfl⟩
      have hc : ∀ Y, Below w.heap.size w Y → LkAtO Y b (off + k * 4) h := fun Y hY => by rw [← hh]; exact lkAtO_of ((hv.below hY hB).at_ lkEnc_len Lk.nil hlt)
      have hc' : ∀ Y, Below w.heap.size w Y → LkAtO Y b' (off' + k * 4) h := fun Y hY => by rw [← hh]; exact lkAtO_of ((hv'.below hY hB').at_ lkEnc_len Lk.nil hlt)
      clear hh hv hv' hB hB'
      go_wp2_with fail
      refine wp_region_held (S := fun Y => Below w.heap.size w Y) (by kernel_rfl) ?_
      change wpAnyH _ _ _ _ _ _ _ _ (World.drew _)
      have hb0 : Below w.heap.size w wr.drew := hb.drew
      refine takeW 0 17 (.slice (some ⟨b, off, none⟩) L.length cap) rfl rfl (by kernel_rfl) (by kernel_rfl) (by kernel_rfl) (fun _ _ _ h => h) (by kernel_rfl) (by (intro w hSw; go_simp)) (by assumption) ?_
      simp only [List.set_cons_zero, List.set_cons_succ]
      refine takeW 1 18 (.int .i64 k) rfl rfl (by kernel_rfl) (by kernel_rfl) (by kernel_rfl) (fun _ _ _ h => h) (by kernel_rfl) (by (intro w hSw; go_simp)) (by assumption) ?_
      simp only [List.set_cons_zero, List.set_cons_succ]
      refine takeW 2 19 (.pointer (some ⟨b, off + k * 4, none⟩)) rfl rfl (by kernel_rfl) (by kernel_rfl) (by kernel_rfl) (fun _ _ _ h => h) (by kernel_rfl) (by (intro Y hSw; go_simp; try omega)) (by assumption) ?_
      simp only [List.set_cons_zero, List.set_cons_succ]
      refine takeW 3 20 (.agg #[.int .i64 h.a, .int .i64 h.p, .int .i64 h.b, .int .i64 h.q]) rfl rfl (by kernel_rfl) (by kernel_rfl) (by kernel_rfl) (fun _ _ _ h => h) (by kernel_rfl) (by (intro Y hSw; obtain ⟨X0, X1, X2, X3⟩ := hc Y hSw; go_simp)) (by assumption) ?_
      simp only [List.set_cons_zero, List.set_cons_succ]
      refine takeW 4 21 (.slice (some ⟨b', off', none⟩) L.length cap') rfl rfl (by kernel_rfl) (by kernel_rfl) (by kernel_rfl) (fun _ _ _ h => h) (by kernel_rfl) (by (intro w hSw; go_simp)) (by assumption) ?_
      simp only [List.set_cons_zero, List.set_cons_succ]
      refine takeW 5 22 (.int .i64 k) rfl rfl (by kernel_rfl) (by kernel_rfl) (by kernel_rfl) (fun _ _ _ h => h) (by kernel_rfl) (by (intro w hSw; go_simp)) (by assumption) ?_
      simp only [List.set_cons_zero, List.set_cons_succ]
      refine takeW 6 23 (.pointer (some ⟨b', off' + k * 4, none⟩)) rfl rfl (by kernel_rfl) (by kernel_rfl) (by kernel_rfl) (fun _ _ _ h => h) (by kernel_rfl) (by (intro Y hSw; go_simp; try omega)) (by assumption) ?_
      simp only [List.set_cons_zero, List.set_cons_succ]
      refine takeW 7 24 (.agg #[.int .i64 h.a, .int .i64 h.p, .int .i64 h.b, .int .i64 h.q]) rfl rfl (by kernel_rfl) (by kernel_rfl) (by kernel_rfl) (fun _ _ _ h => h) (by kernel_rfl) (by (intro Y hSw; obtain ⟨X0, X1, X2, X3⟩ := hc' Y hSw; go_simp)) (by assumption) ?_
      simp only [List.set_cons_zero, List.set_cons_succ]
      refine wpAnyH_all (rs := [8]) (by kernel_rfl) (by simp) ?_
      intro i hi; obtain rfl : i = 8 := by simpa using hi
      refine wpOp_step rfl (fun K hK => ?_)
      rw [if_pos (by kernel_rfl)]
      go_simp
      go_at_call 52
      refine (eqLk h _).mono ?_
      rintro e y1 ⟨rfl, j1⟩
      have hb1 : Below w.heap.size w y1 := hb0.trans (j1.mono hb0.size)
      refine hK _ _ ⟨hb1, ?_⟩
      clear hK K hi
      refine takeW 9 26 (.bool false) rfl rfl (by kernel_rfl) (by kernel_rfl) (by kernel_rfl) (fun _ _ _ h => h) (by kernel_rfl) (by (intro w hSw; go_simp)) (by assumption) ?_
      simp only [List.set_cons_zero, List.set_cons_succ]
      refine wpAnyH_done (by kernel_rfl) ?_ _
      go_wp2
      go_roundw
      case rel => exact ⟨k + 1, by omega, by go_num, hb1⟩
      case measure => simp [intOf]; omega
    · obtain rfl : k = L.length := by omega
      go_wp2
      go_ret
      exact ⟨rfl, hb⟩

end Go.Proofs.Ytdfjfodfnildiab
namespace Go.Proofs.Ytdfjfodfnildiab
open Go.ChangeShapes Go.WideShapes Go.ChangeAt Go.RowKit
open Go.ChangeMaps (open_string shut_string)
set_option linter.unusedVariables false
set_option maxRecDepth 100000

set_option maxHeartbeats 1000000 in
theorem neEq (adB adB' : Option Addr) (capB capB' : Nat) (Bs Bs' : List Bd) (adK adK' : Option Addr) (capK capK' : Nat) (K : List Lk) (w : World) (vb : NV w adB Bs) (vb' : NV w adB' Bs') (hd : Bs'.map Bd.d = Bs.map Bd.d) (vk : FView lkEnc w adK K) (vk' : FView lkEnc w adK' K) (hl : Bs.length ≤ 1048576) (hls : ∀ i, i < Bs.length → (Bs.getD i Bd.nil).L.length ≤ 1048576) (hk : K.length ≤ 1048576) :
    Calls Try.prog 10 #[.agg #[.slice adB Bs.length capB, .slice adK K.length capK], .agg #[.slice adB' Bs'.length capB', .slice adK' K.length capK']] w fun e w' => e = .returned (.bool true) ∧ Below w.heap.size w w' := by
  have hkB := vk.lt lkEnc_len (by omega)
  have hkB' := vk'.lt lkEnc_len (by omega)
  obtain ⟨y, hy⟩ : ∃ y, y = (w.alloc (Obj.cells #[.slice adB Bs.length capB, .slice adK K.length capK] 31)).alloc (Obj.cells #[.slice adB' Bs'.length capB', .slice adK' K.length capK'] 31) := ⟨_, rfl⟩
  have B0 : Below w.heap.size w y := by rw [hy]; exact ((Below.refl _ _).alloc (Nat.le_refl _) _).alloc (by simp) _
  have A0 : NeAt y w.heap.size (.slice adB Bs.length capB) (.slice adK K.length capK) := by rw [hy]; constructor <;> simp [go_sem]
  have A1 : NeAt y (w.heap.size + 1) (.slice adB' Bs'.length capB') (.slice adK' K.length capK') := by rw [hy]; constructor <;> simp [go_sem]
  have l1 := A1.lt
  go_enter Try.func10, Try.ntmps10
  go_wp2_with fail
  go_at_call 28
  rw [← hy]
  clear hy
  refine (bdEq adB adB' capB capB' Bs Bs' y (vb.below B0 (Nat.le_refl _)) (vb'.below B0 (Nat.le_refl _)) hd hl hls).mono ?_
  rintro e w1 ⟨rfl, k1⟩
  have B1 := B0.trans (k1.mono B0.size)
  obtain ⟨a0, a1⟩ := A0.below k1 (by omega)
  obtain ⟨c0, c1⟩ := A1.below k1 (by omega)
  clear A0 A1 k1 B0 vb vb' hd
  go_wp2_with fail
  go_at_call 29
  refine (lkEqS adK adK' capK capK' K w1 (vk.below B1 hkB) (vk'.below B1 hkB') hk).mono ?_
  rintro e w2 ⟨rfl, k2⟩
  have B2 := B1.trans (k2.mono B1.size)
  clear k2 B1
  go_wp2
  go_ret
  exact ⟨rfl, B2⟩

end Go.Proofs.Ytdfjfodfnildiab
namespace Go.Proofs.Ytdfjfodfnildiab
open Go.ChangeShapes Go.WideShapes Go.ChangeAt Go.RowKit
open Go.ChangeMaps (open_string shut_string)
set_option linter.unusedVariables false
set_option maxRecDepth 100000

/-- A net that a call made: its memory is its own, from lo on; the bridges' lies below gK, the links' at gK. -/
structure NetMine (lo : Nat) (w : World) (gB gK : Nat) (Cs : List Bd) (K : List Lk) : Prop where
  own : NOwn lo gK w (.slice (some ⟨gB, 0, none⟩) Cs.length Cs.length) Cs
  own2 : FOwn lkEnc 4 70 lo w (.slice (some ⟨gK, 0, none⟩) K.length K.length) K
  lt : lo ≤ gK ∧ gK < w.heap.size
theorem NetMine.later {lo : Nat} {w w' : World} {gB gK : Nat} {Cs : List Bd} {K : List Lk} (h : NetMine lo w gB gK Cs K) (k : Below w.heap.size w w') : NetMine lo w' gB gK Cs K :=
  ⟨h.own.below k (Nat.le_of_lt h.lt.2), h.own2.later k, h.lt.1, Nat.lt_of_lt_of_le h.lt.2 k.size⟩
theorem NetMine.nn {lo : Nat} {w : World} {gB gK : Nat} {Cs : List Bd} {K : List Lk} (h : NetMine lo w gB gK Cs K) (hl : Cs.length ≤ 1048576) (hls : ∀ i, i < Cs.length → (Cs.getD i Bd.nil).L.length ≤ 1048576) (hk : K.length ≤ 1048576) : NN w (some ⟨gB, 0, none⟩) Cs (some ⟨gK, 0, none⟩) K :=
  ⟨h.own.view.2, h.own2.view.2, hl, hls, hk⟩
theorem same_ls {Bs Cs : List Bd} (h : Cs.map Bd.d = Bs.map Bd.d) {n : Nat} (hls : ∀ i, i < Bs.length → (Bs.getD i Bd.nil).L.length ≤ n) : ∀ i, i < Cs.length → (Cs.getD i Bd.nil).L.length ≤ n := by
  intro i hi
  have hl : Cs.length = Bs.length := by have := congrArg List.length h; simpa using this
  have := congrArg (fun D => D.getD i Bg.nil) h
  simp only [bd_get] at this
  have e : (Cs.getD i Bd.nil).L = (Bs.getD i Bd.nil).L := congrArg Bg.L this
  rw [e]
  exact hls i (by omega)
theorem netTo (adB : Option Addr) (capB : Nat) (Bs : List Bd) (adK : Option Addr) (capK : Nat) (K : List Lk) (w : World) (h : NN w adB Bs adK K) :
    Calls Try.prog 8 #[.agg #[.slice adB Bs.length capB, .slice adK K.length capK]] w fun e w' => ∃ gB gK Cs, e = .returned (.agg #[.slice (some ⟨gB, 0, none⟩) Cs.length Cs.length, .slice (some ⟨gK, 0, none⟩) K.length K.length]) ∧ Cs.map Bd.d = Bs.map Bd.d ∧ NetMine w.heap.size w' gB gK Cs K ∧ NN w' (some ⟨gB, 0, none⟩) Cs (some ⟨gK, 0, none⟩) K ∧ Below w.heap.size w w' := by
  refine (neTo adB capB Bs adK capK K w h.vb h.vk h.hl h.hls h.hk).mono ?_
  rintro e w' ⟨gB, gK, Cs, rfl, M⟩
  have hm : NetMine w.heap.size w' gB gK Cs K := ⟨by rw [M.len]; exact M.own, M.own2, M.lt⟩
  exact ⟨gB, gK, Cs, by rw [M.len], M.d, hm, hm.nn (by rw [M.len]; exact h.hl) (same_ls M.d h.hls) h.hk, M.bel⟩
theorem netEq (adB adB' : Option Addr) (capB capB' : Nat) (Bs Bs' : List Bd) (adK adK' : Option Addr) (capK capK' : Nat) (K : List Lk) (w : World) (h : NN w adB Bs adK K) (h' : NN w adB' Bs' adK' K) (hd : Bs'.map Bd.d = Bs.map Bd.d) :
    Calls Try.prog 10 #[.agg #[.slice adB Bs.length capB, .slice adK K.length capK], .agg #[.slice adB' Bs'.length capB', .slice adK' K.length capK']] w fun e w' => e = .returned (.bool true) ∧ Below w.heap.size w w' :=
  neEq adB adB' capB capB' Bs Bs' adK adK' capK capK' K w h.vb h'.vb hd h.vk h'.vk h.hl h.hls h.hk

end Go.Proofs.Ytdfjfodfnildiab
namespace Go.Proofs.Ytdfjfodfnildiab
open Go.ChangeShapes Go.WideShapes Go.ChangeAt Go.RowKit
open Go.ChangeMaps (open_string shut_string)
set_option linter.unusedVariables false
set_option maxRecDepth 100000

theorem getD_push {X : Type} (L : List X) (x d : X) (i : Nat) : (L ++ [x]).getD i d = if i < L.length then L.getD i d else if i = L.length then x else d := by
  by_cases h : i < L.length
  · rw [if_pos h]; simp [List.getD, List.getElem?_append_left h]
  · rw [if_neg h]
    by_cases e : i = L.length
    · rw [if_pos e, e]; simp [List.getD]
    · rw [if_neg e]
      have : (L ++ [x])[i]? = none := List.getElem?_eq_none (by simp; omega)
      simp [List.getD, this]
/-- One bridge more. -/
theorem NOwn.push {lo hi : Nat} {w w' : World} {v v' : Value} {Bs : List Bd} {x : Bd} (h : NOwn lo hi w v Bs) (hs : hi ≤ w.heap.size)
    (row : FOwn bdEnc 2 54 lo w' v' (Bs ++ [x])) (gr : w.grownBy w' v.ownBlock) (hv : v'.ownBlock = v.ownBlock ∨ ∃ g, v'.ownBlock = some g ∧ w.heap.size ≤ g)
    (nx : FOwn ptEnc 11 68 lo w x.v x.L) (hx : ∀ g, x.v.ownBlock = some g → hi ≤ g ∧ g < w.heap.size) : NOwn lo w'.heap.size w' v' (Bs ++ [x]) := by
  have hvl : ∀ g, v.ownBlock = some g → lo ≤ g ∧ g < w.heap.size := fun g e => h.row.lt g e
  have sz := gr.size
  have hvg : ∀ g, v'.ownBlock = some g → v.ownBlock = some g ∨ w.heap.size ≤ g := fun g e => by
    rcases hv with q | ⟨g', q, hg⟩
    · exact .inl (by rw [← q]; exact e)
    · rw [q] at e
      cases e
      exact .inr hg
  have nb : ∀ i, i < Bs.length → ∀ g, (Bs.getD i Bd.nil).v.ownBlock = some g → g < hi := fun i hi g e => h.nhi i hi g e
  have get : ∀ i, i < (Bs ++ [x]).length → (i < Bs.length ∧ (Bs ++ [x]).getD i Bd.nil = Bs.getD i Bd.nil) ∨ (i = Bs.length ∧ (Bs ++ [x]).getD i Bd.nil = x) := fun i hi => by
    rw [getD_push]
    have : i < Bs.length + 1 := by simpa using hi
    by_cases q : i < Bs.length
    · exact .inl ⟨q, if_pos q⟩
    · have e : i = Bs.length := by omega
      exact .inr ⟨e, by rw [if_neg q, if_pos e]⟩
  refine ⟨row, fun i hi => ?_, fun g e => (row.lt g e).2, fun i hi g e => ?_, fun i hi g g' e e' => ?_, fun i j hij hj g g' e e' => ?_⟩
  · rcases get i hi with ⟨q, r⟩ | ⟨q, r⟩
    · rw [r]
      exact (h.nest i q).keep (fun g e => gr.block g (by have := nb i q g e; omega) (fun e2 => h.apart i q g g (by rw [← e2]) e rfl))
    · rw [r]
      exact nx.keep (fun g e => gr.block g (hx g e).2 (fun e2 => by have := h.rhi g (by rw [← e2]); have := (hx g e).1; omega))
  · rcases get i hi with ⟨q, r⟩ | ⟨q, r⟩
    · rw [r] at e
      have := nb i q g e
      omega
    · rw [r] at e
      have := (hx g e).2
      omega
  · rcases get i hi with ⟨q, r⟩ | ⟨q, r⟩
    · rw [r] at e'
      rcases hvg g e with k | k
      · exact h.apart i q g g' k e'
      · have := nb i q g' e'
        omega
    · rw [r] at e'
      have := hx g' e'
      rcases hvg g e with k | k
      · have := h.rhi g k
        omega
      · omega
  · have hj' : j < Bs.length + 1 := by simpa using hj
    rcases get i (by omega) with ⟨q, r⟩ | ⟨q, r⟩
    · rw [r] at e
      rcases get j hj with ⟨q2, r2⟩ | ⟨q2, r2⟩
      · rw [r2] at e'
        exact h.aparts i j hij q2 g g' e e'
      · rw [r2] at e'
        have := nb i q g e
        have := (hx g' e').1
        omega
    · omega
/-- A bridge in the place of another. -/
theorem NOwn.set {lo hi : Nat} {w : World} {g cap : Nat} {Bs : List Bd} {i : Nat} (h : NOwn lo hi w (.slice (some ⟨g, 0, none⟩) Bs.length cap) Bs) (hs : hi ≤ w.heap.size) (hi' : i < Bs.length) (x : Bd)
    (nx : FOwn ptEnc 11 68 lo w x.v x.L) (hx : ∀ k, x.v.ownBlock = some k → hi ≤ k ∧ k < w.heap.size) : NOwn lo w.heap.size (putAll w g (i * 2) (bdEnc x)) (.slice (some ⟨g, 0, none⟩) (Bs.set i x).length cap) (Bs.set i x) := by
  have row : FOwn bdEnc 2 54 lo (putAll w g (i * 2) (bdEnc x)) (.slice (some ⟨g, 0, none⟩) (Bs.set i x).length cap) (Bs.set i x) := by
    rw [List.length_set]
    exact h.row.set bdEnc_len (by omega) hi' x
  have hg : g < hi := h.rhi g rfl
  have bl : ∀ k, k ≠ g → (putAll w g (i * 2) (bdEnc x)).heap[k]? = w.heap[k]? := fun k hk => heap_putAll _ _ _ _ hk
  have get : ∀ j, j < (Bs.set i x).length → (j ≠ i ∧ j < Bs.length ∧ (Bs.set i x).getD j Bd.nil = Bs.getD j Bd.nil) ∨ (j = i ∧ (Bs.set i x).getD j Bd.nil = x) := fun j hj => by
    rw [List.length_set] at hj
    by_cases e : j = i
    · subst e
      exact .inr ⟨rfl, by simp [List.getD, hj]⟩
    · exact .inl ⟨e, hj, by simp [List.getD, List.getElem?_set_ne (Ne.symm e)]⟩
  refine ⟨row, fun j hj => ?_, fun k e => ?_, fun j hj k e => ?_, fun j hj k k' e e' => ?_, fun j l hjl hl k k' e e' => ?_⟩
  · rcases get j hj with ⟨q, q2, r⟩ | ⟨q, r⟩
    · rw [r]
      exact (h.nest j q2).keep (fun k e => bl k (fun e2 => h.apart j q2 g k rfl e e2.symm))
    · rw [r]
      exact nx.keep (fun k e => bl k (by have := (hx k e).1; omega))
  · obtain rfl : g = k := by simpa [Value.ownBlock] using e
    omega
  · rcases get j hj with ⟨q, q2, r⟩ | ⟨q, r⟩
    · rw [r] at e
      have := h.nhi j q2 k e
      omega
    · rw [r] at e
      exact (hx k e).2
  · obtain rfl : g = k := by simpa [Value.ownBlock] using e
    rcases get j hj with ⟨q, q2, r⟩ | ⟨q, r⟩
    · rw [r] at e'
      exact h.apart j q2 g k' rfl e'
    · rw [r] at e'
      have := (hx k' e').1
      omega
  · rcases get j (by omega) with ⟨q, q2, r⟩ | ⟨q, r⟩
    · rw [r] at e
      rcases get l hl with ⟨p, p2, s⟩ | ⟨p, s⟩
      · rw [s] at e'
        exact h.aparts j l hjl p2 k k' e e'
      · rw [s] at e'
        have := h.nhi j q2 k e
        have := (hx k' e').1
        omega
    · rw [r] at e
      rcases get l hl with ⟨p, p2, s⟩ | ⟨p, s⟩
      · rw [s] at e'
        have := h.nhi l p2 k' e'
        have := (hx k e).1
        omega
      · omega
theorem NOwn.nil {lo hi : Nat} {w : World} : NOwn lo hi w (.slice none 0 0) [] :=
  ⟨FOwn.nil, fun i h => absurd h (by simp), fun g e => by simp [Value.ownBlock] at e, fun i h => absurd h (by simp), fun i h => absurd h (by simp), fun i j _ h => absurd h (by simp)⟩
/-- A net whose memory is its own: the links' from lo on below mid, the bridges' from mid on below hi. -/
structure NetOwn (lo mid hi : Nat) (w : World) (vB : Value) (Cs : List Bd) (vK : Value) (K : List Lk) : Prop where
  own : NOwn mid hi w vB Cs
  own2 : FOwn lkEnc 4 70 lo w vK K
  khi : ∀ g, vK.ownBlock = some g → g < mid
  lm : lo ≤ mid
  mh : mid ≤ hi
  hs : hi ≤ w.heap.size
theorem NetOwn.keep {lo mid hi : Nat} {w w' : World} {vB : Value} {Cs : List Bd} {vK : Value} {K : List Lk} (h : NetOwn lo mid hi w vB Cs vK K) (k : ∀ g, lo ≤ g → g < hi → w'.heap[g]? = w.heap[g]?) (hs : w.heap.size ≤ w'.heap.size) : NetOwn lo mid hi w' vB Cs vK K :=
  ⟨h.own.keep (fun g h1 h2 => k g (Nat.le_trans h.lm h1) h2), h.own2.keep (fun g e => k g (h.own2.lt g e).1 (Nat.lt_of_lt_of_le (h.khi g e) h.mh)), h.khi, h.lm, h.mh, Nat.le_trans h.hs hs⟩
theorem NetOwn.later {lo mid hi : Nat} {w w' : World} {vB : Value} {Cs : List Bd} {vK : Value} {K : List Lk} (h : NetOwn lo mid hi w vB Cs vK K) (k : Below w.heap.size w w') : NetOwn lo mid hi w' vB Cs vK K :=
  h.keep (fun g _ hg => k.block g (Nat.lt_of_lt_of_le hg h.hs)) k.size
theorem NetOwn.nn {lo mid hi : Nat} {w : World} {adB : Option Addr} {cB : Nat} {Cs : List Bd} {adK : Option Addr} {cK : Nat} {K : List Lk} (h : NetOwn lo mid hi w (.slice adB Cs.length cB) Cs (.slice adK K.length cK) K) (hl : Cs.length ≤ 1048576) (hls : ∀ i, i < Cs.length → (Cs.getD i Bd.nil).L.length ≤ 1048576) (hk : K.length ≤ 1048576) : NN w adB Cs adK K :=
  ⟨h.own.view.2, h.own2.view.2, hl, hls, hk⟩
theorem FOwn.cap_ {X : Type} {enc : X → List Value} {n : Nat} {T : TypeId} {base : Nat} {w : World} {ad : Option Addr} {cap : Nat} {L : List X} (h : FOwn enc n T base w (.slice ad L.length cap) L) : L.length ≤ cap := by
  rcases h.2 with ⟨q, e⟩ | ⟨g, c, cur, q, _, _, hc, _⟩
  · rw [e]; exact Nat.zero_le _
  · simp only [Value.slice.injEq] at q
    rw [q.2.2]
    exact hc

end Go.Proofs.Ytdfjfodfnildiab
namespace Go.Proofs.Ytdfjfodfnildiab
open Go.ChangeShapes Go.WideShapes Go.ChangeAt Go.RowKit
open Go.ChangeMaps (open_string shut_string)
set_option linter.unusedVariables false
set_option maxRecDepth 100000

/-- The first n are bridges, with numbers that are unlike. -/
def FitTo (B : List Bg) (n : Nat) : Prop := (∀ i, i < n → bOk (B.getD i Bg.nil).id (B.getD i Bg.nil).L = true) ∧ Unlike B n
set_option maxHeartbeats 8000000 in
theorem bFitI (adB : Option Addr) (capB : Nat) (Bs : List Bd) (w : World) (vb : NV w adB Bs) (hl : Bs.length ≤ 1048576) (hls : ∀ i, i < Bs.length → (Bs.getD i Bd.nil).L.length ≤ 1048576) (hcap : Bs.length ≤ capB) :
    Calls Try.prog 46 #[.slice adB Bs.length capB] w fun e w' => YN e ((1 ≤ (dB Bs).length ∧ (dB Bs).length ≤ 5) ∧ FitTo (dB Bs) (dB Bs).length) ∧ Below w.heap.size w w' := by
  rw [dB_len]
  suffices H : ∀ Q : Prop, Hid (Q ↔ (1 ≤ Bs.length ∧ Bs.length ≤ 5) ∧ FitTo (dB Bs) Bs.length) → Calls Try.prog 46 #[.slice adB Bs.length capB] w fun e w' => YN e Q ∧ Below w.heap.size w w' from H _ Iff.rfl
  intro Q hQ
  by_cases h1 : 1 ≤ Bs.length
  rotate_left
  · have d1 : decide ((Bs.length : Int) < 1) = true := decide_eq_true (by omega)
    have d2 : Hid (Bs.length = 0) := by unfold Hid; omega
    go_enter Try.func46, Try.ntmps46
    go_wp2
    go_ret
    exact ⟨YN.no (fun h => absurd (hQ.out.1 h).1.1 (by omega)), Below.refl _ _⟩
  have d1 : decide ((Bs.length : Int) < 1) = false := decide_eq_false (by omega)
  by_cases h2 : Bs.length ≤ 5
  rotate_left
  · have d2 : decide ((5 : Int) < (Bs.length : Int)) = true := decide_eq_true (by omega)
    have e1 : ¬ ((Bs.length : Int) < 1) := by omega
    have e2 : (5 : Int) < (Bs.length : Int) := by omega
    go_enter Try.func46, Try.ntmps46
    go_wp2
    go_ret
    exact ⟨YN.no (fun h => absurd (hQ.out.1 h).1.2 h2), Below.refl _ _⟩
  have d2 : decide ((5 : Int) < (Bs.length : Int)) = false := decide_eq_false (by omega)
  have e1 : ¬ ((Bs.length : Int) < 1) := by omega
  have e2 : ¬ ((5 : Int) < (Bs.length : Int)) := by omega
  go_enter Try.func46, Try.ntmps46
  go_wp2
  clear d1 d2 e1 e2
  go_loopw [15] (fun i wr => ∃ k : Nat, k ≤ Bs.length ∧ i = .int .i64 k ∧ Hid (FitTo (dB Bs) k) ∧ Below w.heap.size w wr) (fun i _ => Bs.length - (intOf i).toNat)
  case atStart => exact ⟨0, Nat.zero_le _, rfl, ⟨fun i hi => by omega, fun i k hi => by omega⟩, Below.refl _ _⟩
  case round =>
    obtain ⟨k, hk, rfl, hF, hb⟩ := hrel
    by_cases hlt : k < Bs.length
    · obtain ⟨b, off, rfl⟩ := vb.ad_ (by omega)
      have hck := (vb.below hb (Nat.le_refl _)).at_ hlt
      have hlk := hls k hlt
      have hg : Hid ((dB Bs).getD k Bg.nil = (Bs.getD k Bd.nil).d) := bd_get Bs k
      have nest := vb.nest k hlt
      obtain ⟨⟨id, a1, c1, L1⟩, hh⟩ : ∃ q, Bs.getD k Bd.nil = q := ⟨_, rfl⟩
      rw [hh] at hck hlk hg nest
      dsimp only at hlk nest
      obtain ⟨x1, x2⟩ := hck
      dsimp only at x1 x2
      obtain ⟨u, hu⟩ : ∃ u, u = wr.alloc (Obj.cells #[.int .i64 id, .slice a1 L1.length c1] 54) := ⟨_, rfl⟩
      have bu : Below w.heap.size w u := by rw [hu]; exact hb.alloc hb.size _
      have vu := vb.below bu (Nat.le_refl _)
      have hn : ∀ Y, Below u.heap.size u Y → FView ptEnc Y a1 L1 := fun Y hY => nest.below (bu.trans (hY.mono bu.size)) (nest.lt ptEnc_len (by omega))
      have hx0 : BrAt u wr.heap.size id (.slice a1 L1.length c1) := by rw [hu]; exact BrAt.new wr _ _ _
      have hx : ∀ Y, Below u.heap.size u Y → BrAt Y wr.heap.size id (.slice a1 L1.length c1) := fun Y hY => hx0.below hY hx0.lt
      have hxl := hx0.lt
      clear nest hx0 hh
      by_cases hok : bOk id L1 = true
      · replace hok : Hid _ := hok
        go_upto_region 6 with fail
        rw [← hu]
        clear hu
        refine wp_region_held (S := fun Y => Below u.heap.size u Y) (by kernel_rfl) ?_
        change wpAnyH _ _ _ _ _ _ _ _ (World.drew _)
        have hb0 : Below u.heap.size u u.drew := (Below.refl _ _).drew
        obtain ⟨u0, hy0⟩ : ∃ y_, y_ = u.drew := ⟨_, rfl⟩
        rw [← hy0] at hb0 ⊢
        clear hy0
        refine takeW 0 20 (.agg #[.int .i64 id, .slice a1 L1.length c1]) rfl rfl (by kernel_rfl) (by kernel_rfl) (by kernel_rfl) (fun _ _ _ h => h) (by kernel_rfl) (by (intro Y hSw; obtain ⟨X0, X1⟩ := hx Y hSw; go_simp)) (by assumption) ?_
        simp only [List.set_cons_zero, List.set_cons_succ]
        refine wpAnyH_all (rs := [1]) (by kernel_rfl) (by simp) ?_
        intro i hi; obtain rfl : i = 1 := by simpa using hi
        refine wpOp_step rfl (fun Kz hKz => ?_)
        rw [if_pos (by kernel_rfl)]
        go_simp
        go_at_call 54
        refine (bOkI id a1 c1 L1 u0 (hn u0 hb0) hlk).mono ?_
        rintro e u1 ⟨rfl, kq⟩
        have hb1 : Below u.heap.size u u1 := hb0.trans (kq.mono hb0.size)
        clear kq
        rw [hok.out]
        refine hKz _ _ ⟨hb1, ?_⟩
        clear hKz Kz hi
        refine takeW 2 22 (.bool false) rfl rfl (by kernel_rfl) (by kernel_rfl) (by kernel_rfl) (fun _ _ _ h => h) (by kernel_rfl) (by (intro w hSw; go_simp)) (by assumption) ?_
        simp only [List.set_cons_zero, List.set_cons_succ]
        refine takeW 3 23 (.bool false) rfl rfl (by kernel_rfl) (by kernel_rfl) (by kernel_rfl) (fun _ _ _ h => h) (by kernel_rfl) (by (intro w hSw; go_simp)) (by assumption) ?_
        simp only [List.set_cons_zero, List.set_cons_succ]
        refine takeW 4 24 (.slice (some ⟨b, off, none⟩) Bs.length capB) rfl rfl (by kernel_rfl) (by kernel_rfl) (by kernel_rfl) (fun _ _ _ h => h) (by kernel_rfl) (by (intro w hSw; go_simp)) (by assumption) ?_
        simp only [List.set_cons_zero, List.set_cons_succ]
        refine takeW 5 25 (.int .i64 (k : Int)) rfl rfl (by kernel_rfl) (by kernel_rfl) (by kernel_rfl) (fun _ _ _ h => h) (by kernel_rfl) (by (intro w hSw; go_simp)) (by assumption) ?_
        simp only [List.set_cons_zero, List.set_cons_succ]
        refine takeW 6 26 (.slice (some ⟨b, off, none⟩) k capB) rfl rfl (by kernel_rfl) (by kernel_rfl) (by kernel_rfl) (fun _ _ _ h => h) (by kernel_rfl) (by (intro Y hSw; go_simp; try omega)) (by assumption) ?_
        simp only [List.set_cons_zero, List.set_cons_succ]
        refine takeW 7 27 (.pointer (some ⟨wr.heap.size, 0, none⟩)) rfl rfl (by kernel_rfl) (by kernel_rfl) (by kernel_rfl) (fun _ _ _ h => h) (by kernel_rfl) (by (intro w hSw; go_simp)) (by assumption) ?_
        simp only [List.set_cons_zero, List.set_cons_succ]
        refine takeW 8 28 (.int .i64 id) rfl rfl (by kernel_rfl) (by kernel_rfl) (by kernel_rfl) (fun _ _ _ h => h) (by kernel_rfl) (by (intro Y hSw; obtain ⟨X0, X1⟩ := hx Y hSw; go_simp)) (by assumption) ?_
        simp only [List.set_cons_zero, List.set_cons_succ]
        refine wpAnyH_all (rs := [9]) (by kernel_rfl) (by simp) ?_
        intro i hi; obtain rfl : i = 9 := by simpa using hi
        refine wpOp_step rfl (fun Kz hKz => ?_)
        rw [if_pos (by kernel_rfl)]
        go_simp
        go_at_call 64
        refine (hasIdI (some ⟨b, off, none⟩) capB Bs k id u1 (vu.below hb1 (Nat.le_refl _)) (by omega) hl).mono ?_
        rintro e u2 ⟨⟨R, rfl, hR⟩, kq⟩
        have hb2 : Below u.heap.size u u2 := hb1.trans (kq.mono hb1.size)
        clear kq
        have hRn : Hid ((∃ j, j < k ∧ (Bs.getD j Bd.nil).id = id) → R = true) := hR.2
        replace hR : Hid (R = true → ∃ j, j < k ∧ (Bs.getD j Bd.nil).id = id) := hR.1
        refine hKz _ _ ⟨hb2, ?_⟩
        clear hKz Kz hi
        refine takeW 10 30 (.bool R) rfl rfl (by kernel_rfl) (by kernel_rfl) (by kernel_rfl) (fun _ _ _ h => h) (by kernel_rfl) (by (intro w hSw; go_simp)) (by assumption) ?_
        simp only [List.set_cons_zero, List.set_cons_succ]
        refine wpAnyH_done (by kernel_rfl) ?_ _
        have hRt := hR
        rcases Bool.eq_false_or_eq_true R with eR | eR
        · rw [eR]
          replace eR : Hid _ := eR
          go_wp2
          go_ret
          refine ⟨YN.no (fun h => ?_), bu.trans (hb2.mono bu.size)⟩
          obtain ⟨j, hj, ej⟩ := hR.out eR.out
          refine absurd ?_ ((hQ.out.1 h).2.2 k j hlt hj)
          rw [hg.out, bd_get]
          exact ej
        · rw [eR]
          replace eR : Hid _ := eR
          go_wp2
          go_roundw
          case rel =>
            refine ⟨k + 1, by omega, by go_num, ⟨fun i hi => ?_, fun i j hi hj => ?_⟩, bu.trans (hb2.mono bu.size)⟩
            · by_cases e : i = k
              · rw [e, hg.out]; exact hok.out
              · exact hF.out.1 i (by omega)
            · by_cases e : i = k
              · subst e
                rw [hg.out, bd_get]
                intro q
                have := hRn.out ⟨j, hj, q⟩
                exact absurd (eR.out.symm.trans this) (by decide)
              · exact hF.out.2 i j (by omega) hj
          case measure => simp [intOf]; omega
      · have hok : Hid (bOk id L1 = false) := by unfold Hid; simpa using hok
        go_upto_region 6 with fail
        rw [← hu]
        clear hu
        refine wp_region_held (S := fun Y => Below u.heap.size u Y) (by kernel_rfl) ?_
        change wpAnyH _ _ _ _ _ _ _ _ (World.drew _)
        have hb0 : Below u.heap.size u u.drew := (Below.refl _ _).drew
        obtain ⟨u0, hy0⟩ : ∃ y_, y_ = u.drew := ⟨_, rfl⟩
        rw [← hy0] at hb0 ⊢
        clear hy0
        refine takeW 0 20 (.agg #[.int .i64 id, .slice a1 L1.length c1]) rfl rfl (by kernel_rfl) (by kernel_rfl) (by kernel_rfl) (fun _ _ _ h => h) (by kernel_rfl) (by (intro Y hSw; obtain ⟨X0, X1⟩ := hx Y hSw; go_simp)) (by assumption) ?_
        simp only [List.set_cons_zero, List.set_cons_succ]
        refine wpAnyH_all (rs := [1]) (by kernel_rfl) (by simp) ?_
        intro i hi; obtain rfl : i = 1 := by simpa using hi
        refine wpOp_step rfl (fun Kz hKz => ?_)
        rw [if_pos (by kernel_rfl)]
        go_simp
        go_at_call 54
        refine (bOkI id a1 c1 L1 u0 (hn u0 hb0) hlk).mono ?_
        rintro e u1 ⟨rfl, kq⟩
        have hb1 : Below u.heap.size u u1 := hb0.trans (kq.mono hb0.size)
        clear kq
        rw [hok.out]
        refine hKz _ _ ⟨hb1, ?_⟩
        clear hKz Kz hi
        refine takeW 2 22 (.bool true) rfl rfl (by kernel_rfl) (by kernel_rfl) (by kernel_rfl) (fun _ _ _ h => h) (by kernel_rfl) (by (intro w hSw; go_simp)) (by assumption) ?_
        simp only [List.set_cons_zero, List.set_cons_succ]
        refine takeW 3 23 (.bool true) rfl rfl (by kernel_rfl) (by kernel_rfl) (by kernel_rfl) (fun _ _ _ h => h) (by kernel_rfl) (by (intro w hSw; go_simp)) (by assumption) ?_
        simp only [List.set_cons_zero, List.set_cons_succ]
        refine takeS 4 24 rfl rfl (by kernel_rfl) (by kernel_rfl) (by kernel_rfl) (fun _ _ _ h => h) (by kernel_rfl) (by assumption) ?_
        simp only [List.set_cons_zero, List.set_cons_succ]
        refine takeS 5 25 rfl rfl (by kernel_rfl) (by kernel_rfl) (by kernel_rfl) (fun _ _ _ h => h) (by kernel_rfl) (by assumption) ?_
        simp only [List.set_cons_zero, List.set_cons_succ]
        refine takeS 6 26 rfl rfl (by kernel_rfl) (by kernel_rfl) (by kernel_rfl) (fun _ _ _ h => h) (by kernel_rfl) (by assumption) ?_
        simp only [List.set_cons_zero, List.set_cons_succ]
        refine takeS 7 27 rfl rfl (by kernel_rfl) (by kernel_rfl) (by kernel_rfl) (fun _ _ _ h => h) (by kernel_rfl) (by assumption) ?_
        simp only [List.set_cons_zero, List.set_cons_succ]
        refine takeS 8 28 rfl rfl (by kernel_rfl) (by kernel_rfl) (by kernel_rfl) (fun _ _ _ h => h) (by kernel_rfl) (by assumption) ?_
        simp only [List.set_cons_zero, List.set_cons_succ]
        refine takeS 9 29 rfl rfl (by kernel_rfl) (by kernel_rfl) (by kernel_rfl) (fun _ _ _ h => h) (by kernel_rfl) (by assumption) ?_
        simp only [List.set_cons_zero, List.set_cons_succ]
        refine takeW 10 30 (.bool true) rfl rfl (by kernel_rfl) (by kernel_rfl) (by kernel_rfl) (fun _ _ _ h => h) (by kernel_rfl) (by (intro w hSw; go_simp)) (by assumption) ?_
        simp only [List.set_cons_zero, List.set_cons_succ]
        refine wpAnyH_done (by kernel_rfl) ?_ _
        go_wp2
        go_ret
        refine ⟨YN.no (fun h => ?_), bu.trans (hb1.mono bu.size)⟩
        have := (hQ.out.1 h).2.1 k hlt
        rw [hg.out] at this
        exact absurd (hok.out.symm.trans this) (by decide)
    · obtain rfl : k = Bs.length := by omega
      go_wp2
      go_ret
      exact ⟨YN.yes (hQ.out.2 ⟨⟨h1, h2⟩, hF.out⟩), hb⟩

end Go.Proofs.Ytdfjfodfnildiab
namespace Go.Proofs.Ytdfjfodfnildiab
open Go.ChangeShapes Go.WideShapes Go.ChangeAt Go.RowKit
open Go.ChangeMaps (open_string shut_string)
set_option linter.unusedVariables false
set_option maxRecDepth 100000

/-- A link leads from a port that there is to one of another bridge. -/
def LinkP (B : List Bg) (l : Lk) : Prop := l.a ≠ l.b ∧ PortP B l.a l.p ∧ PortP B l.b l.q
theorem LkAtO.keep {w w' : World} {q o : Nat} {x : Lk} (h : LkAtO w q o x) (k : w'.heap[q]? = w.heap[q]?) : LkAtO w' q o x :=
  ⟨(World.cell?_of_block (a := ⟨q, o, none⟩) k).trans h.c0, (World.cell?_of_block (a := ⟨q, o + 1, none⟩) k).trans h.c1, (World.cell?_of_block (a := ⟨q, o + 2, none⟩) k).trans h.c2, (World.cell?_of_block (a := ⟨q, o + 3, none⟩) k).trans h.c3⟩
set_option maxHeartbeats 8000000 in
theorem eFitI (adB : Option Addr) (capB : Nat) (Bs : List Bd) (adK : Option Addr) (capK : Nat) (K : List Lk) (w : World) (hN : NN w adB Bs adK K) :
    Calls Try.prog 47 #[.agg #[.slice adB Bs.length capB, .slice adK K.length capK]] w fun e w' => YN e (∀ j, j < K.length → LinkP (dB Bs) (K.getD j Lk.nil)) ∧ Below w.heap.size w w' := by
  suffices H : ∀ Q : Prop, Hid (Q ↔ ∀ j, j < K.length → LinkP (dB Bs) (K.getD j Lk.nil)) → Calls Try.prog 47 #[.agg #[.slice adB Bs.length capB, .slice adK K.length capK]] w fun e w' => YN e Q ∧ Below w.heap.size w w' from H _ Iff.rfl
  intro Q hQ
  have hv := hN.vk
  have hl := hN.hk
  have hB := hv.lt lkEnc_len (by omega)
  obtain ⟨y, hy⟩ : ∃ y, y = w.alloc (Obj.cells #[.slice adB Bs.length capB, .slice adK K.length capK] 31) := ⟨_, rfl⟩
  have B0 : Below w.heap.size w y := by rw [hy]; exact below_new _
  have A0 : NeAt y w.heap.size (.slice adB Bs.length capB) (.slice adK K.length capK) := by rw [hy]; exact NeAt.new w _
  go_enter Try.func47, Try.ntmps47
  go_wp2
  rw [← hy]
  clear hy
  go_loopw [9] (fun i wr => ∃ k : Nat, k ≤ K.length ∧ i = .int .i64 k ∧ Hid (∀ j, j < k → LinkP (dB Bs) (K.getD j Lk.nil)) ∧ Below w.heap.size w wr ∧ NeAt wr w.heap.size (.slice adB Bs.length capB) (.slice adK K.length capK)) (fun i _ => K.length - (intOf i).toNat)
  case atStart => exact ⟨0, Nat.zero_le _, rfl, fun j hj => absurd hj (by omega), B0, A0⟩
  case round =>
    obtain ⟨k, hk, rfl, hF, hb, A⟩ := hrel
    clear B0 A0
    by_cases hlt : k < K.length
    · obtain ⟨b, off, rfl, _⟩ := hv (by omega)
      obtain ⟨x, hh⟩ : ∃ h, K.getD k Lk.nil = h := ⟨_, rfl⟩
      have hck : LkAtO wr b (off + k * 4) x := by
        rw [← hh]
        exact lkAtO_of ((hv.below hb hB).at_ lkEnc_len Lk.nil hlt)
      replace hh : Hid _ := hh
      obtain ⟨c0, c1, c2, c3⟩ := hck
      obtain ⟨u, hu⟩ : ∃ u, u = wr.alloc (Obj.cells #[.int .i64 x.a, .int .i64 x.p, .int .i64 x.b, .int .i64 x.q] 70) := ⟨_, rfl⟩
      have bu : Below w.heap.size w u := by rw [hu]; exact hb.alloc hb.size _
      have Au : NeAt u w.heap.size (.slice adB Bs.length capB) (.slice (some ⟨b, off, none⟩) K.length capK) := by rw [hu]; exact A.below (below_new _) A.lt
      have Xu : LkAtO u wr.heap.size 0 x := by rw [hu]; constructor <;> simp [go_sem]
      have xl : wr.heap.size < u.heap.size := World.block_lt_of_cell? u _ Xu.c0
      clear hv hB
      go_wp2_with fail
      go_at_call 65
      rw [← hu]
      clear hu c0 c1 c2 c3 A hb
      refine (endsI x u).mono ?_
      rintro e u1 ⟨rfl, k1⟩
      have b1 := bu.trans (k1.mono bu.size)
      have A1 := Au.below k1 Au.lt
      have X1 := Xu.below k1 xl
      have s1 := k1.size
      clear k1 Au bu Xu
      obtain ⟨z, hz⟩ : ∃ z, z = u1.alloc (Obj.cells #[.int .i64 x.a, .int .i64 x.p, .int .i64 x.b, .int .i64 x.q] 94) := ⟨_, rfl⟩
      have bz : Below w.heap.size w z := by rw [hz]; exact b1.alloc b1.size _
      have kz : Below u1.heap.size u1 z := by rw [hz]; exact below_new _
      have Az := A1.below kz A1.lt
      have Xz := X1.below kz (by omega)
      have Zz : LkAtO z u1.heap.size 0 x := by rw [hz]; constructor <;> simp [go_sem]
      have zl : u1.heap.size < z.heap.size := World.block_lt_of_cell? z _ Zz.c0
      clear kz A1 X1 b1
      by_cases h1 : x.a = x.b
      · have e1 : (x.a == x.b) = true := by simp [h1]
        have e2 : decide (x.a = x.b) = true := decide_eq_true h1
        replace h1 : Hid _ := h1
        go_upto_region 5 with fail
        rw [← hz]
        clear hz
        obtain ⟨q0, q1, q2, q3⟩ := Xz
        simp only [Nat.zero_add] at q0 q1 q2 q3
        go_wp2
        go_ret
        refine ⟨YN.no (fun h => ?_), bz⟩
        have := (hQ.out.1 h) k hlt
        rw [hh.out] at this
        exact this.1 h1.out
      have e1 : (x.a == x.b) = false := by simp [h1]
      have e2 : decide (x.a = x.b) = false := decide_eq_false h1
      replace h1 : Hid _ := h1
      go_upto_region 5 with fail
      rw [← hz]
      clear hz
      have cc := Xz
      obtain ⟨q0, q1, q2, q3⟩ := cc
      have dd := Zz
      obtain ⟨z0, z1, z2, z3⟩ := dd
      have ee := Az
      obtain ⟨a0, a1⟩ := ee
      simp only [Nat.zero_add] at q0 q1 q2 q3 z0 z1 z2 z3
      go_wp2_with fail
      go_at_call 66
      clear q0 q1 q2 q3 z0 z1 z2 z3 a0 a1
      refine (eIsOfI adB capB Bs (some ⟨b, off, none⟩) capK K x.a x.p z (hN.later bz)).mono ?_
      rintro e z1 ⟨⟨R1, rfl, hR1⟩, k1⟩
      have bz1 := bz.trans (k1.mono bz.size)
      have Az := Az.below k1 Az.lt
      have Xz := Xz.below k1 (by omega)
      have Zz := Zz.below k1 zl
      have zl1 := Nat.lt_of_lt_of_le zl k1.size
      clear k1 bz
      by_cases h2 : PortP (dB Bs) x.a x.p
      rotate_left
      · obtain rfl : R1 = false := by
          rcases Bool.eq_false_or_eq_true R1 with q | q
          · exact absurd (hR1.1 q) h2
          · exact q
        clear hR1
        replace h2 : Hid _ := h2
        go_wp2
        go_ret
        refine ⟨YN.no (fun h => ?_), bz1⟩
        have := (hQ.out.1 h) k hlt
        rw [hh.out] at this
        exact h2.out this.2.1
      obtain rfl : R1 = true := hR1.2 h2
      clear hR1
      replace h2 : Hid _ := h2
      have cc := Xz
      obtain ⟨q0, q1, q2, q3⟩ := cc
      have dd := Zz
      obtain ⟨z0, z1_, z2, z3⟩ := dd
      have ee := Az
      obtain ⟨a0, a1⟩ := ee
      simp only [Nat.zero_add] at q0 q1 q2 q3 z0 z1_ z2 z3
      go_wp2_with fail
      go_at_call 66
      clear q0 q1 q2 q3 z0 z1_ z2 z3 a0 a1
      refine (eIsOfI adB capB Bs (some ⟨b, off, none⟩) capK K x.b x.q z1 (hN.later bz1)).mono ?_
      rintro e z2 ⟨⟨R2, rfl, hR2⟩, k2⟩
      have bz2 := bz1.trans (k2.mono bz1.size)
      have Az := Az.below k2 Az.lt
      clear k2 bz1
      by_cases h3 : PortP (dB Bs) x.b x.q
      rotate_left
      · obtain rfl : R2 = false := by
          rcases Bool.eq_false_or_eq_true R2 with q | q
          · exact absurd (hR2.1 q) h3
          · exact q
        clear hR2
        replace h3 : Hid _ := h3
        go_wp2
        go_ret
        refine ⟨YN.no (fun h => ?_), bz2⟩
        have := (hQ.out.1 h) k hlt
        rw [hh.out] at this
        exact h3.out this.2.2
      obtain rfl : R2 = true := hR2.2 h3
      clear hR2
      replace h3 : Hid _ := h3
      go_wp2
      go_roundw
      case rel =>
        refine ⟨k + 1, by omega, by go_num, fun j hj => ?_, bz2, Az⟩
        by_cases ej : j = k
        · rw [ej, hh.out]; exact ⟨h1.out, h2.out, h3.out⟩
        · exact hF.out j (by omega)
      case measure => simp [intOf]; omega
    · obtain rfl : k = K.length := by omega
      go_wp2
      go_ret
      exact ⟨YN.yes (hQ.out.2 hF.out), hb⟩

end Go.Proofs.Ytdfjfodfnildiab
namespace Go.Proofs.Ytdfjfodfnildiab
open Go.ChangeShapes Go.WideShapes Go.ChangeAt Go.RowKit
open Go.ChangeMaps (open_string shut_string)
set_option linter.unusedVariables false
set_option maxRecDepth 100000

/-- Each port that is up is of one link, and no other of any. -/
def PortsTo (B : List Bg) (K : List Lk) (n : Nat) : Prop := ∀ i x, i < n → x < (B.getD i Bg.nil).L.length → onceL K i x = if (pt B i x).up then 1 else 0
set_option maxHeartbeats 8000000 in
theorem pFitI (adB : Option Addr) (capB : Nat) (Bs : List Bd) (adK : Option Addr) (capK : Nat) (K : List Lk) (w : World) (hN : NN w adB Bs adK K) :
    Calls Try.prog 48 #[.agg #[.slice adB Bs.length capB, .slice adK K.length capK]] w fun e w' => YN e (PortsTo (dB Bs) K (dB Bs).length) ∧ Below w.heap.size w w' := by
  rw [dB_len]
  suffices H : ∀ Q : Prop, Hid (Q ↔ PortsTo (dB Bs) K Bs.length) → Calls Try.prog 48 #[.agg #[.slice adB Bs.length capB, .slice adK K.length capK]] w fun e w' => YN e Q ∧ Below w.heap.size w w' from H _ Iff.rfl
  intro Q hQ
  obtain ⟨vb, vk, hl, hls, hlk⟩ := hN
  have hkB := vk.lt lkEnc_len (by omega)
  obtain ⟨y, hy⟩ : ∃ y, y = w.alloc (Obj.cells #[.slice adB Bs.length capB, .slice adK K.length capK] 31) := ⟨_, rfl⟩
  have B0 : Below w.heap.size w y := by rw [hy]; exact below_new _
  have A0 : NeAt y w.heap.size (.slice adB Bs.length capB) (.slice adK K.length capK) := by rw [hy]; exact NeAt.new w _
  go_enter Try.func48, Try.ntmps48
  go_wp2
  rw [← hy]
  clear hy
  go_loopw [10] (fun i wr => ∃ k : Nat, k ≤ Bs.length ∧ i = .int .i64 k ∧ Hid (PortsTo (dB Bs) K k) ∧ Below w.heap.size w wr ∧ NeAt wr w.heap.size (.slice adB Bs.length capB) (.slice adK K.length capK)) (fun i _ => Bs.length - (intOf i).toNat)
  case atStart => exact ⟨0, Nat.zero_le _, rfl, fun i x hi => absurd hi (by omega), B0, A0⟩
  case round =>
    obtain ⟨i, hi, rfl, hF, hb, A⟩ := hrel
    clear B0 A0
    by_cases hlt : i < Bs.length
    · obtain ⟨b, off, rfl⟩ := vb.ad_ (by omega)
      have hck := (vb.below hb (Nat.le_refl _)).at_ hlt
      have hll := hls i hlt
      have hg : Hid ((dB Bs).getD i Bg.nil = (Bs.getD i Bd.nil).d) := bd_get Bs i
      have nest := vb.nest i hlt
      obtain ⟨⟨id, a1, c1, L1⟩, hh⟩ : ∃ q, Bs.getD i Bd.nil = q := ⟨_, rfl⟩
      rw [hh] at hck hll hg nest
      dsimp only at hll nest
      obtain ⟨x1, x2⟩ := hck
      dsimp only at x1 x2
      have hnB := nest.lt ptEnc_len (by omega)
      clear hh vb
      go_wp2
      go_loopw [18] (fun q wr => ∃ j : Nat, j ≤ L1.length ∧ q = .int .i64 j ∧ Hid (∀ x, x < j → onceL K i x = if (L1.getD x Pt.nil).up then 1 else 0) ∧ Below w.heap.size w wr ∧ NeAt wr w.heap.size (.slice (some ⟨b, off, none⟩) Bs.length capB) (.slice adK K.length capK)) (fun q _ => L1.length - (intOf q).toNat)
      case atStart => exact ⟨0, Nat.zero_le _, rfl, fun x hx => absurd hx (by omega), hb.alloc hb.size _, A.below (below_new _) A.lt⟩
      case round =>
        obtain ⟨j, hj, rfl, hG, hv, Av⟩ := hrel
        by_cases hjt : j < L1.length
        · obtain ⟨b2, off2, rfl, _⟩ := nest (by omega)
          have hcp := ptAtO_of ((nest.below hv hnB).at_ ptEnc_len Pt.nil hjt)
          obtain ⟨⟨up, has, pr, pc, pb, pp, ph, pl, pro, pwa, pop⟩, hq⟩ : ∃ q, L1.getD j Pt.nil = q := ⟨_, rfl⟩
          rw [hq] at hcp
          replace hq : Hid _ := hq
          obtain ⟨p0, p1, p2, p3, p4, p5, p6, p7, p8, p9, p10⟩ := hcp
          dsimp only at p0 p1 p2 p3 p4 p5 p6 p7 p8 p9 p10
          obtain ⟨u, hu⟩ : ∃ u, u = wr.alloc (Obj.cells #[.bool up, .bool has, .int .i64 pr, .int .i64 pc, .int .i64 pb, .int .i64 pp, .int .i64 ph, .int .i64 pl, .int .i64 pro, .int .i64 pwa, .bool pop] 68) := ⟨_, rfl⟩
          have bu : Below w.heap.size w u := by rw [hu]; exact hv.alloc hv.size _
          have Au : NeAt u w.heap.size (.slice (some ⟨b, off, none⟩) Bs.length capB) (.slice adK K.length capK) := by rw [hu]; exact Av.below (below_new _) Av.lt
          have hp0 : u.cell? ⟨wr.heap.size, 0, none⟩ = some (.bool up) := by rw [hu]; simp [go_sem]
          have ul : wr.heap.size < u.heap.size := World.block_lt_of_cell? u _ hp0
          have hp : ∀ Y, Below u.heap.size u Y → Y.cell? ⟨wr.heap.size, 0, none⟩ = some (.bool up) := fun Y hY => (World.cell?_of_block (a := ⟨wr.heap.size, 0, none⟩) (hY.block wr.heap.size ul)).trans hp0
          have hA : ∀ Y, Below u.heap.size u Y → NeAt Y w.heap.size (.slice (some ⟨b, off, none⟩) Bs.length capB) (.slice adK K.length capK) := fun Y hY => Au.below hY Au.lt
          have vk' : ∀ Y, Below u.heap.size u Y → FView lkEnc Y adK K := fun Y hY => vk.below (bu.trans (hY.mono bu.size)) hkB
          obtain ⟨o, ho⟩ : ∃ o, Hid (onceL K i j = o) := ⟨_, rfl⟩
          obtain ⟨m, hm⟩ : ∃ m, Hid ((if up = true then (1 : Int) else 0) = m) := ⟨_, rfl⟩
          clear Av hv hp0
          by_cases hom : o = m
          · have e1 : (o != m) = false := by simp [hom]
            have e2 : decide (o = m) = true := decide_eq_true hom
            replace hom : Hid _ := hom
            go_upto_region 7 with fail
            rw [← hu]
            clear hu p0 p1 p2 p3 p4 p5 p6 p7 p8 p9 p10
            refine wp_region_held (S := fun Y => Below u.heap.size u Y) (by kernel_rfl) ?_
            change wpAnyH _ _ _ _ _ _ _ _ (World.drew _)
            have hb0 : Below u.heap.size u u.drew := (Below.refl _ _).drew
            obtain ⟨u0, hy0⟩ : ∃ y_, y_ = u.drew := ⟨_, rfl⟩
            rw [← hy0] at hb0 ⊢
            clear hy0
            refine takeW 0 23 (.pointer (some ⟨w.heap.size, 1, none⟩)) rfl rfl (by kernel_rfl) (by kernel_rfl) (by kernel_rfl) (fun _ _ _ h => h) (by kernel_rfl) (by (intro w hSw; go_simp)) (by assumption) ?_
            simp only [List.set_cons_zero, List.set_cons_succ]
            refine takeW 1 24 (.slice adK K.length capK) rfl rfl (by kernel_rfl) (by kernel_rfl) (by kernel_rfl) (fun _ _ _ h => h) (by kernel_rfl) (by (intro Y hSw; obtain ⟨X0, X1⟩ := hA Y hSw; go_simp)) (by assumption) ?_
            simp only [List.set_cons_zero, List.set_cons_succ]
            refine takeW 2 25 (.int .i64 (i : Int)) rfl rfl (by kernel_rfl) (by kernel_rfl) (by kernel_rfl) (fun _ _ _ h => h) (by kernel_rfl) (by (intro w hSw; go_simp)) (by assumption) ?_
            simp only [List.set_cons_zero, List.set_cons_succ]
            refine takeW 3 26 (.int .i64 (j : Int)) rfl rfl (by kernel_rfl) (by kernel_rfl) (by kernel_rfl) (fun _ _ _ h => h) (by kernel_rfl) (by (intro w hSw; go_simp)) (by assumption) ?_
            simp only [List.set_cons_zero, List.set_cons_succ]
            refine takeW 4 27 (.agg #[.int .i64 (i : Int), .int .i64 (j : Int)]) rfl rfl (by kernel_rfl) (by kernel_rfl) (by kernel_rfl) (fun _ _ _ h => h) (by kernel_rfl) (by (intro w hSw; go_simp)) (by assumption) ?_
            simp only [List.set_cons_zero, List.set_cons_succ]
            refine takeW 6 29 (.pointer (some ⟨wr.heap.size, 0, none⟩)) rfl rfl (by kernel_rfl) (by kernel_rfl) (by kernel_rfl) (fun _ _ _ h => h) (by kernel_rfl) (by (intro w hSw; go_simp)) (by assumption) ?_
            simp only [List.set_cons_zero, List.set_cons_succ]
            refine takeW 7 30 (.bool up) rfl rfl (by kernel_rfl) (by kernel_rfl) (by kernel_rfl) (fun _ _ _ h => h) (by kernel_rfl) (by (intro Y hSw; have X0 := hp Y hSw; go_simp)) (by assumption) ?_
            simp only [List.set_cons_zero, List.set_cons_succ]
            refine wpAnyH_all (rs := [5]) (by kernel_rfl) (by simp) ?_
            intro i hi; obtain rfl : i = 5 := by simpa using hi
            refine wpOp_step rfl (fun Kz hKz => ?_)
            rw [if_pos (by kernel_rfl)]
            go_simp
            go_at_call 67
            refine (linksAtI adK capK K i j u0 (vk' u0 hb0) hlk).mono ?_
            rintro e u1 ⟨rfl, kq⟩
            have hb1 : Below u.heap.size u u1 := hb0.trans (kq.mono hb0.size)
            clear kq
            rw [ho.out]
            refine hKz _ _ ⟨hb1, ?_⟩
            clear hKz Kz hi
            refine wpAnyH_all (rs := [8]) (by kernel_rfl) (by simp) ?_
            intro i hi; obtain rfl : i = 8 := by simpa using hi
            refine wpOp_step rfl (fun Kz hKz => ?_)
            rw [if_pos (by kernel_rfl)]
            go_simp
            go_at_call 68
            refine (oneIfI up m hm.out _).mono ?_
            rintro e u2 ⟨rfl, rfl⟩
            refine hKz _ _ ⟨hb1, ?_⟩
            clear hKz Kz hi
            refine takeW 9 32 (.bool false) rfl rfl (by kernel_rfl) (by kernel_rfl) (by kernel_rfl) (fun _ _ _ h => h) (by kernel_rfl) (by (intro w hSw; go_simp)) (by assumption) ?_
            simp only [List.set_cons_zero, List.set_cons_succ]
            refine wpAnyH_done (by kernel_rfl) ?_ _
            go_wp2
            go_roundw
            case rel =>
              refine ⟨j + 1, by omega, by go_num, fun x hx => ?_, bu.trans (hb1.mono bu.size), hA _ hb1⟩
              by_cases ex : x = j
              · rw [ex, hq.out, ho.out, hom.out]; exact hm.out.symm
              · exact hG.out x (by omega)
            case measure => simp [intOf]; omega
          · have e1 : (o != m) = true := by simp [hom]
            have e2 : decide (o = m) = false := decide_eq_false hom
            replace hom : Hid _ := hom
            go_upto_region 7 with fail
            rw [← hu]
            clear hu p0 p1 p2 p3 p4 p5 p6 p7 p8 p9 p10
            refine wp_region_held (S := fun Y => Below u.heap.size u Y) (by kernel_rfl) ?_
            change wpAnyH _ _ _ _ _ _ _ _ (World.drew _)
            have hb0 : Below u.heap.size u u.drew := (Below.refl _ _).drew
            obtain ⟨u0, hy0⟩ : ∃ y_, y_ = u.drew := ⟨_, rfl⟩
            rw [← hy0] at hb0 ⊢
            clear hy0
            refine takeW 0 23 (.pointer (some ⟨w.heap.size, 1, none⟩)) rfl rfl (by kernel_rfl) (by kernel_rfl) (by kernel_rfl) (fun _ _ _ h => h) (by kernel_rfl) (by (intro w hSw; go_simp)) (by assumption) ?_
            simp only [List.set_cons_zero, List.set_cons_succ]
            refine takeW 1 24 (.slice adK K.length capK) rfl rfl (by kernel_rfl) (by kernel_rfl) (by kernel_rfl) (fun _ _ _ h => h) (by kernel_rfl) (by (intro Y hSw; obtain ⟨X0, X1⟩ := hA Y hSw; go_simp)) (by assumption) ?_
            simp only [List.set_cons_zero, List.set_cons_succ]
            refine takeW 2 25 (.int .i64 (i : Int)) rfl rfl (by kernel_rfl) (by kernel_rfl) (by kernel_rfl) (fun _ _ _ h => h) (by kernel_rfl) (by (intro w hSw; go_simp)) (by assumption) ?_
            simp only [List.set_cons_zero, List.set_cons_succ]
            refine takeW 3 26 (.int .i64 (j : Int)) rfl rfl (by kernel_rfl) (by kernel_rfl) (by kernel_rfl) (fun _ _ _ h => h) (by kernel_rfl) (by (intro w hSw; go_simp)) (by assumption) ?_
            simp only [List.set_cons_zero, List.set_cons_succ]
            refine takeW 4 27 (.agg #[.int .i64 (i : Int), .int .i64 (j : Int)]) rfl rfl (by kernel_rfl) (by kernel_rfl) (by kernel_rfl) (fun _ _ _ h => h) (by kernel_rfl) (by (intro w hSw; go_simp)) (by assumption) ?_
            simp only [List.set_cons_zero, List.set_cons_succ]
            refine takeW 6 29 (.pointer (some ⟨wr.heap.size, 0, none⟩)) rfl rfl (by kernel_rfl) (by kernel_rfl) (by kernel_rfl) (fun _ _ _ h => h) (by kernel_rfl) (by (intro w hSw; go_simp)) (by assumption) ?_
            simp only [List.set_cons_zero, List.set_cons_succ]
            refine takeW 7 30 (.bool up) rfl rfl (by kernel_rfl) (by kernel_rfl) (by kernel_rfl) (fun _ _ _ h => h) (by kernel_rfl) (by (intro Y hSw; have X0 := hp Y hSw; go_simp)) (by assumption) ?_
            simp only [List.set_cons_zero, List.set_cons_succ]
            refine wpAnyH_all (rs := [5]) (by kernel_rfl) (by simp) ?_
            intro i hi; obtain rfl : i = 5 := by simpa using hi
            refine wpOp_step rfl (fun Kz hKz => ?_)
            rw [if_pos (by kernel_rfl)]
            go_simp
            go_at_call 67
            refine (linksAtI adK capK K i j u0 (vk' u0 hb0) hlk).mono ?_
            rintro e u1 ⟨rfl, kq⟩
            have hb1 : Below u.heap.size u u1 := hb0.trans (kq.mono hb0.size)
            clear kq
            rw [ho.out]
            refine hKz _ _ ⟨hb1, ?_⟩
            clear hKz Kz hi
            refine wpAnyH_all (rs := [8]) (by kernel_rfl) (by simp) ?_
            intro i hi; obtain rfl : i = 8 := by simpa using hi
            refine wpOp_step rfl (fun Kz hKz => ?_)
            rw [if_pos (by kernel_rfl)]
            go_simp
            go_at_call 68
            refine (oneIfI up m hm.out _).mono ?_
            rintro e u2 ⟨rfl, rfl⟩
            refine hKz _ _ ⟨hb1, ?_⟩
            clear hKz Kz hi
            refine takeW 9 32 (.bool true) rfl rfl (by kernel_rfl) (by kernel_rfl) (by kernel_rfl) (fun _ _ _ h => h) (by kernel_rfl) (by (intro w hSw; go_simp)) (by assumption) ?_
            simp only [List.set_cons_zero, List.set_cons_succ]
            refine wpAnyH_done (by kernel_rfl) ?_ _
            go_wp2
            go_ret
            refine ⟨YN.no (fun h => ?_), bu.trans (hb1.mono bu.size)⟩
            have := (hQ.out.1 h) i j hlt (by rw [hg.out]; exact hjt)
            unfold pt at this
            rw [hg.out] at this
            have e := congrArg (fun q : Pt => if q.up = true then (1 : Int) else 0) hq.out
            exact hom.out (ho.out.symm.trans (this.trans (e.trans hm.out)))
        · obtain rfl : j = L1.length := by omega
          go_wp2
          go_roundw
          case rel =>
            refine ⟨i + 1, by omega, by go_num, fun x q hx hq => ?_, hv, Av⟩
            by_cases ex : x = i
            · subst ex
              unfold pt
              rw [hg.out] at hq ⊢
              exact hG.out q hq
            · exact hF.out x q (by omega) hq
          case measure => simp [intOf]; omega
    · obtain rfl : i = Bs.length := by omega
      go_wp2
      go_ret
      exact ⟨YN.yes (hQ.out.2 hF.out), hb⟩

end Go.Proofs.Ytdfjfodfnildiab
namespace Go.Proofs.Ytdfjfodfnildiab
open Go.ChangeShapes Go.WideShapes Go.ChangeAt Go.RowKit
open Go.ChangeMaps (open_string shut_string)
set_option linter.unusedVariables false
set_option maxRecDepth 100000

theorem netP_impl {B : List Bg} {K : List Lk} : NetP B K ↔ ((1 ≤ B.length ∧ B.length ≤ 5) ∧ FitTo B B.length) ∧ K.length ≤ 6 ∧ (∀ j, j < K.length → LinkP B (K.getD j Lk.nil)) ∧ PortsTo B K B.length := by
  constructor
  · intro h
    refine ⟨⟨h.many, h.ok, fun i k hi hk e => ?_⟩, h.few, fun j hj => ?_, h.once⟩
    · have := h.inj k i (by omega) hi e
      omega
    · have hm : K.getD j Lk.nil ∈ K := by
        rw [show K.getD j Lk.nil = K[j] by simp [List.getD, hj]]
        exact List.getElem_mem hj
      obtain ⟨q1, q2, q3⟩ := h.link _ hm
      exact ⟨q1, q2.port, q3.port⟩
  · rintro ⟨⟨h1, h2, h3⟩, h4, h5, h6⟩
    refine ⟨h1, h4, h2, unlike_inj h3, h6, fun l hl => ?_⟩
    obtain ⟨j, hj, rfl⟩ := List.getElem_of_mem hl
    have := h5 j hj
    rw [show K.getD j Lk.nil = K[j] by simp [List.getD, hj]] at this
    obtain ⟨q1, q2, q3⟩ := this
    have o := once_in hl
    exact ⟨q1, end_up h6 q2 o.1, end_up h6 q3 o.2⟩
theorem bool_no {R : Bool} {Q : Prop} (h : R = true ↔ Q) (n : ¬ Q) : R = false := by
  rcases Bool.eq_false_or_eq_true R with q | q
  · exact absurd (h.1 q) n
  · exact q
set_option maxHeartbeats 4000000 in
theorem netOkI (adB : Option Addr) (capB : Nat) (Bs : List Bd) (adK : Option Addr) (capK : Nat) (K : List Lk) (w : World) (hN : NN w adB Bs adK K) (hcap : Bs.length ≤ capB) :
    Calls Try.prog 25 #[.agg #[.slice adB Bs.length capB, .slice adK K.length capK]] w fun e w' => YN e (NetP (dB Bs) K) ∧ Below w.heap.size w w' := by
  suffices H : ∀ Q : Prop, Hid (Q ↔ NetP (dB Bs) K) → Calls Try.prog 25 #[.agg #[.slice adB Bs.length capB, .slice adK K.length capK]] w fun e w' => YN e Q ∧ Below w.heap.size w w' from H _ Iff.rfl
  intro Q hQ0
  have hQ : Hid (Q ↔ ((1 ≤ (dB Bs).length ∧ (dB Bs).length ≤ 5) ∧ FitTo (dB Bs) (dB Bs).length) ∧ K.length ≤ 6 ∧ (∀ j, j < K.length → LinkP (dB Bs) (K.getD j Lk.nil)) ∧ PortsTo (dB Bs) K (dB Bs).length) := hQ0.out.trans netP_impl
  clear hQ0
  obtain ⟨y, hy⟩ : ∃ y, y = w.alloc (Obj.cells #[.slice adB Bs.length capB, .slice adK K.length capK] 31) := ⟨_, rfl⟩
  have B0 : Below w.heap.size w y := by rw [hy]; exact below_new _
  have A0 : NeAt y w.heap.size (.slice adB Bs.length capB) (.slice adK K.length capK) := by rw [hy]; exact NeAt.new w _
  have l0 := A0.lt
  have hk := hN.hk
  go_enter Try.func25, Try.ntmps25
  go_wp2_with fail
  go_at_call 46
  rw [← hy]
  clear hy
  refine (bFitI adB capB Bs y (hN.later B0).vb hN.hl hN.hls hcap).mono ?_
  rintro e w1 ⟨⟨R1, rfl, hR1⟩, k1⟩
  have B1 := B0.trans (k1.mono B0.size)
  have A1 := A0.below k1 l0
  clear A0 k1 B0
  by_cases h1 : (1 ≤ (dB Bs).length ∧ (dB Bs).length ≤ 5) ∧ FitTo (dB Bs) (dB Bs).length
  rotate_left
  · obtain rfl := bool_no hR1 h1
    clear hR1
    replace h1 : Hid _ := h1
    go_wp2
    go_ret
    exact ⟨YN.no (fun h => h1.out (hQ.out.1 h).1), B1⟩
  obtain rfl : R1 = true := hR1.2 h1
  clear hR1
  replace h1 : Hid _ := h1
  have cc := A1
  obtain ⟨c0, c1⟩ := cc
  by_cases h2 : K.length ≤ 6
  rotate_left
  · have d2 : decide ((K.length : Int) ≤ 6) = false := decide_eq_false (by omega)
    have d3 : ¬ (K.length : Int) ≤ 6 := by omega
    replace h2 : Hid _ := h2
    go_wp2
    go_ret
    exact ⟨YN.no (fun h => h2.out (hQ.out.1 h).2.1), B1⟩
  have d2 : decide ((K.length : Int) ≤ 6) = true := decide_eq_true (by omega)
  have d3 : (K.length : Int) ≤ 6 := by omega
  replace h2 : Hid _ := h2
  go_wp2_with fail
  go_at_call 47
  clear c0 c1 d2 d3
  refine (eFitI adB capB Bs adK capK K w1 (hN.later B1)).mono ?_
  rintro e w2 ⟨⟨R2, rfl, hR2⟩, k2⟩
  have B2 := B1.trans (k2.mono B1.size)
  have A2 := A1.below k2 A1.lt
  clear A1 k2 B1
  by_cases h3 : ∀ j, j < K.length → LinkP (dB Bs) (K.getD j Lk.nil)
  rotate_left
  · obtain rfl := bool_no hR2 h3
    clear hR2
    replace h3 : Hid _ := h3
    go_wp2
    go_ret
    exact ⟨YN.no (fun h => h3.out (hQ.out.1 h).2.2.1), B2⟩
  obtain rfl : R2 = true := hR2.2 h3
  clear hR2
  replace h3 : Hid _ := h3
  obtain ⟨c0, c1⟩ := A2
  go_wp2_with fail
  go_at_call 48
  clear c0 c1
  refine (pFitI adB capB Bs adK capK K w2 (hN.later B2)).mono ?_
  rintro e w3 ⟨⟨R3, rfl, hR3⟩, k3⟩
  have B3 := B2.trans (k3.mono B2.size)
  clear k3 B2
  go_wp2
  go_ret
  exact ⟨YN.is (by rw [hR3]; exact ⟨fun h => hQ.out.2 ⟨h1.out, h2.out, h3.out, h⟩, fun h => (hQ.out.1 h).2.2.2⟩), B3⟩

end Go.Proofs.Ytdfjfodfnildiab
namespace Go.Proofs.Ytdfjfodfnildiab
open Go.ChangeShapes Go.WideShapes Go.ChangeAt Go.RowKit
open Go.ChangeMaps (open_string shut_string)
set_option linter.unusedVariables false
set_option maxRecDepth 100000

theorem grown_trans {a b c : World} {g : Option Nat} (h : a.grownBy b g) (k : b.grownBy c g) : a.grownBy c g :=
  ⟨k.os.trans h.os, k.tape.trans h.tape, k.output.trans h.output, Nat.le_trans h.size k.size, fun j hj hn => (k.block j (Nat.lt_of_lt_of_le hj h.size) hn).trans (h.block j hj hn)⟩
theorem grown_of {a b : World} {g : Option Nat} (k : Below a.heap.size a b) : a.grownBy b g := ⟨k.os, k.tape, k.output, k.size, fun j hj _ => k.block j hj⟩
theorem grown_set {a b : World} {g o : Nat} (v : Value) (h : a.grownBy b (some g)) : a.grownBy (b.setCell ⟨g, o, none⟩ v) (some g) :=
  ⟨h.os, h.tape, h.output, by simpa using h.size, fun j hj hn => (Below.heap_setCell _ _ _ _ (fun e => hn (by have : j = g := e; rw [this]))).trans (h.block j hj hn)⟩
end Go.Proofs.Ytdfjfodfnildiab
namespace Go.Proofs.Ytdfjfodfnildiab
open Go.ChangeShapes Go.WideShapes Go.ChangeAt Go.RowKit
open Go.ChangeMaps (open_string shut_string)
set_option linter.unusedVariables false
set_option maxRecDepth 100000

/-- What NetNew answers. -/
structure NewOut (ids : List Int) (K : List Lk) (ok : Bool) (Cs : List Bd) (KL : List Lk) : Prop where
  yn : ok = true ↔ NewP ids K
  yes : ok = true → dB Cs = netN ids (ofK K) ids.length ∧ KL = K
  no : ok = false → Cs = [] ∧ KL = []
def NewRet (ids : List Int) (K : List Lk) (w : World) (e : Ending) (w' : World) : Prop :=
  ∃ adB cB Cs adL cL KL ok mid, e = .returned (.tuple #[.agg #[.slice adB (List.length Cs) cB, .slice adL (List.length KL) cL], .bool ok]) ∧ NewOut ids K ok Cs KL ∧ NetOwn w.heap.size mid w'.heap.size w' (.slice adB Cs.length cB) Cs (.slice adL KL.length cL) KL ∧ Below w.heap.size w w'
theorem NewRet.no {ids : List Int} {K : List Lk} {w w' : World} (h : ¬ NewP ids K) (b : Below w.heap.size w w') : NewRet ids K w (.returned (.tuple #[.agg #[.slice none 0 0, .slice none 0 0], .bool false])) w' :=
  ⟨none, 0, [], none, 0, [], false, w.heap.size, rfl, ⟨⟨fun q => (by cases q), fun q => absurd q h⟩, fun q => (by cases q), fun _ => ⟨rfl, rfl⟩⟩, ⟨NOwn.nil, FOwn.nil, fun g e => by simp [Value.ownBlock] at e, Nat.le_refl _, b.size, Nat.le_refl _⟩, b⟩
theorem NewRet.yes {ids : List Int} {K : List Lk} {w w' : World} {adB : Option Addr} {cB : Nat} {Cs : List Bd} {adL : Option Addr} {cL mid : Nat} (h : NewP ids K) (d : dB Cs = netN ids (ofK K) ids.length) (o : NetOwn w.heap.size mid w'.heap.size w' (.slice adB Cs.length cB) Cs (.slice adL K.length cL) K) (b : Below w.heap.size w w') : NewRet ids K w (.returned (.tuple #[.agg #[.slice adB Cs.length cB, .slice adL K.length cL], .bool true])) w' :=
  ⟨adB, cB, Cs, adL, cL, K, true, mid, rfl, ⟨⟨fun _ => h, fun _ => rfl⟩, fun _ => ⟨d, rfl⟩, fun q => (by cases q)⟩, o, b⟩
/-- A box of two cells that may be written. -/
structure NeBox (w : World) (q : Nat) (v0 v1 : Value) : Prop where
  at_ : NeAt w q v0 v1
  fr : ∀ i, w.frozen? ⟨q, i, none⟩ = false
theorem NeBox.keep {w w' : World} {q : Nat} {v0 v1 : Value} (h : NeBox w q v0 v1) (k : w'.heap[q]? = w.heap[q]?) : NeBox w' q v0 v1 :=
  ⟨h.at_.keep k, fun i => (World.frozen?_of_block (a := ⟨q, i, none⟩) k).trans (h.fr i)⟩
theorem NeBox.lt {w : World} {q : Nat} {v0 v1 : Value} (h : NeBox w q v0 v1) : q < w.heap.size := h.at_.lt
theorem NeBox.below {w w' : World} {q n : Nat} {v0 v1 : Value} (h : NeBox w q v0 v1) (k : Below n w w') (hq : q < n) : NeBox w' q v0 v1 := h.keep (k.block q hq)
theorem NeBox.later {w w' : World} {q : Nat} {v0 v1 : Value} (h : NeBox w q v0 v1) (k : Below w.heap.size w w') : NeBox w' q v0 v1 := h.below k h.lt
theorem NeBox.new (w : World) (t : TypeId) {v0 v1 : Value} : NeBox (w.alloc (Obj.cells #[v0, v1] t)) w.heap.size v0 v1 := ⟨NeAt.new w t, fun i => by simp [go_sem]⟩
theorem NeBox.put0 {w : World} {q : Nat} {v0 v1 : Value} (h : NeBox w q v0 v1) (v : Value) : NeBox (w.setCell ⟨q, 0, none⟩ v) q v v1 :=
  ⟨⟨pset_same h.at_.c0, (pset_else (by decide)).trans h.at_.c1⟩, fun i => by rw [World.frozen?_setCell]; exact h.fr i⟩
theorem NeBox.put {w : World} {q : Nat} {v0 v1 : Value} (h : NeBox w q v0 v1) (u v : Value) : NeBox ((w.setCell ⟨q, 0, none⟩ u).setCell ⟨q, 1, none⟩ v) q u v := by
  have e1 : (w.setCell ⟨q, 0, none⟩ u).cell? ⟨q, 1, none⟩ = some v1 := (pset_else (by decide)).trans h.at_.c1
  refine ⟨⟨(pset_else (by decide)).trans (pset_same h.at_.c0), pset_same e1⟩, fun i => ?_⟩
  rw [World.frozen?_setCell, World.frozen?_setCell]; exact h.fr i

end Go.Proofs.Ytdfjfodfnildiab
namespace Go.Proofs.Ytdfjfodfnildiab
open Go.ChangeShapes Go.WideShapes Go.ChangeAt Go.RowKit
open Go.ChangeMaps (open_string shut_string)
set_option linter.unusedVariables false
set_option maxRecDepth 100000

/-- All blocks but those from lo on below hi are as they were. -/
structure KeptR (lo hi : Nat) (w w' : World) : Prop where
  os : w'.os = w.os
  tape : w'.tape = w.tape
  output : w'.output = w.output
  size : w.heap.size ≤ w'.heap.size
  block : ∀ k, k < w.heap.size → (k < lo ∨ hi ≤ k) → w'.heap[k]? = w.heap[k]?
theorem KeptR.refl (lo hi : Nat) (w : World) : KeptR lo hi w w := ⟨rfl, rfl, rfl, Nat.le_refl _, fun _ _ _ => rfl⟩
theorem KeptR.trans {lo hi : Nat} {a b c : World} (h : KeptR lo hi a b) (k : KeptR lo hi b c) : KeptR lo hi a c :=
  ⟨k.os.trans h.os, k.tape.trans h.tape, k.output.trans h.output, Nat.le_trans h.size k.size, fun j hj hn => (k.block j (Nat.lt_of_lt_of_le hj h.size) hn).trans (h.block j hj hn)⟩
theorem KeptR.below {lo hi : Nat} {a b : World} (h : KeptR lo hi a b) (hs : lo ≤ a.heap.size) : Below lo a b := ⟨h.os, h.tape, h.output, h.size, fun j hj => h.block j (by omega) (.inl hj)⟩
theorem KeptR.of_below {lo hi : Nat} {a b : World} (h : Below a.heap.size a b) : KeptR lo hi a b := ⟨h.os, h.tape, h.output, h.size, fun j hj _ => h.block j hj⟩
theorem KeptR.wide {lo hi lo' hi' : Nat} {a b : World} (h : KeptR lo hi a b) (h1 : lo' ≤ lo) (h2 : hi ≤ hi') : KeptR lo' hi' a b := ⟨h.os, h.tape, h.output, h.size, fun j hj q => h.block j hj (by omega)⟩
theorem KeptR.of_grown {lo hi : Nat} {g : Option Nat} {a b : World} (h : a.grownBy b g) (hg : ∀ k, g = some k → lo ≤ k ∧ k < hi) : KeptR lo hi a b := ⟨h.os, h.tape, h.output, h.size, fun j hj q => h.block j hj (fun e => by have := hg j e.symm; omega)⟩
theorem KeptR.set {lo hi : Nat} {a b : World} (h : KeptR lo hi a b) {g o : Nat} (hg : lo ≤ g ∧ g < hi) (v : Value) : KeptR lo hi a (b.setCell ⟨g, o, none⟩ v) :=
  ⟨h.os, h.tape, h.output, by simpa using h.size, fun j hj hn => (Below.heap_setCell _ _ _ _ (fun e => by have : j = g := e; omega)).trans (h.block j hj hn)⟩
/-- How many marks the first j take. -/
def kTo (Bs : List Bd) : Nat → Nat
  | 0 => 0
  | j + 1 => kTo Bs j + 1 + 11 * (Bs.getD j Bd.nil).L.length
theorem kTo_lTo (Bs : List Bd) : ∀ j, kTo Bs j = j + 11 * lTo Bs j
  | 0 => rfl
  | j + 1 => by
    show kTo Bs j + 1 + _ = j + 1 + 11 * (lTo Bs j + _)
    rw [kTo_lTo Bs j]
    omega
theorem kTo_mono (Bs : List Bd) {i j : Nat} (h : i ≤ j) : kTo Bs i ≤ kTo Bs j := by
  induction h with
  | refl => exact Nat.le_refl _
  | step _ ih => exact Nat.le_trans ih (by show _ ≤ kTo Bs _ + 1 + _; omega)
/-- One of them, marked. -/
def mkd (Bs : List Bd) (k0 : Int) (j : Nat) : Bd := ⟨k0 + (kTo Bs j : Int), (Bs.getD j Bd.nil).ad, (Bs.getD j Bd.nil).cap, (List.range (Bs.getD j Bd.nil).L.length).map (ptMk (k0 + (kTo Bs j : Int) + 1))⟩
/-- The first n marked. -/
def marksN (Bs : List Bd) (k0 : Int) (n : Nat) : List Bd := (List.range Bs.length).map fun j => if j < n then mkd Bs k0 j else Bs.getD j Bd.nil
theorem marksN_len (Bs : List Bd) (k0 : Int) (n : Nat) : (marksN Bs k0 n).length = Bs.length := by simp [marksN]
theorem marksN_get (Bs : List Bd) (k0 : Int) (n : Nat) {j : Nat} (h : j < Bs.length) : (marksN Bs k0 n).getD j Bd.nil = if j < n then mkd Bs k0 j else Bs.getD j Bd.nil := by simp [marksN, List.getD, h]
theorem marksN_zero (Bs : List Bd) (k0 : Int) : marksN Bs k0 0 = Bs := by
  refine List.ext_getElem (by simp [marksN]) fun i h1 h2 => ?_
  simp [marksN, List.getD, h2]
theorem marksN_succ (Bs : List Bd) (k0 : Int) {n : Nat} (h : n < Bs.length) : (marksN Bs k0 n).set n (mkd Bs k0 n) = marksN Bs k0 (n + 1) := by
  refine List.ext_getElem (by simp [marksN]) fun i h1 h2 => ?_
  have hi : i < Bs.length := by simpa [marksN] using h2
  rw [List.getElem_set]
  simp only [marksN, List.getElem_map, List.getElem_range]
  by_cases e : n = i
  · subst e
    rw [if_pos rfl, if_pos (by omega)]
  · rw [if_neg e]
    by_cases q : i < n
    · rw [if_pos q, if_pos (by omega)]
    · rw [if_neg q, if_neg (by omega)]
theorem mkd_v (Bs : List Bd) (k0 : Int) (j : Nat) : (mkd Bs k0 j).v = (Bs.getD j Bd.nil).v := by
  unfold mkd Bd.v
  simp
theorem marksN_v (Bs : List Bd) (k0 : Int) (n : Nat) {j : Nat} (h : j < Bs.length) : ((marksN Bs k0 n).getD j Bd.nil).v = (Bs.getD j Bd.nil).v := by
  rw [marksN_get _ _ _ h]
  split
  · exact mkd_v Bs k0 j
  · rfl
theorem row_id {g : Nat} {cap lo : Nat} {w : World} {Ms : List Bd} {n : Nat} (hn : n < Ms.length) (h : FOwn bdEnc 2 54 lo w (.slice (some ⟨g, 0, none⟩) Ms.length cap) Ms) {x : Bd} (hv : x.v = (Ms.getD n Bd.nil).v) : FOwn bdEnc 2 54 lo (w.setCell ⟨g, n * 2, none⟩ (.int .i64 x.id)) (.slice (some ⟨g, 0, none⟩) (Ms.set n x).length cap) (Ms.set n x) := by
  have hs := (World.ownsRow.stored (show w.ownsRow lo 54 2 _ Ms.length (fcells bdEnc Ms) from h) (n * 2) (.int .i64 x.id)).1
  have e : (fcells bdEnc Ms).set (n * 2) (.int .i64 x.id) = fcells bdEnc (Ms.set n x) := by
    rw [← setAll_cells bdEnc_len (by omega) Bd.nil Ms n hn x]
    show _ = ((fcells bdEnc Ms).set (n * 2) (.int .i64 x.id)).set (n * 2 + 1) (.slice x.ad x.L.length x.cap)
    have hl := fcells_len bdEnc_len Ms
    have hc : (fcells bdEnc Ms)[n * 2 + 1]? = some (.slice x.ad x.L.length x.cap) := by
      rw [fcells_at bdEnc_len Bd.nil Ms n 1 hn (by omega)]
      show some (Ms.getD n Bd.nil).v = some x.v
      rw [hv]
    apply List.ext_getElem?
    intro j
    by_cases q : j = n * 2 + 1
    · subst q
      rw [List.getElem?_set_ne (by omega), hc, List.getElem?_set_self (by rw [List.length_set, hl]; omega)]
    · rw [List.getElem?_set_ne (Ne.symm q)]
  rw [e] at hs
  unfold FOwn
  rw [List.length_set]
  exact hs
theorem NOwn.mark {lo hi : Nat} {g cap : Nat} {w w2 : World} {Ms : List Bd} {n : Nat} (h : NOwn lo hi w (.slice (some ⟨g, 0, none⟩) Ms.length cap) Ms) (hs : hi ≤ w.heap.size) (hn : n < Ms.length) {x : Bd} (hv : x.v = (Ms.getD n Bd.nil).v)
    (o2 : FOwn ptEnc 11 68 lo w2 x.v x.L) (gr : (w.setCell ⟨g, n * 2, none⟩ (.int .i64 x.id)).grownBy w2 x.v.ownBlock) : NOwn lo hi w2 (.slice (some ⟨g, 0, none⟩) (Ms.set n x).length cap) (Ms.set n x) ∧ KeptR lo hi w w2 := by
  have hgl := h.row.lt g rfl
  have hgh := h.rhi g rfl
  have hxb : ∀ k, x.v.ownBlock = some k → lo ≤ k ∧ k < hi ∧ k ≠ g := fun k e => by
    rw [hv] at e
    exact ⟨((h.nest n hn).lt k e).1, h.nhi n hn k e, fun q => h.apart n hn g k rfl e q.symm⟩
  have bl : ∀ k, k < w.heap.size → k ≠ g → (∀ q, x.v.ownBlock = some q → q ≠ k) → w2.heap[k]? = w.heap[k]? := fun k hk h1 h2 => (gr.block k (by simpa using hk) (fun e => h2 k e.symm rfl)).trans (Below.heap_setCell _ _ _ _ h1)
  have get : ∀ j, j < (Ms.set n x).length → (j ≠ n ∧ j < Ms.length ∧ (Ms.set n x).getD j Bd.nil = Ms.getD j Bd.nil) ∨ (j = n ∧ (Ms.set n x).getD j Bd.nil = x) := fun j hj => by
    rw [List.length_set] at hj
    by_cases e : j = n
    · subst e
      exact .inr ⟨rfl, by simp [List.getD, hj]⟩
    · exact .inl ⟨e, hj, by simp [List.getD, List.getElem?_set_ne (Ne.symm e)]⟩
  have gv : ∀ j, j < (Ms.set n x).length → j < Ms.length ∧ ((Ms.set n x).getD j Bd.nil).v = (Ms.getD j Bd.nil).v := fun j hj => by
    rcases get j hj with ⟨_, q, r⟩ | ⟨q, r⟩
    · exact ⟨q, by rw [r]⟩
    · exact ⟨by rw [q]; exact hn, by rw [r, hv, q]⟩
  refine ⟨⟨?_, fun j hj => ?_, fun k e => h.rhi k e, fun j hj k e => ?_, fun j hj k k' e e' => ?_, fun i j hij hj k k' e e' => ?_⟩, ?_⟩
  · refine (row_id hn h.row hv).keep (fun k e => ?_)
    obtain rfl : g = k := by simpa [Value.ownBlock] using e
    exact gr.block g (by simpa using hgl.2) (fun e => (hxb g e.symm).2.2 rfl)
  · rcases get j hj with ⟨q, q2, r⟩ | ⟨q, r⟩
    · rw [r]
      refine (h.nest j q2).keep (fun k e => bl k ((h.nest j q2).lt k e).2 (fun q3 => h.apart j q2 g k rfl e q3.symm) (fun p hp hq => ?_))
      rw [hv] at hp
      rcases Nat.lt_or_gt_of_ne q with q4 | q4
      · exact h.aparts j n q4 hn k p e hp hq.symm
      · exact h.aparts n j q4 q2 p k hp e hq
    · rw [r]
      exact o2
  · obtain ⟨q, r⟩ := gv j hj
    rw [r] at e
    exact h.nhi j q k e
  · obtain ⟨q, r⟩ := gv j hj
    rw [r] at e'
    exact h.apart j q k k' e e'
  · obtain ⟨q, r⟩ := gv j hj
    obtain ⟨q2, r2⟩ := gv i (by omega)
    rw [r] at e'
    rw [r2] at e
    exact h.aparts i j hij q k k' e e'
  · refine KeptR.trans ((KeptR.refl lo hi w).set ⟨hgl.1, hgh⟩ _) (KeptR.of_grown gr (fun k e => ⟨(hxb k e).1, (hxb k e).2.1⟩))
set_option maxHeartbeats 4000000 in
theorem bdMark (ad : Option Addr) (cap : Nat) (Bs : List Bd) (k0 : Int) (lo hi : Nat) (w : World) (h : NOwn lo hi w (.slice ad Bs.length cap) Bs) (hs : hi ≤ w.heap.size) (hl : Bs.length ≤ 100) (hls : ∀ i, i < Bs.length → (Bs.getD i Bd.nil).L.length ≤ 100) (hk0 : 0 ≤ k0) (hk1 : k0 ≤ 100000000) :
    Calls Try.prog 32 #[.slice ad Bs.length cap, .int .i64 k0] w fun e w' => e = .returned (.int .i64 (k0 + (kTo Bs Bs.length : Int))) ∧ NOwn lo hi w' (.slice ad Bs.length cap) (marksN Bs k0 Bs.length) ∧ KeptR lo hi w w' := by
  by_cases hz : Bs.length = 0
  · obtain rfl : Bs = [] := List.eq_nil_of_length_eq_zero hz
    go_enter Try.func32, Try.ntmps32
    go_wp2
    refine wp_loop_rounds 1 ?_; rw [rounds_succ]
    go_wp2
    go_ret
    exact ⟨by simp [kTo], by first | (rw [marksN_zero]; exact h) | exact h, KeptR.refl _ _ _⟩
  obtain ⟨g, rfl⟩ : ∃ g, ad = some ⟨g, 0, none⟩ := by
    rcases h.row.2 with ⟨_, q⟩ | ⟨g, cap, cur, q, _⟩
    · omega
    · simp only [Value.slice.injEq] at q
      exact ⟨g, q.1⟩
  have hkb : ∀ j, j ≤ Bs.length → kTo Bs j ≤ 200000 := fun j hj => by
    have h1 : ∀ i, i ≤ Bs.length → lTo Bs i ≤ 100 * i := by
      intro i
      induction i with
      | zero => intro _; exact Nat.le_refl _
      | succ i ih =>
        intro hi
        have := ih (by omega)
        have := hls i (by omega)
        show lTo Bs i + _ ≤ _
        omega
    have := h1 j hj
    rw [kTo_lTo]
    omega
  have M0 : NOwn lo hi w (.slice (some ⟨g, 0, none⟩) Bs.length cap) (marksN Bs k0 0) := by rw [marksN_zero]; exact h
  clear h hz
  go_enter Try.func32, Try.ntmps32
  go_wp2
  go_loopw [1, 5] (fun q i wr => ∃ (k : Nat) (x : Int), k ≤ Bs.length ∧ i = .int .i64 k ∧ q = .int .i64 x ∧ Hid (x = k0 + (kTo Bs k : Int)) ∧ NOwn lo hi wr (.slice (some ⟨g, 0, none⟩) Bs.length cap) (marksN Bs k0 k) ∧ KeptR lo hi w wr) (fun _ i _ => Bs.length - (intOf i).toNat)
  case atStart => exact ⟨0, k0, Nat.zero_le _, rfl, rfl, by unfold Hid; simp [kTo], M0, KeptR.refl _ _ _⟩
  case round =>
    obtain ⟨k, x, hk, rfl, rfl, hx, M, KR⟩ := hrel
    clear M0
    by_cases hlt : k < Bs.length
    · have hx0 : 0 ≤ x := by have := hx.out; omega
      have hx1 : x ≤ 100200000 := by have := hx.out; have := hkb k (by omega); omega
      have hlk := hls k hlt
      have hb3 : Hid (kTo Bs (k + 1) = kTo Bs k + 1 + 11 * (Bs.getD k Bd.nil).L.length) := rfl
      have hml : Hid ((marksN Bs k0 k).length = Bs.length) := marksN_len _ _ _
      have hck := M.view.2.at_ (i := k) (by rw [hml.out]; exact hlt)
      have hnk := M.nest k (by rw [hml.out]; exact hlt)
      rw [marksN_get Bs k0 k hlt, if_neg (by omega)] at hck hnk
      have M' : NOwn lo hi wr (.slice (some ⟨g, 0, none⟩) (marksN Bs k0 k).length cap) (marksN Bs k0 k) := by rw [hml.out]; exact M
      have hfz := M'.row.frozen (k * 2)
      have hsz : hi ≤ wr.heap.size := Nat.le_trans hs KR.size
      have hmv : Hid ((mkd Bs k0 k).v = ((marksN Bs k0 k).getD k Bd.nil).v) := by unfold Hid; rw [mkd_v, marksN_v _ _ _ hlt]
      have hgap := fun q => M.apart k (by rw [hml.out]; exact hlt) g q rfl
      rw [marksN_v _ _ _ hlt] at hgap
      have st := fun (w2 : World) => M'.mark (w2 := w2) (n := k) hsz (by rw [hml.out]; exact hlt) (x := mkd Bs k0 k) hmv.out
      rw [mkd_v, marksN_succ Bs k0 hlt] at st
      simp only [marksN_len] at st
      have hmi : (mkd Bs k0 k).id = x := hx.out.symm
      have hmL : (mkd Bs k0 k).L = (List.range (Bs.getD k Bd.nil).L.length).map (ptMk (x + 1)) := by unfold mkd; rw [hx.out]
      rw [hmi, hmL] at st
      obtain ⟨⟨id, a1, c1, L1⟩, hh⟩ : ∃ m, Bs.getD k Bd.nil = m := ⟨_, rfl⟩
      rw [hh] at hck hnk hlk hgap hb3
      simp only [hh] at st
      unfold Bd.v at hnk hgap st
      dsimp only at hnk hlk hgap st
      obtain ⟨c0, c1_⟩ := hck
      rw [Nat.zero_add] at c0 c1_
      dsimp only at c0 c1_
      have c1' : (wr.setCell ⟨g, k * 2, none⟩ (.int .i64 x)).cell? ⟨g, k * 2 + 1, none⟩ = some (.slice a1 L1.length c1) := (pset_else (by simp)).trans c1_
      have hn1 : FOwn ptEnc 11 68 lo (wr.setCell ⟨g, k * 2, none⟩ (.int .i64 x)) (.slice a1 L1.length c1) L1 := hnk.keep (fun j e => Below.heap_setCell _ _ _ _ (fun q => hgap j e q.symm))
      clear hh M M' hnk hgap hmi hmL hmv
      go_wp2_with fail
      go_at_call 57
      refine (ptMark a1 c1 (x + 1) lo L1 _ hn1 (by omega) (by omega) (by omega)).mono ?_
      rintro e w2 ⟨rfl, o2, gr⟩
      obtain ⟨M1, K1⟩ := st w2 o2 gr
      clear st o2 gr hn1
      go_wp2
      go_roundw
      case rel => exact ⟨k + 1, x + 1 + 11 * (L1.length : Int), by omega, by go_num, rfl, by have := hx.out; have := hb3.out; unfold Hid; omega, M1, KR.trans K1⟩
      case measure => simp [intOf]; omega
    · obtain rfl : k = Bs.length := by omega
      go_wp2
      go_ret
      exact ⟨by rw [← hx.out]; rfl, M, KR⟩
end Go.Proofs.Ytdfjfodfnildiab
namespace Go.Proofs.Ytdfjfodfnildiab
open Go.ChangeShapes Go.WideShapes Go.ChangeAt Go.RowKit
open Go.ChangeMaps (open_string shut_string)
set_option linter.unusedVariables false
set_option maxRecDepth 100000

/-- The marks that the law lays upon one, from s on. -/
def lkMk (s : Int) (i : Nat) : Lk := ⟨(s + 4 * (i : Int)), (s + 4 * (i : Int)) + 1, (s + 4 * (i : Int)) + 1 + 1, (s + 4 * (i : Int)) + 1 + 1 + 1⟩
set_option maxHeartbeats 4000000 in
theorem lkMark (ad : Option Addr) (cap : Nat) (s : Int) (base : Nat) (L : List Lk) (w : World) (hr : FOwn lkEnc 4 70 base w (.slice ad L.length cap) L) (hl : L.length ≤ 1048576) (s0 : 0 ≤ s) (s1 : s ≤ 1000000000000) :
    Calls Try.prog 33 #[.slice ad L.length cap, .int .i64 s] w fun e w' => e = .returned (.int .i64 (s + 4 * (L.length : Int))) ∧ FOwn lkEnc 4 70 base w' (.slice ad L.length cap) ((List.range L.length).map (lkMk s)) ∧ w.grownBy w' (Value.slice ad L.length cap).ownBlock := by
  by_cases hz : L.length = 0
  · obtain rfl : L = [] := List.eq_nil_of_length_eq_zero hz
    go_enter Try.func33, Try.ntmps33
    go_wp2
    refine wp_loop_rounds 1 ?_; rw [rounds_succ]
    go_wp2
    go_ret
    exact ⟨by simp, hr, ⟨rfl, rfl, rfl, Nat.le_refl _, fun _ _ _ => rfl⟩⟩
  obtain ⟨g, rfl⟩ : ∃ g, ad = some ⟨g, 0, none⟩ := by
    rcases hr.2 with ⟨_, q⟩ | ⟨g, cap, cur, q, _⟩
    · omega
    · simp only [Value.slice.injEq] at q
      exact ⟨g, q.1⟩
  have M0 : FOwn lkEnc 4 70 base w (.slice (some ⟨g, 0, none⟩) L.length cap) (markd (lkMk s) L 0) := by rw [markd_zero]; exact hr
  have g0 : w.grownBy w (some g) := ⟨rfl, rfl, rfl, Nat.le_refl _, fun _ _ _ => rfl⟩
  clear hr hz
  go_enter Try.func33, Try.ntmps33
  go_wp2
  go_loopw [1, 5] (fun q i wr => ∃ k : Nat, k ≤ L.length ∧ i = .int .i64 k ∧ q = .int .i64 (s + 4 * (k : Int)) ∧ FOwn lkEnc 4 70 base wr (.slice (some ⟨g, 0, none⟩) L.length cap) (markd (lkMk s) L k) ∧ w.grownBy wr (some g)) (fun _ i _ => L.length - (intOf i).toNat)
  case atStart => exact ⟨0, Nat.zero_le _, rfl, by simp, M0, g0⟩
  case round =>
    obtain ⟨k, hk, rfl, rfl, M, gr⟩ := hrel
    clear M0 g0
    have hml := markd_len (mk := lkMk s) hk
    by_cases hlt : k < L.length
    · rw [← hml] at M
      have hk2 : k < (markd (lkMk s) L k).length := by rw [hml]; exact hlt
      obtain ⟨h, hh⟩ : ∃ h, (markd (lkMk s) L k).getD k Lk.nil = h := ⟨_, rfl⟩
      have hck : LkAtO wr g (k * 4) h := by
        rw [← hh]
        exact lkAtO_of (M.cell lkEnc_len Lk.nil hk2)
      have ff := M.frozen
      have f0 := ff (k * 4)
      have f1 := ff (k * 4 + 1)
      have f2 := ff (k * 4 + 2)
      have f3 := ff (k * 4 + 3)
      have M1 := M.set lkEnc_len (by omega) hk2 (lkMk s k)
      rw [markd_set hlt, lkPut, hml] at M1
      have G1 := grown_putAll (lkEnc (lkMk s k)) (k * 4) gr
      rw [lkPut] at G1
      unfold lkMk at M1 G1
      dsimp only at M1 G1
      clear M gr ff hh hml hk2
      obtain ⟨c0, c1, c2, c3⟩ := hck
      generalize hK : s + 4 * (k : Int) = K at M1 G1 ⊢
      have K0 : 0 ≤ K := by omega
      have K1 : K ≤ 1100000000000 := by omega
      replace hK : Hid _ := hK
      go_wp2
      go_roundw
      case rel => exact ⟨k + 1, by omega, by go_num, by have := hK.out; go_num, M1, G1⟩
      case measure => simp [intOf]; omega
    · obtain rfl : k = L.length := by omega
      rw [markd_all] at M
      go_wp2
      go_ret
      exact ⟨rfl, M, gr⟩
end Go.Proofs.Ytdfjfodfnildiab
namespace Go.Proofs.Ytdfjfodfnildiab
open Go.ChangeShapes Go.WideShapes Go.ChangeAt Go.RowKit
open Go.ChangeMaps (open_string shut_string)
set_option linter.unusedVariables false
set_option maxRecDepth 100000

theorem NewOut.small {ids : List Int} {K : List Lk} {ok : Bool} {Cs : List Bd} {KL : List Lk} (h : NewOut ids K ok Cs KL) : Cs.length ≤ 5 ∧ (∀ i, i < Cs.length → (Cs.getD i Bd.nil).L.length ≤ 4) ∧ KL.length ≤ K.length := by
  cases ok with
  | true =>
    obtain ⟨d, rfl⟩ := h.yes rfl
    have hl : Cs.length = ids.length := by
      have := congrArg List.length d
      rw [netN_len] at this
      simpa [dB] using this
    refine ⟨by rw [hl]; exact (h.yn.1 rfl).1, fun i hi => ?_, Nat.le_refl _⟩
    have := congrArg (fun D => D.getD i Bg.nil) d
    simp only [bd_get] at this
    rw [netN_get _ _ (by omega)] at this
    have e : (Cs.getD i Bd.nil).L = (newBg (ids.getD i 0) (ofK KL i)).L := congrArg Bg.L this
    rw [e]
    exact newBg_len _ _
  | false =>
    obtain ⟨rfl, rfl⟩ := h.no rfl
    exact ⟨by simp, fun i hi => absurd hi (by simp), by simp⟩
theorem NewOut.same {ids : List Int} {K : List Lk} {ok ok' : Bool} {Cs Cs' : List Bd} {KL KL' : List Lk} (h : NewOut ids K ok Cs KL) (h' : NewOut ids K ok' Cs' KL') : ok' = ok ∧ Cs'.map Bd.d = Cs.map Bd.d ∧ KL' = KL := by
  have e : ok' = ok := Bool.eq_iff_iff.2 (h'.yn.trans h.yn.symm)
  subst e
  cases ok' with
  | true => exact ⟨rfl, (h'.yes rfl).1.trans (h.yes rfl).1.symm, (h'.yes rfl).2.trans (h.yes rfl).2.symm⟩
  | false => exact ⟨rfl, by rw [(h'.no rfl).1, (h.no rfl).1], (h'.no rfl).2.trans (h.no rfl).2.symm⟩
set_option maxHeartbeats 2000000 in
theorem netMark (adB : Option Addr) (cB : Nat) (Cs : List Bd) (adL : Option Addr) (cL : Nat) (K : List Lk) (k0 : Int) (lo mid hi : Nat) (w : World) (h : NetOwn lo mid hi w (.slice adB Cs.length cB) Cs (.slice adL K.length cL) K) (hl : Cs.length ≤ 100) (hls : ∀ i, i < Cs.length → (Cs.getD i Bd.nil).L.length ≤ 100) (hk : K.length ≤ 1048576) (hk0 : 0 ≤ k0) (hk1 : k0 ≤ 100000000) :
    Calls Try.prog 14 #[.agg #[.slice adB Cs.length cB, .slice adL K.length cL], .int .i64 k0] w fun e w' => e = .returned (.int .i64 (k0 + (kTo Cs Cs.length : Int) + 4 * (K.length : Int))) ∧ NetOwn lo mid hi w' (.slice adB Cs.length cB) (marksN Cs k0 Cs.length) (.slice adL K.length cL) ((List.range K.length).map (lkMk (k0 + (kTo Cs Cs.length : Int)))) ∧ KeptR lo hi w w' := by
  have hkb : (kTo Cs Cs.length : Int) ≤ 200000 := by
    have h1 : ∀ i, i ≤ Cs.length → lTo Cs i ≤ 100 * i := by
      intro i
      induction i with
      | zero => intro _; exact Nat.le_refl _
      | succ i ih =>
        intro hi
        have := ih (by omega)
        have := hls i (by omega)
        show lTo Cs i + _ ≤ _
        omega
    have := h1 Cs.length (Nat.le_refl _)
    rw [kTo_lTo]
    omega
  obtain ⟨y, hy⟩ : ∃ y, y = w.alloc (Obj.cells #[.slice adB Cs.length cB, .slice adL K.length cL] 31) := ⟨_, rfl⟩
  have k0y : Below w.heap.size w y := by rw [hy]; exact below_new _
  have A0 : NeAt y w.heap.size (.slice adB Cs.length cB) (.slice adL K.length cL) := by rw [hy]; exact NeAt.new w _
  have hy' := h.later k0y
  have hhs := h.hs
  have hlm := h.lm
  have hmh := h.mh
  obtain ⟨s, hs⟩ : ∃ s, s = k0 + (kTo Cs Cs.length : Int) := ⟨_, rfl⟩
  rw [← hs]
  have s0 : 0 ≤ s := by omega
  have s1 : s ≤ 100200000 := by omega
  replace hs : Hid _ := hs
  go_enter Try.func14, Try.ntmps14
  go_wp2_with fail
  go_at_call 32
  rw [← hy]
  clear hy
  refine (bdMark adB cB Cs k0 mid hi y hy'.own hy'.hs hl hls hk0 hk1).mono ?_
  rintro e w1 ⟨rfl, o1, kr1⟩
  rw [← hs.out]
  have A1 := A0.keep (kr1.block _ A0.lt (.inr (by omega)))
  have o2 : FOwn lkEnc 4 70 lo w1 (.slice adL K.length cL) K := hy'.own2.keep (fun g e => kr1.block g (hy'.own2.lt g e).2 (.inl (h.khi g e)))
  have hz1 := kr1.size
  have hz0 := k0y.size
  clear A0
  obtain ⟨a0, a1⟩ := A1
  go_wp2_with fail
  go_at_call 33
  refine (lkMark adL cL s lo K w1 o2 hk s0 (by omega)).mono ?_
  rintro e w2 ⟨rfl, o3, gr⟩
  have hkl : ∀ g, (Value.slice adL K.length cL).ownBlock = some g → lo ≤ g ∧ g < mid := fun g e => ⟨(o2.lt g e).1, h.khi g e⟩
  have hz2 := gr.size
  have N2 : NetOwn lo mid hi w2 (.slice adB Cs.length cB) (marksN Cs k0 Cs.length) (.slice adL K.length cL) ((List.range K.length).map (lkMk s)) :=
    ⟨o1.keep (fun g h1 h2 => gr.block g (by omega) (fun e => by have := hkl g e.symm; omega)), o3, h.khi, hlm, hmh, by omega⟩
  have KR : KeptR lo hi w w2 := ((KeptR.of_below k0y).trans (kr1.wide hlm (Nat.le_refl _))).trans (KeptR.of_grown gr (fun k e => by have := hkl k e; omega))
  clear gr o3 o1 kr1 o2
  go_wp2
  go_ret
  exact ⟨rfl, N2, KR⟩
end Go.Proofs.Ytdfjfodfnildiab
namespace Go.Proofs.Ytdfjfodfnildiab
open Go.ChangeShapes Go.WideShapes Go.ChangeAt Go.RowKit
open Go.ChangeMaps (open_string shut_string)
set_option linter.unusedVariables false
set_option maxRecDepth 100000

theorem Try.info5' : (Try.prog.info? 5).map (fun i => (i.zero, i.size, i.bytes)) = some (some (.int .u8 0), 1, 1) := by kernel_rfl
/-- What a loop that fills the block B has done behind k rounds. -/
def Filled (B len : Nat) (f : Nat → Int) (k : Nat) (w wr : World) : Prop :=
  Below B w wr ∧ B < wr.heap.size ∧ (∀ j, j < len → ∃ u, wr.cell? ⟨B, j, none⟩ = some u) ∧ (∀ j, j < len → wr.frozen? ⟨B, j, none⟩ = false) ∧ ∀ j, j < k → wr.cell? ⟨B, j, none⟩ = some (.int .u8 (f j))
theorem Filled.step {B len : Nat} {f : Nat → Int} {k : Nat} {w wr : World} (h : Filled B len f k w wr) (hk : k < len) : Filled B len f (k + 1) w (wr.setCell ⟨B, k, none⟩ (.int .u8 (f k))) := by
  obtain ⟨h1, h2, h3, h4, h5⟩ := h
  refine ⟨h1.setCell (Nat.le_refl _) _, by simpa using h2, ?_, ?_, ?_⟩
  · intro j hj
    exact cell?_setCell_some (h3 j hj).choose_spec
  · intro j hj
    simpa using h4 j hj
  · intro j hj
    by_cases e : j = k
    · subst e
      exact cell_set_same (h3 j hk)
    · rw [cell_set_ne e]
      exact h5 j (by omega)

theorem filled_made {w w1 : World} {len : Nat} {f : Nat → Int} {xs : List Value} (hown : w1.ownsRow w.heap.size 5 1 (.slice (some ⟨w.heap.size, 0, none⟩) len len) len xs) (hgrow : w.grownBy w1 none) : Filled w.heap.size len f 0 w w1 := by
  refine ⟨(Below.refl _ _).grown hgrow (Nat.le_refl _) (by simp), ?_, ?_, ?_, fun j hj => by omega⟩
  · rcases hown.2 with ⟨h, _⟩ | ⟨g, cap, cur, h, _, hg, _⟩
    · simp at h
    · simp only [Value.slice.injEq, Option.some.injEq, Addr.mk.injEq, and_true, true_and] at h
      obtain ⟨rfl, _⟩ := h
      exact (Array.getElem?_eq_some_iff.1 hg).1
  · intro j hj
    have hx := hown.1
    rw [hown.cellAt j (by omega)]
    exact ⟨xs[j]'(by omega), List.getElem?_eq_getElem (by omega)⟩
  · intro j hj
    exact hown.frozenAt j

/-- What markByteS has done behind k rounds, at a row at (b, off). -/
def Marked (b off len : Nat) (m : Int) (k : Nat) (w wr : World) : Prop :=
  w.grownBy wr (some b) ∧ (∀ j, j < len → (∃ u, wr.cell? ⟨b, off + j, none⟩ = some u) ∧ wr.frozen? ⟨b, off + j, none⟩ = false) ∧ ∀ j, j < k → wr.cell? ⟨b, off + j, none⟩ = some (.int .u8 ((m + j) % 256))
theorem Marked.step {b off len : Nat} {m : Int} {k : Nat} {w wr : World} (h : Marked b off len m k w wr) (hk : k < len) : Marked b off len m (k + 1) w (wr.setCell ⟨b, off + k, none⟩ (.int .u8 ((m + k) % 256))) := by
  obtain ⟨h1, h2, h3⟩ := h
  refine ⟨⟨h1.os, h1.tape, h1.output, by simpa using h1.size, fun j hj hne => ?_⟩, fun j hj => ⟨?_, ?_⟩, fun j hj => ?_⟩
  · rw [Below.heap_setCell _ _ _ _ (fun e => hne (by rw [e]))]
    exact h1.block j hj hne
  · exact cell?_setCell_some (h2 j hj).1.choose_spec
  · simpa using (h2 j hj).2
  · by_cases e : j = k
    · subst e
      exact cell_set_same (h2 j hk).1
    · rw [cell_set_ne (by omega)]
      exact h3 j (by omega)

theorem mark_below {w w' : World} {ad : Option Addr} {len B : Nat} {n : Nat} (h : w' = w.drewN n ∨ ∃ a, ad = some a ∧ 0 < len ∧ (w.drewN n).grownBy w' (some a.block)) (hB : ∀ a, ad = some a → B ≤ a.block) (hs : B ≤ w.heap.size) : Below B w w' := by
  rcases h with rfl | ⟨a, e, _, hg⟩
  · exact below_drewN (Below.refl _ _) n
  · refine (below_drewN (Below.refl _ _) n).trans ⟨hg.os, hg.tape, hg.output, hg.size, fun k hk => ?_⟩
    exact hg.block k (Nat.lt_of_lt_of_le hk hs) (by have := hB a e; simp; omega)


end Go.Proofs.Ytdfjfodfnildiab
namespace Go.Proofs.Ytdfjfodfnildiab
open Go.ChangeShapes Go.WideShapes Go.ChangeAt Go.RowKit
open Go.ChangeMaps (open_string shut_string)
set_option linter.unusedVariables false
set_option maxRecDepth 100000

theorem ViewI.mk0 {w : World} {b len : Nat} {f : Nat → Int} (h : ∀ i, i < len → w.cell? ⟨b, i, none⟩ = some (.int .i64 (f i))) : ViewI w (some ⟨b, 0, none⟩) len f :=
  fun _ => ⟨b, 0, rfl, fun i hi => by rw [Nat.zero_add]; exact h i hi⟩
theorem ViewI.congr {w : World} {ad : Option Addr} {len : Nat} {f g : Nat → Int} (h : ViewI w ad len f) (e : ∀ i, i < len → f i = g i) : ViewI w ad len g :=
  fun hp => by
    obtain ⟨b, off, e', hc⟩ := h hp
    exact ⟨b, off, e', fun i hi => by rw [← e i hi]; exact hc i hi⟩
set_option maxHeartbeats 400000 in
theorem eqInts (ad ad' : Option Addr) (len cap cap' : Nat) (f : Nat → Int) (w : World) (hv : ViewI w ad len f) (hv' : ViewI w ad' len f) (hl : len ≤ 1048576) :
    Calls Try.prog 13 #[.slice ad len cap, .slice ad' len cap'] w fun e w' => e = .returned (.bool true) ∧ ∃ n, w' = w.drewN n := by
  go_enter Try.func13, Try.ntmps13
  go_wp2
  go_loopw [5] (fun i wr => ∃ k n : Nat, k ≤ len ∧ i = .int .i64 k ∧ wr = w.drewN n) (fun i _ => len - (intOf i).toNat)
  case atStart => exact ⟨0, 0, Nat.zero_le _, rfl, rfl⟩
  case round =>
    obtain ⟨k, n, hk, rfl, rfl⟩ := hrel
    by_cases hlt : k < len
    · obtain ⟨b, off, rfl, hc⟩ := hv (by omega)
      obtain ⟨b', off', rfl, hc'⟩ := hv' (by omega)
      have hck := hc k hlt
      have hck' := hc' k hlt
      go_wp2
      go_quiet (fail)
      go_wp2
      go_roundw
      case rel => exact ⟨k + 1, _, by omega, by go_num, rfl⟩
      case measure => simp [intOf]; omega
    · obtain rfl : k = len := by omega
      go_wp2
      go_ret
      exact ⟨rfl, _, rfl⟩
theorem Try.infoI' : (Try.prog.info? 3).map (fun i => (i.zero, i.size, i.bytes)) = some (some (.int .i64 0), 1, 8) := by kernel_rfl
/-- What a loop that fills the block B has done behind k rounds. -/
def FilledI (B len : Nat) (f : Nat → Int) (k : Nat) (w wr : World) : Prop :=
  Below B w wr ∧ B < wr.heap.size ∧ (∀ j, j < len → ∃ u, wr.cell? ⟨B, j, none⟩ = some u) ∧ (∀ j, j < len → wr.frozen? ⟨B, j, none⟩ = false) ∧ ∀ j, j < k → wr.cell? ⟨B, j, none⟩ = some (.int .i64 (f j))
theorem FilledI.step {B len : Nat} {f : Nat → Int} {k : Nat} {w wr : World} (h : FilledI B len f k w wr) (hk : k < len) : FilledI B len f (k + 1) w (wr.setCell ⟨B, k, none⟩ (.int .i64 (f k))) := by
  obtain ⟨h1, h2, h3, h4, h5⟩ := h
  refine ⟨h1.setCell (Nat.le_refl _) _, by simpa using h2, ?_, ?_, ?_⟩
  · intro j hj
    exact cell?_setCell_some (h3 j hj).choose_spec
  · intro j hj
    simpa using h4 j hj
  · intro j hj
    by_cases e : j = k
    · subst e
      exact cell_set_same (h3 j hk)
    · rw [cell_set_ne e]
      exact h5 j (by omega)

theorem filledI_made {w w1 : World} {len : Nat} {f : Nat → Int} {xs : List Value} (hown : w1.ownsRow w.heap.size 3 1 (.slice (some ⟨w.heap.size, 0, none⟩) len len) len xs) (hgrow : w.grownBy w1 none) : FilledI w.heap.size len f 0 w w1 := by
  refine ⟨(Below.refl _ _).grown hgrow (Nat.le_refl _) (by simp), ?_, ?_, ?_, fun j hj => by omega⟩
  · rcases hown.2 with ⟨h, _⟩ | ⟨g, cap, cur, h, _, hg, _⟩
    · simp at h
    · simp only [Value.slice.injEq, Option.some.injEq, Addr.mk.injEq, and_true, true_and] at h
      obtain ⟨rfl, _⟩ := h
      exact (Array.getElem?_eq_some_iff.1 hg).1
  · intro j hj
    have hx := hown.1
    rw [hown.cellAt j (by omega)]
    exact ⟨xs[j]'(by omega), List.getElem?_eq_getElem (by omega)⟩
  · intro j hj
    exact hown.frozenAt j

/-- What markByteS has done behind k rounds, at a row at (b, off). -/
def MarkedI (b off len : Nat) (m : Int) (k : Nat) (w wr : World) : Prop :=
  w.grownBy wr (some b) ∧ (∀ j, j < len → (∃ u, wr.cell? ⟨b, off + j, none⟩ = some u) ∧ wr.frozen? ⟨b, off + j, none⟩ = false) ∧ ∀ j, j < k → wr.cell? ⟨b, off + j, none⟩ = some (.int .i64 (m + j))
theorem MarkedI.step {b off len : Nat} {m : Int} {k : Nat} {w wr : World} (h : MarkedI b off len m k w wr) (hk : k < len) : MarkedI b off len m (k + 1) w (wr.setCell ⟨b, off + k, none⟩ (.int .i64 (m + k))) := by
  obtain ⟨h1, h2, h3⟩ := h
  refine ⟨⟨h1.os, h1.tape, h1.output, by simpa using h1.size, fun j hj hne => ?_⟩, fun j hj => ⟨?_, ?_⟩, fun j hj => ?_⟩
  · rw [Below.heap_setCell _ _ _ _ (fun e => hne (by rw [e]))]
    exact h1.block j hj hne
  · exact cell?_setCell_some (h2 j hj).1.choose_spec
  · simpa using (h2 j hj).2
  · by_cases e : j = k
    · subst e
      exact cell_set_same (h2 j hk).1
    · rw [cell_set_ne (by omega)]
      exact h3 j (by omega)

set_option maxHeartbeats 400000 in
theorem markInts (ad : Option Addr) (len cap : Nat) (m : Int) (w : World) (hr : Room w ad len) (hl : len ≤ 1048576) (hm0 : 0 ≤ m) (hm1 : m ≤ 1000000000000) :
    Calls Try.prog 15 #[.slice ad len cap, .int .i64 m] w fun e w' => e = .returned (.int .i64 (m + len)) ∧ ViewI w' ad len (fun i => m + i) ∧ Room w' ad len ∧ (w' = w ∨ ∃ a, ad = some a ∧ 0 < len ∧ w.grownBy w' (some a.block)) := by
  by_cases hz : len = 0
  · subst hz
    go_enter Try.func15, Try.ntmps15
    go_wp2
    refine wp_loop_rounds 1 ?_; rw [rounds_succ]
    go_wp2
    go_ret
    exact ⟨by simp, fun h => absurd h (by omega), fun h => absurd h (by omega), .inl rfl⟩
  · obtain ⟨b, off, rfl, hc⟩ := hr (by omega)
    have M0 : MarkedI b off len m 0 w w := ⟨⟨rfl, rfl, rfl, Nat.le_refl _, fun _ _ _ => rfl⟩, hc, fun j hj => absurd hj (by omega)⟩
    clear hc hr
    go_enter Try.func15, Try.ntmps15
    go_wp2
    go_loopw [1, 5] (fun q i wr => ∃ k : Nat, k ≤ len ∧ i = .int .i64 k ∧ q = .int .i64 (m + k) ∧ MarkedI b off len m k w wr) (fun _ i _ => len - (intOf i).toNat)
    case atStart => exact ⟨0, Nat.zero_le _, rfl, by simp, M0⟩
    case round =>
      obtain ⟨k, hk, rfl, rfl, M⟩ := hrel
      clear M0
      by_cases hlt : k < len
      · obtain ⟨u, hu⟩ := (M.2.1 k hlt).1
        have hfz := (M.2.1 k hlt).2
        have M1 := M.step hlt
        clear M
        go_wp2
        go_roundw
        case rel => exact ⟨k + 1, by omega, by go_num, by go_num, by simpa using M1⟩
        case measure => simp [intOf]; omega
      · obtain rfl : k = len := by omega
        go_wp2
        go_ret
        exact ⟨rfl, fun _ => ⟨b, off, rfl, M.2.2⟩, fun _ => ⟨b, off, rfl, M.2.1⟩, .inr ⟨_, rfl, by omega, M.1⟩⟩



end Go.Proofs.Ytdfjfodfnildiab
namespace Go.Proofs.Ytdfjfodfnildiab
open Go.ChangeShapes Go.WideShapes Go.ChangeAt Go.RowKit
open Go.ChangeMaps (open_string shut_string)
set_option linter.unusedVariables false
set_option maxRecDepth 100000

/-- What is known of a list of numbers that comes in. -/
structure IntsIn (w : World) (ad : Option Addr) (ids : List Int) : Prop where
  lm : ids.length ≤ maxLen
  hv : ViewI w ad ids.length (fun i => ids.getD i 0)
  hB : ∀ a, ad = some a → 0 < ids.length → a.block < w.heap.size
set_option maxRecDepth 100000 in
theorem intsIn_open {H : Type} {enc : TypeId × Value → H} {w : World} {r : Reach} {b0 : Nat} {v : Value} {d : DataW H} {p : List MemPlace} (hv : Value.okWide Try.prog w r b0 35 v) (h : DataW.Trod enc Try.prog w 0 (fun _ => true) true 35 v d p) :
    ∃ ad cap ids, v = .slice ad (List.length ids) cap ∧ IntsIn w ad ids := by
  obtain ⟨n, hn⟩ := h
  obtain ⟨a0, len0, cap0, rfl⟩ := okWide_slice (P := Try.prog) (t := 35) (e := 3) Try.underlying35 hv
  have hcell0 : ∀ x, (Value.slice a0 len0 cap0).cells.toList = [x] → Value.slice a0 len0 cap0 = x := fun x h => by simpa [Value.cells] using h
  rcases open_ints Try.underlying35 Try.underlying3 (by kernel_rfl) hn with ⟨hcs, _⟩ | ⟨x, l, cp, zs, hcs, _, hl, hm, hz, _, hcell, hwz⟩
  · exact ⟨none, 0, [], hcell0 _ hcs, by simp, fun h => absurd h (by simp), fun a h => by simp at h⟩
  · simp at hz
    refine ⟨some x, cp, (List.range l).map (fun i => zs.getD i 0), by rw [hcell0 _ hcs]; simp, by simp; omega, fun hp => ?_, fun a h hp => ?_⟩
    · simp at hp
      obtain ⟨b, off, rfl, hc⟩ := ints_at hcell (by omega)
      refine ⟨b, off, rfl, fun i hi => ?_⟩
      simp at hi
      rw [hc i (by omega)]
      simp [List.getD, hi]
    · obtain rfl : x = a := by simpa using h
      simp at hp
      have hc := hcell 0 (by omega)
      simpa [Addr.add] using World.block_lt_of_cell? w _ hc
/-- What is known of a list of links that comes in. -/
structure LinksIn (w : World) (ad : Option Addr) (cap : Nat) (K : List Lk) : Prop where
  lm : K.length ≤ maxLen
  hv : FView lkEnc w ad K
  hn : ad = none → cap = 0
set_option maxRecDepth 100000 in
theorem linksIn_open {H : Type} {enc : TypeId × Value → H} {w : World} {r : Reach} {b0 : Nat} {v : Value} {d : DataW H} {p : List MemPlace} (hv : Value.okWide Try.prog w r b0 23 v) (h : DataW.Trod enc Try.prog w 0 (fun _ => true) true 23 v d p) :
    ∃ ad cap K, v = .slice ad (List.length K) cap ∧ LinksIn w ad cap K := by
  obtain ⟨n, hn⟩ := h
  obtain ⟨a0, len0, cap0, rfl⟩ := okWide_slice (P := Try.prog) (t := 23) (e := 76) Try.underlying23 hv
  obtain ⟨ad, cap, K, e, m, hV, hz⟩ := lkRow_open (v := .slice a0 len0 cap0) (by simpa [Value.cells] using hn)
  exact ⟨ad, cap, K, e, m, hV, hz⟩
/-- Numbers that a call made: they are read, and may be written. -/
structure IRow (lo : Nat) (w : World) (g : Nat) (n : Nat) (f : Nat → Int) : Prop where
  v : ViewI w (some ⟨g, 0, none⟩) n f
  r : Room w (some ⟨g, 0, none⟩) n
  lt : lo ≤ g ∧ g < w.heap.size
theorem IRow.later {lo : Nat} {w w' : World} {g n : Nat} {f : Nat → Int} (h : IRow lo w g n f) (k : Below w.heap.size w w') : IRow lo w' g n f :=
  ⟨h.v.carry (fun a e _ => by cases e; exact k.block g h.lt.2), h.r.carry (fun a e _ => by cases e; exact k.block g h.lt.2), h.lt.1, Nat.lt_of_lt_of_le h.lt.2 k.size⟩
theorem intEq (ad ad' : Option Addr) (cap cap' : Nat) (n : Nat) (f : Nat → Int) (w : World) (hv : ViewI w ad n f) (hv' : ViewI w ad' n f) (hl : n ≤ 1048576) :
    Calls Try.prog 13 #[.slice ad n cap, .slice ad' n cap'] w fun e w' => e = .returned (.bool true) ∧ Below w.heap.size w w' := by
  refine (eqInts ad ad' n cap cap' f w hv hv' hl).mono ?_
  rintro e w' ⟨rfl, m, rfl⟩
  exact ⟨rfl, ⟨rfl, rfl, rfl, Nat.le_refl _, fun _ _ => rfl⟩⟩
theorem intMark (g cap : Nat) (m : Int) (lo n : Nat) (f : Nat → Int) (w : World) (h : IRow lo w g n f) (hl : n ≤ 1048576) (hm0 : 0 ≤ m) (hm1 : m ≤ 1000000000000) :
    Calls Try.prog 15 #[.slice (some ⟨g, 0, none⟩) n cap, .int .i64 m] w fun e w' => e = .returned (.int .i64 (m + n)) ∧ KeptR g (g + 1) w w' := by
  refine (markInts (some ⟨g, 0, none⟩) n cap m w h.r hl hm0 hm1).mono ?_
  rintro e w' ⟨rfl, _, _, q⟩
  refine ⟨rfl, ?_⟩
  rcases q with rfl | ⟨a, e, _, gr⟩
  · exact KeptR.refl _ _ _
  · cases e
    exact KeptR.of_grown gr (fun k e => by simp only [Option.some.injEq] at e; omega)


end Go.Proofs.Ytdfjfodfnildiab
namespace Go.Proofs.Ytdfjfodfnildiab
open Go.ChangeShapes Go.WideShapes Go.ChangeAt Go.RowKit
open Go.ChangeMaps (open_string shut_string)
set_option linter.unusedVariables false
set_option maxRecDepth 100000

set_option maxHeartbeats 4000000 in
theorem bdMarkG (ad : Option Addr) (cap : Nat) (Bs : List Bd) (k0 : Int) (lo hi : Nat) (w : World) (h : NOwn lo hi w (.slice ad Bs.length cap) Bs) (hs : hi ≤ w.heap.size) (hl : Bs.length ≤ 1048576) (hlt : lTo Bs Bs.length ≤ 1048576) (hk0 : 0 ≤ k0) (hk1 : k0 ≤ 1000) :
    Calls Try.prog 32 #[.slice ad Bs.length cap, .int .i64 k0] w fun e w' => e = .returned (.int .i64 (k0 + (kTo Bs Bs.length : Int))) ∧ NOwn lo hi w' (.slice ad Bs.length cap) (marksN Bs k0 Bs.length) ∧ KeptR lo hi w w' := by
  by_cases hz : Bs.length = 0
  · obtain rfl : Bs = [] := List.eq_nil_of_length_eq_zero hz
    go_enter Try.func32, Try.ntmps32
    go_wp2
    refine wp_loop_rounds 1 ?_; rw [rounds_succ]
    go_wp2
    go_ret
    exact ⟨by simp [kTo], by first | (rw [marksN_zero]; exact h) | exact h, KeptR.refl _ _ _⟩
  obtain ⟨g, rfl⟩ : ∃ g, ad = some ⟨g, 0, none⟩ := by
    rcases h.row.2 with ⟨_, q⟩ | ⟨g, cap, cur, q, _⟩
    · omega
    · simp only [Value.slice.injEq] at q
      exact ⟨g, q.1⟩
  have hkb : ∀ j, j ≤ Bs.length → kTo Bs j ≤ 12582912 := fun j hj => by
    have := lTo_mono Bs hj
    rw [kTo_lTo]
    omega
  have hls : ∀ i, i < Bs.length → (Bs.getD i Bd.nil).L.length ≤ 1048576 := fun i hi => Nat.le_trans (getL_le Bs hi) hlt
  replace hlt : Hid _ := hlt
  have M0 : NOwn lo hi w (.slice (some ⟨g, 0, none⟩) Bs.length cap) (marksN Bs k0 0) := by rw [marksN_zero]; exact h
  clear h hz
  go_enter Try.func32, Try.ntmps32
  go_wp2
  go_loopw [1, 5] (fun q i wr => ∃ (k : Nat) (x : Int), k ≤ Bs.length ∧ i = .int .i64 k ∧ q = .int .i64 x ∧ Hid (x = k0 + (kTo Bs k : Int)) ∧ NOwn lo hi wr (.slice (some ⟨g, 0, none⟩) Bs.length cap) (marksN Bs k0 k) ∧ KeptR lo hi w wr) (fun _ i _ => Bs.length - (intOf i).toNat)
  case atStart => exact ⟨0, k0, Nat.zero_le _, rfl, rfl, by unfold Hid; simp [kTo], M0, KeptR.refl _ _ _⟩
  case round =>
    obtain ⟨k, x, hk, rfl, rfl, hx, M, KR⟩ := hrel
    clear M0
    by_cases hlt : k < Bs.length
    · have hx0 : 0 ≤ x := by have := hx.out; omega
      have hx1 : x ≤ 12584000 := by have := hx.out; have := hkb k (by omega); omega
      have hlk := hls k hlt
      have hb3 : Hid (kTo Bs (k + 1) = kTo Bs k + 1 + 11 * (Bs.getD k Bd.nil).L.length) := rfl
      have hml : Hid ((marksN Bs k0 k).length = Bs.length) := marksN_len _ _ _
      have hck := M.view.2.at_ (i := k) (by rw [hml.out]; exact hlt)
      have hnk := M.nest k (by rw [hml.out]; exact hlt)
      rw [marksN_get Bs k0 k hlt, if_neg (by omega)] at hck hnk
      have M' : NOwn lo hi wr (.slice (some ⟨g, 0, none⟩) (marksN Bs k0 k).length cap) (marksN Bs k0 k) := by rw [hml.out]; exact M
      have hfz := M'.row.frozen (k * 2)
      have hsz : hi ≤ wr.heap.size := Nat.le_trans hs KR.size
      have hmv : Hid ((mkd Bs k0 k).v = ((marksN Bs k0 k).getD k Bd.nil).v) := by unfold Hid; rw [mkd_v, marksN_v _ _ _ hlt]
      have hgap := fun q => M.apart k (by rw [hml.out]; exact hlt) g q rfl
      rw [marksN_v _ _ _ hlt] at hgap
      have st := fun (w2 : World) => M'.mark (w2 := w2) (n := k) hsz (by rw [hml.out]; exact hlt) (x := mkd Bs k0 k) hmv.out
      rw [mkd_v, marksN_succ Bs k0 hlt] at st
      simp only [marksN_len] at st
      have hmi : (mkd Bs k0 k).id = x := hx.out.symm
      have hmL : (mkd Bs k0 k).L = (List.range (Bs.getD k Bd.nil).L.length).map (ptMk (x + 1)) := by unfold mkd; rw [hx.out]
      rw [hmi, hmL] at st
      obtain ⟨⟨id, a1, c1, L1⟩, hh⟩ : ∃ m, Bs.getD k Bd.nil = m := ⟨_, rfl⟩
      rw [hh] at hck hnk hlk hgap hb3
      simp only [hh] at st
      unfold Bd.v at hnk hgap st
      dsimp only at hnk hlk hgap st
      obtain ⟨c0, c1_⟩ := hck
      rw [Nat.zero_add] at c0 c1_
      dsimp only at c0 c1_
      have c1' : (wr.setCell ⟨g, k * 2, none⟩ (.int .i64 x)).cell? ⟨g, k * 2 + 1, none⟩ = some (.slice a1 L1.length c1) := (pset_else (by simp)).trans c1_
      have hn1 : FOwn ptEnc 11 68 lo (wr.setCell ⟨g, k * 2, none⟩ (.int .i64 x)) (.slice a1 L1.length c1) L1 := hnk.keep (fun j e => Below.heap_setCell _ _ _ _ (fun q => hgap j e q.symm))
      clear hh M M' hnk hgap hmi hmL hmv
      go_wp2_with fail
      go_at_call 57
      refine (ptMark a1 c1 (x + 1) lo L1 _ hn1 (by omega) (by omega) (by omega)).mono ?_
      rintro e w2 ⟨rfl, o2, gr⟩
      obtain ⟨M1, K1⟩ := st w2 o2 gr
      clear st o2 gr hn1
      go_wp2
      go_roundw
      case rel => exact ⟨k + 1, x + 1 + 11 * (L1.length : Int), by omega, by go_num, rfl, by have := hx.out; have := hb3.out; unfold Hid; omega, M1, KR.trans K1⟩
      case measure => simp [intOf]; omega
    · obtain rfl : k = Bs.length := by omega
      go_wp2
      go_ret
      exact ⟨by rw [← hx.out]; rfl, M, KR⟩
set_option maxHeartbeats 400000 in
theorem heldInts (ad : Option Addr) (len cap : Nat) (m : Int) (w : World) (hv : ViewI w ad len (fun i => m + (i : Int))) (hl : len ≤ 1048576) (hm0 : 0 ≤ m) (hm1 : m ≤ 1000000000000) :
    Calls Try.prog 16 #[.slice ad len cap, .int .i64 m] w fun e w' => e = .returned (.int .i64 (m + len)) ∧ w' = w := by
  go_enter Try.func16, Try.ntmps16
  go_wp2
  go_loop [1, 5] (fun q i => ∃ k : Nat, k ≤ len ∧ i = .int .i64 k ∧ q = .int .i64 (m + k)) (fun _ i => len - (intOf i).toNat)
  case atStart => exact ⟨0, Nat.zero_le _, rfl, by simp⟩
  case round =>
    obtain ⟨k, hk, rfl, rfl⟩ := hrel
    by_cases hlt : k < len
    · obtain ⟨b, off, rfl, hc⟩ := hv (by omega)
      have hck := hc k hlt
      go_wp2
      go_round
      case rel => exact ⟨k + 1, by omega, by go_num, by go_num⟩
      case measure => simp [intOf]; omega
    · obtain rfl : k = len := by omega
      go_wp2
      go_ret
      exact ⟨rfl, rfl⟩
set_option maxHeartbeats 2000000 in
theorem netMarkM (gB gK : Nat) (Cs : List Bd) (K : List Lk) (lo : Nat) (w : World) (h : NetMine lo w gB gK Cs K) (hl : Cs.length ≤ 1048576) (hlt : lTo Cs Cs.length ≤ 1048576) (hk : K.length ≤ 1048576) :
    Calls Try.prog 14 #[.agg #[.slice (some ⟨gB, 0, none⟩) Cs.length Cs.length, .slice (some ⟨gK, 0, none⟩) K.length K.length], .int .i64 1] w fun e w' => (∃ r : Int, e = .returned (.int .i64 r) ∧ 0 ≤ r) ∧ KeptR lo (gK + 1) w w' := by
  have hkb : (kTo Cs Cs.length : Int) ≤ 12582912 := by
    rw [kTo_lTo]
    omega
  obtain ⟨y, hy⟩ : ∃ y, y = w.alloc (Obj.cells #[.slice (some ⟨gB, 0, none⟩) Cs.length Cs.length, .slice (some ⟨gK, 0, none⟩) K.length K.length] 31) := ⟨_, rfl⟩
  have k0y : Below w.heap.size w y := by rw [hy]; exact below_new _
  have A0 : NeAt y w.heap.size (.slice (some ⟨gB, 0, none⟩) Cs.length Cs.length) (.slice (some ⟨gK, 0, none⟩) K.length K.length) := by rw [hy]; exact NeAt.new w _
  have hm := h.lt
  have hy' := h.later k0y
  have hmy := hy'.lt
  obtain ⟨s, hs⟩ : ∃ s, s = 1 + (kTo Cs Cs.length : Int) := ⟨_, rfl⟩
  have s0 : 0 ≤ s := by omega
  have s1 : s ≤ 12582913 := by omega
  replace hs : Hid _ := hs
  go_enter Try.func14, Try.ntmps14
  go_wp2_with fail
  go_at_call 32
  rw [← hy]
  clear hy
  refine (bdMarkG (some ⟨gB, 0, none⟩) Cs.length Cs 1 lo gK y hy'.own (by omega) hl hlt (by decide) (by decide)).mono ?_
  rintro e w1 ⟨rfl, _, kr1⟩
  rw [← hs.out]
  have A1 := A0.keep (kr1.block _ A0.lt (.inr (by omega)))
  have o2 : FOwn lkEnc 4 70 lo w1 (.slice (some ⟨gK, 0, none⟩) K.length K.length) K := hy'.own2.keep (fun g e => kr1.block g (hy'.own2.lt g e).2 (.inr (by have : gK = g := (by simpa [Value.ownBlock] using e); omega)))
  clear A0
  obtain ⟨a0, a1⟩ := A1
  go_wp2_with fail
  go_at_call 33
  refine (lkMark (some ⟨gK, 0, none⟩) K.length s lo K w1 o2 hk s0 (by omega)).mono ?_
  rintro e w2 ⟨rfl, _, gr⟩
  have KR : KeptR lo (gK + 1) w w2 := ((KeptR.of_below k0y).trans (kr1.wide (Nat.le_refl _) (Nat.le_succ _))).trans (KeptR.of_grown gr (fun k e => by have : gK = k := (by simpa [Value.ownBlock] using e); omega))
  clear gr kr1 o2
  go_wp2
  go_ret
  exact ⟨⟨_, rfl, by omega⟩, KR⟩
/-- A list of numbers that was marked from 1 on. -/
structure MRow (w : World) (ad : Option Addr) (n : Nat) : Prop where
  v : ViewI w ad n (fun i => 1 + (i : Int))
  lt : ∀ a, ad = some a → 0 < n → a.block < w.heap.size
theorem MRow.later {w w' : World} {ad : Option Addr} {n : Nat} (h : MRow w ad n) (k : Below w.heap.size w w') : MRow w' ad n :=
  ⟨h.v.carry (fun a e p => k.block _ (h.lt a e p)), fun a e p => Nat.lt_of_lt_of_le (h.lt a e p) k.size⟩
theorem FOwn.roomI {base : Nat} {w : World} {ad : Option Addr} {n cap : Nat} {L : List Int} (h : FOwn ivEnc 1 3 base w (.slice ad n cap) L) : Room w ad L.length := by
  intro hp
  have hn := h.view.1
  subst hn
  obtain ⟨b, off, rfl, hc⟩ := h.view.2.toI hp
  have h0 : off = 0 := by
    rcases h.2 with ⟨q, e⟩ | ⟨g, c, cur, q, _⟩
    · cases q
    · simp only [Value.slice.injEq, Option.some.injEq, Addr.mk.injEq] at q
      exact q.1.2.1
  subst h0
  exact ⟨b, 0, rfl, fun i hi => ⟨⟨_, hc i hi⟩, by rw [Nat.zero_add]; exact h.frozen i⟩⟩
theorem markOwn (base : Nat) (ad : Option Addr) (cap : Nat) (L : List Int) (w : World) (h : FOwn ivEnc 1 3 base w (.slice ad L.length cap) L) (hl : L.length ≤ 1048576) (hb : base ≤ w.heap.size) :
    Calls Try.prog 15 #[.slice ad L.length cap, .int .i64 1] w fun e w' => e = .returned (.int .i64 (1 + (L.length : Int))) ∧ MRow w' ad L.length ∧ Below base w w' := by
  refine (markInts ad L.length cap 1 w h.roomI hl (by decide) (by decide)).mono ?_
  rintro e w' ⟨rfl, hv, _, q⟩
  have hlt : ∀ a, ad = some a → base ≤ a.block ∧ a.block < w.heap.size := fun a e => h.lt a.block (by rw [e]; rfl)
  rcases q with rfl | ⟨a, e, _, gr⟩
  · exact ⟨rfl, ⟨hv, fun a e _ => (hlt a e).2⟩, Below.refl _ _⟩
  · exact ⟨rfl, ⟨hv, fun a e _ => Nat.lt_of_lt_of_le (hlt a e).2 gr.size⟩, (Below.refl base w).grown gr hb (fun k e2 => by cases e2; exact (hlt a e).1)⟩
theorem heldRow (ad : Option Addr) (n cap : Nat) (w : World) (h : MRow w ad n) (hl : n ≤ 1048576) :
    Calls Try.prog 16 #[.slice ad n cap, .int .i64 1] w fun e w' => e = .returned (.int .i64 (1 + (n : Int))) ∧ Below w.heap.size w w' := by
  refine (heldInts ad n cap 1 w h.v hl (by decide) (by decide)).mono ?_
  rintro e w' ⟨rfl, rfl⟩
  exact ⟨rfl, Below.refl _ _⟩
theorem lTo_same {Cs Bs : List Bd} (h : Cs.map Bd.d = Bs.map Bd.d) : ∀ n, lTo Cs n = lTo Bs n
  | 0 => rfl
  | n + 1 => by
    show lTo Cs n + _ = lTo Bs n + _
    rw [lTo_same h n]
    have := congrArg (fun D => D.getD n Bg.nil) h
    simp only [bd_get] at this
    have e : (Cs.getD n Bd.nil).L = (Bs.getD n Bd.nil).L := congrArg Bg.L this
    rw [e]
theorem len_same {Cs Bs : List Bd} (h : Cs.map Bd.d = Bs.map Bd.d) : Cs.length = Bs.length := by
  have := congrArg List.length h
  simpa using this

end Go.Proofs.Ytdfjfodfnildiab
