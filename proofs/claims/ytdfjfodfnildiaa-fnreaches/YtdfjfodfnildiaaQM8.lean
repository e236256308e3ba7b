/- What comes in, behind its interface. impl.taken: a claim, walked. impl.taken: a tick, walked. impl.taken: a link, walked. impl.InOk, walked. impl.React, walked. What a new net is, in plain lists. spec.InOk, walked. -/
import Derived.Test.YtdfjfodfnildiaaRows
import Derived.WalkKit
import Derived.ProofKit
import Derived.OpenShut
import Derived.ShutString
import Derived.ChangeOld
import Derived.Below
import Derived.Deep.QuietTactic
import Derived.BigQuiet
import Derived.WalkSmall
import Derived.Laws.OwnMore
import Derived.WalkSpells
import Derived.WalkLawsBesides
import Derived.Test.YtdfjfodfnildiaaQM6
import Derived.Deep.Cut
import Derived.Test.YtdfjfodfnildiaaQM7
import Derived.Test.YtdfjfodfnildiaaQM5
import Derived.Test.YtdfjfodfnildiaaQM1
import Derived.Maps.AppendAt
import Derived.Test.YtdfjfodfnildiaaQKPort3
namespace Go.Proofs.Ytdfjfodfnildiaa
open Go.ChangeShapes Go.WideShapes Go.ChangeAt Go.RowKit
open Go.ChangeMaps (open_string shut_string)
set_option linter.unusedVariables false
set_option maxRecDepth 100000

structure Ik where
  k : Int
  q : Int
  r : Int
  c : Int
  b : Int
  p : Int
  h : Int
  up : Bool
structure InAt (w : World) (o : Nat) (x : Ik) : Prop where
  c0 : w.cell? ⟨o, 0, none⟩ = some (.int .i64 x.k)
  c1 : w.cell? ⟨o, 1, none⟩ = some (.int .i64 x.q)
  c2 : w.cell? ⟨o, 2, none⟩ = some (.int .i64 x.r)
  c3 : w.cell? ⟨o, 3, none⟩ = some (.int .i64 x.c)
  c4 : w.cell? ⟨o, 4, none⟩ = some (.int .i64 x.b)
  c5 : w.cell? ⟨o, 5, none⟩ = some (.int .i64 x.p)
  c6 : w.cell? ⟨o, 6, none⟩ = some (.int .i64 x.h)
  c7 : w.cell? ⟨o, 7, none⟩ = some (.bool x.up)
theorem InAt.keep {w w' : World} {o : Nat} {x : Ik} (h : InAt w o x) (k : w'.heap[o]? = w.heap[o]?) : InAt w' o x :=
  ⟨(World.cell?_of_block (a := ⟨o, 0, none⟩) k).trans h.c0, (World.cell?_of_block (a := ⟨o, 1, none⟩) k).trans h.c1, (World.cell?_of_block (a := ⟨o, 2, none⟩) k).trans h.c2, (World.cell?_of_block (a := ⟨o, 3, none⟩) k).trans h.c3, (World.cell?_of_block (a := ⟨o, 4, none⟩) k).trans h.c4, (World.cell?_of_block (a := ⟨o, 5, none⟩) k).trans h.c5, (World.cell?_of_block (a := ⟨o, 6, none⟩) k).trans h.c6, (World.cell?_of_block (a := ⟨o, 7, none⟩) k).trans h.c7⟩
theorem InAt.below {w w' : World} {o n : Nat} {x : Ik} (h : InAt w o x) (k : Below n w w') (ho : o < n) : InAt w' o x := h.keep (k.block o ho)
theorem InAt.lt {w : World} {o : Nat} {x : Ik} (h : InAt w o x) : o < w.heap.size := World.block_lt_of_cell? w _ h.c0
theorem InAt.new (w : World) (t : TypeId) (x : Ik) : InAt (w.alloc (Obj.cells #[.int .i64 x.k, .int .i64 x.q, .int .i64 x.r, .int .i64 x.c, .int .i64 x.b, .int .i64 x.p, .int .i64 x.h, .bool x.up] t)) w.heap.size x := by
  constructor <;> simp [go_sem]
def inOk (x : Ik) : Bool :=
  if x.k = 1 then decide (0 ≤ x.q ∧ x.q ≤ 3) && (vOk x.r x.c x.b x.p && (decide (0 ≤ x.h ∧ x.h ≤ 8) && !x.up))
  else if x.k = 3 then decide (0 ≤ x.q ∧ x.q ≤ 3) && (decide (x.r = 0 ∧ x.c = 0 ∧ x.b = 0 ∧ x.p = 0) && (x.h == 0))
  else if x.k = 2 then decide (x.q = 0 ∧ x.r = 0 ∧ x.c = 0 ∧ x.b = 0 ∧ x.p = 0 ∧ x.h = 0 ∧ x.up = false)
  else false
end Go.Proofs.Ytdfjfodfnildiaa
namespace Go.Proofs.Ytdfjfodfnildiaa
open Go.ChangeShapes Go.WideShapes Go.ChangeAt Go.RowKit
open Go.ChangeMaps (open_string shut_string)
set_option linter.unusedVariables false
set_option maxRecDepth 100000

def afterL (id : Int) (L : List Pt) (x : Ik) : List Pt :=
  if x.k = 1 then decideR id (L.set x.q.toNat (claimR (L.getD x.q.toNat Pt.nil) x.r x.c x.b x.p x.h))
  else if x.k = 2 then decideR id (L.map tickP)
  else if (L.getD x.q.toNat Pt.nil).up = x.up then L else decideR id (L.set x.q.toNat (linkP x.up))
theorem afterL_len (id : Int) (L : List Pt) (x : Ik) : (afterL id L x).length = L.length := by
  unfold afterL
  split
  · rw [decideR_len, List.length_set]
  · split
    · rw [decideR_len, List.length_map]
    · split
      · rfl
      · rw [decideR_len, List.length_set]
end Go.Proofs.Ytdfjfodfnildiaa
namespace Go.Proofs.Ytdfjfodfnildiaa
open Go.ChangeShapes Go.WideShapes Go.ChangeAt Go.RowKit
open Go.ChangeMaps (open_string shut_string)
set_option linter.unusedVariables false
set_option maxRecDepth 100000

end Go.Proofs.Ytdfjfodfnildiaa
namespace Go.Proofs.Ytdfjfodfnildiaa
open Go.ChangeShapes Go.WideShapes Go.ChangeAt Go.RowKit
open Go.ChangeMaps (open_string shut_string)
set_option linter.unusedVariables false
set_option maxRecDepth 100000

end Go.Proofs.Ytdfjfodfnildiaa
namespace Go.Proofs.Ytdfjfodfnildiaa
open Go.ChangeShapes Go.WideShapes Go.ChangeAt Go.RowKit
open Go.ChangeMaps (open_string shut_string)
set_option linter.unusedVariables false
set_option maxRecDepth 100000

end Go.Proofs.Ytdfjfodfnildiaa
namespace Go.Proofs.Ytdfjfodfnildiaa
open Go.ChangeShapes Go.WideShapes Go.ChangeAt Go.RowKit
open Go.ChangeMaps (open_string shut_string)
set_option linter.unusedVariables false
set_option maxRecDepth 100000

theorem join_region {P : Program} {reg : Code} {K : Act → World → Prop} {Q : Exit → Act → World → Prop} {l : List Value} {ds : List Deferred} {W : World} (R : List Value → List Value → World → Prop) (h1 : ∀ l' W', R l l' W' → K ⟨l'.toArray, ds⟩ W') (h2 : ∀ K2 : Act → World → Prop, Hid (∀ l' W', R l l' W' → K2 ⟨l'.toArray, ds⟩ W') → Code.wp P reg (Exit.then K2 Q) ⟨l.toArray, ds⟩ W) : Code.wp P reg (Exit.then K Q) ⟨l.toArray, ds⟩ W := h2 K h1
def goes (id : Int) (L : List Pt) (x : Ik) : Bool := bOk id L && (inOk x && decide (0 ≤ x.q ∧ x.q < (L.length : Int)))
def reactL (id : Int) (L : List Pt) (x : Ik) : List Pt := if goes id L x then afterL id L x else L
def reactO (id : Int) (L : List Pt) (x : Ik) : List Ou := if goes id L x then gatesTo L (afterL id L x) L.length ++ (if x.k = 2 then toldTo id (afterL id L x) L.length else []) else []
theorem reactL_len (id : Int) (L : List Pt) (x : Ik) : (reactL id L x).length = L.length := by
  unfold reactL
  split
  · exact afterL_len id L x
  · rfl
theorem inOk_q {x : Ik} (h : inOk x = true) : 0 ≤ x.q ∧ x.q ≤ 3 := by
  unfold inOk at h
  split at h
  · simp only [Bool.and_eq_true, decide_eq_true_eq] at h; exact h.1
  · split at h
    · simp only [Bool.and_eq_true, decide_eq_true_eq] at h; exact h.1
    · split at h
      · simp only [decide_eq_true_eq] at h; omega
      · cases h
theorem inOk_k {x : Ik} (h : inOk x = true) : x.k = 1 ∨ x.k = 2 ∨ x.k = 3 := by
  unfold inOk at h
  split at h
  · exact .inl (by assumption)
  · split at h
    · exact .inr (.inr (by assumption))
    · split at h
      · exact .inr (.inl (by assumption))
      · cases h
end Go.Proofs.Ytdfjfodfnildiaa
namespace Go.Proofs.Ytdfjfodfnildiaa
open Go.ChangeShapes Go.WideShapes Go.ChangeAt Go.RowKit
open Go.ChangeMaps (open_string shut_string)
set_option linter.unusedVariables false
set_option maxRecDepth 100000

def upPt : Pt := ⟨true, false, 0, 0, 0, 0, 0, 0, 2, 4, false⟩
def linkIk (q : Int) : Ik := ⟨3, q, 0, 0, 0, 0, 0, true⟩
def mkS (S : Nat → Bool) : List Pt := [if S 0 then upPt else Pt.nil, if S 1 then upPt else Pt.nil, if S 2 then upPt else Pt.nil, if S 3 then upPt else Pt.nil]
def mkB (b0 b1 b2 b3 : Bool) : List Pt := [if b0 then upPt else Pt.nil, if b1 then upPt else Pt.nil, if b2 then upPt else Pt.nil, if b3 then upPt else Pt.nil]
def lsEq : List Pt → List Pt → Bool
  | [], [] => true
  | x :: L, y :: M => ptEq x y && lsEq L M
  | _, _ => false
theorem lsEq_eq : ∀ {L M : List Pt}, lsEq L M = true → L = M
  | [], [], _ => rfl
  | x :: L, y :: M, h => by
    simp only [lsEq, Bool.and_eq_true] at h
    have hx : x = y := by
      have q := h.1
      obtain ⟨a0, a1, a2, a3, a4, a5, a6, a7, a8, a9, a10⟩ := x
      obtain ⟨b0, b1, b2, b3, b4, b5, b6, b7, b8, b9, b10⟩ := y
      simpa [ptEq] using q
    rw [hx, lsEq_eq h.2]
  | [], _ :: _, h => by simp [lsEq] at h
  | _ :: _, [], h => by simp [lsEq] at h
def bls : List Bool := [false, true]
def raiseChk : Bool := (List.range 9).all fun i => bls.all fun b0 => bls.all fun b1 => bls.all fun b2 => bls.all fun b3 =>
  lsEq (reactL (((i + 1 : Nat)) : Int) (mkB b0 b1 b2 b3) (linkIk 0)) (mkB true b1 b2 b3) && lsEq (reactL (((i + 1 : Nat)) : Int) (mkB b0 b1 b2 b3) (linkIk 1)) (mkB b0 true b2 b3) && lsEq (reactL (((i + 1 : Nat)) : Int) (mkB b0 b1 b2 b3) (linkIk 2)) (mkB b0 b1 true b3) && lsEq (reactL (((i + 1 : Nat)) : Int) (mkB b0 b1 b2 b3) (linkIk 3)) (mkB b0 b1 b2 true)
set_option maxRecDepth 100000 in
theorem raise_chk : raiseChk = true := by kernel_rfl
theorem raise_all {id : Int} (h : 1 ≤ id ∧ id ≤ 9) (b0 b1 b2 b3 : Bool) : reactL id (mkB b0 b1 b2 b3) (linkIk 0) = mkB true b1 b2 b3 ∧ reactL id (mkB b0 b1 b2 b3) (linkIk 1) = mkB b0 true b2 b3 ∧ reactL id (mkB b0 b1 b2 b3) (linkIk 2) = mkB b0 b1 true b3 ∧ reactL id (mkB b0 b1 b2 b3) (linkIk 3) = mkB b0 b1 b2 true := by
  have hc := raise_chk
  unfold raiseChk at hc
  have hb : ∀ b : Bool, b ∈ bls := fun b => by cases b <;> simp [bls]
  have := List.all_eq_true.1 hc (id.toNat - 1) (List.mem_range.2 (by omega))
  have := List.all_eq_true.1 this b0 (hb b0)
  have := List.all_eq_true.1 this b1 (hb b1)
  have := List.all_eq_true.1 this b2 (hb b2)
  have := List.all_eq_true.1 this b3 (hb b3)
  rw [show (((id.toNat - 1 + 1 : Nat)) : Int) = id by omega] at this
  simp only [Bool.and_eq_true] at this
  obtain ⟨⟨⟨t0, t1⟩, t2⟩, t3⟩ := this
  exact ⟨lsEq_eq t0, lsEq_eq t1, lsEq_eq t2, lsEq_eq t3⟩
theorem raise_S {id : Int} (h : 1 ≤ id ∧ id ≤ 9) (S : Nat → Bool) {p : Nat} (hp : p < 4) : reactL id (mkS S) (linkIk (p : Int)) = mkS (fun x => S x || x == p) := by
  have r := raise_all h (S 0) (S 1) (S 2) (S 3)
  have e : ∀ T : Nat → Bool, mkS T = mkB (T 0) (T 1) (T 2) (T 3) := fun T => rfl
  rw [e, e]
  rcases (by omega : p = 0 ∨ p = 1 ∨ p = 2 ∨ p = 3) with rfl | rfl | rfl | rfl
  · simpa using r.1
  · simpa using r.2.1
  · simpa using r.2.2.1
  · simpa using r.2.2.2
theorem mkS_congr {S T : Nat → Bool} (h : ∀ x, x < 4 → S x = T x) : mkS S = mkS T := by
  unfold mkS
  rw [h 0 (by omega), h 1 (by omega), h 2 (by omega), h 3 (by omega)]
def newBg (id : Int) (S : Nat → Bool) : Bg := if nOk id 4 then ⟨id, mkS S⟩ else ⟨0, []⟩
theorem newBg_0 (id : Int) : newBg id (fun _ => false) = ⟨newI id 4, newL id 4⟩ := by
  unfold newBg newI newL
  by_cases h : nOk id 4 = true
  · rw [if_pos h, if_pos h, if_pos h]; rfl
  · rw [if_neg h, if_neg h, if_neg h]
theorem newBg_congr {id : Int} {S T : Nat → Bool} (h : ∀ x, x < 4 → S x = T x) : newBg id S = newBg id T := by
  unfold newBg
  rw [mkS_congr h]
theorem nOk_4 {id : Int} (h : nOk id 4 = true) : 1 ≤ id ∧ id ≤ 9 := by
  unfold nOk at h
  simp only [Bool.and_eq_true, decide_eq_true_eq] at h
  exact h.1
theorem newBg_len (id : Int) (S : Nat → Bool) : (newBg id S).L.length ≤ 4 := by
  unfold newBg
  split
  · exact Nat.le_refl _
  · exact Nat.zero_le _
theorem newBg_raise (id : Int) (S : Nat → Bool) {p : Nat} (hp : p < (newBg id S).L.length) : (⟨(newBg id S).id, reactL (newBg id S).id (newBg id S).L (linkIk (p : Int))⟩ : Bg) = newBg id (fun x => S x || x == p) := by
  unfold newBg at hp ⊢
  by_cases h : nOk id 4 = true
  · rw [if_pos h] at hp ⊢
    rw [if_pos h]
    dsimp only
    rw [raise_S (nOk_4 h) S hp]
  · rw [if_neg h] at hp
    simp at hp
def netN (ids : List Int) (T : Nat → Nat → Bool) (n : Nat) : List Bg := (List.range n).map fun i => newBg (ids.getD i 0) (T i)
theorem netN_len (ids : List Int) (T : Nat → Nat → Bool) (n : Nat) : (netN ids T n).length = n := by simp [netN]
theorem netN_get (ids : List Int) (T : Nat → Nat → Bool) {n i : Nat} (h : i < n) : (netN ids T n).getD i Bg.nil = newBg (ids.getD i 0) (T i) := by simp [netN, List.getD, h]
theorem netN_succ (ids : List Int) (T : Nat → Nat → Bool) (n : Nat) : netN ids T (n + 1) = netN ids T n ++ [newBg (ids.getD n 0) (T n)] := by simp [netN, List.range_succ]
def ofK (K : List Lk) (i x : Nat) : Bool := decide (0 < onceL K i x)
def NewP (ids : List Int) (K : List Lk) : Prop := ids.length ≤ 5 ∧ NetP (netN ids (ofK K) ids.length) K

end Go.Proofs.Ytdfjfodfnildiaa
namespace Go.Proofs.Ytdfjfodfnildiaa
open Go.ChangeShapes Go.WideShapes Go.ChangeAt Go.RowKit
open Go.ChangeMaps (open_string shut_string)
set_option linter.unusedVariables false
set_option maxRecDepth 100000

set_option maxHeartbeats 4000000 in
theorem inOkS (x : Ik) (w : World) : Calls Try.prog 109 #[.agg #[.int .i64 x.k, .int .i64 x.q, .int .i64 x.r, .int .i64 x.c, .int .i64 x.b, .int .i64 x.p, .int .i64 x.h, .bool x.up]] w fun e w' => e = .returned (.bool (inOk x)) ∧ Below w.heap.size w w' := by
  obtain ⟨k, q, r, c, b, p, h, up⟩ := x
  dsimp only
  obtain ⟨R, hR⟩ : ∃ R, R = inOk ⟨k, q, r, c, b, p, h, up⟩ := ⟨_, rfl⟩
  rw [← hR]
  by_cases h1 : k = 1
  · subst h1
    have hR1 : Hid (R = (decide (0 ≤ q ∧ q ≤ 3) && (vOk r c b p && (decide (0 ≤ h ∧ h ≤ 8) && !up)))) := hR
    clear hR
    have B0 := below_new (w := w) (Obj.cells #[.int .i64 1, .int .i64 q, .int .i64 r, .int .i64 c, .int .i64 b, .int .i64 p, .int .i64 h, .bool up] 122)
    obtain ⟨y, hy⟩ : ∃ y, y = w.alloc (Obj.cells #[.int .i64 1, .int .i64 q, .int .i64 r, .int .i64 c, .int .i64 b, .int .i64 p, .int .i64 h, .bool up] 122) := ⟨_, rfl⟩
    rw [← hy] at B0
    have A0 : InAt y w.heap.size ⟨1, q, r, c, b, p, h, up⟩ := by rw [hy]; exact InAt.new w _ ⟨1, q, r, c, b, p, h, up⟩
    have S0 := A0.lt
    go_enter Try.func109, Try.ntmps109
    go_wp2_with fail
    go_at_call 43
    rw [← hy]
    clear hy
    refine (inB q 0 3 y).mono ?_
    rintro e y1 ⟨rfl, rfl⟩
    obtain ⟨a0, a1, a2, a3, a4, a5, a6, a7⟩ := A0
    have A0 : InAt y1 w.heap.size ⟨1, q, r, c, b, p, h, up⟩ := ⟨a0, a1, a2, a3, a4, a5, a6, a7⟩
    cases hF : decide (0 ≤ q ∧ q ≤ 3) with
    | false =>
      have hN : Hid (R = false) := by unfold Hid; rw [hR1.out, hF]; rfl
      clear hR1 hF
      go_wp2
      go_ret
      exact ⟨by rw [hN.out]; rfl, B0⟩
    | true =>
      have hR2 : Hid (R = (vOk r c b p && (decide (0 ≤ h ∧ h ≤ 8) && !up))) := by unfold Hid; rw [hR1.out, hF]; rfl
      clear hR1 hF
      go_wp2_with fail
      go_at_call 116
      refine (vOkS r c b p y1).mono ?_
      rintro e y2 ⟨rfl, k2⟩
      have B2 := B0.trans (k2.mono B0.size)
      have A2 := A0.below k2 S0
      clear a0 a1 a2 a3 a4 a5 a6 a7 A0 k2
      obtain ⟨a0, a1, a2, a3, a4, a5, a6, a7⟩ := A2
      cases hF : vOk r c b p with
      | false =>
        have hN : Hid (R = false) := by unfold Hid; rw [hR2.out, hF]; rfl
        clear hR2 hF
        go_wp2
        go_ret
        exact ⟨by rw [hN.out]; rfl, B2⟩
      | true =>
        have hR3 : Hid (R = (decide (0 ≤ h ∧ h ≤ 8) && !up)) := by unfold Hid; rw [hR2.out, hF]; rfl
        clear hR2 hF
        go_wp2_with fail
        go_at_call 43
        refine (inB h 0 8 y2).mono ?_
        rintro e y3 ⟨rfl, rfl⟩
        cases hF : decide (0 ≤ h ∧ h ≤ 8) with
        | false =>
          have hN : Hid (R = false) := by unfold Hid; rw [hR3.out, hF]; rfl
          clear hR3 hF
          go_wp2
          go_ret
          exact ⟨by rw [hN.out]; rfl, B2⟩
        | true =>
          have hN : Hid (R = !up) := by unfold Hid; rw [hR3.out, hF]; rfl
          clear hR3 hF
          go_wp2
          go_ret
          exact ⟨by rw [hN.out]; rfl, B2⟩
  have d1 : (k == 1) = false := by simpa using h1
  by_cases h3 : k = 3
  · subst h3
    have hR1 : Hid (R = (decide (0 ≤ q ∧ q ≤ 3) && (decide (r = 0 ∧ c = 0 ∧ b = 0 ∧ p = 0) && (h == 0)))) := hR
    clear hR h1 d1
    have B0 := below_new (w := w) (Obj.cells #[.int .i64 3, .int .i64 q, .int .i64 r, .int .i64 c, .int .i64 b, .int .i64 p, .int .i64 h, .bool up] 122)
    obtain ⟨y, hy⟩ : ∃ y, y = w.alloc (Obj.cells #[.int .i64 3, .int .i64 q, .int .i64 r, .int .i64 c, .int .i64 b, .int .i64 p, .int .i64 h, .bool up] 122) := ⟨_, rfl⟩
    rw [← hy] at B0
    have A0 : InAt y w.heap.size ⟨3, q, r, c, b, p, h, up⟩ := by rw [hy]; exact InAt.new w _ ⟨3, q, r, c, b, p, h, up⟩
    have S0 := A0.lt
    go_enter Try.func109, Try.ntmps109
    go_wp2_with fail
    go_at_call 43
    rw [← hy]
    clear hy
    refine (inB q 0 3 y).mono ?_
    rintro e y1 ⟨rfl, rfl⟩
    obtain ⟨a0, a1, a2, a3, a4, a5, a6, a7⟩ := A0
    cases hF : decide (0 ≤ q ∧ q ≤ 3) with
    | false =>
      have hN : Hid (R = false) := by unfold Hid; rw [hR1.out, hF]; rfl
      clear hR1 hF
      go_wp2
      go_ret
      exact ⟨by rw [hN.out]; rfl, B0⟩
    | true =>
      have hR2 : Hid (R = (decide (r = 0 ∧ c = 0 ∧ b = 0 ∧ p = 0) && (h == 0))) := by unfold Hid; rw [hR1.out, hF]; rfl
      clear hR1 hF
      have eV : ∀ w_ : World, (binOp .eql 66 (.agg #[.int .i64 r, .int .i64 c, .int .i64 b, .int .i64 p]) (.agg #[.int .i64 0, .int .i64 0, .int .i64 0, .int .i64 0])).run Try.prog w_ = .ok (.bool (decide (r = 0 ∧ c = 0 ∧ b = 0 ∧ p = 0))) w_ := fun w_ => by
        have := eqV r c b p 0 0 0 0 w_
        go_simp
      cases hF : decide (r = 0 ∧ c = 0 ∧ b = 0 ∧ p = 0) with
      | false =>
        have hN : Hid (R = false) := by unfold Hid; rw [hR2.out, hF]; rfl
        rw [hF] at eV
        clear hR2 hF
        go_wp2
        go_ret
        exact ⟨by rw [hN.out]; rfl, B0⟩
      | true =>
        have hN : Hid (R = (h == 0)) := by unfold Hid; rw [hR2.out, hF]; rfl
        rw [hF] at eV
        clear hR2 hF
        go_wp2
        go_ret
        exact ⟨by rw [hN.out]; rfl, B0⟩
  have d3 : (k == 3) = false := by simpa using h3
  by_cases h2 : k = 2
  · subst h2
    have hN : Hid (R = decide (q = 0 ∧ r = 0 ∧ c = 0 ∧ b = 0 ∧ p = 0 ∧ h = 0 ∧ up = false)) := hR
    clear hR h1 d1 h3 d3
    have eI : ∀ w_ : World, (binOp .eql 122 (.agg #[.int .i64 2, .int .i64 q, .int .i64 r, .int .i64 c, .int .i64 b, .int .i64 p, .int .i64 h, .bool up]) (.agg #[.int .i64 2, .int .i64 0, .int .i64 0, .int .i64 0, .int .i64 0, .int .i64 0, .int .i64 0, .bool false])).run Try.prog w_ = .ok (.bool R) w_ := fun w_ => by
      rw [hN.out]
      go_simp
      all_goals ((repeat' split) <;> first | (simp_all; done) | grind)
    clear hN
    have B0 := below_new (w := w) (Obj.cells #[.int .i64 2, .int .i64 q, .int .i64 r, .int .i64 c, .int .i64 b, .int .i64 p, .int .i64 h, .bool up] 122)
    obtain ⟨y, hy⟩ : ∃ y, y = w.alloc (Obj.cells #[.int .i64 2, .int .i64 q, .int .i64 r, .int .i64 c, .int .i64 b, .int .i64 p, .int .i64 h, .bool up] 122) := ⟨_, rfl⟩
    rw [← hy] at B0
    have A0 : InAt y w.heap.size ⟨2, q, r, c, b, p, h, up⟩ := by rw [hy]; exact InAt.new w _ ⟨2, q, r, c, b, p, h, up⟩
    have S0 := A0.lt
    go_enter Try.func109, Try.ntmps109
    go_upto_region 7 with fail
    rw [← hy]
    clear hy
    obtain ⟨a0, a1, a2, a3, a4, a5, a6, a7⟩ := A0
    go_wp2
    go_ret
    exact ⟨rfl, B0⟩
  have d2 : (k == 2) = false := by simpa using h2
  have hN : Hid (R = false) := by unfold Hid; rw [hR]; unfold inOk; rw [if_neg h1, if_neg h3, if_neg h2]
  clear hR h1 h2 h3
  have B0 := below_new (w := w) (Obj.cells #[.int .i64 k, .int .i64 q, .int .i64 r, .int .i64 c, .int .i64 b, .int .i64 p, .int .i64 h, .bool up] 122)
  obtain ⟨y, hy⟩ : ∃ y, y = w.alloc (Obj.cells #[.int .i64 k, .int .i64 q, .int .i64 r, .int .i64 c, .int .i64 b, .int .i64 p, .int .i64 h, .bool up] 122) := ⟨_, rfl⟩
  rw [← hy] at B0
  have A0 : InAt y w.heap.size ⟨k, q, r, c, b, p, h, up⟩ := by rw [hy]; exact InAt.new w _ ⟨k, q, r, c, b, p, h, up⟩
  have S0 := A0.lt
  go_enter Try.func109, Try.ntmps109
  go_wp2
  go_ret
  rw [← hy]
  exact ⟨by rw [hN.out]; rfl, B0⟩

end Go.Proofs.Ytdfjfodfnildiaa
