/- Lists of members, each with a list of its own. Rows of bools: how great, copied, alike, marked. Lists of what was heard: how they come in; the small functions over them. What fits, what stands ahead, what is compared. impl.compareHeard, walked. -/
import Derived.Test.YtifndemkkaelaaaGreatRows
import Derived.WalkKit
import Derived.ProofKit
import Derived.OpenShut
import Derived.ShutString
import Derived.ChangeOld
import Derived.Below
import Derived.Deep.QuietTactic
import Derived.BigQuiet
import Derived.WalkSmall
import Derived.Laws.OwnMore
import Derived.WalkSpells
import Derived.WalkLawsBesides
import Derived.Test.YtifndemkkaelaaaGreatZl4
import Derived.Test.YtifndemkkaelaaaGreatZl1
import Derived.Deep.Slices
import Derived.Test.YtifndemkkaelaaaGreatZl2
namespace Go.Proofs.YtifndemkkaelaaaGreat
open Go.ChangeShapes Go.WideShapes Go.ChangeAt Go.RowKit
open Go.ChangeMaps (open_string shut_string)
set_option linter.unusedVariables false
set_option maxRecDepth 100000

structure KeptF (fp : List Nat) (w w' : World) : Prop where
  os : w'.os = w.os
  tape : w'.tape = w.tape
  output : w'.output = w.output
  size : w.heap.size ≤ w'.heap.size
  block : ∀ k, k < w.heap.size → k ∉ fp → w'.heap[k]? = w.heap[k]?
theorem KeptF.weak {fp fq : List Nat} {a b : World} (h : KeptF fp a b) (s : ∀ x ∈ fp, x ∈ fq) : KeptF fq a b :=
  ⟨h.os, h.tape, h.output, h.size, fun j hj hn => h.block j hj (fun m => hn (s j m))⟩
theorem KeptF.of_grown {g : Nat} {a b : World} (h : a.grownBy b (some g)) : KeptF [g] a b := ⟨h.os, h.tape, h.output, h.size, fun j hj hn => h.block j hj (fun e => hn (by simp at e; simp [e]))⟩
theorem KeptF.set {fp : List Nat} {a b : World} (h : KeptF fp a b) {g o : Nat} (hg : g ∈ fp) (v : Value) : KeptF fp a (b.setCell ⟨g, o, none⟩ v) :=
  ⟨h.os, h.tape, h.output, by simpa using h.size, fun j hj hn => (Below.heap_setCell _ _ _ _ (fun e => hn (by have : j = g := e; rw [this]; exact hg))).trans (h.block j hj hn)⟩

structure Mb where
  o : Int
  ad : Option Addr
  cap : Nat
  L : List Int
def Mb.nil : Mb := ⟨0, none, 0, []⟩
def Mb.d (m : Mb) : Int × List Int := (m.o, m.L)
def MbAt (w : World) (b q : Nat) (m : Mb) : Prop :=
  w.cell? ⟨b, q, none⟩ = some (.int .i64 m.o) ∧ w.cell? ⟨b, q + 1, none⟩ = some (.slice m.ad m.L.length m.cap)
theorem MbAt.same {w w' : World} {b q : Nat} {m : Mb} (h : MbAt w b q m) (e : w'.heap[b]? = w.heap[b]?) : MbAt w' b q m :=
  ⟨(World.cell?_of_block (a := ⟨b, q, none⟩) e).trans h.1, (World.cell?_of_block (a := ⟨b, q + 1, none⟩) e).trans h.2⟩
def MbL (w : World) (m : Mb) : Prop := ViewI w m.ad m.L.length (fun i => m.L.getD i 0)
structure MbV (w : World) (ad : Option Addr) (Ms : List Mb) : Prop where
  row : 0 < Ms.length → ∃ b off, ad = some ⟨b, off, none⟩ ∧ ∀ i, i < Ms.length → MbAt w b (off + i * 2) (Ms.getD i Mb.nil)
  nest : ∀ i, i < Ms.length → MbL w (Ms.getD i Mb.nil)
  nil0 : ∀ i, i < Ms.length → (Ms.getD i Mb.nil).ad = none → (Ms.getD i Mb.nil).cap = 0
theorem MbV.lt {w : World} {ad : Option Addr} {Ms : List Mb} (h : MbV w ad Ms) (x : Addr) (e : ad = some x) (hp : 0 < Ms.length) : x.block < w.heap.size := by
  obtain ⟨b, off, e', hc⟩ := h.row hp
  rw [e] at e'
  cases e'
  exact World.block_lt_of_cell? w _ (hc 0 hp).1
theorem MbV.carry {w w' : World} {ad : Option Addr} {Ms : List Mb} (h : MbV w ad Ms) (h1 : ∀ x, ad = some x → 0 < Ms.length → w'.heap[x.block]? = w.heap[x.block]?) (h2 : ∀ i, i < Ms.length → ∀ x, (Ms.getD i Mb.nil).ad = some x → 0 < (Ms.getD i Mb.nil).L.length → w'.heap[x.block]? = w.heap[x.block]?) : MbV w' ad Ms := by
  refine ⟨fun hp => ?_, fun i hi => ViewI.carry (h.nest i hi) (fun x e hp => h2 i hi x e hp), h.nil0⟩
  obtain ⟨b, off, e, hc⟩ := h.row hp
  exact ⟨b, off, e, fun i hi => (hc i hi).same (h1 _ e hp)⟩
theorem MbV.below {w w' : World} {ad : Option Addr} {Ms : List Mb} {B : Nat} (h : MbV w ad Ms) (k : Below B w w') (hB : w.heap.size ≤ B) : MbV w' ad Ms :=
  h.carry (fun x e hp => k.block _ (Nat.lt_of_lt_of_le (h.lt x e hp) hB)) (fun i hi x e hp => k.block _ (Nat.lt_of_lt_of_le (ViewI.lt (h.nest i hi) x e hp) hB))
structure MbW (w : World) (ad : Option Addr) (Ms : List Mb) (fp : List Nat) : Prop where
  view : MbV w ad Ms
  room : Room w ad (Ms.length * 2)
  rooms : ∀ i, i < Ms.length → Room w (Ms.getD i Mb.nil).ad (Ms.getD i Mb.nil).L.length
  rowIn : ∀ x, ad = some x → 0 < Ms.length → x.block ∈ fp
  nestIn : ∀ i, i < Ms.length → ∀ x, (Ms.getD i Mb.nil).ad = some x → 0 < (Ms.getD i Mb.nil).L.length → x.block ∈ fp
  apart : ∀ i, i < Ms.length → ∀ x y, ad = some x → (Ms.getD i Mb.nil).ad = some y → 0 < (Ms.getD i Mb.nil).L.length → y.block ≠ x.block
  aparts : ∀ i j, i < j → j < Ms.length → ∀ x y, (Ms.getD i Mb.nil).ad = some x → (Ms.getD j Mb.nil).ad = some y → 0 < (Ms.getD i Mb.nil).L.length → 0 < (Ms.getD j Mb.nil).L.length → x.block ≠ y.block
end Go.Proofs.YtifndemkkaelaaaGreat
namespace Go.Proofs.YtifndemkkaelaaaGreat
open Go.ChangeShapes Go.WideShapes Go.ChangeAt Go.RowKit
open Go.ChangeMaps (open_string shut_string)
set_option linter.unusedVariables false

def ViewB (w : World) (ad : Option Addr) (len : Nat) (f : Nat → Bool) : Prop :=
  0 < len → ∃ b off, ad = some ⟨b, off, none⟩ ∧ ∀ i, i < len → w.cell? ⟨b, off + i, none⟩ = some (.bool (f i))
theorem ViewB.mk0 {w : World} {b len : Nat} {f : Nat → Bool} (h : ∀ i, i < len → w.cell? ⟨b, i, none⟩ = some (.bool (f i))) : ViewB w (some ⟨b, 0, none⟩) len f :=
  fun _ => ⟨b, 0, rfl, fun i hi => by rw [Nat.zero_add]; exact h i hi⟩
theorem ViewB.carry {w w' : World} {ad : Option Addr} {len : Nat} {f : Nat → Bool} (h : ViewB w ad len f) (hb : ∀ a, ad = some a → 0 < len → w'.heap[a.block]? = w.heap[a.block]?) : ViewB w' ad len f :=
  fun hp => by
    obtain ⟨b, off, e, hc⟩ := h hp
    exact ⟨b, off, e, fun i hi => (World.cell?_of_block (a := ⟨b, off + i, none⟩) (hb ⟨b, off, none⟩ e hp)).trans (hc i hi)⟩
theorem ViewB.lt {w : World} {ad : Option Addr} {len : Nat} {f : Nat → Bool} (h : ViewB w ad len f) (x : Addr) (e : ad = some x) (hp : 0 < len) : x.block < w.heap.size := by
  obtain ⟨b, off, e', hc⟩ := h hp
  rw [e] at e'
  cases e'
  exact World.block_lt_of_cell? w _ (hc 0 hp)
theorem ViewB.below {w w' : World} {ad : Option Addr} {len B : Nat} {f : Nat → Bool} (h : ViewB w ad len f) (k : Below B w w') (hB : w.heap.size ≤ B) : ViewB w' ad len f :=
  h.carry (fun x e hp => k.block _ (Nat.lt_of_lt_of_le (h.lt x e hp) hB))
theorem Tryz.infoB' : (Tryz.prog.info? 4).map (fun i => (i.zero, i.size, i.bytes)) = some (some (.bool false), 1, 1) := by kernel_rfl
end Go.Proofs.YtifndemkkaelaaaGreat
namespace Go.Proofs.YtifndemkkaelaaaGreat
open Go.ChangeShapes Go.WideShapes Go.ChangeAt Go.RowKit
open Go.ChangeMaps (open_string shut_string)
set_option linter.unusedVariables false

structure Hd where
  a : Int
  v : Int
  p : Int
  l : Int
def Hd.nil : Hd := ⟨0, 0, 0, 0⟩
def HAt (w : World) (b o : Nat) (h : Hd) : Prop :=
  w.cell? ⟨b, o, none⟩ = some (.int .i64 h.a) ∧ w.cell? ⟨b, o + 1, none⟩ = some (.int .i64 h.v) ∧ w.cell? ⟨b, o + 2, none⟩ = some (.int .i64 h.p) ∧ w.cell? ⟨b, o + 3, none⟩ = some (.int .i64 h.l)
def HView (w : World) (ad : Option Addr) (L : List Hd) : Prop :=
  0 < L.length → ∃ b off, ad = some ⟨b, off, none⟩ ∧ ∀ i, i < L.length → HAt w b (off + i * 4) (L.getD i Hd.nil)
def HRoom (w : World) (ad : Option Addr) (len : Nat) : Prop :=
  0 < len → ∃ b off, ad = some ⟨b, off, none⟩ ∧ ∀ i, i < len * 4 → (∃ u, w.cell? ⟨b, off + i, none⟩ = some u) ∧ w.frozen? ⟨b, off + i, none⟩ = false
def HIs (ad : Option Addr) (L : List Hd) (P : Nat → Prop) : Prop := ∀ a, ad = some a → 0 < L.length → P a.block
theorem HAt.of_block {w w' : World} {b o : Nat} {h : Hd} (k : HAt w b o h) (hb : w'.heap[b]? = w.heap[b]?) : HAt w' b o h :=
  ⟨(World.cell?_of_block (a := ⟨b, o, none⟩) hb).trans k.1, (World.cell?_of_block (a := ⟨b, o + 1, none⟩) hb).trans k.2.1, (World.cell?_of_block (a := ⟨b, o + 2, none⟩) hb).trans k.2.2.1, (World.cell?_of_block (a := ⟨b, o + 3, none⟩) hb).trans k.2.2.2⟩
theorem HView.carry {w w' : World} {ad : Option Addr} {L : List Hd} (h : HView w ad L) (hb : HIs ad L fun j => w'.heap[j]? = w.heap[j]?) : HView w' ad L :=
  fun hp => by
    obtain ⟨b, off, e, hc⟩ := h hp
    exact ⟨b, off, e, fun i hi => (hc i hi).of_block (hb ⟨b, off, none⟩ e hp)⟩
theorem HView.below {w w' : World} {ad : Option Addr} {L : List Hd} {B : Nat} (h : HView w ad L) (hb : HIs ad L (· < B)) (k : Below B w w') : HView w' ad L :=
  h.carry fun a e hp => k.block _ (hb a e hp)
theorem HRoom.carry {w w' : World} {ad : Option Addr} {len : Nat} (h : HRoom w ad len) (hb : ∀ a, ad = some a → 0 < len → w'.heap[a.block]? = w.heap[a.block]?) : HRoom w' ad len :=
  fun hp => by
    obtain ⟨b, off, e, hc⟩ := h hp
    refine ⟨b, off, e, fun i hi => ⟨?_, ?_⟩⟩
    · obtain ⟨u, hu⟩ := (hc i hi).1
      exact ⟨u, (World.cell?_of_block (a := ⟨b, off + i, none⟩) (hb ⟨b, off, none⟩ e hp)).trans hu⟩
    · exact (World.frozen?_of_block (a := ⟨b, off + i, none⟩) (hb ⟨b, off, none⟩ e hp)).trans (hc i hi).2
theorem Tryz.info97' : (Tryz.prog.info? 97).map (fun i => (i.zero, i.size, i.bytes)) = some (some (.agg #[.int .i64 0, .int .i64 0, .int .i64 0, .int .i64 0]), 4, 32) := by kernel_rfl
end Go.Proofs.YtifndemkkaelaaaGreat
namespace Go.Proofs.YtifndemkkaelaaaGreat
open Go.ChangeShapes Go.WideShapes Go.ChangeAt Go.RowKit
open Go.ChangeMaps (open_string shut_string)
set_option linter.unusedVariables false

def Hd.fits (h : Hd) : Bool := decide (1 ≤ h.a ∧ h.a ≤ 9 ∧ 1 ≤ h.v ∧ h.v ≤ 4 ∧ 0 ≤ h.p ∧ h.p ≤ 3 ∧ 1 ≤ h.l ∧ h.l ≤ 20)
def Hd.bef (x y : Hd) : Bool := decide (x.v < y.v ∨ (x.v = y.v ∧ x.a < y.a))
def TOk (L : List Hd) : Prop := L.length ≤ 12 ∧ (∀ i, i < L.length → (L.getD i Hd.nil).fits = true) ∧ ∀ i, i < L.length → 0 < i → (L.getD (i - 1) Hd.nil).bef (L.getD i Hd.nil) = true
def tokB (L : List Hd) : Bool := decide (L.length ≤ 12 ∧ (∀ i, i < L.length → (L.getD i Hd.nil).fits = true) ∧ ∀ i, i < L.length → 0 < i → (L.getD (i - 1) Hd.nil).bef (L.getD i Hd.nil) = true)
theorem tokB_yes {L : List Hd} (h : TOk L) : tokB L = true := decide_eq_true h
theorem tokB_no {L : List Hd} (h : ¬ TOk L) : tokB L = false := decide_eq_false h
theorem tokB_of {L : List Hd} (h : tokB L = true) : TOk L := by
  unfold tokB at h
  have q := of_decide_eq_true h
  exact q
theorem inIs (n lo hi : Int) (w : World) : Calls Tryz.prog 45 #[.int .i64 n, .int .i64 lo, .int .i64 hi] w fun e w' => e = .returned (.bool (decide (lo ≤ n ∧ n ≤ hi))) ∧ w' = w := by
  by_cases h1 : lo ≤ n
  · by_cases h2 : n ≤ hi
    · rw [decide_eq_true (by omega : lo ≤ n ∧ n ≤ hi)]
      go_enter Tryz.func45, Tryz.ntmps45
      go_wp2
      go_ret
      exact ⟨rfl, rfl⟩
    · rw [decide_eq_false (by omega : ¬ (lo ≤ n ∧ n ≤ hi))]
      have h3 : decide (n ≤ hi) = false := decide_eq_false h2
      go_enter Tryz.func45, Tryz.ntmps45
      go_wp2
      go_ret
      exact ⟨rfl, rfl⟩
  · rw [decide_eq_false (by omega : ¬ (lo ≤ n ∧ n ≤ hi))]
    have h3 : decide (lo ≤ n) = false := decide_eq_false h1
    go_enter Tryz.func45, Tryz.ntmps45
    go_wp2
    go_ret
    exact ⟨rfl, rfl⟩
theorem befS (x y : Hd) (w : World) :
    Calls Tryz.prog 100 #[.agg #[.int .i64 x.a, .int .i64 x.v, .int .i64 x.p, .int .i64 x.l], .agg #[.int .i64 y.a, .int .i64 y.v, .int .i64 y.p, .int .i64 y.l]] w fun e w' => e = .returned (.bool (x.bef y)) ∧ Below w.heap.size w w' := by
  obtain ⟨xa, xv, xp, xl⟩ := x
  obtain ⟨ya, yv, yp, yl⟩ := y
  by_cases h1 : xv < yv
  · rw [show Hd.bef ⟨xa, xv, xp, xl⟩ ⟨ya, yv, yp, yl⟩ = true by unfold Hd.bef; simp; omega]
    go_enter Tryz.func100, Tryz.ntmps100
    go_wp2
    go_ret
    exact ⟨rfl, ((Below.refl _ _).alloc (Nat.le_refl _) _).alloc (by simp) _⟩
  · have h1' : decide (xv < yv) = false := decide_eq_false h1
    by_cases h2 : xv = yv
    · subst h2
      by_cases h3 : xa < ya
      · rw [show Hd.bef ⟨xa, xv, xp, xl⟩ ⟨ya, xv, yp, yl⟩ = true by unfold Hd.bef; simp; omega]
        go_enter Tryz.func100, Tryz.ntmps100
        go_wp2
        go_ret
        exact ⟨rfl, ((Below.refl _ _).alloc (Nat.le_refl _) _).alloc (by simp) _⟩
      · rw [show Hd.bef ⟨xa, xv, xp, xl⟩ ⟨ya, xv, yp, yl⟩ = false by unfold Hd.bef; simp; omega]
        have h3' : decide (xa < ya) = false := decide_eq_false h3
        go_enter Tryz.func100, Tryz.ntmps100
        go_wp2
        go_ret
        exact ⟨rfl, ((Below.refl _ _).alloc (Nat.le_refl _) _).alloc (by simp) _⟩
    · rw [show Hd.bef ⟨xa, xv, xp, xl⟩ ⟨ya, yv, yp, yl⟩ = false by unfold Hd.bef; simp; omega]
      have h2' : (xv == yv) = false := by simp [h2]
      go_enter Tryz.func100, Tryz.ntmps100
      go_wp2
      go_ret
      exact ⟨rfl, ((Below.refl _ _).alloc (Nat.le_refl _) _).alloc (by simp) _⟩
def cmp3 (x y : Int) : Int := if x < y then -1 else if y < x then 1 else 0
theorem cmpI (x y : Int) (w : World) : Calls Tryz.prog 135 #[.int .i64 x, .int .i64 y] w fun e w' => e = .returned (.int .i64 (cmp3 x y)) ∧ w' = w := by
  go_enter Tryz.func135, Tryz.ntmps135
  go_wp2_with (first | (go_at_call 139; refine (nanI _ _).mono ?_; rintro e w' ⟨rfl, rfl⟩) | go_in)
  all_goals (go_ret; refine ⟨?_, rfl⟩; unfold cmp3; (repeat' split) <;> first | rfl | (exfalso; omega))
def or2 (x y : Int) : Int := if x ≠ 0 then x else y
theorem orI (b : Nat) (x y : Int) (w : World) (c0 : w.cell? ⟨b, 0, none⟩ = some (.int .i64 x)) (c1 : w.cell? ⟨b, 1, none⟩ = some (.int .i64 y)) :
    Calls Tryz.prog 134 #[.slice (some ⟨b, 0, none⟩) 2 2] w fun e w' => e = .returned (.int .i64 (or2 x y)) ∧ w' = w := by
  by_cases hx : x = 0
  · subst hx
    by_cases hy : y = 0
    · subst hy
      rw [show or2 0 0 = 0 by simp [or2]]
      go_enter Tryz.func134, Tryz.ntmps134
      go_wp2
      refine wp_loop_rounds 3 ?_
      repeat (rw [rounds_succ]; go_wp2)
      go_ret
      exact ⟨rfl, rfl⟩
    · rw [show or2 0 y = y by simp [or2]]
      have hy' : (y != 0) = true := by simp [hy]
      go_enter Tryz.func134, Tryz.ntmps134
      go_wp2
      refine wp_loop_rounds 2 ?_
      repeat (rw [rounds_succ]; go_wp2)
      go_ret
      exact ⟨rfl, rfl⟩
  · rw [show or2 x y = x by simp [or2, hx]]
    have hx' : (x != 0) = true := by simp [hx]
    go_enter Tryz.func134, Tryz.ntmps134
    go_wp2
    refine wp_loop_rounds 1 ?_
    repeat (rw [rounds_succ]; go_wp2)
    go_ret
    exact ⟨rfl, rfl⟩
set_option maxHeartbeats 1000000 in
theorem fitsH (h : Hd) (w : World) :
    Calls Tryz.prog 122 #[.agg #[.int .i64 h.a, .int .i64 h.v, .int .i64 h.p, .int .i64 h.l]] w fun e w' => e = .returned (.bool h.fits) ∧ Below w.heap.size w w' := by
  obtain ⟨a, v, p, l⟩ := h
  by_cases h0 : 1 ≤ a
  rotate_left
  · rw [show Hd.fits ⟨a, v, p, l⟩ = false by unfold Hd.fits; simp; omega]
    have d0 : decide (1 ≤ a) = false := decide_eq_false h0
    go_enter Tryz.func122, Tryz.ntmps122
    go_wp2
    go_ret
    exact ⟨rfl, (Below.refl _ _).alloc (Nat.le_refl _) _⟩
  by_cases h1 : a ≤ 9
  rotate_left
  · rw [show Hd.fits ⟨a, v, p, l⟩ = false by unfold Hd.fits; simp; omega]
    have d1 : decide (a ≤ 9) = false := decide_eq_false h1
    go_enter Tryz.func122, Tryz.ntmps122
    go_wp2
    go_ret
    exact ⟨rfl, (Below.refl _ _).alloc (Nat.le_refl _) _⟩
  by_cases h2 : 1 ≤ v
  rotate_left
  · rw [show Hd.fits ⟨a, v, p, l⟩ = false by unfold Hd.fits; simp; omega]
    have d2 : decide (1 ≤ v) = false := decide_eq_false h2
    go_enter Tryz.func122, Tryz.ntmps122
    go_wp2
    go_ret
    exact ⟨rfl, (Below.refl _ _).alloc (Nat.le_refl _) _⟩
  by_cases h3 : v ≤ 4
  rotate_left
  · rw [show Hd.fits ⟨a, v, p, l⟩ = false by unfold Hd.fits; simp; omega]
    have d3 : decide (v ≤ 4) = false := decide_eq_false h3
    go_enter Tryz.func122, Tryz.ntmps122
    go_wp2
    go_ret
    exact ⟨rfl, (Below.refl _ _).alloc (Nat.le_refl _) _⟩
  by_cases h4 : 0 ≤ p
  rotate_left
  · rw [show Hd.fits ⟨a, v, p, l⟩ = false by unfold Hd.fits; simp; omega]
    have d4 : decide (0 ≤ p) = false := decide_eq_false h4
    go_enter Tryz.func122, Tryz.ntmps122
    go_wp2
    go_ret
    exact ⟨rfl, (Below.refl _ _).alloc (Nat.le_refl _) _⟩
  by_cases h5 : p < 4
  rotate_left
  · rw [show Hd.fits ⟨a, v, p, l⟩ = false by unfold Hd.fits; simp; omega]
    have d5 : decide (p < 4) = false := decide_eq_false h5
    go_enter Tryz.func122, Tryz.ntmps122
    go_wp2
    go_ret
    exact ⟨rfl, (Below.refl _ _).alloc (Nat.le_refl _) _⟩
  by_cases h6 : 1 ≤ l
  rotate_left
  · rw [show Hd.fits ⟨a, v, p, l⟩ = false by unfold Hd.fits; simp; omega]
    have d6 : decide (1 ≤ l) = false := decide_eq_false h6
    go_enter Tryz.func122, Tryz.ntmps122
    go_wp2
    go_ret
    exact ⟨rfl, (Below.refl _ _).alloc (Nat.le_refl _) _⟩
  by_cases h7 : l ≤ 20
  rotate_left
  · rw [show Hd.fits ⟨a, v, p, l⟩ = false by unfold Hd.fits; simp; omega]
    have d7 : decide (l ≤ 20) = false := decide_eq_false h7
    go_enter Tryz.func122, Tryz.ntmps122
    go_wp2
    go_ret
    exact ⟨rfl, (Below.refl _ _).alloc (Nat.le_refl _) _⟩
  rw [show Hd.fits ⟨a, v, p, l⟩ = true by unfold Hd.fits; simp; omega]
  go_enter Tryz.func122, Tryz.ntmps122
  go_wp2
  go_ret
  exact ⟨rfl, (Below.refl _ _).alloc (Nat.le_refl _) _⟩

end Go.Proofs.YtifndemkkaelaaaGreat
namespace Go.Proofs.YtifndemkkaelaaaGreat
open Go.ChangeShapes Go.WideShapes Go.ChangeAt Go.RowKit
open Go.ChangeMaps (open_string shut_string)
set_option linter.unusedVariables false

def Hd.cmp (x y : Hd) : Int := or2 (cmp3 x.v y.v) (cmp3 x.a y.a)
def S0 (x y : Hd) (w Y : World) : Prop := HAt Y w.heap.size 0 x ∧ HAt Y (w.heap.size + 1) 0 y ∧ Below w.heap.size w Y ∧ w.heap.size + 1 < Y.heap.size
theorem S0.drew {x y : Hd} {w Y : World} (h : S0 x y w Y) : S0 x y w Y.drew := ⟨h.1, h.2.1, h.2.2.1.drew, h.2.2.2⟩
theorem S0.alloc {x y : Hd} {w Y : World} (h : S0 x y w Y) (o : Obj) : S0 x y w (Y.alloc o) :=
  ⟨h.1.of_block ((below_box Y o).block _ (by have := h.2.2.2; omega)), h.2.1.of_block ((below_box Y o).block _ h.2.2.2), h.2.2.1.trans ((below_box Y o).mono (by have := h.2.2.2; omega)), by have := h.2.2.2; simp; omega⟩
set_option maxHeartbeats 1000000 in
theorem cmpH (x y : Hd) (w : World) :
    Calls Tryz.prog 124 #[.agg #[.int .i64 x.a, .int .i64 x.v, .int .i64 x.p, .int .i64 x.l], .agg #[.int .i64 y.a, .int .i64 y.v, .int .i64 y.p, .int .i64 y.l]] w fun e w' => e = .returned (.int .i64 (x.cmp y)) ∧ Below w.heap.size w w' := by
  go_enter Tryz.func124, Tryz.ntmps124
  go_wp2_with fail
  obtain ⟨w0, hw0⟩ : ∃ w0, w0 = (w.alloc (Obj.cells #[.int .i64 x.a, .int .i64 x.v, .int .i64 x.p, .int .i64 x.l] 97)).alloc (Obj.cells #[.int .i64 y.a, .int .i64 y.v, .int .i64 y.p, .int .i64 y.l] 97) := ⟨_, rfl⟩
  have hs0 : S0 x y w w0 := by
    rw [hw0]
    refine ⟨?_, ?_, ?_, ?_⟩
    · refine ⟨?_, ?_, ?_, ?_⟩ <;> simp [go_sem]
    · refine ⟨?_, ?_, ?_, ?_⟩ <;> simp [go_sem]
    · exact ((Below.refl _ _).alloc (Nat.le_refl _) _).alloc (by simp) _
    · simp
  rw [← hw0]
  clear hw0
  refine wp_region_held (S := S0 x y w) (by kernel_rfl) ?_
  change wpAnyH _ _ _ _ _ _ _ _ (World.drew _)
  have hS0 : S0 x y w w0.drew := hs0.drew
  refine takeW 0 5 (.pointer (some ⟨w.heap.size, 1, none⟩)) rfl rfl (by kernel_rfl) (by kernel_rfl) (by kernel_rfl) (fun _ _ _ h => h) (by kernel_rfl) (by (intro w hSw; go_simp)) (by assumption) ?_
  simp only [List.set_cons_zero, List.set_cons_succ]
  refine takeW 1 6 (.int .i64 x.v) rfl rfl (by kernel_rfl) (by kernel_rfl) (by kernel_rfl) (fun _ _ _ h => h) (by kernel_rfl) (by (intro Y hSw; obtain ⟨⟨X1, X2, X3, X4⟩, ⟨Y1, Y2, Y3, Y4⟩, _⟩ := hSw; simp only [Nat.zero_add] at X1 X2 X3 X4 Y1 Y2 Y3 Y4; go_simp)) (by assumption) ?_
  simp only [List.set_cons_zero, List.set_cons_succ]
  refine takeW 2 7 (.pointer (some ⟨w.heap.size + 1, 1, none⟩)) rfl rfl (by kernel_rfl) (by kernel_rfl) (by kernel_rfl) (fun _ _ _ h => h) (by kernel_rfl) (by (intro w hSw; go_simp)) (by assumption) ?_
  simp only [List.set_cons_zero, List.set_cons_succ]
  refine takeW 3 8 (.int .i64 y.v) rfl rfl (by kernel_rfl) (by kernel_rfl) (by kernel_rfl) (fun _ _ _ h => h) (by kernel_rfl) (by (intro Y hSw; obtain ⟨⟨X1, X2, X3, X4⟩, ⟨Y1, Y2, Y3, Y4⟩, _⟩ := hSw; simp only [Nat.zero_add] at X1 X2 X3 X4 Y1 Y2 Y3 Y4; go_simp)) (by assumption) ?_
  simp only [List.set_cons_zero, List.set_cons_succ]
  refine takeW 5 10 (.pointer (some ⟨w.heap.size, 0, none⟩)) rfl rfl (by kernel_rfl) (by kernel_rfl) (by kernel_rfl) (fun _ _ _ h => h) (by kernel_rfl) (by (intro w hSw; go_simp)) (by assumption) ?_
  simp only [List.set_cons_zero, List.set_cons_succ]
  refine takeW 6 11 (.int .i64 x.a) rfl rfl (by kernel_rfl) (by kernel_rfl) (by kernel_rfl) (fun _ _ _ h => h) (by kernel_rfl) (by (intro Y hSw; obtain ⟨⟨X1, X2, X3, X4⟩, ⟨Y1, Y2, Y3, Y4⟩, _⟩ := hSw; simp only [Nat.zero_add] at X1 X2 X3 X4 Y1 Y2 Y3 Y4; go_simp)) (by assumption) ?_
  simp only [List.set_cons_zero, List.set_cons_succ]
  refine takeW 7 12 (.pointer (some ⟨w.heap.size + 1, 0, none⟩)) rfl rfl (by kernel_rfl) (by kernel_rfl) (by kernel_rfl) (fun _ _ _ h => h) (by kernel_rfl) (by (intro w hSw; go_simp)) (by assumption) ?_
  simp only [List.set_cons_zero, List.set_cons_succ]
  refine takeW 8 13 (.int .i64 y.a) rfl rfl (by kernel_rfl) (by kernel_rfl) (by kernel_rfl) (fun _ _ _ h => h) (by kernel_rfl) (by (intro Y hSw; obtain ⟨⟨X1, X2, X3, X4⟩, ⟨Y1, Y2, Y3, Y4⟩, _⟩ := hSw; simp only [Nat.zero_add] at X1 X2 X3 X4 Y1 Y2 Y3 Y4; go_simp)) (by assumption) ?_
  simp only [List.set_cons_zero, List.set_cons_succ]
  refine wpAnyH_all (rs := [4]) (by kernel_rfl) (by simp) ?_
  intro i hi; obtain rfl : i = 4 := by simpa using hi
  refine wpOp_step rfl (fun K hK => ?_)
  rw [if_pos (by kernel_rfl)]
  go_simp
  go_at_call 135
  refine (cmpI x.v y.v _).mono ?_
  rintro e y1 ⟨rfl, hy1⟩
  subst hy1
  refine hK _ _ ⟨hS0, ?_⟩
  clear hK K hi
  refine wpAnyH_all (rs := [9]) (by kernel_rfl) (by simp) ?_
  intro i hi; obtain rfl : i = 9 := by simpa using hi
  refine wpOp_step rfl (fun K hK => ?_)
  rw [if_pos (by kernel_rfl)]
  go_simp
  go_at_call 135
  refine (cmpI x.a y.a _).mono ?_
  rintro e y1 ⟨rfl, hy1⟩
  subst hy1
  refine hK _ _ ⟨hS0, ?_⟩
  clear hK K hi
  refine wpAnyH_all (rs := [10]) (by kernel_rfl) (by simp) ?_
  intro i hi; obtain rfl : i = 10 := by simpa using hi
  refine wpOp_step rfl (fun K hK => ?_)
  rw [if_pos (by kernel_rfl)]
  go_simp
  have hS1 : S0 x y w (w0.drew.alloc (Obj.cells #[.int .i64 (cmp3 x.v y.v), .int .i64 (cmp3 x.a y.a)] 3)) := hS0.alloc _
  refine hK _ _ ⟨hS1, ?_⟩
  clear hK K hi
  refine wpAnyH_all (rs := [11]) (by kernel_rfl) (by simp) ?_
  intro i hi; obtain rfl : i = 11 := by simpa using hi
  refine wpOp_step rfl (fun K hK => ?_)
  rw [if_pos (by kernel_rfl)]
  go_simp
  go_at_call 134
  refine (orI _ (cmp3 x.v y.v) (cmp3 x.a y.a) _ ?q0 ?q1).mono ?_
  case q0 => simp [go_sem]
  case q1 => simp [go_sem]
  rintro e y1 ⟨rfl, hy1⟩
  subst hy1
  refine hK _ _ ⟨hS1, ?_⟩
  clear hK K hi
  refine takeW 12 4 (.int .i64 (or2 (cmp3 x.v y.v) (cmp3 x.a y.a))) rfl rfl (by kernel_rfl) (by kernel_rfl) (by kernel_rfl) (fun _ _ _ h => h) (by kernel_rfl) (by (intro w hSw; go_simp)) (by assumption) ?_
  simp only [List.set_cons_zero, List.set_cons_succ]
  refine wpAnyH_done (by kernel_rfl) ?_ _
  go_wp2
  go_ret
  exact ⟨rfl, hS1.2.2.1⟩
theorem cmp_bef (x y : Hd) : (0 ≤ x.cmp y) ↔ x.bef y = false := by
  unfold Hd.cmp or2 Hd.bef cmp3
  simp only [decide_eq_false_iff_not]
  (repeat' split) <;> omega

end Go.Proofs.YtifndemkkaelaaaGreat
