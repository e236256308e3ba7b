/- Lists of bridges, marked. -/
import Derived.Test.YtdfjfodfnildiabRows
import Derived.WalkKit
import Derived.ProofKit
import Derived.OpenShut
import Derived.ShutString
import Derived.ChangeOld
import Derived.Below
import Derived.Deep.QuietTactic
import Derived.BigQuiet
import Derived.WalkSmall
import Derived.Laws.OwnMore
import Derived.WalkSpells
import Derived.WalkLawsBesides
import Derived.Deep.Cut
import Derived.Test.YtdfjfodfnildiabNw1
import Derived.Test.YtdfjfodfnildiabPts3
namespace Go.Proofs.Ytdfjfodfnildiab
open Go.ChangeShapes Go.WideShapes Go.ChangeAt Go.RowKit
open Go.ChangeMaps (open_string shut_string)
set_option linter.unusedVariables false
set_option maxRecDepth 100000

/-- All blocks but those from lo on below hi are as they were. -/
structure KeptR (lo hi : Nat) (w w' : World) : Prop where
  os : w'.os = w.os
  tape : w'.tape = w.tape
  output : w'.output = w.output
  size : w.heap.size ≤ w'.heap.size
  block : ∀ k, k < w.heap.size → (k < lo ∨ hi ≤ k) → w'.heap[k]? = w.heap[k]?
theorem KeptR.refl (lo hi : Nat) (w : World) : KeptR lo hi w w := ⟨rfl, rfl, rfl, Nat.le_refl _, fun _ _ _ => rfl⟩
theorem KeptR.trans {lo hi : Nat} {a b c : World} (h : KeptR lo hi a b) (k : KeptR lo hi b c) : KeptR lo hi a c :=
  ⟨k.os.trans h.os, k.tape.trans h.tape, k.output.trans h.output, Nat.le_trans h.size k.size, fun j hj hn => (k.block j (Nat.lt_of_lt_of_le hj h.size) hn).trans (h.block j hj hn)⟩
theorem KeptR.below {lo hi : Nat} {a b : World} (h : KeptR lo hi a b) (hs : lo ≤ a.heap.size) : Below lo a b := ⟨h.os, h.tape, h.output, h.size, fun j hj => h.block j (by omega) (.inl hj)⟩
theorem KeptR.of_below {lo hi : Nat} {a b : World} (h : Below a.heap.size a b) : KeptR lo hi a b := ⟨h.os, h.tape, h.output, h.size, fun j hj _ => h.block j hj⟩
theorem KeptR.wide {lo hi lo' hi' : Nat} {a b : World} (h : KeptR lo hi a b) (h1 : lo' ≤ lo) (h2 : hi ≤ hi') : KeptR lo' hi' a b := ⟨h.os, h.tape, h.output, h.size, fun j hj q => h.block j hj (by omega)⟩
theorem KeptR.of_grown {lo hi : Nat} {g : Option Nat} {a b : World} (h : a.grownBy b g) (hg : ∀ k, g = some k → lo ≤ k ∧ k < hi) : KeptR lo hi a b := ⟨h.os, h.tape, h.output, h.size, fun j hj q => h.block j hj (fun e => by have := hg j e.symm; omega)⟩
theorem KeptR.set {lo hi : Nat} {a b : World} (h : KeptR lo hi a b) {g o : Nat} (hg : lo ≤ g ∧ g < hi) (v : Value) : KeptR lo hi a (b.setCell ⟨g, o, none⟩ v) :=
  ⟨h.os, h.tape, h.output, by simpa using h.size, fun j hj hn => (Below.heap_setCell _ _ _ _ (fun e => by have : j = g := e; omega)).trans (h.block j hj hn)⟩
/-- How many marks the first j take. -/
def kTo (Bs : List Bd) : Nat → Nat
  | 0 => 0
  | j + 1 => kTo Bs j + 1 + 11 * (Bs.getD j Bd.nil).L.length
theorem kTo_lTo (Bs : List Bd) : ∀ j, kTo Bs j = j + 11 * lTo Bs j
  | 0 => rfl
  | j + 1 => by
    show kTo Bs j + 1 + _ = j + 1 + 11 * (lTo Bs j + _)
    rw [kTo_lTo Bs j]
    omega
theorem kTo_mono (Bs : List Bd) {i j : Nat} (h : i ≤ j) : kTo Bs i ≤ kTo Bs j := by
  induction h with
  | refl => exact Nat.le_refl _
  | step _ ih => exact Nat.le_trans ih (by show _ ≤ kTo Bs _ + 1 + _; omega)
/-- One of them, marked. -/
def mkd (Bs : List Bd) (k0 : Int) (j : Nat) : Bd := ⟨k0 + (kTo Bs j : Int), (Bs.getD j Bd.nil).ad, (Bs.getD j Bd.nil).cap, (List.range (Bs.getD j Bd.nil).L.length).map (ptMk (k0 + (kTo Bs j : Int) + 1))⟩
/-- The first n marked. -/
def marksN (Bs : List Bd) (k0 : Int) (n : Nat) : List Bd := (List.range Bs.length).map fun j => if j < n then mkd Bs k0 j else Bs.getD j Bd.nil
theorem marksN_len (Bs : List Bd) (k0 : Int) (n : Nat) : (marksN Bs k0 n).length = Bs.length := by simp [marksN]
theorem marksN_get (Bs : List Bd) (k0 : Int) (n : Nat) {j : Nat} (h : j < Bs.length) : (marksN Bs k0 n).getD j Bd.nil = if j < n then mkd Bs k0 j else Bs.getD j Bd.nil := by simp [marksN, List.getD, h]
theorem marksN_zero (Bs : List Bd) (k0 : Int) : marksN Bs k0 0 = Bs := by
  refine List.ext_getElem (by simp [marksN]) fun i h1 h2 => ?_
  simp [marksN, List.getD, h2]
theorem marksN_succ (Bs : List Bd) (k0 : Int) {n : Nat} (h : n < Bs.length) : (marksN Bs k0 n).set n (mkd Bs k0 n) = marksN Bs k0 (n + 1) := by
  refine List.ext_getElem (by simp [marksN]) fun i h1 h2 => ?_
  have hi : i < Bs.length := by simpa [marksN] using h2
  rw [List.getElem_set]
  simp only [marksN, List.getElem_map, List.getElem_range]
  by_cases e : n = i
  · subst e
    rw [if_pos rfl, if_pos (by omega)]
  · rw [if_neg e]
    by_cases q : i < n
    · rw [if_pos q, if_pos (by omega)]
    · rw [if_neg q, if_neg (by omega)]
theorem mkd_v (Bs : List Bd) (k0 : Int) (j : Nat) : (mkd Bs k0 j).v = (Bs.getD j Bd.nil).v := by
  unfold mkd Bd.v
  simp
theorem marksN_v (Bs : List Bd) (k0 : Int) (n : Nat) {j : Nat} (h : j < Bs.length) : ((marksN Bs k0 n).getD j Bd.nil).v = (Bs.getD j Bd.nil).v := by
  rw [marksN_get _ _ _ h]
  split
  · exact mkd_v Bs k0 j
  · rfl
theorem row_id {g : Nat} {cap lo : Nat} {w : World} {Ms : List Bd} {n : Nat} (hn : n < Ms.length) (h : FOwn bdEnc 2 54 lo w (.slice (some ⟨g, 0, none⟩) Ms.length cap) Ms) {x : Bd} (hv : x.v = (Ms.getD n Bd.nil).v) : FOwn bdEnc 2 54 lo (w.setCell ⟨g, n * 2, none⟩ (.int .i64 x.id)) (.slice (some ⟨g, 0, none⟩) (Ms.set n x).length cap) (Ms.set n x) := by
  have hs := (World.ownsRow.stored (show w.ownsRow lo 54 2 _ Ms.length (fcells bdEnc Ms) from h) (n * 2) (.int .i64 x.id)).1
  have e : (fcells bdEnc Ms).set (n * 2) (.int .i64 x.id) = fcells bdEnc (Ms.set n x) := by
    rw [← setAll_cells bdEnc_len (by omega) Bd.nil Ms n hn x]
    show _ = ((fcells bdEnc Ms).set (n * 2) (.int .i64 x.id)).set (n * 2 + 1) (.slice x.ad x.L.length x.cap)
    have hl := fcells_len bdEnc_len Ms
    have hc : (fcells bdEnc Ms)[n * 2 + 1]? = some (.slice x.ad x.L.length x.cap) := by
      rw [fcells_at bdEnc_len Bd.nil Ms n 1 hn (by omega)]
      show some (Ms.getD n Bd.nil).v = some x.v
      rw [hv]
    apply List.ext_getElem?
    intro j
    by_cases q : j = n * 2 + 1
    · subst q
      rw [List.getElem?_set_ne (by omega), hc, List.getElem?_set_self (by rw [List.length_set, hl]; omega)]
    · rw [List.getElem?_set_ne (Ne.symm q)]
  rw [e] at hs
  unfold FOwn
  rw [List.length_set]
  exact hs
theorem NOwn.mark {lo hi : Nat} {g cap : Nat} {w w2 : World} {Ms : List Bd} {n : Nat} (h : NOwn lo hi w (.slice (some ⟨g, 0, none⟩) Ms.length cap) Ms) (hs : hi ≤ w.heap.size) (hn : n < Ms.length) {x : Bd} (hv : x.v = (Ms.getD n Bd.nil).v)
    (o2 : FOwn ptEnc 11 68 lo w2 x.v x.L) (gr : (w.setCell ⟨g, n * 2, none⟩ (.int .i64 x.id)).grownBy w2 x.v.ownBlock) : NOwn lo hi w2 (.slice (some ⟨g, 0, none⟩) (Ms.set n x).length cap) (Ms.set n x) ∧ KeptR lo hi w w2 := by
  have hgl := h.row.lt g rfl
  have hgh := h.rhi g rfl
  have hxb : ∀ k, x.v.ownBlock = some k → lo ≤ k ∧ k < hi ∧ k ≠ g := fun k e => by
    rw [hv] at e
    exact ⟨((h.nest n hn).lt k e).1, h.nhi n hn k e, fun q => h.apart n hn g k rfl e q.symm⟩
  have bl : ∀ k, k < w.heap.size → k ≠ g → (∀ q, x.v.ownBlock = some q → q ≠ k) → w2.heap[k]? = w.heap[k]? := fun k hk h1 h2 => (gr.block k (by simpa using hk) (fun e => h2 k e.symm rfl)).trans (Below.heap_setCell _ _ _ _ h1)
  have get : ∀ j, j < (Ms.set n x).length → (j ≠ n ∧ j < Ms.length ∧ (Ms.set n x).getD j Bd.nil = Ms.getD j Bd.nil) ∨ (j = n ∧ (Ms.set n x).getD j Bd.nil = x) := fun j hj => by
    rw [List.length_set] at hj
    by_cases e : j = n
    · subst e
      exact .inr ⟨rfl, by simp [List.getD, hj]⟩
    · exact .inl ⟨e, hj, by simp [List.getD, List.getElem?_set_ne (Ne.symm e)]⟩
  have gv : ∀ j, j < (Ms.set n x).length → j < Ms.length ∧ ((Ms.set n x).getD j Bd.nil).v = (Ms.getD j Bd.nil).v := fun j hj => by
    rcases get j hj with ⟨_, q, r⟩ | ⟨q, r⟩
    · exact ⟨q, by rw [r]⟩
    · exact ⟨by rw [q]; exact hn, by rw [r, hv, q]⟩
  refine ⟨⟨?_, fun j hj => ?_, fun k e => h.rhi k e, fun j hj k e => ?_, fun j hj k k' e e' => ?_, fun i j hij hj k k' e e' => ?_⟩, ?_⟩
  · refine (row_id hn h.row hv).keep (fun k e => ?_)
    obtain rfl : g = k := by simpa [Value.ownBlock] using e
    exact gr.block g (by simpa using hgl.2) (fun e => (hxb g e.symm).2.2 rfl)
  · rcases get j hj with ⟨q, q2, r⟩ | ⟨q, r⟩
    · rw [r]
      refine (h.nest j q2).keep (fun k e => bl k ((h.nest j q2).lt k e).2 (fun q3 => h.apart j q2 g k rfl e q3.symm) (fun p hp hq => ?_))
      rw [hv] at hp
      rcases Nat.lt_or_gt_of_ne q with q4 | q4
      · exact h.aparts j n q4 hn k p e hp hq.symm
      · exact h.aparts n j q4 q2 p k hp e hq
    · rw [r]
      exact o2
  · obtain ⟨q, r⟩ := gv j hj
    rw [r] at e
    exact h.nhi j q k e
  · obtain ⟨q, r⟩ := gv j hj
    rw [r] at e'
    exact h.apart j q k k' e e'
  · obtain ⟨q, r⟩ := gv j hj
    obtain ⟨q2, r2⟩ := gv i (by omega)
    rw [r] at e'
    rw [r2] at e
    exact h.aparts i j hij q k k' e e'
  · refine KeptR.trans ((KeptR.refl lo hi w).set ⟨hgl.1, hgh⟩ _) (KeptR.of_grown gr (fun k e => ⟨(hxb k e).1, (hxb k e).2.1⟩))
set_option maxHeartbeats 4000000 in
theorem bdMark (ad : Option Addr) (cap : Nat) (Bs : List Bd) (k0 : Int) (lo hi : Nat) (w : World) (h : NOwn lo hi w (.slice ad Bs.length cap) Bs) (hs : hi ≤ w.heap.size) (hl : Bs.length ≤ 100) (hls : ∀ i, i < Bs.length → (Bs.getD i Bd.nil).L.length ≤ 100) (hk0 : 0 ≤ k0) (hk1 : k0 ≤ 100000000) :
    Calls Try.prog 32 #[.slice ad Bs.length cap, .int .i64 k0] w fun e w' => e = .returned (.int .i64 (k0 + (kTo Bs Bs.length : Int))) ∧ NOwn lo hi w' (.slice ad Bs.length cap) (marksN Bs k0 Bs.length) ∧ KeptR lo hi w w' := by
  by_cases hz : Bs.length = 0
  · obtain rfl : Bs = [] := List.eq_nil_of_length_eq_zero hz
    go_enter Try.func32, Try.ntmps32
    go_wp2
    refine wp_loop_rounds 1 ?_; rw [rounds_succ]
    go_wp2
    go_ret
    exact ⟨by simp [kTo], by first | (rw [marksN_zero]; exact h) | exact h, KeptR.refl _ _ _⟩
  obtain ⟨g, rfl⟩ : ∃ g, ad = some ⟨g, 0, none⟩ := by
    rcases h.row.2 with ⟨_, q⟩ | ⟨g, cap, cur, q, _⟩
    · omega
    · simp only [Value.slice.injEq] at q
      exact ⟨g, q.1⟩
  have hkb : ∀ j, j ≤ Bs.length → kTo Bs j ≤ 200000 := fun j hj => by
    have h1 : ∀ i, i ≤ Bs.length → lTo Bs i ≤ 100 * i := by
      intro i
      induction i with
      | zero => intro _; exact Nat.le_refl _
      | succ i ih =>
        intro hi
        have := ih (by omega)
        have := hls i (by omega)
        show lTo Bs i + _ ≤ _
        omega
    have := h1 j hj
    rw [kTo_lTo]
    omega
  have M0 : NOwn lo hi w (.slice (some ⟨g, 0, none⟩) Bs.length cap) (marksN Bs k0 0) := by rw [marksN_zero]; exact h
  clear h hz
  go_enter Try.func32, Try.ntmps32
  go_wp2
  go_loopw [1, 5] (fun q i wr => ∃ (k : Nat) (x : Int), k ≤ Bs.length ∧ i = .int .i64 k ∧ q = .int .i64 x ∧ Hid (x = k0 + (kTo Bs k : Int)) ∧ NOwn lo hi wr (.slice (some ⟨g, 0, none⟩) Bs.length cap) (marksN Bs k0 k) ∧ KeptR lo hi w wr) (fun _ i _ => Bs.length - (intOf i).toNat)
  case atStart => exact ⟨0, k0, Nat.zero_le _, rfl, rfl, by unfold Hid; simp [kTo], M0, KeptR.refl _ _ _⟩
  case round =>
    obtain ⟨k, x, hk, rfl, rfl, hx, M, KR⟩ := hrel
    clear M0
    by_cases hlt : k < Bs.length
    · have hx0 : 0 ≤ x := by have := hx.out; omega
      have hx1 : x ≤ 100200000 := by have := hx.out; have := hkb k (by omega); omega
      have hlk := hls k hlt
      have hb3 : Hid (kTo Bs (k + 1) = kTo Bs k + 1 + 11 * (Bs.getD k Bd.nil).L.length) := rfl
      have hml : Hid ((marksN Bs k0 k).length = Bs.length) := marksN_len _ _ _
      have hck := M.view.2.at_ (i := k) (by rw [hml.out]; exact hlt)
      have hnk := M.nest k (by rw [hml.out]; exact hlt)
      rw [marksN_get Bs k0 k hlt, if_neg (by omega)] at hck hnk
      have M' : NOwn lo hi wr (.slice (some ⟨g, 0, none⟩) (marksN Bs k0 k).length cap) (marksN Bs k0 k) := by rw [hml.out]; exact M
      have hfz := M'.row.frozen (k * 2)
      have hsz : hi ≤ wr.heap.size := Nat.le_trans hs KR.size
      have hmv : Hid ((mkd Bs k0 k).v = ((marksN Bs k0 k).getD k Bd.nil).v) := by unfold Hid; rw [mkd_v, marksN_v _ _ _ hlt]
      have hgap := fun q => M.apart k (by rw [hml.out]; exact hlt) g q rfl
      rw [marksN_v _ _ _ hlt] at hgap
      have st := fun (w2 : World) => M'.mark (w2 := w2) (n := k) hsz (by rw [hml.out]; exact hlt) (x := mkd Bs k0 k) hmv.out
      rw [mkd_v, marksN_succ Bs k0 hlt] at st
      simp only [marksN_len] at st
      have hmi : (mkd Bs k0 k).id = x := hx.out.symm
      have hmL : (mkd Bs k0 k).L = (List.range (Bs.getD k Bd.nil).L.length).map (ptMk (x + 1)) := by unfold mkd; rw [hx.out]
      rw [hmi, hmL] at st
      obtain ⟨⟨id, a1, c1, L1⟩, hh⟩ : ∃ m, Bs.getD k Bd.nil = m := ⟨_, rfl⟩
      rw [hh] at hck hnk hlk hgap hb3
      simp only [hh] at st
      unfold Bd.v at hnk hgap st
      dsimp only at hnk hlk hgap st
      obtain ⟨c0, c1_⟩ := hck
      rw [Nat.zero_add] at c0 c1_
      dsimp only at c0 c1_
      have c1' : (wr.setCell ⟨g, k * 2, none⟩ (.int .i64 x)).cell? ⟨g, k * 2 + 1, none⟩ = some (.slice a1 L1.length c1) := (pset_else (by simp)).trans c1_
      have hn1 : FOwn ptEnc 11 68 lo (wr.setCell ⟨g, k * 2, none⟩ (.int .i64 x)) (.slice a1 L1.length c1) L1 := hnk.keep (fun j e => Below.heap_setCell _ _ _ _ (fun q => hgap j e q.symm))
      clear hh M M' hnk hgap hmi hmL hmv
      go_wp2_with fail
      go_at_call 57
      refine (ptMark a1 c1 (x + 1) lo L1 _ hn1 (by omega) (by omega) (by omega)).mono ?_
      rintro e w2 ⟨rfl, o2, gr⟩
      obtain ⟨M1, K1⟩ := st w2 o2 gr
      clear st o2 gr hn1
      go_wp2
      go_roundw
      case rel => exact ⟨k + 1, x + 1 + 11 * (L1.length : Int), by omega, by go_num, rfl, by have := hx.out; have := hb3.out; unfold Hid; omega, M1, KR.trans K1⟩
      case measure => simp [intOf]; omega
    · obtain rfl : k = Bs.length := by omega
      go_wp2
      go_ret
      exact ⟨by rw [← hx.out]; rfl, M, KR⟩
end Go.Proofs.Ytdfjfodfnildiab
