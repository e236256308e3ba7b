/- Nets marked; lists of numbers marked and held. -/
import Derived.Test.YtdfjfodfnildiabRows
import Derived.WalkKit
import Derived.ProofKit
import Derived.OpenShut
import Derived.ShutString
import Derived.ChangeOld
import Derived.Below
import Derived.Deep.QuietTactic
import Derived.BigQuiet
import Derived.WalkSmall
import Derived.Laws.OwnMore
import Derived.WalkSpells
import Derived.WalkLawsBesides
import Derived.Deep.Cut
import Derived.Deep.Slices
import Derived.Test.YtdfjfodfnildiabNw7
import Derived.Test.YtdfjfodfnildiabNw8
import Derived.Test.YtdfjfodfnildiabIv0
import Derived.Test.YtdfjfodfnildiabInts
namespace Go.Proofs.Ytdfjfodfnildiab
open Go.ChangeShapes Go.WideShapes Go.ChangeAt Go.RowKit
open Go.ChangeMaps (open_string shut_string)
set_option linter.unusedVariables false
set_option maxRecDepth 100000

set_option maxHeartbeats 4000000 in
theorem bdMarkG (ad : Option Addr) (cap : Nat) (Bs : List Bd) (k0 : Int) (lo hi : Nat) (w : World) (h : NOwn lo hi w (.slice ad Bs.length cap) Bs) (hs : hi ≤ w.heap.size) (hl : Bs.length ≤ 1048576) (hlt : lTo Bs Bs.length ≤ 1048576) (hk0 : 0 ≤ k0) (hk1 : k0 ≤ 1000) :
    Calls Try.prog 32 #[.slice ad Bs.length cap, .int .i64 k0] w fun e w' => e = .returned (.int .i64 (k0 + (kTo Bs Bs.length : Int))) ∧ NOwn lo hi w' (.slice ad Bs.length cap) (marksN Bs k0 Bs.length) ∧ KeptR lo hi w w' := by
  by_cases hz : Bs.length = 0
  · obtain rfl : Bs = [] := List.eq_nil_of_length_eq_zero hz
    go_enter Try.func32, Try.ntmps32
    go_wp2
    refine wp_loop_rounds 1 ?_; rw [rounds_succ]
    go_wp2
    go_ret
    exact ⟨by simp [kTo], by first | (rw [marksN_zero]; exact h) | exact h, KeptR.refl _ _ _⟩
  obtain ⟨g, rfl⟩ : ∃ g, ad = some ⟨g, 0, none⟩ := by
    rcases h.row.2 with ⟨_, q⟩ | ⟨g, cap, cur, q, _⟩
    · omega
    · simp only [Value.slice.injEq] at q
      exact ⟨g, q.1⟩
  have hkb : ∀ j, j ≤ Bs.length → kTo Bs j ≤ 12582912 := fun j hj => by
    have := lTo_mono Bs hj
    rw [kTo_lTo]
    omega
  have hls : ∀ i, i < Bs.length → (Bs.getD i Bd.nil).L.length ≤ 1048576 := fun i hi => Nat.le_trans (getL_le Bs hi) hlt
  replace hlt : Hid _ := hlt
  have M0 : NOwn lo hi w (.slice (some ⟨g, 0, none⟩) Bs.length cap) (marksN Bs k0 0) := by rw [marksN_zero]; exact h
  clear h hz
  go_enter Try.func32, Try.ntmps32
  go_wp2
  go_loopw [1, 5] (fun q i wr => ∃ (k : Nat) (x : Int), k ≤ Bs.length ∧ i = .int .i64 k ∧ q = .int .i64 x ∧ Hid (x = k0 + (kTo Bs k : Int)) ∧ NOwn lo hi wr (.slice (some ⟨g, 0, none⟩) Bs.length cap) (marksN Bs k0 k) ∧ KeptR lo hi w wr) (fun _ i _ => Bs.length - (intOf i).toNat)
  case atStart => exact ⟨0, k0, Nat.zero_le _, rfl, rfl, by unfold Hid; simp [kTo], M0, KeptR.refl _ _ _⟩
  case round =>
    obtain ⟨k, x, hk, rfl, rfl, hx, M, KR⟩ := hrel
    clear M0
    by_cases hlt : k < Bs.length
    · have hx0 : 0 ≤ x := by have := hx.out; omega
      have hx1 : x ≤ 12584000 := by have := hx.out; have := hkb k (by omega); omega
      have hlk := hls k hlt
      have hb3 : Hid (kTo Bs (k + 1) = kTo Bs k + 1 + 11 * (Bs.getD k Bd.nil).L.length) := rfl
      have hml : Hid ((marksN Bs k0 k).length = Bs.length) := marksN_len _ _ _
      have hck := M.view.2.at_ (i := k) (by rw [hml.out]; exact hlt)
      have hnk := M.nest k (by rw [hml.out]; exact hlt)
      rw [marksN_get Bs k0 k hlt, if_neg (by omega)] at hck hnk
      have M' : NOwn lo hi wr (.slice (some ⟨g, 0, none⟩) (marksN Bs k0 k).length cap) (marksN Bs k0 k) := by rw [hml.out]; exact M
      have hfz := M'.row.frozen (k * 2)
      have hsz : hi ≤ wr.heap.size := Nat.le_trans hs KR.size
      have hmv : Hid ((mkd Bs k0 k).v = ((marksN Bs k0 k).getD k Bd.nil).v) := by unfold Hid; rw [mkd_v, marksN_v _ _ _ hlt]
      have hgap := fun q => M.apart k (by rw [hml.out]; exact hlt) g q rfl
      rw [marksN_v _ _ _ hlt] at hgap
      have st := fun (w2 : World) => M'.mark (w2 := w2) (n := k) hsz (by rw [hml.out]; exact hlt) (x := mkd Bs k0 k) hmv.out
      rw [mkd_v, marksN_succ Bs k0 hlt] at st
      simp only [marksN_len] at st
      have hmi : (mkd Bs k0 k).id = x := hx.out.symm
      have hmL : (mkd Bs k0 k).L = (List.range (Bs.getD k Bd.nil).L.length).map (ptMk (x + 1)) := by unfold mkd; rw [hx.out]
      rw [hmi, hmL] at st
      obtain ⟨⟨id, a1, c1, L1⟩, hh⟩ : ∃ m, Bs.getD k Bd.nil = m := ⟨_, rfl⟩
      rw [hh] at hck hnk hlk hgap hb3
      simp only [hh] at st
      unfold Bd.v at hnk hgap st
      dsimp only at hnk hlk hgap st
      obtain ⟨c0, c1_⟩ := hck
      rw [Nat.zero_add] at c0 c1_
      dsimp only at c0 c1_
      have c1' : (wr.setCell ⟨g, k * 2, none⟩ (.int .i64 x)).cell? ⟨g, k * 2 + 1, none⟩ = some (.slice a1 L1.length c1) := (pset_else (by simp)).trans c1_
      have hn1 : FOwn ptEnc 11 68 lo (wr.setCell ⟨g, k * 2, none⟩ (.int .i64 x)) (.slice a1 L1.length c1) L1 := hnk.keep (fun j e => Below.heap_setCell _ _ _ _ (fun q => hgap j e q.symm))
      clear hh M M' hnk hgap hmi hmL hmv
      go_wp2_with fail
      go_at_call 57
      refine (ptMark a1 c1 (x + 1) lo L1 _ hn1 (by omega) (by omega) (by omega)).mono ?_
      rintro e w2 ⟨rfl, o2, gr⟩
      obtain ⟨M1, K1⟩ := st w2 o2 gr
      clear st o2 gr hn1
      go_wp2
      go_roundw
      case rel => exact ⟨k + 1, x + 1 + 11 * (L1.length : Int), by omega, by go_num, rfl, by have := hx.out; have := hb3.out; unfold Hid; omega, M1, KR.trans K1⟩
      case measure => simp [intOf]; omega
    · obtain rfl : k = Bs.length := by omega
      go_wp2
      go_ret
      exact ⟨by rw [← hx.out]; rfl, M, KR⟩
set_option maxHeartbeats 400000 in
theorem heldInts (ad : Option Addr) (len cap : Nat) (m : Int) (w : World) (hv : ViewI w ad len (fun i => m + (i : Int))) (hl : len ≤ 1048576) (hm0 : 0 ≤ m) (hm1 : m ≤ 1000000000000) :
    Calls Try.prog 16 #[.slice ad len cap, .int .i64 m] w fun e w' => e = .returned (.int .i64 (m + len)) ∧ w' = w := by
  go_enter Try.func16, Try.ntmps16
  go_wp2
  go_loop [1, 5] (fun q i => ∃ k : Nat, k ≤ len ∧ i = .int .i64 k ∧ q = .int .i64 (m + k)) (fun _ i => len - (intOf i).toNat)
  case atStart => exact ⟨0, Nat.zero_le _, rfl, by simp⟩
  case round =>
    obtain ⟨k, hk, rfl, rfl⟩ := hrel
    by_cases hlt : k < len
    · obtain ⟨b, off, rfl, hc⟩ := hv (by omega)
      have hck := hc k hlt
      go_wp2
      go_round
      case rel => exact ⟨k + 1, by omega, by go_num, by go_num⟩
      case measure => simp [intOf]; omega
    · obtain rfl : k = len := by omega
      go_wp2
      go_ret
      exact ⟨rfl, rfl⟩
set_option maxHeartbeats 2000000 in
theorem netMarkM (gB gK : Nat) (Cs : List Bd) (K : List Lk) (lo : Nat) (w : World) (h : NetMine lo w gB gK Cs K) (hl : Cs.length ≤ 1048576) (hlt : lTo Cs Cs.length ≤ 1048576) (hk : K.length ≤ 1048576) :
    Calls Try.prog 14 #[.agg #[.slice (some ⟨gB, 0, none⟩) Cs.length Cs.length, .slice (some ⟨gK, 0, none⟩) K.length K.length], .int .i64 1] w fun e w' => (∃ r : Int, e = .returned (.int .i64 r) ∧ 0 ≤ r) ∧ KeptR lo (gK + 1) w w' := by
  have hkb : (kTo Cs Cs.length : Int) ≤ 12582912 := by
    rw [kTo_lTo]
    omega
  obtain ⟨y, hy⟩ : ∃ y, y = w.alloc (Obj.cells #[.slice (some ⟨gB, 0, none⟩) Cs.length Cs.length, .slice (some ⟨gK, 0, none⟩) K.length K.length] 31) := ⟨_, rfl⟩
  have k0y : Below w.heap.size w y := by rw [hy]; exact below_new _
  have A0 : NeAt y w.heap.size (.slice (some ⟨gB, 0, none⟩) Cs.length Cs.length) (.slice (some ⟨gK, 0, none⟩) K.length K.length) := by rw [hy]; exact NeAt.new w _
  have hm := h.lt
  have hy' := h.later k0y
  have hmy := hy'.lt
  obtain ⟨s, hs⟩ : ∃ s, s = 1 + (kTo Cs Cs.length : Int) := ⟨_, rfl⟩
  have s0 : 0 ≤ s := by omega
  have s1 : s ≤ 12582913 := by omega
  replace hs : Hid _ := hs
  go_enter Try.func14, Try.ntmps14
  go_wp2_with fail
  go_at_call 32
  rw [← hy]
  clear hy
  refine (bdMarkG (some ⟨gB, 0, none⟩) Cs.length Cs 1 lo gK y hy'.own (by omega) hl hlt (by decide) (by decide)).mono ?_
  rintro e w1 ⟨rfl, _, kr1⟩
  rw [← hs.out]
  have A1 := A0.keep (kr1.block _ A0.lt (.inr (by omega)))
  have o2 : FOwn lkEnc 4 70 lo w1 (.slice (some ⟨gK, 0, none⟩) K.length K.length) K := hy'.own2.keep (fun g e => kr1.block g (hy'.own2.lt g e).2 (.inr (by have : gK = g := (by simpa [Value.ownBlock] using e); omega)))
  clear A0
  obtain ⟨a0, a1⟩ := A1
  go_wp2_with fail
  go_at_call 33
  refine (lkMark (some ⟨gK, 0, none⟩) K.length s lo K w1 o2 hk s0 (by omega)).mono ?_
  rintro e w2 ⟨rfl, _, gr⟩
  have KR : KeptR lo (gK + 1) w w2 := ((KeptR.of_below k0y).trans (kr1.wide (Nat.le_refl _) (Nat.le_succ _))).trans (KeptR.of_grown gr (fun k e => by have : gK = k := (by simpa [Value.ownBlock] using e); omega))
  clear gr kr1 o2
  go_wp2
  go_ret
  exact ⟨⟨_, rfl, by omega⟩, KR⟩
/-- A list of numbers that was marked from 1 on. -/
structure MRow (w : World) (ad : Option Addr) (n : Nat) : Prop where
  v : ViewI w ad n (fun i => 1 + (i : Int))
  lt : ∀ a, ad = some a → 0 < n → a.block < w.heap.size
theorem MRow.later {w w' : World} {ad : Option Addr} {n : Nat} (h : MRow w ad n) (k : Below w.heap.size w w') : MRow w' ad n :=
  ⟨h.v.carry (fun a e p => k.block _ (h.lt a e p)), fun a e p => Nat.lt_of_lt_of_le (h.lt a e p) k.size⟩
theorem FOwn.roomI {base : Nat} {w : World} {ad : Option Addr} {n cap : Nat} {L : List Int} (h : FOwn ivEnc 1 3 base w (.slice ad n cap) L) : Room w ad L.length := by
  intro hp
  have hn := h.view.1
  subst hn
  obtain ⟨b, off, rfl, hc⟩ := h.view.2.toI hp
  have h0 : off = 0 := by
    rcases h.2 with ⟨q, e⟩ | ⟨g, c, cur, q, _⟩
    · cases q
    · simp only [Value.slice.injEq, Option.some.injEq, Addr.mk.injEq] at q
      exact q.1.2.1
  subst h0
  exact ⟨b, 0, rfl, fun i hi => ⟨⟨_, hc i hi⟩, by rw [Nat.zero_add]; exact h.frozen i⟩⟩
theorem markOwn (base : Nat) (ad : Option Addr) (cap : Nat) (L : List Int) (w : World) (h : FOwn ivEnc 1 3 base w (.slice ad L.length cap) L) (hl : L.length ≤ 1048576) (hb : base ≤ w.heap.size) :
    Calls Try.prog 15 #[.slice ad L.length cap, .int .i64 1] w fun e w' => e = .returned (.int .i64 (1 + (L.length : Int))) ∧ MRow w' ad L.length ∧ Below base w w' := by
  refine (markInts ad L.length cap 1 w h.roomI hl (by decide) (by decide)).mono ?_
  rintro e w' ⟨rfl, hv, _, q⟩
  have hlt : ∀ a, ad = some a → base ≤ a.block ∧ a.block < w.heap.size := fun a e => h.lt a.block (by rw [e]; rfl)
  rcases q with rfl | ⟨a, e, _, gr⟩
  · exact ⟨rfl, ⟨hv, fun a e _ => (hlt a e).2⟩, Below.refl _ _⟩
  · exact ⟨rfl, ⟨hv, fun a e _ => Nat.lt_of_lt_of_le (hlt a e).2 gr.size⟩, (Below.refl base w).grown gr hb (fun k e2 => by cases e2; exact (hlt a e).1)⟩
theorem heldRow (ad : Option Addr) (n cap : Nat) (w : World) (h : MRow w ad n) (hl : n ≤ 1048576) :
    Calls Try.prog 16 #[.slice ad n cap, .int .i64 1] w fun e w' => e = .returned (.int .i64 (1 + (n : Int))) ∧ Below w.heap.size w w' := by
  refine (heldInts ad n cap 1 w h.v hl (by decide) (by decide)).mono ?_
  rintro e w' ⟨rfl, rfl⟩
  exact ⟨rfl, Below.refl _ _⟩
theorem lTo_same {Cs Bs : List Bd} (h : Cs.map Bd.d = Bs.map Bd.d) : ∀ n, lTo Cs n = lTo Bs n
  | 0 => rfl
  | n + 1 => by
    show lTo Cs n + _ = lTo Bs n + _
    rw [lTo_same h n]
    have := congrArg (fun D => D.getD n Bg.nil) h
    simp only [bd_get] at this
    have e : (Cs.getD n Bd.nil).L = (Bs.getD n Bd.nil).L := congrArg Bg.L this
    rw [e]
theorem len_same {Cs Bs : List Bd} (h : Cs.map Bd.d = Bs.map Bd.d) : Cs.length = Bs.length := by
  have := congrArg List.length h
  simpa using this

end Go.Proofs.Ytdfjfodfnildiab
