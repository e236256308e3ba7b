/- Ticks, counted; who is there; laws.at and laws.big. -/
import Derived.Test.YtogabciiicjloaaRows
import Derived.WalkKit
import Derived.ProofKit
import Derived.OpenShut
import Derived.ShutString
import Derived.ChangeOld
import Derived.Below
import Derived.Deep.QuietTactic
import Derived.BigQuiet
import Derived.WalkSmall
import Derived.Laws.OwnMore
import Derived.WalkSpells
import Derived.WalkLawsBesides
import Derived.Test.YtogabciiicjloaaDrawT3
namespace Go.Proofs.Ytogabciiicjloaa
open Go.ChangeShapes Go.WideShapes Go.ChangeAt Go.RowKit
open Go.ChangeMaps (open_string shut_string)
set_option linter.unusedVariables false

/-- So many ticks. -/
def agedN : Nat → List Hd → List Hd
  | 0, L => L
  | n + 1, L => aged (agedN n L)
theorem agedN_len (n : Nat) (L : List Hd) : (agedN n L).length ≤ L.length := by
  induction n with
  | zero => exact Nat.le_refl _
  | succ n ih => exact Nat.le_trans (aged_len _) ih
theorem wrap_small (n : Int) (h0 : 0 ≤ n) (h1 : n ≤ 20) : wrap64 n = n := by
  unfold wrap64
  omega
theorem agedN_is (L : List Hd) (hL : ∀ h ∈ L, 1 ≤ h.l ∧ h.l ≤ 20) (n : Nat) : agedN n L = (L.filter fun h => decide ((n : Int) < h.l)).map fun h => ⟨h.a, h.v, h.p, h.l - n⟩ := by
  induction n with
  | zero =>
    have e : L.filter (fun h => decide (((0 : Nat) : Int) < h.l)) = L := List.filter_eq_self.2 fun h hh => by have := hL h hh; simp; omega
    rw [e]
    simp [agedN]
  | succ n ih =>
    show aged (agedN n L) = _
    rw [ih]
    unfold aged
    rw [List.filter_map, List.map_map, List.filter_filter]
    have e : (L.filter fun a => ((fun h => !goneA h) ∘ fun h : Hd => ⟨h.a, h.v, h.p, h.l - (n : Int)⟩) a && decide ((n : Int) < a.l)) = L.filter fun h => decide (((n + 1 : Nat) : Int) < h.l) := by
      refine List.filter_congr fun h hh => ?_
      have := hL h hh
      rw [Bool.eq_iff_iff]
      simp [goneA]
      omega
    rw [e]
    refine List.map_congr_left fun h hh => ?_
    have h1 := hL h (List.mem_filter.1 hh).1
    have h2 := (List.mem_filter.1 hh).2
    simp at h2
    show (⟨h.a, h.v, h.p, wrap64 (h.l - (n : Int) - 1)⟩ : Hd) = _
    rw [wrap_small _ (by omega) (by omega)]
    simp
    omega
theorem where_true (L : List Hd) (a v : Int) : (whereR L a v).2 = true ↔ ∃ h ∈ L, h.a = a ∧ h.v = v := by
  induction L with
  | nil => simp [whereR]
  | cons h t ih =>
    unfold whereR
    by_cases e : h.a = a ∧ h.v = v
    · rw [if_pos e]
      exact ⟨fun _ => ⟨h, by simp, e⟩, fun _ => rfl⟩
    · rw [if_neg e, ih]
      constructor
      · rintro ⟨x, hx, hk⟩
        exact ⟨x, by simp [hx], hk⟩
      · rintro ⟨x, hx, hk⟩
        rcases List.mem_cons.1 hx with rfl | hx
        · exact absurd hk e
        · exact ⟨x, hx, hk⟩
theorem bef_trans {x y z : Hd} (h1 : x.bef y = true) (h2 : y.bef z = true) : x.bef z = true := by
  unfold Hd.bef at *
  simp at *
  omega
theorem ord_all {L : List Hd} (o : ∀ i, i < L.length → 0 < i → (L.getD (i - 1) Hd.nil).bef (L.getD i Hd.nil) = true) (i : Nat) : ∀ d, i + d + 1 < L.length → (L.getD i Hd.nil).bef (L.getD (i + d + 1) Hd.nil) = true := by
  intro d
  induction d with
  | zero => intro h; exact o (i + 1) h (by omega)
  | succ d ih => intro h; exact bef_trans (ih (by omega)) (o (i + d + 1 + 1) h (by omega))
/-- Of a table each is there once. -/
theorem tok_once {L : List Hd} (h : TOk L) {i j : Nat} (hi : i < L.length) (hj : j < L.length) (ha : (L.getD i Hd.nil).a = (L.getD j Hd.nil).a) (hv : (L.getD i Hd.nil).v = (L.getD j Hd.nil).v) : i = j := by
  rcases Nat.lt_trichotomy i j with e | e | e
  · obtain ⟨d, rfl⟩ : ∃ d, j = i + d + 1 := ⟨j - i - 1, by omega⟩
    have := ord_all h.2.2 i d hj
    unfold Hd.bef at this
    have := of_decide_eq_true this
    omega
  · exact e
  · obtain ⟨d, rfl⟩ : ∃ d, i = j + d + 1 := ⟨i - j - 1, by omega⟩
    have := ord_all h.2.2 j d hi
    unfold Hd.bef at this
    have := of_decide_eq_true this
    omega
theorem mem_getD {L : List Hd} {h : Hd} (hh : h ∈ L) : ∃ i, i < L.length ∧ L.getD i Hd.nil = h := by
  obtain ⟨i, hi, e⟩ := List.getElem_of_mem hh
  exact ⟨i, hi, by simp [List.getD, List.getElem?_eq_getElem hi, e]⟩
theorem getD_mem {L : List Hd} {i : Nat} (hi : i < L.length) : L.getD i Hd.nil ∈ L := by simp [List.getD, List.getElem?_eq_getElem hi]
theorem tok_left {L : List Hd} (h : TOk L) : ∀ x ∈ L, 1 ≤ x.l ∧ x.l ≤ 20 := by
  intro x hx
  obtain ⟨i, hi, rfl⟩ := mem_getD hx
  have := h.2.1 i hi
  unfold Hd.fits at this
  have := of_decide_eq_true this
  omega
theorem still_there {L : List Hd} (h : TOk L) {i : Nat} (hi : i < L.length) {x : Hd} (hx : L.getD i Hd.nil = x) {n : Nat} (hn : (n : Int) < x.l) : (whereR (agedN n L) x.a x.v).2 = true := by
  rw [where_true, agedN_is L (tok_left h)]
  refine ⟨⟨x.a, x.v, x.p, x.l - n⟩, List.mem_map.2 ⟨x, List.mem_filter.2 ⟨by rw [← hx]; exact getD_mem hi, by simpa using hn⟩, rfl⟩, rfl, rfl⟩
theorem gone_then {L : List Hd} (h : TOk L) {i : Nat} (hi : i < L.length) {x : Hd} (hx : L.getD i Hd.nil = x) {n : Nat} (hn : x.l ≤ (n : Int)) : (whereR (agedN n L) x.a x.v).2 = false := by
  cases q : (whereR (agedN n L) x.a x.v).2 with
  | false => rfl
  | true =>
    exfalso
    rw [where_true, agedN_is L (tok_left h)] at q
    obtain ⟨y, hy, e1, e2⟩ := q
    obtain ⟨z, hz, rfl⟩ := List.mem_map.1 hy
    obtain ⟨hz1, hz2⟩ := List.mem_filter.1 hz
    obtain ⟨j, hj, hjz⟩ := mem_getD hz1
    have hz3 := of_decide_eq_true hz2
    have e : j = i := tok_once h hj hi (by rw [hx, hjz]; exact e1) (by rw [hx, hjz]; exact e2)
    subst e
    rw [hx] at hjz
    subst hjz
    omega
theorem bigYes (ad : Option Addr) (len cap : Nat) (w : World) (h : (1048576 : Int) < (len : Int)) : Calls Try.prog 8 #[.slice ad len cap] w fun e w' => e = .returned (.bool true) ∧ w' = w := by
  go_enter Try.func8, Try.ntmps8
  go_wp2
  go_ret
  exact ⟨rfl, rfl⟩
theorem bigNo (ad : Option Addr) (len cap : Nat) (w : World) (h : len ≤ 1048576) : Calls Try.prog 8 #[.slice ad len cap] w fun e w' => e = .returned (.bool false) ∧ w' = w := by
  have h' : decide ((1048576 : Int) < (len : Int)) = false := decide_eq_false (by omega)
  go_enter Try.func8, Try.ntmps8
  go_wp2
  go_ret
  exact ⟨rfl, rfl⟩
theorem atIs (ad : Option Addr) (len cap : Nat) (f : Nat → Int) (w : World) (h : Code0 w ad len f) : Calls Try.prog 25 #[.slice ad len cap, .int .i64 1] w fun e w' => ∃ n : Int, e = .returned (.int .i64 n) ∧ 0 ≤ n ∧ n ≤ 255 ∧ w' = w := by
  have hsm := h.small
  by_cases hl : (1 : Int) < (len : Int)
  · obtain ⟨b, off, rfl, hc⟩ := h.view (by omega)
    have c1 := hc 1 (by omega)
    have hb := h.bytes 1
    generalize f 1 = n at c1 hb
    obtain ⟨hb0, hb1⟩ := hb
    clear hc h
    go_enter Try.func25, Try.ntmps25
    go_wp2
    go_ret
    exact ⟨n, rfl, hb0, hb1, rfl⟩
  · have hl' : decide ((1 : Int) < (len : Int)) = false := decide_eq_false hl
    clear h
    go_enter Try.func25, Try.ntmps25
    go_wp2
    go_ret
    exact ⟨_, rfl, by omega, by omega, rfl⟩

end Go.Proofs.Ytogabciiicjloaa
