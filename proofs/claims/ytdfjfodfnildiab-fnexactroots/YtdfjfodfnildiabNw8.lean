/- Numbers and links that come in. -/
import Derived.Test.YtdfjfodfnildiabRows
import Derived.WalkKit
import Derived.ProofKit
import Derived.OpenShut
import Derived.ShutString
import Derived.ChangeOld
import Derived.Below
import Derived.Deep.QuietTactic
import Derived.BigQuiet
import Derived.WalkSmall
import Derived.Laws.OwnMore
import Derived.WalkSpells
import Derived.WalkLawsBesides
import Derived.Deep.Cut
import Derived.Deep.Slices
import Derived.Lib.SmallJoins
import Derived.Test.YtdfjfodfnildiabInts
import Derived.Test.YtdfjfodfnildiabNw6
import Derived.Test.YtdfjfodfnildiabLk1
namespace Go.Proofs.Ytdfjfodfnildiab
open Go.ChangeShapes Go.WideShapes Go.ChangeAt Go.RowKit
open Go.ChangeMaps (open_string shut_string)
set_option linter.unusedVariables false
set_option maxRecDepth 100000

/-- What is known of a list of numbers that comes in. -/
structure IntsIn (w : World) (ad : Option Addr) (ids : List Int) : Prop where
  lm : ids.length ≤ maxLen
  hv : ViewI w ad ids.length (fun i => ids.getD i 0)
  hB : ∀ a, ad = some a → 0 < ids.length → a.block < w.heap.size
set_option maxRecDepth 100000 in
theorem intsIn_open {H : Type} {enc : TypeId × Value → H} {w : World} {r : Reach} {b0 : Nat} {v : Value} {d : DataW H} {p : List MemPlace} (hv : Value.okWide Try.prog w r b0 35 v) (h : DataW.Trod enc Try.prog w 0 (fun _ => true) true 35 v d p) :
    ∃ ad cap ids, v = .slice ad (List.length ids) cap ∧ IntsIn w ad ids := by
  obtain ⟨n, hn⟩ := h
  obtain ⟨a0, len0, cap0, rfl⟩ := okWide_slice (P := Try.prog) (t := 35) (e := 3) Try.underlying35 hv
  have hcell0 : ∀ x, (Value.slice a0 len0 cap0).cells.toList = [x] → Value.slice a0 len0 cap0 = x := fun x h => by simpa [Value.cells] using h
  rcases open_ints Try.underlying35 Try.underlying3 (by kernel_rfl) hn with ⟨hcs, _⟩ | ⟨x, l, cp, zs, hcs, _, hl, hm, hz, _, hcell, hwz⟩
  · exact ⟨none, 0, [], hcell0 _ hcs, by simp, fun h => absurd h (by simp), fun a h => by simp at h⟩
  · simp at hz
    refine ⟨some x, cp, (List.range l).map (fun i => zs.getD i 0), by rw [hcell0 _ hcs]; simp, by simp; omega, fun hp => ?_, fun a h hp => ?_⟩
    · simp at hp
      obtain ⟨b, off, rfl, hc⟩ := ints_at hcell (by omega)
      refine ⟨b, off, rfl, fun i hi => ?_⟩
      simp at hi
      rw [hc i (by omega)]
      simp [List.getD, hi]
    · obtain rfl : x = a := by simpa using h
      simp at hp
      have hc := hcell 0 (by omega)
      simpa [Addr.add] using World.block_lt_of_cell? w _ hc
/-- What is known of a list of links that comes in. -/
structure LinksIn (w : World) (ad : Option Addr) (cap : Nat) (K : List Lk) : Prop where
  lm : K.length ≤ maxLen
  hv : FView lkEnc w ad K
  hn : ad = none → cap = 0
set_option maxRecDepth 100000 in
theorem linksIn_open {H : Type} {enc : TypeId × Value → H} {w : World} {r : Reach} {b0 : Nat} {v : Value} {d : DataW H} {p : List MemPlace} (hv : Value.okWide Try.prog w r b0 23 v) (h : DataW.Trod enc Try.prog w 0 (fun _ => true) true 23 v d p) :
    ∃ ad cap K, v = .slice ad (List.length K) cap ∧ LinksIn w ad cap K := by
  obtain ⟨n, hn⟩ := h
  obtain ⟨a0, len0, cap0, rfl⟩ := okWide_slice (P := Try.prog) (t := 23) (e := 76) Try.underlying23 hv
  obtain ⟨ad, cap, K, e, m, hV, hz⟩ := lkRow_open (v := .slice a0 len0 cap0) (by simpa [Value.cells] using hn)
  exact ⟨ad, cap, K, e, m, hV, hz⟩
/-- Numbers that a call made: they are read, and may be written. -/
structure IRow (lo : Nat) (w : World) (g : Nat) (n : Nat) (f : Nat → Int) : Prop where
  v : ViewI w (some ⟨g, 0, none⟩) n f
  r : Room w (some ⟨g, 0, none⟩) n
  lt : lo ≤ g ∧ g < w.heap.size
theorem IRow.later {lo : Nat} {w w' : World} {g n : Nat} {f : Nat → Int} (h : IRow lo w g n f) (k : Below w.heap.size w w') : IRow lo w' g n f :=
  ⟨h.v.carry (fun a e _ => by cases e; exact k.block g h.lt.2), h.r.carry (fun a e _ => by cases e; exact k.block g h.lt.2), h.lt.1, Nat.lt_of_lt_of_le h.lt.2 k.size⟩
theorem intEq (ad ad' : Option Addr) (cap cap' : Nat) (n : Nat) (f : Nat → Int) (w : World) (hv : ViewI w ad n f) (hv' : ViewI w ad' n f) (hl : n ≤ 1048576) :
    Calls Try.prog 13 #[.slice ad n cap, .slice ad' n cap'] w fun e w' => e = .returned (.bool true) ∧ Below w.heap.size w w' := by
  refine (eqInts ad ad' n cap cap' f w hv hv' hl).mono ?_
  rintro e w' ⟨rfl, m, rfl⟩
  exact ⟨rfl, ⟨rfl, rfl, rfl, Nat.le_refl _, fun _ _ => rfl⟩⟩
theorem intMark (g cap : Nat) (m : Int) (lo n : Nat) (f : Nat → Int) (w : World) (h : IRow lo w g n f) (hl : n ≤ 1048576) (hm0 : 0 ≤ m) (hm1 : m ≤ 1000000000000) :
    Calls Try.prog 15 #[.slice (some ⟨g, 0, none⟩) n cap, .int .i64 m] w fun e w' => e = .returned (.int .i64 (m + n)) ∧ KeptR g (g + 1) w w' := by
  refine (markInts (some ⟨g, 0, none⟩) n cap m w h.r hl hm0 hm1).mono ?_
  rintro e w' ⟨rfl, _, _, q⟩
  refine ⟨rfl, ?_⟩
  rcases q with rfl | ⟨a, e, _, gr⟩
  · exact KeptR.refl _ _ _
  · cases e
    exact KeptR.of_grown gr (fun k e => by simp only [Option.some.injEq] at e; omega)


end Go.Proofs.Ytdfjfodfnildiab
