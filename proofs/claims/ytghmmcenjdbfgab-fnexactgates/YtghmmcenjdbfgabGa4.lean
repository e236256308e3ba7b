/- Lists of flags: marked, held, compared. -/
import Derived.Test.YtghmmcenjdbfgabRows
import Derived.WalkKit
import Derived.ProofKit
import Derived.OpenShut
import Derived.ShutString
import Derived.ChangeOld
import Derived.Below
import Derived.Deep.QuietTactic
import Derived.BigQuiet
import Derived.WalkSmall
import Derived.Laws.OwnMore
import Derived.WalkSpells
import Derived.WalkLawsBesides
import Derived.Test.YtghmmcenjdbfgabGa1
namespace Go.Proofs.Ytghmmcenjdbfgab
open Go.ChangeShapes Go.WideShapes Go.ChangeAt Go.RowKit
open Go.ChangeMaps (open_string shut_string)
set_option linter.unusedVariables false
set_option maxRecDepth 100000

/-- A list of flags that was marked from 1 on. -/
structure MRowB (w : World) (ad : Option Addr) (n : Nat) : Prop where
  v : ViewB w ad n (fun i => mkB (1 + (i : Int)))
  lt : ∀ a, ad = some a → 0 < n → a.block < w.heap.size
theorem MRowB.later {w w' : World} {ad : Option Addr} {n : Nat} (h : MRowB w ad n) (k : Below w.heap.size w w') : MRowB w' ad n :=
  ⟨h.v.carry (fun a e p => k.block _ (h.lt a e p)), fun a e p => Nat.lt_of_lt_of_le (h.lt a e p) k.size⟩
theorem FOwn.roomB {base : Nat} {w : World} {ad : Option Addr} {n cap : Nat} {L : List Bool} (h : FOwn boEnc 1 4 base w (.slice ad n cap) L) : Room w ad L.length := by
  intro hp
  have hn := h.view.1
  subst hn
  obtain ⟨b, off, rfl, hc⟩ := h.view.2.toB hp
  have h0 : off = 0 := by
    rcases h.2 with ⟨q, e⟩ | ⟨g, c, cur, q, _⟩
    · cases q
    · simp only [Value.slice.injEq, Option.some.injEq, Addr.mk.injEq] at q
      exact q.1.2.1
  subst h0
  exact ⟨b, 0, rfl, fun i hi => ⟨⟨_, hc i hi⟩, by rw [Nat.zero_add]; exact h.frozen i⟩⟩
theorem markOwnB (base : Nat) (ad : Option Addr) (cap : Nat) (L : List Bool) (w : World) (h : FOwn boEnc 1 4 base w (.slice ad L.length cap) L) (hl : L.length ≤ 1048576) (hb : base ≤ w.heap.size) :
    Calls Try.prog 13 #[.slice ad L.length cap, .int .i64 1] w fun e w' => e = .returned (.int .i64 (1 + (L.length : Int))) ∧ MRowB w' ad L.length ∧ Below base w w' := by
  refine (markBools ad L.length cap 1 w h.roomB hl (by decide) (by decide)).mono ?_
  rintro e w' ⟨rfl, hv, _, q⟩
  have hlt : ∀ a, ad = some a → base ≤ a.block ∧ a.block < w.heap.size := fun a e => h.lt a.block (by rw [e]; rfl)
  rcases q with rfl | ⟨a, e, _, gr⟩
  · exact ⟨rfl, ⟨hv, fun a e _ => (hlt a e).2⟩, Below.refl _ _⟩
  · exact ⟨rfl, ⟨hv, fun a e _ => Nat.lt_of_lt_of_le (hlt a e).2 gr.size⟩, (Below.refl base w).grown gr hb (fun k e2 => by cases e2; exact (hlt a e).1)⟩
theorem heldRowB (ad : Option Addr) (n cap : Nat) (w : World) (h : MRowB w ad n) (hl : n ≤ 1048576) :
    Calls Try.prog 14 #[.slice ad n cap, .int .i64 1] w fun e w' => e = .returned (.int .i64 (1 + (n : Int))) ∧ Below w.heap.size w w' := by
  refine (heldBools ad n cap 1 w h.v hl (by decide) (by decide)).mono ?_
  rintro e w' ⟨rfl, rfl⟩
  exact ⟨rfl, Below.refl _ _⟩
theorem boEq (ad ad' : Option Addr) (cap cap' : Nat) (L : List Bool) (w : World) (h : FView boEnc w ad L) (h' : FView boEnc w ad' L) (hl : L.length ≤ 1048576) :
    Calls Try.prog 10 #[.slice ad L.length cap, .slice ad' L.length cap'] w fun e w' => e = .returned (.bool true) ∧ Below w.heap.size w w' := by
  refine (eqBools ad ad' L.length cap cap' _ w h.toB h'.toB hl).mono ?_
  rintro e w' ⟨rfl, n, rfl⟩
  exact ⟨rfl, ⟨rfl, rfl, rfl, Nat.le_refl _, fun _ _ => rfl⟩⟩

end Go.Proofs.Ytghmmcenjdbfgab
