/- Nets that a call made. -/
import Derived.Test.YtdfjfodfnildiabRows
import Derived.WalkKit
import Derived.ProofKit
import Derived.OpenShut
import Derived.ShutString
import Derived.ChangeOld
import Derived.Below
import Derived.Deep.QuietTactic
import Derived.BigQuiet
import Derived.WalkSmall
import Derived.Laws.OwnMore
import Derived.WalkSpells
import Derived.WalkLawsBesides
import Derived.Deep.Cut
import Derived.Test.YtdfjfodfnildiabNe1
import Derived.Test.YtdfjfodfnildiabNe2
import Derived.Test.YtdfjfodfnildiabNo2
namespace Go.Proofs.Ytdfjfodfnildiab
open Go.ChangeShapes Go.WideShapes Go.ChangeAt Go.RowKit
open Go.ChangeMaps (open_string shut_string)
set_option linter.unusedVariables false
set_option maxRecDepth 100000

/-- A net that a call made: its memory is its own, from lo on; the bridges' lies below gK, the links' at gK. -/
structure NetMine (lo : Nat) (w : World) (gB gK : Nat) (Cs : List Bd) (K : List Lk) : Prop where
  own : NOwn lo gK w (.slice (some ⟨gB, 0, none⟩) Cs.length Cs.length) Cs
  own2 : FOwn lkEnc 4 70 lo w (.slice (some ⟨gK, 0, none⟩) K.length K.length) K
  lt : lo ≤ gK ∧ gK < w.heap.size
theorem NetMine.later {lo : Nat} {w w' : World} {gB gK : Nat} {Cs : List Bd} {K : List Lk} (h : NetMine lo w gB gK Cs K) (k : Below w.heap.size w w') : NetMine lo w' gB gK Cs K :=
  ⟨h.own.below k (Nat.le_of_lt h.lt.2), h.own2.later k, h.lt.1, Nat.lt_of_lt_of_le h.lt.2 k.size⟩
theorem NetMine.nn {lo : Nat} {w : World} {gB gK : Nat} {Cs : List Bd} {K : List Lk} (h : NetMine lo w gB gK Cs K) (hl : Cs.length ≤ 1048576) (hls : ∀ i, i < Cs.length → (Cs.getD i Bd.nil).L.length ≤ 1048576) (hk : K.length ≤ 1048576) : NN w (some ⟨gB, 0, none⟩) Cs (some ⟨gK, 0, none⟩) K :=
  ⟨h.own.view.2, h.own2.view.2, hl, hls, hk⟩
theorem same_ls {Bs Cs : List Bd} (h : Cs.map Bd.d = Bs.map Bd.d) {n : Nat} (hls : ∀ i, i < Bs.length → (Bs.getD i Bd.nil).L.length ≤ n) : ∀ i, i < Cs.length → (Cs.getD i Bd.nil).L.length ≤ n := by
  intro i hi
  have hl : Cs.length = Bs.length := by have := congrArg List.length h; simpa using this
  have := congrArg (fun D => D.getD i Bg.nil) h
  simp only [bd_get] at this
  have e : (Cs.getD i Bd.nil).L = (Bs.getD i Bd.nil).L := congrArg Bg.L this
  rw [e]
  exact hls i (by omega)
theorem netTo (adB : Option Addr) (capB : Nat) (Bs : List Bd) (adK : Option Addr) (capK : Nat) (K : List Lk) (w : World) (h : NN w adB Bs adK K) :
    Calls Try.prog 8 #[.agg #[.slice adB Bs.length capB, .slice adK K.length capK]] w fun e w' => ∃ gB gK Cs, e = .returned (.agg #[.slice (some ⟨gB, 0, none⟩) Cs.length Cs.length, .slice (some ⟨gK, 0, none⟩) K.length K.length]) ∧ Cs.map Bd.d = Bs.map Bd.d ∧ NetMine w.heap.size w' gB gK Cs K ∧ NN w' (some ⟨gB, 0, none⟩) Cs (some ⟨gK, 0, none⟩) K ∧ Below w.heap.size w w' := by
  refine (neTo adB capB Bs adK capK K w h.vb h.vk h.hl h.hls h.hk).mono ?_
  rintro e w' ⟨gB, gK, Cs, rfl, M⟩
  have hm : NetMine w.heap.size w' gB gK Cs K := ⟨by rw [M.len]; exact M.own, M.own2, M.lt⟩
  exact ⟨gB, gK, Cs, by rw [M.len], M.d, hm, hm.nn (by rw [M.len]; exact h.hl) (same_ls M.d h.hls) h.hk, M.bel⟩
theorem netEq (adB adB' : Option Addr) (capB capB' : Nat) (Bs Bs' : List Bd) (adK adK' : Option Addr) (capK capK' : Nat) (K : List Lk) (w : World) (h : NN w adB Bs adK K) (h' : NN w adB' Bs' adK' K) (hd : Bs'.map Bd.d = Bs.map Bd.d) :
    Calls Try.prog 10 #[.agg #[.slice adB Bs.length capB, .slice adK K.length capK], .agg #[.slice adB' Bs'.length capB', .slice adK' K.length capK']] w fun e w' => e = .returned (.bool true) ∧ Below w.heap.size w w' :=
  neEq adB adB' capB capB' Bs Bs' adK adK' capK capK' K w h.vb h'.vb hd h.vk h'.vk h.hl h.hls h.hk

end Go.Proofs.Ytdfjfodfnildiab
