/- What bytes are read as, in plain words. -/
import Derived.Test.YtlgcjhebbmejaaaRows
import Derived.WalkKit
import Derived.ProofKit
import Derived.OpenShut
import Derived.ShutString
import Derived.ChangeOld
import Derived.Below
import Derived.Deep.QuietTactic
import Derived.BigQuiet
import Derived.WalkSmall
import Derived.Laws.OwnMore
import Derived.WalkSpells
import Derived.WalkLawsBesides
import Derived.Deep.Cut
import Derived.Test.YtlgcjhebbmejaaaBp4
namespace Go.Proofs.Ytlgcjhebbmejaaa
open Go.ChangeShapes Go.WideShapes Go.ChangeAt Go.RowKit
open Go.ChangeMaps (open_string shut_string)
set_option linter.unusedVariables false
set_option maxRecDepth 100000

/-- A flag's bit in a byte. -/
def btB (f m : Int) : Bool := !decide (bits .and .i64 f m = 0)
def roB (n : Int) : Int := if n = 3 then 2 else if n = 2 then 1 else if n = 1 then 3 else 0
def numZ (L : List Int) : Int := L.foldl (fun n c => n * 256 + c) 0
def nb (L : List Int) (i k : Nat) : Int := numZ ((L.drop i).take k)
/-- What a row of bytes is read as by the program, and by the specification. -/
def rdI (L : List Int) : Bp := ⟨btB (L.getD 4 0) 1, btB (L.getD 4 0) 2, btB (L.getD 4 0) 64, btB (L.getD 4 0) 16, btB (L.getD 4 0) 32, roB (L.getD 4 0 / 4 % 4), nb L 6 7, nb L 13 4 / 20000, nb L 18 7, nb L 26 1 - 1, nb L 27 1⟩
def cS (L : List Int) : Int := L.getD 13 0 * 16777216 + L.getD 14 0 * 65536 + L.getD 15 0 * 256 + L.getD 16 0
def rdS (L : List Int) : Bp := ⟨btB (L.getD 4 0) 1, btB (L.getD 4 0) 2, btB (L.getD 4 0) 64, btB (L.getD 4 0) 16, btB (L.getD 4 0) 32, roB (L.getD 4 0 / 4 % 4), L.getD 12 0, cS L / 20000, L.getD 24 0, L.getD 26 0 - 1, L.getD 27 0⟩
def bpNil : Bp := ⟨false, false, false, false, false, 0, 0, 0, 0, 0, 0⟩
def fl5 (c a g l o : Bool) (ro : Int) : Int := 4 * roZ ro + bitZ c + 2 * bitZ a + 16 * bitZ l + 32 * bitZ o + 64 * bitZ g
theorem fl5_eq (x : Bp) : flZ x = fl5 x.ch x.ak x.ag x.le x.op x.ro := rfl
set_option maxRecDepth 4000 in
theorem fl5_back (c a g l o : Bool) {ro : Int} (h : 0 ≤ ro ∧ ro ≤ 3) : btB (fl5 c a g l o ro) 1 = c ∧ btB (fl5 c a g l o ro) 2 = a ∧ btB (fl5 c a g l o ro) 64 = g ∧ btB (fl5 c a g l o ro) 16 = l ∧ btB (fl5 c a g l o ro) 32 = o ∧ roB (fl5 c a g l o ro / 4 % 4) = ro := by
  rcases (by omega : ro = 0 ∨ ro = 1 ∨ ro = 2 ∨ ro = 3) with rfl | rfl | rfl | rfl <;> cases c <;> cases a <;> cases g <;> cases l <;> cases o <;> exact ⟨rfl, rfl, rfl, rfl, rfl, rfl⟩
theorem byW_fl (x : Bp) : (byW x).getD 4 0 = flZ x := rfl
theorem cost_all : ∀ n : Fin 21, (20000 * (n.val : Int) / 16777216 % 256 * 16777216 + 20000 * (n.val : Int) / 65536 % 256 * 65536 + 20000 * (n.val : Int) / 256 % 256 * 256 + 20000 * (n.val : Int) % 256) / 20000 = (n.val : Int) := by decide
theorem cost_back {c : Int} (h : 0 ≤ c ∧ c ≤ 20) : (20000 * c / 16777216 % 256 * 16777216 + 20000 * c / 65536 % 256 * 65536 + 20000 * c / 256 % 256 * 256 + 20000 * c % 256) / 20000 = c := by
  obtain ⟨n, rfl⟩ : ∃ n : Nat, c = n := ⟨c.toNat, by omega⟩
  exact cost_all ⟨n, by omega⟩
theorem cost_back2 {c : Int} (h : 0 ≤ c ∧ c ≤ 20) : ((((0 * 256 + 20000 * c / 16777216 % 256) * 256 + 20000 * c / 65536 % 256) * 256 + 20000 * c / 256 % 256) * 256 + 20000 * c % 256) / 20000 = c := by
  refine Eq.trans (congrArg (· / 20000) ?_) (cost_back h)
  omega
theorem rdI_by {x : Bp} (h : bpOk x = true) : rdI (byW x) = x := by
  obtain ⟨hro, hv, _⟩ := bpOk_bd h
  obtain ⟨_, _, c0, c1, _⟩ := vOk_bd hv
  obtain ⟨f1, f2, f3, f4, f5, f6⟩ := fl5_back x.ch x.ak x.ag x.le x.op hro
  have e1 : nb (byW x) 6 7 = x.r := by show ((((((0 * 256 + 0) * 256 + 0) * 256 + 0) * 256 + 0) * 256 + 0) * 256 + 0) * 256 + x.r = x.r; omega
  have e2 : nb (byW x) 13 4 / 20000 = x.c := cost_back2 ⟨c0, c1⟩
  have e3 : nb (byW x) 18 7 = x.b := by show ((((((0 * 256 + 0) * 256 + 0) * 256 + 0) * 256 + 0) * 256 + 0) * 256 + 0) * 256 + x.b = x.b; omega
  have e4 : nb (byW x) 26 1 - 1 = x.p := by show 0 * 256 + (x.p + 1) - 1 = x.p; omega
  have e5 : nb (byW x) 27 1 = x.h := by show 0 * 256 + x.h = x.h; omega
  unfold rdI
  rw [byW_fl, fl5_eq, f1, f2, f3, f4, f5, f6, e1, e2, e3, e4, e5]
theorem rdS_by {x : Bp} (h : bpOk x = true) : rdS (byW x) = x := by
  obtain ⟨hro, hv, _⟩ := bpOk_bd h
  obtain ⟨_, _, c0, c1, _⟩ := vOk_bd hv
  obtain ⟨f1, f2, f3, f4, f5, f6⟩ := fl5_back x.ch x.ak x.ag x.le x.op hro
  have e2 : cS (byW x) / 20000 = x.c := cost_back ⟨c0, c1⟩
  have e4 : (byW x).getD 26 0 - 1 = x.p := by show x.p + 1 - 1 = x.p; omega
  unfold rdS
  rw [byW_fl, fl5_eq, f1, f2, f3, f4, f5, f6, e2, e4]
  rfl
/-- What both BpduOf answer. -/
def outI (L : List Int) : Bp × Bool := if L.length = 36 ∧ byB (rdI L) = L then (rdI L, true) else (bpNil, false)
def outS (L : List Int) : Bp × Bool := if L.length = 36 ∧ byB (rdS L) = L then (rdS L, true) else (bpNil, false)
theorem by_ok {x : Bp} {L : List Int} (hl : L.length = 36) (h : byB x = L) : bpOk x = true ∧ byW x = L := by
  unfold byB at h
  split at h
  · next k => exact ⟨k, h⟩
  · subst h; cases hl
theorem out_same (L : List Int) : outI L = outS L := by
  by_cases hI : L.length = 36 ∧ byB (rdI L) = L
  · obtain ⟨k, e⟩ := by_ok hI.1 hI.2
    have e2 : rdS L = rdI L := by
      have h := rdS_by k
      rw [e] at h
      exact h
    unfold outI outS
    rw [if_pos hI, if_pos ⟨hI.1, by rw [e2]; exact hI.2⟩, e2]
  · by_cases hS : L.length = 36 ∧ byB (rdS L) = L
    · obtain ⟨k, e⟩ := by_ok hS.1 hS.2
      have e2 : rdI L = rdS L := by
        have h := rdI_by k
        rw [e] at h
        exact h
      exact absurd ⟨hS.1, by rw [e2]; exact hS.2⟩ hI
    · unfold outI outS
      rw [if_neg hI, if_neg hS]
theorem outI_len {L : List Int} (h : L.length ≠ 36) : outI L = (bpNil, false) := if_neg fun k => h k.1
theorem outS_len {L : List Int} (h : L.length ≠ 36) : outS L = (bpNil, false) := if_neg fun k => h k.1
theorem outI_no {L : List Int} (h : byB (rdI L) ≠ L) : outI L = (bpNil, false) := if_neg fun k => h k.2
theorem outS_no {L : List Int} (h : byB (rdS L) ≠ L) : outS L = (bpNil, false) := if_neg fun k => h k.2
theorem outI_yes {L : List Int} (hl : L.length = 36) (h : byB (rdI L) = L) : outI L = (rdI L, true) := if_pos ⟨hl, h⟩
theorem outS_yes {L : List Int} (hl : L.length = 36) (h : byB (rdS L) = L) : outS L = (rdS L, true) := if_pos ⟨hl, h⟩
theorem byB_bd (x : Bp) : ∀ y ∈ byB x, 0 ≤ y ∧ y ≤ 255 := by
  intro y hy
  unfold byB at hy
  split at hy
  · next k =>
    obtain ⟨_, hv, h0, h1⟩ := bpOk_bd k
    obtain ⟨r0, r1, c0, c1, b0, b1, p0, p1⟩ := vOk_bd hv
    have := flZ_le x
    simp only [byW, hi4, List.mem_append, List.mem_cons, List.not_mem_nil, or_false] at hy
    omega
  · cases hy

end Go.Proofs.Ytlgcjhebbmejaaa
