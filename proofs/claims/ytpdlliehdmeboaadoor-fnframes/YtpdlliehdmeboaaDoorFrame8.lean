/- Marks upon frames; small laws of growth. -/
import Derived.Test.YtpdlliehdmeboaaDoorRows
import Derived.WalkKit
import Derived.ProofKit
import Derived.OpenShut
import Derived.ShutString
import Derived.ChangeOld
import Derived.Below
import Derived.Deep.QuietTactic
import Derived.BigQuiet
import Derived.WalkSmall
import Derived.Laws.OwnMore
import Derived.WalkSpells
import Derived.WalkLawsBesides
import Derived.Test.YtpdlliehdmeboaaDoorFrame7
namespace Go.Proofs.YtpdlliehdmeboaaDoor
open Go.ChangeShapes Go.WideShapes Go.ChangeAt Go.RowKit
open Go.ChangeMaps (open_string shut_string)
set_option linter.unusedVariables false

theorem view_list {w : World} {ad : Option Addr} {len : Nat} {f : Nat → Int} (hv : View w ad len f) (hf : ∀ i, 0 ≤ f i ∧ f i ≤ 255) : ∃ L : List Int, len = L.length ∧ View w ad L.length (fun i => L.getD i 0) ∧ ∀ x ∈ L, 0 ≤ x ∧ x ≤ 255 := by
  refine ⟨(List.range len).map f, by simp, ?_, ?_⟩
  · rw [List.length_map, List.length_range]
    refine hv.congr fun i hi => ?_
    simp [List.getD, hi]
  · intro x hx
    obtain ⟨i, _, rfl⟩ := List.mem_map.1 hx
    exact hf i
theorem written_len (a b c : Int) (L : List Int) : (written a b c L).length ≤ 38 := by
  unfold written
  split
  · rename_i h
    have := body_len (a := a) (b := b) (c := c) (L := L) (okF_of h).2.2.2
    rw [List.length_append]
    simp [low4]
    omega
  · simp
theorem grown_weak {w w' : World} {r : Option Nat} (h : w.grownBy w' none) : w.grownBy w' r :=
  ⟨h.os, h.tape, h.output, h.size, fun j hj _ => h.block j hj (by simp)⟩
theorem grown_below {w w' : World} {g B : Nat} (h : w.grownBy w' (some g)) (hg : B ≤ g) (hs : B ≤ w.heap.size) : Below B w w' :=
  ⟨h.os, h.tape, h.output, h.size, fun k hk => h.block k (by omega) (by simp; omega)⟩
theorem grown_other {w w' : World} {g : Nat} {ad : Option Addr} {len : Nat} {f : Nat → Int} (h : w.grownBy w' (some g)) (hv : View w ad len f) (hne : ∀ x, ad = some x → x.block ≠ g) : View w' ad len f :=
  hv.carry (fun x e hp => h.block _ (hv.lt x e hp) (by have := hne x e; simp; omega))
theorem mark_grown {w w' : World} {ad : Option Addr} {len g : Nat} (h : w' = w ∨ ∃ a, ad = some a ∧ 0 < len ∧ w.grownBy w' (some a.block)) (hg : ∀ a, ad = some a → 0 < len → a.block = g) : w.grownBy w' (some g) := by
  rcases h with rfl | ⟨a, e, hp, hg'⟩
  · exact ⟨rfl, rfl, rfl, Nat.le_refl _, fun _ _ _ => rfl⟩
  · rw [← hg a e hp]; exact hg'
set_option maxHeartbeats 400000 in
theorem markF (a b c : Int) (N len cap : Nat) (w : World) (hr : Room w (some ⟨N, 0, none⟩) len) (hl : len ≤ 1048576) (hN : N < w.heap.size) :
    Calls Tryd.prog 21 #[.agg #[.int .i64 a, .int .i64 b, .int .i64 c, .slice (some ⟨N, 0, none⟩) len cap], .int .i64 1] w fun e w' => e = .returned (.int .i64 (1 + len)) ∧ w.grownBy w' (some N) ∧ View w' (some ⟨N, 0, none⟩) len (fun i => (1 + i) % 256) := by
  go_enter Tryd.func21, Tryd.ntmps21
  go_wp2_with fail
  go_at_call 20
  obtain ⟨x, hx⟩ : ∃ x, x = w.alloc (Obj.cells #[.int .i64 a, .int .i64 b, .int .i64 c, .slice (some ⟨N, 0, none⟩) len cap] 25) := ⟨_, rfl⟩
  have B0 : Below w.heap.size w x := by rw [hx]; exact below_box w _
  rw [← hx]
  clear hx
  refine (markBytes (some ⟨N, 0, none⟩) len cap 1 x (hr.carry (fun y h _ => by simp at h; subst h; exact B0.block _ hN)) hl (by omega) (by omega)).mono ?_
  rintro e w1 ⟨rfl, v1, _, h1⟩
  have h2 := mark_grown (g := N) h1 (fun a h _ => by simp at h; subst h; rfl)
  go_wp2
  go_ret
  exact ⟨rfl, ⟨h2.os.trans B0.os, h2.tape.trans B0.tape, h2.output.trans B0.output, Nat.le_trans B0.size h2.size, fun j hj hne => (h2.block j (Nat.lt_of_lt_of_le hj B0.size) hne).trans (B0.block j hj)⟩, v1⟩

end Go.Proofs.YtpdlliehdmeboaaDoor
