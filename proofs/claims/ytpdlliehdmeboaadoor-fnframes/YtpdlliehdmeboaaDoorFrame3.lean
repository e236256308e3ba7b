/- Bytes as text; frames that are the same. -/
import Derived.Test.YtpdlliehdmeboaaDoorRows
import Derived.WalkKit
import Derived.ProofKit
import Derived.OpenShut
import Derived.ShutString
import Derived.ChangeOld
import Derived.Below
import Derived.Deep.QuietTactic
import Derived.BigQuiet
import Derived.WalkSmall
import Derived.Laws.OwnMore
import Derived.WalkSpells
import Derived.WalkLawsBesides
import Derived.Lib.BufferRead
import Derived.Laws.IdiomStrings
import Derived.Test.YtpdlliehdmeboaaDoorFrame1
namespace Go.Proofs.YtpdlliehdmeboaaDoor
open Go.ChangeShapes Go.WideShapes Go.ChangeAt Go.RowKit
open Go.ChangeMaps (open_string shut_string)
set_option linter.unusedVariables false

/-- The text of a row of bytes. -/
def txt (L : List Int) : ByteArray := ⟨(L.map fun x => UInt8.ofNat x.toNat).toArray⟩
theorem conv_view {w : World} {ad : Option Addr} {cap : Nat} {L : List Int} (hv : View w ad L.length (fun i => L.getD i 0)) (hb : ∀ x ∈ L, 0 ≤ x ∧ x ≤ 255) :
    (convert 22 9 (.slice ad L.length cap)).run Tryd.prog w = .ok (.string (txt L)) w := by
  cases ad with
  | none =>
    have hL : L = [] := by
      cases L with
      | nil => rfl
      | cons a r => obtain ⟨b, off, e, _⟩ := hv (by simp); cases e
    subst hL
    exact Lib.run_convert_nil_bytes w 22 9 5 cap Tryd.underlying22 Tryd.underlying5 Tryd.underlying9
  | some a =>
    have h := run_convert_bytes_back (P := Tryd.prog) w 22 9 5 a cap (L.map fun x => UInt8.ofNat x.toNat) Tryd.underlying22 Tryd.underlying5 Tryd.underlying9 (fun j hj => by
      have hj' : j < L.length := by simpa using hj
      obtain ⟨b, off, e, hc⟩ := hv (by omega)
      cases e
      have hcj : w.cell? ⟨b, off + j, none⟩ = some (.int .u8 (L.getD j 0)) := hc j hj'
      have hbj := hb L[j] (List.getElem_mem hj')
      have e1 : L.getD j 0 = L[j] := by simp [List.getD, List.getElem?_eq_getElem hj']
      rw [e1] at hcj
      have e2 : (((L.map fun x => UInt8.ofNat x.toNat)[j]'hj).toNat : Int) = L[j] := by simp; omega
      rw [e2]
      by_cases hj0 : j = 0
      · subst hj0; simpa [Addr.add] using hcj
      · simpa [Addr.add, hj0] using hcj)
    rw [List.length_map] at h
    exact h
/-- What string(b) answers in every later world. -/
theorem conv_later {w w' : World} {ad : Option Addr} {cap : Nat} {L : List Int} {B : Nat} (hv : View w ad L.length (fun i => L.getD i 0)) (hb : ∀ x ∈ L, 0 ≤ x ∧ x ≤ 255) (k : ∀ a, ad = some a → a.block < B) (h : Below B w w') :
    (convert 22 9 (.slice ad L.length cap)).run Tryd.prog w' = .ok (.string (txt L)) w' :=
  conv_view (hv.carry (fun a e _ => h.block _ (k a e))) hb

/-- The text of the first n bytes of a row. -/
def txtf (f : Nat → Int) (n : Nat) : ByteArray := txt ((List.range n).map f)
theorem conv_f {w : World} {ad : Option Addr} {len cap : Nat} {f : Nat → Int} (hv : View w ad len f) (hf : ∀ i, 0 ≤ f i ∧ f i ≤ 255) :
    (convert 22 9 (.slice ad len cap)).run Tryd.prog w = .ok (.string (txtf f len)) w := by
  have h := conv_view (w := w) (ad := ad) (cap := cap) (L := (List.range len).map f) (by
    rw [List.length_map, List.length_range]
    refine hv.congr fun i hi => ?_
    simp [List.getD, hi]) (by
    intro x hx
    obtain ⟨i, _, rfl⟩ := List.mem_map.1 hx
    exact hf i)
  rw [List.length_map, List.length_range] at h
  exact h
/-- Whether two rows are the same text. -/
def sameT (f : Nat → Int) (len : Nat) (f' : Nat → Int) (len' : Nat) : Bool := (txtf f len).toList == (txtf f' len').toList
/-- Whether two frames are the same. -/
def sameF (a b c a' b' c' : Int) (t : Bool) : Bool := decide (a = a') && decide (b = b') && decide (c = c') && t
theorem bytesEqual (ad ad' : Option Addr) (len cap len' cap' : Nat) (f f' : Nat → Int) (w : World) (hv : View w ad len f) (hv' : View w ad' len' f') (hf : ∀ i, 0 ≤ f i ∧ f i ≤ 255) (hf' : ∀ i, 0 ≤ f' i ∧ f' i ≤ 255) :
    Calls Tryd.prog 46 #[.slice ad len cap, .slice ad' len' cap'] w fun e w' => e = .returned (.bool (sameT f len f' len')) ∧ w' = w := by
  have h1 := conv_f (cap := cap) hv hf
  have h2 := conv_f (cap := cap') hv' hf'
  go_enter Tryd.func46, Tryd.ntmps46
  go_wp2
  go_ret
  exact ⟨rfl, rfl⟩

set_option maxHeartbeats 1000000 in
theorem sameSpec (a b c a' b' c' : Int) (ad ad' : Option Addr) (len cap len' cap' : Nat) (f f' : Nat → Int) (w : World) (hv : View w ad len f) (hv' : View w ad' len' f') (hf : ∀ i, 0 ≤ f i ∧ f i ≤ 255) (hf' : ∀ i, 0 ≤ f' i ∧ f' i ≤ 255)
    (hB : ∀ x, ad = some x → 0 < len → x.block < w.heap.size) (hB' : ∀ x, ad' = some x → 0 < len' → x.block < w.heap.size) :
    Calls Tryd.prog 14 #[.agg #[.int .i64 a, .int .i64 b, .int .i64 c, .slice ad len cap], .agg #[.int .i64 a', .int .i64 b', .int .i64 c', .slice ad' len' cap']] w fun e w' => e = .returned (.bool (sameF a b c a' b' c' (sameT f len f' len'))) ∧ Below w.heap.size w w' := by
  have b0 : Below w.heap.size w ((w.alloc (Obj.cells #[.int .i64 a, .int .i64 b, .int .i64 c, .slice ad len cap] 25)).alloc (Obj.cells #[.int .i64 a', .int .i64 b', .int .i64 c', .slice ad' len' cap'] 25)) := ((Below.refl _ _).alloc (Nat.le_refl _) _).alloc (by simp) _
  have h1 := conv_f (cap := cap) (hv.carry (fun x h hp => b0.block _ (hB x h hp))) hf
  have h2 := conv_f (cap := cap') (hv'.carry (fun x h hp => b0.block _ (hB' x h hp))) hf'
  by_cases ea : a = a'
  rotate_left
  · have k : decide (a = a') = false := by simp [ea]
    have e : sameF a b c a' b' c' (sameT f len f' len') = false := by unfold sameF; simp [ea]
    rw [e]
    clear e
    go_enter Tryd.func14, Tryd.ntmps14
    go_wp2
    go_ret
    exact ⟨rfl, b0⟩
  subst ea
  by_cases eb : b = b'
  rotate_left
  · have k : decide (b = b') = false := by simp [eb]
    have e : sameF a b c a b' c' (sameT f len f' len') = false := by unfold sameF; simp [eb]
    rw [e]
    clear e
    go_enter Tryd.func14, Tryd.ntmps14
    go_wp2
    go_ret
    exact ⟨rfl, b0⟩
  subst eb
  by_cases ec : c = c'
  rotate_left
  · have k : decide (c = c') = false := by simp [ec]
    have e : sameF a b c a b c' (sameT f len f' len') = false := by unfold sameF; simp [ec]
    rw [e]
    clear e
    go_enter Tryd.func14, Tryd.ntmps14
    go_wp2
    go_ret
    exact ⟨rfl, b0⟩
  subst ec
  have e : sameF a b c a b c (sameT f len f' len') = sameT f len f' len' := by unfold sameF; simp
  rw [e]
  clear e
  go_enter Tryd.func14, Tryd.ntmps14
  go_wp2
  go_ret
  exact ⟨rfl, b0⟩


end Go.Proofs.YtpdlliehdmeboaaDoor
