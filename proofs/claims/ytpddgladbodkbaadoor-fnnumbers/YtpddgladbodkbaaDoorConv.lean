/- Bytes as text, and both SumOf. -/
import Derived.Test.YtpddgladbodkbaaDoorRows
import Derived.WalkKit
import Derived.ProofKit
import Derived.OpenShut
import Derived.ShutString
import Derived.ChangeOld
import Derived.Below
import Derived.Deep.QuietTactic
import Derived.BigQuiet
import Derived.WalkSmall
import Derived.Laws.OwnMore
import Derived.WalkSpells
import Derived.WalkLawsBesides
import Derived.Lib.BufferRead
import Derived.Laws.IdiomStrings
import Derived.Test.YtpddgladbodkbaaDoorBytes
namespace Go.Proofs.YtpddgladbodkbaaDoor
open Go.ChangeShapes Go.WideShapes Go.ChangeAt Go.RowKit
open Go.ChangeMaps (open_string shut_string)
set_option linter.unusedVariables false

/-- The text of a row of bytes. -/
def txt (L : List Int) : ByteArray := ⟨(L.map fun x => UInt8.ofNat x.toNat).toArray⟩
theorem conv_view {w : World} {ad : Option Addr} {cap : Nat} {L : List Int} (hv : View w ad L.length (fun i => L.getD i 0)) (hb : ∀ x ∈ L, 0 ≤ x ∧ x ≤ 255) :
    (convert 22 9 (.slice ad L.length cap)).run Tryd.prog w = .ok (.string (txt L)) w := by
  cases ad with
  | none =>
    have hL : L = [] := by
      cases L with
      | nil => rfl
      | cons a r => obtain ⟨b, off, e, _⟩ := hv (by simp); cases e
    subst hL
    exact Lib.run_convert_nil_bytes w 22 9 5 cap Tryd.underlying22 Tryd.underlying5 Tryd.underlying9
  | some a =>
    have h := run_convert_bytes_back (P := Tryd.prog) w 22 9 5 a cap (L.map fun x => UInt8.ofNat x.toNat) Tryd.underlying22 Tryd.underlying5 Tryd.underlying9 (fun j hj => by
      have hj' : j < L.length := by simpa using hj
      obtain ⟨b, off, e, hc⟩ := hv (by omega)
      cases e
      have hcj : w.cell? ⟨b, off + j, none⟩ = some (.int .u8 (L.getD j 0)) := hc j hj'
      have hbj := hb L[j] (List.getElem_mem hj')
      have e1 : L.getD j 0 = L[j] := by simp [List.getD, List.getElem?_eq_getElem hj']
      rw [e1] at hcj
      have e2 : (((L.map fun x => UInt8.ofNat x.toNat)[j]'hj).toNat : Int) = L[j] := by simp; omega
      rw [e2]
      by_cases hj0 : j = 0
      · subst hj0; simpa [Addr.add] using hcj
      · simpa [Addr.add, hj0] using hcj)
    rw [List.length_map] at h
    exact h
/-- What string(b) answers in every later world. -/
theorem conv_later {w w' : World} {ad : Option Addr} {cap : Nat} {L : List Int} {B : Nat} (hv : View w ad L.length (fun i => L.getD i 0)) (hb : ∀ x ∈ L, 0 ≤ x ∧ x ≤ 255) (k : ∀ a, ad = some a → a.block < B) (h : Below B w w') :
    (convert 22 9 (.slice ad L.length cap)).run Tryd.prog w' = .ok (.string (txt L)) w' :=
  conv_view (hv.carry (fun a e _ => h.block _ (k a e))) hb

def sx (f : Nat → Int) : Nat → Int
  | 0 => 1
  | k + 1 => (sx f k + f k) % 65521
def sy (f : Nat → Int) : Nat → Int
  | 0 => 0
  | k + 1 => (sy f k + sx f (k + 1)) % 65521
theorem sx_bd (f : Nat → Int) (k : Nat) : 0 ≤ sx f k ∧ sx f k ≤ 65520 := by
  cases k with
  | zero => simp [sx]
  | succ k => simp only [sx]; omega
theorem sy_bd (f : Nat → Int) (k : Nat) : 0 ≤ sy f k ∧ sy f k ≤ 65520 := by
  cases k with
  | zero => simp [sy]
  | succ k => simp only [sy]; omega

set_option maxHeartbeats 400000 in
theorem sumSpec (ad : Option Addr) (len cap : Nat) (f : Nat → Int) (w : World) (hv : View w ad len f) (hl : len ≤ 1048576) (hf : ∀ i, 0 ≤ f i ∧ f i ≤ 255) :
    Calls Tryd.prog 20 #[.slice ad len cap] w fun e w' => e = .returned (.int .i64 (sy f len * 65536 + sx f len)) ∧ w' = w := by
  go_enter Tryd.func20, Tryd.ntmps20
  go_wp2
  go_loop [3, 4, 5] (fun x y i => ∃ k : Nat, k ≤ len ∧ i = .int .i64 k ∧ x = .int .i64 (sx f k) ∧ y = .int .i64 (sy f k)) (fun _ _ i => len - (intOf i).toNat)
  case atStart => exact ⟨0, Nat.zero_le _, rfl, rfl, rfl⟩
  case round =>
    obtain ⟨k, hk, rfl, rfl, rfl⟩ := hrel
    have bx := sx_bd f k
    have by' := sy_bd f k
    have bf := hf k
    by_cases hlt : k < len
    · obtain ⟨b, off, rfl, hc⟩ := hv (by omega)
      have hck := hc k hlt
      have bx1 := sx_bd f (k + 1)
      have HX : Hid (sx f (k + 1) = (sx f k + f k) % 65521) := rfl
      have HY : Hid (sy f (k + 1) = (sy f k + sx f (k + 1)) % 65521) := rfl
      go_wp2
      go_round
      case rel => exact ⟨k + 1, by omega, by go_num, by rw [HX.out], by rw [HY.out, HX.out]⟩
      case measure => simp [intOf]; omega
    · obtain rfl : k = len := by omega
      go_wp2
      go_ret
      exact ⟨rfl, rfl⟩

set_option maxHeartbeats 400000 in
theorem sumImpl (ad : Option Addr) (len cap : Nat) (f : Nat → Int) (w : World) (hv : View w ad len f) (hl : len ≤ 1048576) (hf : ∀ i, 0 ≤ f i ∧ f i ≤ 255) :
    Calls Tryd.prog 19 #[.slice ad len cap] w fun e w' => e = .returned (.int .i64 (sy f len * 65536 + sx f len)) ∧ w' = w := by
  go_enter Tryd.func19, Tryd.ntmps19
  go_wp2
  go_loop [3, 4, 9] (fun x y i => ∃ k : Nat, k ≤ len ∧ i = .int .i64 k ∧ x = .int .i64 (sx f k) ∧ y = .int .i64 (sy f k)) (fun _ _ i => len - (intOf i).toNat)
  case atStart => exact ⟨0, Nat.zero_le _, rfl, rfl, rfl⟩
  case round =>
    obtain ⟨k, hk, rfl, rfl, rfl⟩ := hrel
    have bx := sx_bd f k
    have by' := sy_bd f k
    have bf := hf k
    by_cases hlt : k < len
    · obtain ⟨b, off, rfl, hc⟩ := hv (by omega)
      have hck := hc k hlt
      have bx1 := sx_bd f (k + 1)
      have HX : Hid (sx f (k + 1) = (sx f k + f k) % 65521) := rfl
      have HY : Hid (sy f (k + 1) = (sy f k + sx f (k + 1)) % 65521) := rfl
      go_wp2
      go_round
      case rel => exact ⟨k + 1, by omega, by go_num, by rw [HX.out], by rw [HY.out, HX.out]⟩
      case measure => simp [intOf]; omega
    · obtain rfl : k = len := by omega
      go_wp2
      go_ret
      exact ⟨rfl, rfl⟩


end Go.Proofs.YtpddgladbodkbaaDoor
