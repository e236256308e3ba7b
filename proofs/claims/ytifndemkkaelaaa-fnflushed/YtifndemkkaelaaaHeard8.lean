/- What was heard, as a map by its place. -/
import Derived.Test.YtifndemkkaelaaaRows
import Derived.WalkKit
import Derived.ProofKit
import Derived.OpenShut
import Derived.ShutString
import Derived.ChangeOld
import Derived.Below
import Derived.Deep.QuietTactic
import Derived.BigQuiet
import Derived.WalkSmall
import Derived.Laws.OwnMore
import Derived.WalkSpells
import Derived.Maps.Own
import Derived.Maps.OwnOps
import Derived.Maps.OwnSet
import Derived.Maps.RangeWalk
import Derived.Test.YtifndemkkaelaaaHeard6
namespace Go.Proofs.Ytifndemkkaelaaa
open Go.ChangeShapes Go.WideShapes Go.ChangeAt Go.RowKit
open Go.ChangeMaps (open_string shut_string)
set_option linter.unusedVariables false

open Go.Maps (Keyed has)
def Hd.agg (h : Hd) : Value := .agg #[.int .i64 h.a, .int .i64 h.v, .int .i64 h.p, .int .i64 h.l]
def hdD (h : Hd) : DataW Unit := .agg [.lit (.int .i64 h.a), .lit (.int .i64 h.v), .lit (.int .i64 h.p), .lit (.int .i64 h.l)]
/-- How one that was heard reads, in a map. -/
def hdR : Value → Option (DataW Unit × List MemPlace)
  | .agg xs => match xs.toList with
    | [.int .i64 a, .int .i64 v, .int .i64 p, .int .i64 l] => some (hdD ⟨a, v, p, l⟩, [])
    | _ => none
  | _ => none
theorem hdR_mk (h : Hd) : hdR h.agg = some (hdD h, []) := rfl
theorem hdR_inv {v : Value} {y : DataW Unit × List MemPlace} (e : hdR v = some y) : ∃ h : Hd, v = h.agg ∧ y = (hdD h, []) := by
  unfold hdR at e
  split at e
  · rename_i xs
    split at e
    · rename_i a v p l hx
      cases e
      refine ⟨⟨a, v, p, l⟩, ?_, rfl⟩
      show Value.agg xs = _
      rw [show xs = #[.int .i64 a, .int .i64 v, .int .i64 p, .int .i64 l] from Array.ext' hx]
      rfl
    · cases e
  · cases e
theorem hdD_inj {x y : Hd} (e : hdD x = hdD y) : x = y := by
  obtain ⟨a, b, c, d⟩ := x
  obtain ⟨a', b', c', d'⟩ := y
  simp [hdD] at e
  obtain ⟨rfl, rfl, rfl, rfl⟩ := e
  rfl
theorem law3 : Keyed Try.prog 3 := Go.Maps.int_keyed Try.underlying3
def key (i : Nat) : Lit := .int .i64 (i : Int)
theorem key_inj {i j : Nat} (e : key i = key j) : i = j := by
  unfold key at e
  simp at e
  omega
/-- The map D holds just those of L, by their place, of which p holds. -/
def Keeps (D : DataW Unit) (L : List Hd) (p : Nat → Prop) : Prop :=
  (∀ kl, has D kl = true ↔ ∃ i, i < L.length ∧ p i ∧ kl = key i) ∧ ∀ i, i < L.length → p i → ∀ z, D.atKey (key i) z = hdD (L.getD i Hd.nil)
theorem Keeps.congr {D : DataW Unit} {L : List Hd} {p q : Nat → Prop} (h : Keeps D L p) (e : ∀ i, i < L.length → (p i ↔ q i)) : Keeps D L q :=
  ⟨fun kl => (h.1 kl).trans ⟨fun ⟨i, h1, h2, h3⟩ => ⟨i, h1, (e i h1).1 h2, h3⟩, fun ⟨i, h1, h2, h3⟩ => ⟨i, h1, (e i h1).2 h2, h3⟩⟩, fun i h1 h2 => h.2 i h1 ((e i h1).2 h2)⟩
theorem keeps_none (L : List Hd) : Keeps (.map []) L (fun i => i < 0) :=
  ⟨fun kl => ⟨fun h => by simp [has] at h, fun ⟨i, _, h, _⟩ => absurd h (by omega)⟩, fun i _ h => absurd h (by omega)⟩
theorem Keeps.put {D : DataW Unit} {L : List Hd} {k : Nat} (h : Keeps D L (fun i => i < k)) (hk : k < L.length) (hD : Go.Maps.IsMap D) : Keeps (D.put (key k) (hdD (L.getD k Hd.nil))) L (fun i => i < k + 1) := by
  refine ⟨fun kl => ?_, fun i h1 h2 z => ?_⟩
  · by_cases e : kl = key k
    · subst e
      rw [Go.Maps.has_put_same hD (show WideAt.IsKeyLit (key k) from trivial)]
      exact ⟨fun _ => ⟨k, hk, Nat.lt_succ_self _, rfl⟩, fun _ => rfl⟩
    · rw [Go.Maps.has_put_other e, h.1]
      constructor
      · rintro ⟨i, h1, h2, rfl⟩
        exact ⟨i, h1, by omega, rfl⟩
      · rintro ⟨i, h1, h2, rfl⟩
        refine ⟨i, h1, ?_, rfl⟩
        by_cases e2 : i = k
        · subst e2; exact absurd rfl e
        · omega
  · by_cases e : i = k
    · subst e
      rw [Go.Maps.atKey_put_same hD (show WideAt.IsKeyLit (key i) from trivial)]
    · rw [Go.Maps.atKey_put_other (fun q => e (key_inj q))]
      exact h.2 i h1 (by omega) z
theorem wf_nat {k n : Nat} (h : k ≤ n) (hn : n ≤ 2 ^ 63 - 1) : (Lit.int .i64 (k : Int)).wf = true := WalkArith.wf_i64 (by omega)
set_option maxHeartbeats 1000000 in
theorem placesOf (ad : Option Addr) (cap : Nat) (L : List Hd) (w : World) (hv : HView w ad L) (hm : L.length ≤ maxLen) (hB : HIs ad L (· < w.heap.size)) :
    Calls Try.prog 29 #[.slice ad L.length cap] w fun e w' => e = .returned (.map (some w.heap.size)) ∧ ∃ D, w'.ownsMap Try.prog 3 hdR w.heap.size L.length D ∧ Keeps D L (fun _ => True) ∧ Below w.heap.size w w' := by
  have hm0 := hm
  unfold maxLen at hm
  have hmm := @run_makeMap Try.prog
  go_enter Try.func29, Try.ntmps29
  go_wp2
  go_loopw [9] (fun i wr => ∃ (k : Nat) (D : DataW Unit), i = .int .i64 (k : Int) ∧ k ≤ L.length ∧ wr.ownsMap Try.prog 3 hdR w.heap.size k D ∧ Keeps D L (fun i => i < k) ∧ Below w.heap.size w wr) (fun i _ => L.length - (intOf i).toNat)
  case atStart => exact ⟨0, _, rfl, Nat.zero_le _, World.ownsMap_made _ _ _ _, keeps_none L, (Below.refl _ _).alloc (Nat.le_refl _) _⟩
  case round =>
    obtain ⟨k, D, rfl, hk, hown, hK, hb⟩ := hrel
    by_cases hlt : k < L.length
    · obtain ⟨b, off, rfl, hc0⟩ := hv (by omega)
      obtain ⟨h, hh⟩ : ∃ h, L.getD k Hd.nil = h := ⟨_, rfl⟩
      have hck : HAt wr b (off + k * 4) h := by rw [← hh]; exact (hc0 k hlt).of_block (hb.block _ (hB ⟨b, off, none⟩ rfl (by omega)))
      obtain ⟨c1, c2, c3, c4⟩ := hck
      have hK1 := hK.put hlt hown.isMap
      rw [hh] at hK1
      have hwk := wf_nat (Nat.le_of_lt hlt) hm
      have hbs := hb.size
      clear hh hc0 hK hmm
      go_wp2_with (first
        | (at_mapUpdate; refine wpList_mapUpdate_own _ rfl _ _ _ 62 rfl 3 60 law3 Try.underlying62 hdR w.heap.size k D rfl (hown.alloc _) (by unfold maxLen; omega) _ _ (key k) rfl rfl (Go.Maps.keyOf_int_mk Try.underlying3 hwk) (hdD h) [] (hdR_mk h) ?_)
        | go_in)
      intro w1 hown1 hgrow1
      go_wp2
      go_roundw
      case rel => exact ⟨k + 1, _, by go_num, by omega, hown1, hK1, (hb.alloc hbs _).grown hgrow1 (by simp; omega) (fun j hj => by cases hj; exact Nat.le_refl _)⟩
      case measure => simp [intOf]; omega
    · obtain rfl : k = L.length := by omega
      go_wp2
      go_ret
      exact ⟨rfl, D, hown, hK.congr (fun i hi => ⟨fun _ => trivial, fun _ => hi⟩), hb⟩

end Go.Proofs.Ytifndemkkaelaaa
