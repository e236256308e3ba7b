/- What FnNumbers asks of numbers and rows, in small laws. -/
import Derived.Test.YtpddgladbodkbaaDoorRows
import Derived.WalkKit
import Derived.ProofKit
import Derived.OpenShut
import Derived.ShutString
import Derived.ChangeOld
import Derived.Below
import Derived.Deep.QuietTactic
import Derived.BigQuiet
import Derived.WalkSmall
import Derived.Laws.OwnMore
import Derived.WalkSpells
import Derived.WalkLawsBesides
import Derived.Deep.RegionHeld
import Derived.ChangeAlike
import Derived.Lib.SmallJoins
import Derived.Test.YtpddgladbodkbaaDoorTakes
import Derived.Test.YtpddgladbodkbaaDoorGetPut
import Derived.Test.YtpddgladbodkbaaDoorJoin
import Derived.Lib.SlBytesRow
import Derived.Test.YtpddgladbodkbaaDoorDraws3
import Derived.Test.YtpddgladbodkbaaDoorConv
import Derived.Test.YtpddgladbodkbaaDoorNumImpl
import Derived.Test.YtpddgladbodkbaaDoorNumSpec
import Derived.Test.YtpddgladbodkbaaDoorGetImpl
import Derived.Test.YtpddgladbodkbaaDoorGetSpec
import Derived.Test.YtpddgladbodkbaaDoorSplitSpec
import Derived.Test.YtpddgladbodkbaaDoorStrs
namespace Go.Proofs.YtpddgladbodkbaaDoor
open Go.ChangeShapes Go.WideShapes Go.ChangeAt Go.RowKit
open Go.ChangeMaps (open_string shut_string)
set_option linter.unusedVariables false

theorem nextB {x y z : World} (b : Below y.heap.size y z) (a : Below x.heap.size x y) : Below x.heap.size x z := a.trans (b.mono a.size)
theorem getD_bytes {L : List Int} (h : ∀ x ∈ L, 0 ≤ x ∧ x ≤ 255) (i : Nat) : 0 ≤ L.getD i 0 ∧ L.getD i 0 ≤ 255 := by
  by_cases hi : i < L.length
  · have := h L[i] (List.getElem_mem hi)
    simpa [List.getD, List.getElem?_eq_getElem hi] using this
  · simp [List.getD, List.getElem?_eq_none (by omega : L.length ≤ i)]
theorem bigNo (ad : Option Addr) (len cap : Nat) (w : World) (h : len ≤ 1048576) : Calls Tryd.prog 8 #[.slice ad len cap] w fun e w' => e = .returned (.bool false) ∧ w' = w := by
  have hd : decide (1048576 < (len : Int)) = false := by simp; omega
  go_enter Tryd.func8, Tryd.ntmps8
  go_wp2
  go_ret
  exact ⟨rfl, rfl⟩
theorem bigYes (ad : Option Addr) (len cap : Nat) (w : World) (h : 1048576 < len) : Calls Tryd.prog 8 #[.slice ad len cap] w fun e w' => e = .returned (.bool true) ∧ w' = w := by
  have hd : decide (1048576 < (len : Int)) = true := by simp; omega
  go_enter Tryd.func8, Tryd.ntmps8
  go_wp2
  go_ret
  exact ⟨rfl, rfl⟩
theorem getImplR (ad : Option Addr) (len cap : Nat) (f : Nat → Int) (at_ : Int) (w : World) (hv : View w ad len f) (hB : ∀ a, ad = some a → 0 < len → a.block < w.heap.size) (hl : len ≤ 1048576) (hf : ∀ i, 0 ≤ f i ∧ f i ≤ 255) (ha0 : -9223372036854775808 ≤ at_) (ha1 : at_ ≤ 9223372036854775807)
    (tp : TypeId) (p : Value) (hs : w.cell? ⟨0, 0, none⟩ = some (.iface tp p)) (R : Option (Int × Int)) (hR : getFrom len at_ (fun i => f (at_.toNat + i)) 5 0 = R) :
    Calls Tryd.prog 21 #[.slice ad len cap, .int .i64 at_] w fun e w' => e = .returned (getRes R) ∧ Below w.heap.size w w' := by
  subst hR
  exact getImpl ad len cap f at_ w hv hB hl hf ha0 ha1 tp p hs
theorem getSpecR (ad : Option Addr) (len cap : Nat) (f : Nat → Int) (at_ : Int) (w : World) (hv : View w ad len f) (hl : len ≤ 1048576) (hf : ∀ i, 0 ≤ f i ∧ f i ≤ 255) (ha0 : -9223372036854775808 ≤ at_) (ha1 : at_ ≤ 9223372036854775807)
    (R : Option (Int × Int)) (hR : getFrom len at_ (fun i => f (at_.toNat + i)) 5 0 = R) :
    Calls Tryd.prog 23 #[.slice ad len cap, .int .i64 at_] w fun e w' => e = .returned (getRes R) ∧ w' = w := by
  subst hR
  exact getSpec ad len cap f at_ w hv hl hf ha0 ha1
/-- GetNum of PutNum. -/
theorem getput_any (x : Int) : (getFrom (putZ x).length 0 (fun i => (fun i => (putZ x).getD i 0) ((0 : Int).toNat + i)) 5 0 = some (x, ((putZ x).length : Int)) ∧ 0 < (putZ x).length) ∨
    (getFrom (putZ x).length 0 (fun i => (fun i => (putZ x).getD i 0) ((0 : Int).toNat + i)) 5 0 = none ∧ (putZ x).length = 0) := by
  by_cases hx : 0 ≤ x ∧ x ≤ 2147483647
  · have e : putZ x = put x.toNat := by unfold putZ; rw [if_pos hx]
    rw [e]
    have hp := (put_len x.toNat).1
    have hs := put_short (m := x.toNat) (by omega)
    refine .inl ⟨?_, by omega⟩
    have h := getFrom_put (put x.toNat).length 0 (fun i => (fun i => (put x.toNat).getD i 0) ((0 : Int).toNat + i)) x.toNat 5 0 (fun j _ => by simp) hs (by omega) (by omega) (.inl rfl) (by simp [val]; omega)
    rw [h]
    simp [val]
    omega
  · have e : putZ x = [] := by unfold putZ; rw [if_neg hx]
    rw [e]
    exact .inr ⟨getFrom_out (.inr (by simp)), rfl⟩
/-- PutNum of GetNum. -/
theorem read_back {Lr : List Int} {xk z stop : Int} (hb : ∀ i, 0 ≤ Lr.getD i 0 ∧ Lr.getD i 0 ≤ 255) (h : getFrom Lr.length xk (fun i => (fun i => Lr.getD i 0) (xk.toNat + i)) 5 0 = some (z, stop)) :
    InI z ∧ ∃ kk hh : Nat, xk = kk ∧ stop = hh ∧ kk < hh ∧ hh ≤ Lr.length ∧ putZ z = (List.range (hh - kk)).map (fun i => Lr.getD (kk + i) 0) := by
  obtain ⟨q, a1, a2, a3, a4, a5, a6, a7, a8, a9⟩ := getFrom_some 5 0 h
  obtain ⟨kk, rfl⟩ : ∃ kk : Nat, xk = kk := ⟨xk.toNat, by omega⟩
  have hbd := val_bd (fun i => (fun i => Lr.getD i 0) ((kk : Int).toNat + i)) (q + 1)
  have hz : 0 ≤ z ∧ z ≤ 2147483647 := by rw [a8]; omega
  refine ⟨⟨by omega, by omega⟩, kk, kk + q + 1, rfl, by omega, by omega, by omega, ?_⟩
  have e : putZ z = put z.toNat := by unfold putZ; rw [if_pos hz]
  rw [e, a8, put_val q _ (fun j => hb _) (fun j hj => a3 j (by omega) hj) a4 (fun hq e0 => a5 (.inl ⟨hq, e0⟩)), show kk + q + 1 - kk = q + 1 by omega]
  simp
theorem own_cap {w : World} {base E n cap : Nat} {ad : Option Addr} {xs : List Value} (h : w.ownsRow base E 1 (.slice ad n cap) n xs) : n ≤ cap := by
  rcases h.2 with ⟨e, h0⟩ | ⟨g, cap', cur, e, _, _, hn, _⟩
  · cases e; exact Nat.le_refl _
  · cases e; exact hn
/-- A cut of a row of bytes is a row of bytes. -/
theorem View.cut {w : World} {b off len kk n : Nat} {f : Nat → Int} (h : View w (some ⟨b, off, none⟩) len f) (hk : kk + n ≤ len) : View w (some ⟨b, off + kk, none⟩) n (fun i => f (kk + i)) := fun hp => by
  obtain ⟨b', off', e, hc⟩ := h (by omega)
  cases e
  exact ⟨b, off + kk, rfl, fun i hi => by rw [Nat.add_assoc]; exact hc (kk + i) (by omega)⟩
theorem range_getD (n : Nat) (g : Nat → Int) (i : Nat) (h : i < n) : ((List.range n).map g).getD i 0 = g i := by simp [List.getD, h]

end Go.Proofs.YtpddgladbodkbaaDoor
