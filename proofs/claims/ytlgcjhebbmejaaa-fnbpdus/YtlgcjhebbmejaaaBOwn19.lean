/- Rows of bytes in both words. -/
import Derived.Test.YtlgcjhebbmejaaaRows
import Derived.WalkKit
import Derived.ProofKit
import Derived.OpenShut
import Derived.ShutString
import Derived.ChangeOld
import Derived.Below
import Derived.Deep.QuietTactic
import Derived.BigQuiet
import Derived.WalkSmall
import Derived.Laws.OwnMore
import Derived.WalkSpells
import Derived.WalkLawsBesides
import Derived.Deep.Cut
import Derived.Test.YtlgcjhebbmejaaaFlatApp
import Derived.Test.YtlgcjhebbmejaaaBytes9
namespace Go.Proofs.Ytlgcjhebbmejaaa
open Go.ChangeShapes Go.WideShapes Go.ChangeAt Go.RowKit
open Go.ChangeMaps (open_string shut_string)
set_option linter.unusedVariables false
set_option maxRecDepth 100000

def bEnc (x : Int) : List Value := [.int .u8 x]
theorem bEnc_len (x : Int) : (bEnc x).length = 1 := rfl
theorem bEnc_ones (L : List Int) : ∀ u ∈ fcells bEnc L, u.oneCell' = true := by
  induction L with
  | nil => intro u h; cases h
  | cons x L ih =>
    intro u h
    simp only [fcells, bEnc, List.mem_append, List.mem_cons, List.not_mem_nil, or_false] at h
    rcases h with rfl | h
    · rfl
    · exact ih u h
theorem bCells (L : List Int) : fcells bEnc L = L.map (Value.int .u8) := by
  induction L with
  | nil => rfl
  | cons x L ih => simp only [fcells, bEnc, List.map_cons, ih, List.cons_append, List.nil_append]
theorem bInfo : (Try.prog.info? 5).map (fun i => (i.zero, i.size, i.bytes)) = some (some (.int .u8 0), 1, 1) := by kernel_rfl
/-- A row of bytes that a call owns, in both words. -/
theorem bOf {base : Nat} {w : World} {v : Value} {L : List Int} (h : w.ownsRow base 5 1 v L.length (L.map (Value.int .u8))) : FOwn bEnc 1 5 base w v L := by
  unfold FOwn
  rw [bCells]
  exact h
theorem bTo_ {base : Nat} {w : World} {v : Value} {L : List Int} (h : FOwn bEnc 1 5 base w v L) : w.ownsRow base 5 1 v L.length (L.map (Value.int .u8)) := by
  unfold FOwn at h
  rw [bCells] at h
  exact h
theorem bV {w : World} {ad : Option Addr} {L : List Int} (h : FView bEnc w ad L) : View w ad L.length (fun i => L.getD i 0) := fun hp => by
  obtain ⟨b, off, e, hc⟩ := h hp
  refine ⟨b, off, e, fun i hi => hc i _ ?_⟩
  rw [bCells, List.getElem?_map, List.getElem?_eq_getElem hi]
  simp [List.getD, List.getElem?_eq_getElem hi]
theorem bVof {w : World} {ad : Option Addr} {L : List Int} (h : View w ad L.length (fun i => L.getD i 0)) : FView bEnc w ad L := fun hp => by
  obtain ⟨b, off, e, hc⟩ := h hp
  refine ⟨b, off, e, fun j v hv => ?_⟩
  rw [bCells, List.getElem?_map] at hv
  have hj : j < L.length := by
    rcases Nat.lt_or_ge j L.length with q | q
    · exact q
    · rw [List.getElem?_eq_none q] at hv; simp at hv
  rw [List.getElem?_eq_getElem hj] at hv
  simp only [Option.map_some, Option.some.injEq] at hv
  subst hv
  have := hc j hj
  simpa [List.getD, List.getElem?_eq_getElem hj] using this
/-- The marks that the law lays upon bytes, from s on. -/
def bMk (s : Int) (i : Nat) : Int := (s + i) % 256
theorem bMk_len (s : Int) (n : Nat) : ((List.range n).map (bMk s)).length = n := by simp
theorem bEq (ad ad' : Option Addr) (cap cap' : Nat) (L : List Int) (w : World) (hv : FView bEnc w ad L) (hv' : FView bEnc w ad' L) (hl : L.length ≤ 16777216) :
    Calls Try.prog 27 #[.slice ad L.length cap, .slice ad' L.length cap'] w fun e w' => e = .returned (.bool true) ∧ Below w.heap.size w w' := by
  refine (eqBytes ad ad' L.length cap cap' (fun i => L.getD i 0) w (bV hv) (bV hv') hl).mono ?_
  rintro e w' ⟨rfl, n, rfl⟩
  exact ⟨rfl, below_drewN (Below.refl _ _) n⟩
theorem bHeld (ad : Option Addr) (len cap : Nat) (s : Int) (w : World) (hv : FView bEnc w ad ((List.range len).map (bMk s))) (hl : len ≤ 16777216) (s0 : 0 ≤ s) (s1 : s ≤ 1000000000000) :
    Calls Try.prog 29 #[.slice ad len cap, .int .i64 s] w fun e w' => e = .returned (.int .i64 (s + (len : Int))) ∧ w' = w := by
  have h := bV hv
  rw [bMk_len] at h
  exact heldBytes ad len cap s w (h.congr (fun i hi => by simp [List.getD, hi, bMk])) hl s0 s1
set_option maxHeartbeats 4000000 in
theorem bMark (ad : Option Addr) (cap : Nat) (s : Int) (base : Nat) (L : List Int) (w : World) (hr : FOwn bEnc 1 5 base w (.slice ad L.length cap) L) (hl : L.length ≤ 16777216) (s0 : 0 ≤ s) (s1 : s ≤ 1000000000000) :
    Calls Try.prog 28 #[.slice ad L.length cap, .int .i64 s] w fun e w' => e = .returned (.int .i64 (s + (L.length : Int))) ∧ FOwn bEnc 1 5 base w' (.slice ad L.length cap) ((List.range L.length).map (bMk s)) ∧ w.grownBy w' (Value.slice ad L.length cap).ownBlock := by
  by_cases hz : L.length = 0
  · obtain rfl : L = [] := List.eq_nil_of_length_eq_zero hz
    go_enter Try.func28, Try.ntmps28
    go_wp2
    refine wp_loop_rounds 1 ?_; rw [rounds_succ]
    go_wp2
    go_ret
    exact ⟨by simp, hr, ⟨rfl, rfl, rfl, Nat.le_refl _, fun _ _ _ => rfl⟩⟩
  obtain ⟨g, rfl⟩ : ∃ g, ad = some ⟨g, 0, none⟩ := by
    rcases hr.2 with ⟨_, q⟩ | ⟨g, cap, cur, q, _⟩
    · omega
    · simp only [Value.slice.injEq] at q
      exact ⟨g, q.1⟩
  have M0 : FOwn bEnc 1 5 base w (.slice (some ⟨g, 0, none⟩) L.length cap) (markd (bMk s) L 0) := by rw [markd_zero]; exact hr
  have g0 : w.grownBy w (some g) := ⟨rfl, rfl, rfl, Nat.le_refl _, fun _ _ _ => rfl⟩
  clear hr hz
  go_enter Try.func28, Try.ntmps28
  go_wp2
  go_loopw [1, 5] (fun q i wr => ∃ k : Nat, k ≤ L.length ∧ i = .int .i64 k ∧ q = .int .i64 (s + (k : Int)) ∧ FOwn bEnc 1 5 base wr (.slice (some ⟨g, 0, none⟩) L.length cap) (markd (bMk s) L k) ∧ w.grownBy wr (some g)) (fun _ i _ => L.length - (intOf i).toNat)
  case atStart => exact ⟨0, Nat.zero_le _, rfl, by simp, M0, g0⟩
  case round =>
    obtain ⟨k, hk, rfl, rfl, M, gr⟩ := hrel
    clear M0 g0
    have hml := markd_len (mk := bMk s) hk
    by_cases hlt : k < L.length
    · rw [← hml] at M
      have hk2 : k < (markd (bMk s) L k).length := by rw [hml]; exact hlt
      have hck := M.cell bEnc_len 0 hk2 0 _ rfl
      rw [Nat.mul_one, Nat.add_zero] at hck
      have ff := M.frozen k
      have M1 := M.set bEnc_len (by omega) hk2 (bMk s k)
      rw [markd_set hlt, hml, Nat.mul_one] at M1
      have G1 := grown_putAll (bEnc (bMk s k)) k gr
      have e1 : putAll wr g k (bEnc (bMk s k)) = wr.setCell ⟨g, k, none⟩ (.int .u8 ((s + k) % 256)) := rfl
      rw [e1] at M1 G1
      clear M gr hml hk2 e1
      go_wp2
      go_roundw
      case rel => exact ⟨k + 1, by omega, by go_num, by go_num, by simpa using M1, by simpa using G1⟩
      case measure => simp [intOf]; omega
    · obtain rfl : k = L.length := by omega
      rw [markd_all] at M
      go_wp2
      go_ret
      exact ⟨rfl, M, gr⟩

end Go.Proofs.Ytlgcjhebbmejaaa
