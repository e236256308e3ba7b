/- impl.numbersAt, walked. -/
import Derived.Test.YtlnogijlfompoaaDoorRows
import Derived.WalkKit
import Derived.ProofKit
import Derived.OpenShut
import Derived.ShutString
import Derived.ChangeOld
import Derived.Below
import Derived.Deep.QuietTactic
import Derived.BigQuiet
import Derived.WalkSmall
import Derived.Laws.OwnMore
import Derived.WalkSpells
import Derived.WalkLawsBesides
import Derived.Deep.Cut
import Derived.Maps.AppendAt
import Derived.Test.YtlnogijlfompoaaDoorIBox
import Derived.Test.YtlnogijlfompoaaDoorGetI9
import Derived.Test.YtlnogijlfompoaaDoorIb1
namespace Go.Proofs.YtlnogijlfompoaaDoor
open Go.ChangeShapes Go.WideShapes Go.ChangeAt Go.RowKit
open Go.ChangeMaps (open_string shut_string)
set_option linter.unusedVariables false
set_option maxRecDepth 100000

/-- What is still to be read, behind what was. -/
def rdJoin (pre : List Int) : Option (List Int × Int) → Option (List Int × Int)
  | none => none
  | some (M, e) => some (pre ++ M, e)
theorem rdJoin_nil (r : Option (List Int × Int)) : rdJoin [] r = r := by cases r <;> rfl
theorem rdJoin_none {L : List Int} {c : Nat} {a : Int} (pre : List Int) (h : numAtL L a = none) : rdJoin pre (rdAll L (c + 1) a) = none := by
  rw [rdAll, h]; rfl
theorem rdJoin_some {L : List Int} {c : Nat} {a n s : Int} (pre : List Int) (h : numAtL L a = some (n, s)) : rdJoin pre (rdAll L (c + 1) a) = rdJoin (pre ++ [n]) (rdAll L c s) := by
  rw [rdAll, h]
  simp only
  cases rdAll L c s with
  | none => rfl
  | some y => simp [rdJoin]
set_option maxHeartbeats 4000000 in
theorem numsAtI (ad : Option Addr) (cap : Nat) (L : List Int) (a0 : Int) (cnt : Nat) (w : World) (hv : View w ad L.length (fun i => L.getD i 0)) (hB : ∀ x, ad = some x → 0 < L.length → x.block < w.heap.size) (hl : L.length ≤ 1048576) (hLbd : ∀ x ∈ L, 0 ≤ x ∧ x ≤ 255) (ha0 : -9223372036854775808 ≤ a0 ∧ a0 ≤ 9223372036854775807) (hc : cnt ≤ 7) (tp : TypeId) (pv : Value) (hs : w.cell? ⟨1, 0, none⟩ = some (.iface tp pv)) :
    Calls Tryd.prog 38 #[.slice ad L.length cap, .int .i64 a0, .int .i64 cnt] w fun e w' => (match rdAll L cnt a0 with
      | none => e = .returned (.tuple #[.slice none 0 0, .int .i64 0, .bool false])
      | some (M, s) => ∃ aM cM, e = .returned (.tuple #[.slice aM M.length cM, .int .i64 s, .bool true]) ∧ FOwn iEnc 1 3 w.heap.size w' (.slice aM M.length cM) M) ∧ Below w.heap.size w w' := by
  obtain ⟨i0, hi, hz0, hz1, hz2⟩ := info_parts iInfo
  have hbd := getD_bd hLbd
  obtain ⟨R, hR⟩ : ∃ R, rdAll L cnt a0 = R := ⟨_, rfl⟩
  have hR0 : Hid (rdJoin [] (rdAll L cnt a0) = R) := by show _ = _; rw [rdJoin_nil]; exact hR
  rw [hR]
  clear hR
  have hsl : 1 < w.heap.size := World.block_lt_of_cell? w _ hs
  go_enter Tryd.func38, Tryd.ntmps38
  go_wp2
  go_loopw [1, 9, 14] (fun av v i wr => ∃ (k : Nat) (a : Int) (pre : List Int), k ≤ cnt ∧ (-9223372036854775808 ≤ a ∧ a ≤ 9223372036854775807) ∧ pre.length = k ∧ i = .int .i64 k ∧ av = .int .i64 a ∧ Hid (rdJoin pre (rdAll L (cnt - k) a) = R) ∧ FOwn iEnc 1 3 w.heap.size wr v pre ∧ Below w.heap.size w wr) (fun _ _ i _ => cnt - (intOf i).toNat)
  case atStart => exact ⟨0, a0, [], Nat.zero_le _, ha0, rfl, rfl, rfl, by simpa using hR0, FOwn.nil, Below.refl _ _⟩
  case round =>
    obtain ⟨k, a, pre, hk, ha, hpl, rfl, rfl, hG, O, B⟩ := hrel
    clear hR0
    by_cases hlt : k < cnt
    · obtain ⟨c, hc1⟩ : ∃ c, cnt - k = c + 1 := ⟨cnt - k - 1, by omega⟩
      have hc2 : cnt - (k + 1) = c := by omega
      rw [hc1] at hG
      have hs1 := (B.cell (p := ⟨1, 0, none⟩) hsl).trans hs
      have BS := B.size
      cases hx : numAtL L a with
      | none =>
        have hN := hG.out
        rw [rdJoin_none pre hx] at hN
        have hx' : Hid (getFrom L.length a (fun i => L.getD (a.toNat + i) 0) 5 0 = none) := hx
        clear hx hG hc1
        subst hN
        go_wp2_with fail
        go_at_call 37
        refine (getImpl ad L.length cap (fun i => L.getD i 0) a wr (hv.carry (fun x h h2 => B.block _ (hB x h h2))) (fun x h h2 => by have := hB x h h2; omega) hl hbd ha.1 ha.2 tp pv hs1).mono ?_
        rintro e w1 ⟨rfl, k1⟩
        rw [hx'.out]
        dsimp only [getRes]
        have B1 := B.trans (k1.mono BS)
        go_wp2
        go_ret3
        exact ⟨rfl, B1⟩
      | some y =>
        obtain ⟨n, s⟩ := y
        have hN := hG.out
        rw [rdJoin_some pre hx] at hN
        have hsb := numAtL_some hx
        have hx' : Hid (getFrom L.length a (fun i => L.getD (a.toNat + i) 0) 5 0 = some (n, s)) := hx
        rw [← hc2] at hN
        replace hN : Hid _ := hN
        clear hx hG hc1 hc2
        go_wp2_with fail
        go_at_call 37
        refine (getImpl ad L.length cap (fun i => L.getD i 0) a wr (hv.carry (fun x h h2 => B.block _ (hB x h h2))) (fun x h h2 => by have := hB x h h2; omega) hl hbd ha.1 ha.2 tp pv hs1).mono ?_
        rintro e w1 ⟨rfl, k1⟩
        rw [hx'.out]
        dsimp only [getRes]
        have B1 := B.trans (k1.mono BS)
        have O1 := O.later k1
        obtain ⟨w2, hw2⟩ : ∃ y_, y_ = w1.alloc (Obj.cells #[.int .i64 n] 3) := ⟨_, rfl⟩
        have V1 : FView iEnc w2 (some ⟨w1.heap.size, 0, none⟩) [n] := by rw [hw2]; exact iView_lit w1 [n] (by simp)
        have k2 : Below w1.heap.size w1 w2 := by rw [hw2]; exact below_new _
        have O2 := O1.later k2
        have B2 := B1.trans (k2.mono B1.size)
        have z1 := B2.size
        clear O O1 k1
        go_wp2_with (first | (at_builtin; refine fappL iEnc_len iEnc_ones rfl _ _ 70 rfl w.heap.size 3 i0 (.int .i64 0) 8 Tryd.underlying70 hi hz0 hz1 hz2 rfl (by decide) (by decide) _ pre rfl ?z0 (some ⟨w1.heap.size, 0, none⟩) 1 [n] rfl (fun e => by cases e) ?z1 ?z2 ?z3 ?_))
        case z0 => rw [← hw2]; exact O2
        case z1 => rw [← hw2]; exact V1
        try case z2 => simp; omega
        case z3 => have := B1.size; first | omega | (simp; omega)
        rw [← hw2]
        clear hw2
        intro vZ wZ oZ gZ _
        have BZ : Below w.heap.size w wZ := B2.grown gZ z1 (fun g e => (O2.lt g e).1)
        go_wp2
        go_roundw
        case rel => exact ⟨k + 1, s, pre ++ [n], by omega, by omega, by simp [hpl], by go_num, rfl, hN, oZ, BZ⟩
        case measure => simp [intOf]; omega
    · obtain rfl : k = cnt := by omega
      have hG := hG.out
      rw [Nat.sub_self] at hG
      simp only [rdAll, rdJoin, List.append_nil] at hG
      subst hG
      clear hpl
      obtain ⟨aM, cM, rfl⟩ := O.open_
      go_wp2
      go_ret3
      exact ⟨⟨aM, cM, rfl, O⟩, B⟩

end Go.Proofs.YtlnogijlfompoaaDoor
