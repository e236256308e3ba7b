/- spec.Split, walked. -/
import Derived.Test.YtpddgladbodkbaaDoorRows
import Derived.WalkKit
import Derived.ProofKit
import Derived.OpenShut
import Derived.ShutString
import Derived.ChangeOld
import Derived.Below
import Derived.Deep.QuietTactic
import Derived.BigQuiet
import Derived.WalkSmall
import Derived.Laws.OwnMore
import Derived.WalkSpells
import Derived.WalkLawsBesides
import Derived.Test.YtpddgladbodkbaaDoorSplitMath
import Derived.Test.YtpddgladbodkbaaDoorDigits
import Derived.Test.YtpddgladbodkbaaDoorShelfSplit
namespace Go.Proofs.YtpddgladbodkbaaDoor
open Go.ChangeShapes Go.WideShapes Go.ChangeAt Go.RowKit
open Go.ChangeMaps (open_string shut_string)
set_option linter.unusedVariables false

theorem Tryd.info9s : (Tryd.prog.info? 9).map (fun i => (i.zero, i.size, i.bytes)) = some (some (.string ByteArray.empty), 1, 16) := by kernel_rfl
theorem sown_empty (w : World) (E : Nat) : (w.alloc (.cells #[] E)).ownsRow w.heap.size E 1 (.slice (some ⟨w.heap.size, 0, none⟩) 0 0) 0 [] :=
  World.ownsRow_lit w #[] 0 (Nat.le_refl _) (Nat.zero_le _) rfl
theorem sown_push {w wr w1 : World} {B E : Nat} {o : Obj} {v v' : Value} {pre : List ByteArray} {x : ByteArray} (hown : wr.ownsRow B E 1 v pre.length (pre.map Value.string))
    (hown' : w1.ownsRow B E 1 v' (pre.length + 1) (pre.map Value.string ++ [Value.string x])) (hgrow : (wr.alloc o).grownBy w1 v.ownBlock) (hbel : Below B w wr) (hB : B ≤ w.heap.size) :
    w1.ownsRow B E 1 v' (pre ++ [x]).length ((pre ++ [x]).map Value.string) ∧ Below B w w1 := by
  refine ⟨by simpa using hown', ?_⟩
  have hs := hbel.size
  refine (hbel.alloc (by omega) o).grown hgrow (by simp; omega) ?_
  intro k hk
  rcases hown.2 with ⟨rfl, _⟩ | ⟨g, cap, cur, rfl, hb, _⟩
  · simp [Value.ownBlock] at hk
  · simp [Value.ownBlock] at hk; omega
/-- What the loop of spec.Split keeps, at place k, the piece begun at p, the pieces P behind it. -/
def SpRel (c : UInt8) (s : ByteArray) (k p : Nat) (P : List ByteArray) : Prop :=
  (k ≤ s.size ∧ p ≤ k ∧ (∀ j, p ≤ j → j < k → s.data.toList[j]? ≠ some c) ∧ P ++ pieces c (s.extract p s.size) = pieces c s) ∨ (k = s.size + 1 ∧ P = pieces c s)
theorem SpRel.start (c : UInt8) (s : ByteArray) : SpRel c s 0 0 [] :=
  .inl ⟨Nat.zero_le _, Nat.le_refl _, fun j _ h => absurd h (by omega), by rw [whole_rest]; rfl⟩
theorem SpRel.hit {c : UInt8} {s : ByteArray} {k p : Nat} {P : List ByteArray} (h : SpRel c s k p P) (hk : k < s.size) (hc : s[k] = c) : SpRel c s (k + 1) (k + 1) (P ++ [s.extract p k]) := by
  rcases h with ⟨_, h2, h3, h4⟩ | ⟨h1, _⟩
  · refine .inl ⟨by omega, Nat.le_refl _, fun j h5 h6 => absurd h5 (by omega), ?_⟩
    rw [← h4, rest_hit h2 hk h3 (by rw [List.getElem?_eq_getElem (by have : s.data.toList.length = s.size := Array.length_toList; omega)]; exact congrArg some hc)]
    simp
  · omega
theorem SpRel.miss {c : UInt8} {s : ByteArray} {k p : Nat} {P : List ByteArray} (h : SpRel c s k p P) (hk : k < s.size) (hc : s[k] ≠ c) : SpRel c s (k + 1) p P := by
  rcases h with ⟨_, h2, h3, h4⟩ | ⟨h1, _⟩
  · refine .inl ⟨by omega, by omega, fun j h5 h6 => ?_, h4⟩
    by_cases e : j = k
    · subst e
      rw [List.getElem?_eq_getElem (by have : s.data.toList.length = s.size := Array.length_toList; omega)]
      intro e2
      exact hc (Option.some.inj e2)
    · exact h3 j h5 (by omega)
  · omega
theorem SpRel.last {c : UInt8} {s : ByteArray} {p : Nat} {P : List ByteArray} (h : SpRel c s s.size p P) : SpRel c s (s.size + 1) (s.size + 1) (P ++ [s.extract p s.size]) := by
  rcases h with ⟨_, h2, h3, h4⟩ | ⟨h1, _⟩
  · refine .inr ⟨rfl, ?_⟩
    rw [← h4, rest_miss (fun j hj => ?_)]
    by_cases hl : j < s.size
    · exact h3 j hj hl
    · rw [List.getElem?_eq_none (by have : s.data.toList.length = s.size := Array.length_toList; omega)]
      simp
  · omega
theorem SpRel.len {c : UInt8} {s : ByteArray} {k p : Nat} {P : List ByteArray} (h : SpRel c s k p P) : P.length ≤ s.size + 1 ∧ k ≤ s.size + 1 ∧ (k ≤ s.size → p ≤ k) := by
  have hl := (pieces_len c s.size s (Nat.le_refl _)).2
  rcases h with ⟨h1, h2, _, h4⟩ | ⟨h1, rfl⟩
  · have := congrArg List.length h4
    rw [List.length_append] at this
    exact ⟨by omega, by omega, fun _ => h2⟩
  · exact ⟨hl, by omega, fun h => absurd h (by omega)⟩
theorem SpRel.done {c : UInt8} {s : ByteArray} {p : Nat} {P : List ByteArray} (h : SpRel c s (s.size + 1) p P) : P = pieces c s := by
  rcases h with ⟨h1, _⟩ | ⟨_, h⟩
  · omega
  · exact h

set_option maxHeartbeats 2000000 in
theorem splitSpec (s : ByteArray) (c : UInt8) (w : World) (hs : s.size ≤ 1048576) :
    Calls Tryd.prog 28 #[.string s, .int .u8 (c.toNat : Int)] w fun e w' => ∃ v, e = .returned v ∧ w'.ownsRow w.heap.size 9 1 v (pieces c s).length ((pieces c s).map Value.string) ∧ Below w.heap.size w w' := by
  obtain ⟨i0, hi, hz0, hz1, hz2⟩ := info_parts Tryd.info9s
  go_enter Tryd.func28, Tryd.ntmps28
  go_wp2
  go_loopw [5, 6, 7] (fun v f i wr => ∃ (k p : Nat) (P : List ByteArray), i = .int .i64 k ∧ f = .int .i64 p ∧ Hid (SpRel c s k p P) ∧ wr.ownsRow w.heap.size 9 1 v P.length (P.map Value.string) ∧ Below w.heap.size w wr) (fun _ _ i _ => s.size + 1 - (intOf i).toNat)
  case atStart => exact ⟨0, 0, [], rfl, rfl, SpRel.start c s, sown_empty w 9, (Below.refl _ _).alloc (Nat.le_refl _) _⟩
  case round =>
    obtain ⟨k, p, P, rfl, rfl, hS, hown, hbel⟩ := hrel
    have hlen := hS.out.len
    obtain ⟨hpl, hk1, hpk⟩ := hlen
    by_cases hend : s.size < k
    · have hP : P = pieces c s := by
        have e : k = s.size + 1 := by omega
        subst e
        exact hS.out.done
      subst hP
      have hdl : decide (k ≤ s.size) = false := by simp; omega
      clear hS hpk hk1
      go_wp2
      go_ret
      exact ⟨_, rfl, hown, hbel⟩
    have hpk' := hpk (by omega)
    have hkle : (k : Int) ≤ (s.size : Int) := by omega
    have hdl : decide ((k : Int) ≤ (s.size : Int)) = true := by simp; omega
    clear hpk
    by_cases hlast : k = s.size
    · subst hlast
      have hS1 : Hid (SpRel c s (s.size + 1) (s.size + 1) (P ++ [s.extract p s.size])) := hS.out.last
      clear hS hend
      go_wp2_with (first | (at_builtin; refine wpList_append_own _ rfl _ _ 37 rfl w.heap.size 9 i0 (.string ByteArray.empty) 1 16 Tryd.underlying37 hi hz0 hz1 hz2 rfl (by decide) _ _ _ rfl (hown.alloc _) ⟨wr.heap.size, 0, none⟩ 1 1 [.string (s.extract p s.size)] rfl rfl ?c1 ?c2 ?c3 ?c4 ?c5 ?_) | go_in)
      case c1 => exact cell_one_new _ _ _
      case c2 => first | rfl | (intro u hu; simp at hu; subst hu; rfl)
      case c3 => unfold maxLen; omega
      case c4 => omega
      case c5 => have := hbel.size; first | omega | (simp; omega)
      intro v' w1 hown' hgrow _
      have R := sown_push hown hown' hgrow hbel (Nat.le_refl _)
      clear hown' hgrow hown
      go_wp2
      go_roundw
      case rel => exact ⟨s.size + 1, s.size + 1, _, by go_num, by go_num, hS1, R.1, R.2⟩
      case measure => first | (simp [intOf]; done) | (simp [intOf]; omega)
    · have hks : k < s.size := by omega
      have hq0 : ((k : Int) == (s.size : Int)) = false := by rw [beq_eq_false_iff_ne]; omega
      by_cases hc : s[k] = c
      · have hS1 : Hid (SpRel c s (k + 1) (k + 1) (P ++ [s.extract p k])) := hS.out.hit hks hc
        have hq : ((s[k].toNat : Int) == (c.toNat : Int)) = true := by rw [hc]; simp
        clear hS hend hc hlast
        go_wp2_with (first | (at_builtin; refine wpList_append_own _ rfl _ _ 37 rfl w.heap.size 9 i0 (.string ByteArray.empty) 1 16 Tryd.underlying37 hi hz0 hz1 hz2 rfl (by decide) _ _ _ rfl (hown.alloc _) ⟨wr.heap.size, 0, none⟩ 1 1 [.string (s.extract p k)] rfl rfl ?d1 ?d2 ?d3 ?d4 ?d5 ?_) | go_in)
        case d1 => exact cell_one_new _ _ _
        case d2 => first | rfl | (intro u hu; simp at hu; subst hu; rfl)
        case d3 => unfold maxLen; omega
        case d4 => omega
        case d5 => have := hbel.size; first | omega | (simp; omega)
        intro v' w1 hown' hgrow _
        have R := sown_push hown hown' hgrow hbel (Nat.le_refl _)
        clear hown' hgrow hown
        go_wp2
        go_roundw
        case rel => exact ⟨k + 1, k + 1, _, by go_num, by go_num, hS1, R.1, R.2⟩
        case measure => first | (simp [intOf]; done) | (simp [intOf]; omega)
      · have hS1 : Hid (SpRel c s (k + 1) p P) := hS.out.miss hks hc
        have hq : ((s[k].toNat : Int) == (c.toNat : Int)) = false := by
          rw [beq_eq_false_iff_ne]
          intro e
          exact hc (UInt8.toNat_inj.1 (by omega))
        clear hS hend hc hlast
        go_wp2
        go_roundw
        case rel => exact ⟨k + 1, p, P, by go_num, rfl, hS1, hown, hbel⟩
        case measure => first | (simp [intOf]; done) | (simp [intOf]; omega)

/-- impl.Split: strings.Split at one byte. -/
theorem splitImpl (s : ByteArray) (c : UInt8) (w : World) (hs : s.size ≤ 1048576) (m : Int) (hm : w.cell? ⟨4, 0, none⟩ = some (.int .i64 m)) :
    Calls Tryd.prog 25 #[.string s, .int .u8 (c.toNat : Int)] w fun e w' => ∃ v, e = .returned v ∧ w'.ownsRow w.heap.size 9 1 v (pieces c s).length ((pieces c s).map Value.string) ∧ Below w.heap.size w w' := by
  have hcv := byte_str w (c.toNat : Int) (by omega) (by have := c.toNat_lt; omega)
  have hc : UInt8.ofNat (c.toNat : Int).toNat = c := by simp
  rw [hc] at hcv
  have hl := (pieces_len c s.size s (Nat.le_refl _))
  have hm1 : (w.alloc (.cells #[.int .u8 (c.toNat : Int)] 5)).cell? ⟨4, 0, none⟩ = some (.int .i64 m) := (((Below.refl w.heap.size w).alloc (Nat.le_refl _) _).cell (p := ⟨4, 0, none⟩) (World.block_lt_of_cell? w _ hm)).trans hm
  clear hm
  go_enter Tryd.func25, Tryd.ntmps25
  go_wp2_with fail
  go_at_call 43
  refine (Tryd.strings_Split s ⟨#[c]⟩ m _ (by omega) hm1 (Nat.le_refl 1)).mono ?_
  rintro e w1 ⟨rfl, rfl⟩
  go_wp2
  go_ret
  refine ⟨_, rfl, ?_, ((Below.refl _ _).alloc (Nat.le_refl _) _).alloc (by simp) _⟩
  have hp : Lib.splitB ⟨#[c]⟩ 0 (Lib.countB s ⟨#[c]⟩) s = pieces c s := rfl
  rw [← hl.1, hp]
  have := World.ownsRow_lit (base := w.heap.size) (e := 9) (size := 1) (w.alloc (.cells #[.int .u8 (c.toNat : Int)] 5)) ((pieces c s).map Value.string).toArray (pieces c s).length (by simp) (by unfold maxLen; omega) (by simp)
  simpa using this

end Go.Proofs.YtpddgladbodkbaaDoor
