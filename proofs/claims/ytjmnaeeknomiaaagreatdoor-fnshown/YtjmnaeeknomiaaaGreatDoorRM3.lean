/- Contracts of both Digits. Both VecText, walked. Parts of what is shown. Ports that come in, with their bounds. Texts of claims and states, walked. A port's parts. impl.shown.     -/
import Derived.Lib.ItoaNum
import Derived.Laws.IdiomStrings
import Derived.Test.YtjmnaeeknomiaaaGreatDoorRKWShelf
import Derived.Lib.ItoaLen
import Derived.Lib.LaidTab
import Derived.Lib.AppendStr
import Derived.Lib.BufferRead
import Derived.Test.YtjmnaeeknomiaaaGreatDoorRM9
import Derived.Test.YtjmnaeeknomiaaaGreatDoorRKWPort6s
namespace Go.Proofs.YtjmnaeeknomiaaaGreatDoor
open Go.ChangeShapes Go.WideShapes Go.ChangeAt Go.RowKit
open Go.ChangeMaps (open_string shut_string)
set_option linter.unusedVariables false
set_option maxRecDepth 100000
set_option maxHeartbeats 32000000
set_option linter.unusedSimpArgs false
open Go.Proofs.Tryz
attribute [local go_sem] ji ja
theorem Gj (w : World) (x : Int) (h0 : 0 ≤ x) (h1 : x ≤ 255) :
    (convert 22 9 (.slice (some ⟨w.heap.size, 0, none⟩) 1 1)).run prog (w.alloc (.cells #[.int .u8 x] 5)) = .ok (.string ⟨#[UInt8.ofNat x.toNat]⟩) (w.alloc (.cells #[.int .u8 x] 5)) := by
  have h := run_convert_bytes_back (P := prog) (w.alloc (.cells #[.int .u8 x] 5)) 22 9 5 ⟨w.heap.size, 0, none⟩ 1 [UInt8.ofNat x.toNat] underlying22 underlying5 underlying9 (fun j hj => by
    obtain rfl : j = 0 := by simpa using hj
    have e : ((UInt8.ofNat x.toNat).toNat : Int) = x := by simp; omega
    simp [Addr.add]
    omega)
  simpa using h
theorem J2 {m : Nat} (h : 0 < m) (suf : List UInt8) : (if m / 10 = 0 then [] else Lib.decDigits (m / 10)) ++ (UInt8.ofNat (48 + m % 10) :: suf) = Lib.decDigits m ++ suf := by
  by_cases hm : m < 10
  · rw [if_pos (by omega), Lib.decDigits, dif_pos hm]
    simp
    congr 1
    omega
  · rw [if_neg (by omega)]
    conv => rhs; rw [Lib.decDigits, dif_neg hm]
    simp
def DB (N m : Nat) (suf : ByteArray) : Prop := (if m = 0 then [] else Lib.decDigits m) ++ suf.data.toList = Lib.decDigits N
theorem DB.start {N : Nat} (h : 0 < N) : DB N N ⟨#[]⟩ := by unfold DB; rw [if_neg (by omega)]; simp
theorem DB.step {N m : Nat} {suf : ByteArray} (h : DB N m suf) (hm : 0 < m) : DB N (m / 10) (⟨#[UInt8.ofNat (48 + m % 10)]⟩ ++ suf) := by
  unfold DB at h ⊢
  rw [if_neg (by omega)] at h
  have e : (⟨#[UInt8.ofNat (48 + m % 10)]⟩ ++ suf : ByteArray).data.toList = UInt8.ofNat (48 + m % 10) :: suf.data.toList := by simp [ByteArray.data_append]
  rw [e, J2 hm, h]
theorem DB.done {N : Nat} {suf : ByteArray} (h : DB N 0 suf) : suf = ⟨(Lib.decDigits N).toArray⟩ := by
  unfold DB at h
  simp at h
  rw [← h]
theorem Iw (u : Nat) : (Lib.decDigits u).length ≤ u / 10 + 1 := by
  induction u using Nat.strongRecOn with
  | ind u ih =>
    rw [Lib.decDigits]
    split
    · simp
    · have := ih (u / 10) (by omega); simp; omega
theorem DB.len {N m : Nat} {suf : ByteArray} (h : DB N m suf) : suf.size ≤ N / 10 + 1 := by
  have := congrArg List.length h
  have h2 := Iw N
  rw [List.length_append] at this
  have e : suf.data.toList.length = suf.size := Array.length_toList
  omega
theorem Jr (l : List UInt8) : (⟨#[45]⟩ ++ ⟨l.toArray⟩ : ByteArray) = ⟨(45 :: l).toArray⟩ := by
  apply ByteArray.ext
  rw [ByteArray.data_append]
  simp
theorem JT (n : Int) (w : World) (h0 : 0 < n) (h1 : n ≤ 9223372036854775807) :
    Calls prog 64 #[.int .i64 n] w fun e w' => e = .returned (.string ⟨(Lib.decDigits n.toNat).toArray⟩) ∧ Below w.heap.size w w' := by
  have hne : (n == 0) = false := by simp; omega
  have hn0 : decide (n < 0) = false := by simp; omega
  go_enter func64, ntmps64
  go_wp2
  go_loopw [0, 4, 5] (fun x s _ wr => ∃ (m : Int) (suf : ByteArray), 0 ≤ m ∧ m ≤ n ∧ x = .int .i64 m ∧ s = .string suf ∧ Hid (DB n.toNat m.toNat suf) ∧ Below w.heap.size w wr) (fun x _ _ _ => (intOf x).toNat)
  case atStart => exact ⟨n, ⟨#[]⟩, by omega, by omega, rfl, rfl, DB.start (by omega), Below.refl _ _⟩
  case round =>
    obtain ⟨m, suf, hm0, hm, rfl, rfl, hD, hb⟩ := hrel
    by_cases hlt : 0 < m
    · have hne2 : (m != 0) = true := by simp; omega
      have hm2 : m ≤ 9223372036854775807 := by omega
      have hd0 : decide (m % 10 < 0) = false := by simp; omega
      have hcv := Gj wr (48 + m % 10) (by omega) (by omega)
      have hsz : ¬ 9223372036854775807 < 1 + suf.size := by have := hD.out.len; omega
      have hD1 : Hid (DB n.toNat (m / 10).toNat (⟨#[UInt8.ofNat (48 + m % 10).toNat]⟩ ++ suf)) := by
        have := hD.out.step (by omega)
        rw [show (m / 10).toNat = m.toNat / 10 by omega, show (48 + m % 10).toNat = 48 + m.toNat % 10 by omega]
        exact this
      have hbs := hb.size
      clear hD
      go_wp2
      go_roundw
      case rel => exact ⟨m / 10, _, by omega, by omega, rfl, rfl, hD1, hb.alloc hbs _⟩
      case measure => simp [intOf]; omega
    · obtain rfl : m = 0 := by omega
      obtain rfl := hD.out.done
      go_wp2
      go_ret
      exact ⟨rfl, hb⟩
theorem JU (n : Int) (w : World) (h0 : n < 0) (h1 : -9223372036854775808 ≤ n) :
    Calls prog 64 #[.int .i64 n] w fun e w' => e = .returned (.string ⟨(45 :: Lib.decDigits n.natAbs).toArray⟩) ∧ Below w.heap.size w w' := by
  have hne : (n == 0) = false := by simp; omega
  have hn0 : decide (n < 0) = true := by simp; omega
  go_enter func64, ntmps64
  go_wp2
  go_loopw [0, 4, 5] (fun x s _ wr => ∃ (m : Int) (suf : ByteArray), m ≤ 0 ∧ n ≤ m ∧ x = .int .i64 m ∧ s = .string suf ∧ Hid (DB n.natAbs m.natAbs suf) ∧ Below w.heap.size w wr) (fun x _ _ _ => (intOf x).natAbs)
  case atStart => exact ⟨n, ⟨#[]⟩, by omega, by omega, rfl, rfl, DB.start (by omega), Below.refl _ _⟩
  case round =>
    obtain ⟨m, suf, hm0, hm, rfl, rfl, hD, hb⟩ := hrel
    have hsz : ¬ 9223372036854775807 < 1 + suf.size := by have := hD.out.len; omega
    by_cases hlt : m < 0
    · have hne2 : (m != 0) = true := by simp; omega
      have hm2 : -9223372036854775808 ≤ m := by omega
      obtain ⟨r, hr⟩ : ∃ r, r = -m % 10 := ⟨_, rfl⟩
      obtain ⟨q, hq⟩ : ∃ q, q = -m / 10 := ⟨_, rfl⟩
      have ht : m.tmod 10 = -r := by
        rw [hr, show m = -(-m) by omega, Int.neg_tmod, Int.tmod_eq_emod_of_nonneg (by omega)]
        simp
      have htq : m.tdiv 10 = -q := by
        rw [hq, show m = -(-m) by omega, Int.neg_tdiv, Int.tdiv_eq_ediv_of_nonneg (by omega)]
        simp
      have hD1 : Hid (DB n.natAbs (-q).natAbs (⟨#[UInt8.ofNat (48 + r).toNat]⟩ ++ suf)) := by
        have := hD.out.step (by omega)
        rw [show (-q).natAbs = m.natAbs / 10 by omega, show (48 + r).toNat = 48 + m.natAbs % 10 by omega]
        exact this
      have hr0 : 0 ≤ r := by omega
      have hr9 : r ≤ 9 := by omega
      have hq0 : 0 ≤ q := by omega
      have hqm : Hid (n ≤ -q ∧ q < m.natAbs) := ⟨by omega, by omega⟩
      have hq8 : q ≤ 922337203685477580 := by omega
      have hbs := hb.size
      clear hD hr hq
      by_cases hz : r = 0
      · subst hz
        have hcv := Gj wr 48 (by omega) (by omega)
        go_wp2
        go_roundw
        case rel => exact ⟨-q, _, by omega, hqm.out.1, rfl, rfl, hD1, hb.alloc hbs _⟩
        case measure => have := hqm.out.2; simp [intOf]; omega
      · have hd0 : decide (0 < r) = true := by simp; omega
        have hcv := Gj wr (48 + r) (by omega) (by omega)
        clear hz
        go_wp2
        go_roundw
        case rel => exact ⟨-q, _, by omega, hqm.out.1, rfl, rfl, hD1, hb.alloc hbs _⟩
        case measure => have := hqm.out.2; simp [intOf]; omega
    · obtain rfl : m = 0 := by omega
      obtain rfl := hD.out.done
      go_wp2
      go_ret
      exact ⟨congrArg (fun x => Ending.returned (.string x)) (Jr _), hb⟩
theorem Bm (n : Int) (w : World) (h0 : -9223372036854775808 ≤ n) (h1 : n ≤ 9223372036854775807) :
    Calls prog 64 #[.int .i64 n] w fun e w' => e = .returned (.string ⟨(Lib.itoa n).toArray⟩) ∧ Below w.heap.size w w' := by
  by_cases hn : n < 0
  · have e : Lib.itoa n = 45 :: Lib.decDigits n.natAbs := by unfold Lib.itoa; rw [if_pos hn]
    rw [e]
    exact JU n w hn h0
  · have e : Lib.itoa n = Lib.decDigits n.toNat := by unfold Lib.itoa; rw [if_neg hn]
    rw [e]
    by_cases hz : n = 0
    · subst hz
      have e2 : Lib.decDigits (0 : Int).toNat = [48] := by rw [Lib.decDigits]; rfl
      rw [e2]
      go_enter func64, ntmps64
      go_wp2
      go_ret
      exact ⟨rfl, Below.refl _ _⟩
    · exact JT n w (by omega) h1
theorem HN (n : Int) (w : World) (h0 : -9223372036854775808 ≤ n) (h1 : n ≤ 9223372036854775807) (htab : Lib.TabIs prog w "internal/strconv.uint64pow10" .u64 Lib.pow10Tab) :
    Calls prog 99 #[.int .i64 n] w fun e w' => e = .returned (.string ⟨(Lib.itoa n).toArray⟩) ∧ Below w.heap.size w w' := by
  have hb : ∀ k os, Below w.heap.size w (Sort.grow (w.drewN k) os) := fun k os =>
    ⟨rfl, rfl, rfl, by show w.heap.size ≤ (w.heap ++ os).size; simp, fun j hj => by show (w.heap ++ os)[j]? = _; rw [Array.getElem?_append_left hj]⟩
  go_enter func99, ntmps99
  go_wp2_with fail
  go_at_call 121
  refine (Tryz.strconv_Itoa n h0 h1 w htab).mono ?_
  rintro e w' ⟨rfl, k, os, rfl⟩
  go_wp2
  go_ret
  exact ⟨rfl, hb k os⟩
theorem Jb (w : World) (o : Obj) : Below w.heap.size w (w.alloc o) := (Below.refl _ _).alloc (Nat.le_refl _) _
theorem Jf (w : World) (o : Obj) : w.heap.size < (w.alloc o).heap.size := by simp
def E7 (r c b p : Int) (k : Nat) : Int := if k = 0 then r else if k = 1 then c else if k = 2 then b else p
theorem LN (r c b p : Int) (k : Nat) (w : World) (hk : k < 4) :
    Calls prog 122 #[.agg #[.int .i64 r, .int .i64 c, .int .i64 b, .int .i64 p], .int .i64 k] w fun e w' => e = .returned (.int .i64 (E7 r c b p k)) ∧ Below w.heap.size w w' := by
  obtain rfl | rfl | rfl | rfl : k = 0 ∨ k = 1 ∨ k = 2 ∨ k = 3 := by omega
  · go_enter func122, ntmps122
    go_wp2
    go_ret
    exact ⟨rfl, (Below.refl _ _).alloc (Nat.le_refl _) _⟩
  · go_enter func122, ntmps122
    go_wp2
    go_ret
    exact ⟨rfl, (Below.refl _ _).alloc (Nat.le_refl _) _⟩
  · go_enter func122, ntmps122
    go_wp2
    go_ret
    exact ⟨rfl, (Below.refl _ _).alloc (Nat.le_refl _) _⟩
  · go_enter func122, ntmps122
    go_wp2
    go_ret
    exact ⟨rfl, (Below.refl _ _).alloc (Nat.le_refl _) _⟩
theorem Is : prog.globalNamed "internal/strconv.uint64pow10" = some 3 := by kernel_rfl
def Dx (w : World) : Prop := Lib.TabIs prog w "internal/strconv.uint64pow10" .u64 Lib.pow10Tab
theorem Dc {w w' : World} (h : Dx w) (hb : Below w.heap.size w w') : Dx w' := Joins.tab_stays Is h hb (Nat.le_refl _)
def AH (n : Int) : ByteArray := ⟨(Lib.itoa n).toArray⟩
theorem Bj {n : Int} (h0 : -9223372036854775808 ≤ n) (h1 : n ≤ 9223372036854775807) : (AH n).size ≤ 21 := by
  have := Lib.itoa_length_le n h0 h1
  unfold AH
  show (Lib.itoa n).toArray.size ≤ 21
  simpa using this
def EG (r c b p : Int) : ByteArray := AH r ++ ⟨#[46]⟩ ++ AH c ++ ⟨#[46]⟩ ++ AH b ++ ⟨#[46]⟩ ++ AH p
def BK (n : Int) : Prop := -9223372036854775808 ≤ n ∧ n ≤ 9223372036854775807
theorem Ec (r c b p : Int) (w : World) (hr : BK r) (hc : BK c) (hb : BK b) (hp : BK p) :
    Calls prog 77 #[.agg #[.int .i64 r, .int .i64 c, .int .i64 b, .int .i64 p]] w fun e w' => e = .returned (.string (EG r c b p)) ∧ Below w.heap.size w w' := by
  obtain ⟨x, hx⟩ : ∃ x, x = w.alloc (Obj.cells #[.int .i64 r, .int .i64 c, .int .i64 b, .int .i64 p] 25) := ⟨_, rfl⟩
  obtain ⟨P, hP⟩ : ∃ P, P = w.heap.size := ⟨_, rfl⟩
  have A0 : DC x P r c b p := by rw [hx, hP]; exact Gd w _ _ _ _ _
  have B0 : Below w.heap.size w x := by rw [hx]; exact Jb w _
  have S0 : P < x.heap.size := by rw [hx, hP]; exact Jf w _
  have z0 := Bj hr.1 hr.2
  have z1 := Bj hc.1 hc.2
  have z2 := Bj hb.1 hb.2
  have z3 := Bj hp.1 hp.2
  have q1 : ¬ 9223372036854775807 < (AH r).size + 1 := by omega
  have q2 : ¬ 9223372036854775807 < (AH r).size + 1 + (AH c).size := by omega
  have q3 : ¬ 9223372036854775807 < (AH r).size + 1 + (AH c).size + 1 := by omega
  have q4 : ¬ 9223372036854775807 < (AH r).size + 1 + (AH c).size + 1 + (AH b).size := by omega
  have q5 : ¬ 9223372036854775807 < (AH r).size + 1 + (AH c).size + 1 + (AH b).size + 1 := by omega
  have q6 : ¬ 9223372036854775807 < (AH r).size + 1 + (AH c).size + 1 + (AH b).size + 1 + (AH p).size := by omega
  go_enter func77, ntmps77
  go_wp2
  rw [← hx, ← hP]
  clear hx hP
  refine wp_region_held (S := fun Y => Below x.heap.size x Y) (by kernel_rfl) ?_
  change wpAnyH _ _ _ _ _ _ _ _ (World.drew _)
  have hb0 : Below x.heap.size x x.drew := (Below.refl _ _).drew
  obtain ⟨y0, hy0⟩ : ∃ y, y = x.drew := ⟨_, rfl⟩
  rw [← hy0] at hb0 ⊢
  clear hy0
  refine BN 0 3 (.pointer (some ⟨P, 0, none⟩)) rfl rfl (by kernel_rfl) (by kernel_rfl) (by kernel_rfl) (fun _ _ _ h => h) (by kernel_rfl) (by (intro w hSw; go_simp)) (by assumption) ?_
  simp only [List.set_cons_zero, List.set_cons_succ]
  refine BN 1 4 (.int .i64 r) rfl rfl (by kernel_rfl) (by kernel_rfl) (by kernel_rfl) (fun _ _ _ h => h) (by kernel_rfl) (by (intro Y hSw; obtain ⟨C1, C2, C3, C4⟩ := A0.below hSw (by omega); go_simp)) (by assumption) ?_
  simp only [List.set_cons_zero, List.set_cons_succ]
  refine BN 4 7 (.pointer (some ⟨P, 1, none⟩)) rfl rfl (by kernel_rfl) (by kernel_rfl) (by kernel_rfl) (fun _ _ _ h => h) (by kernel_rfl) (by (intro w hSw; go_simp)) (by assumption) ?_
  simp only [List.set_cons_zero, List.set_cons_succ]
  refine BN 5 8 (.int .i64 c) rfl rfl (by kernel_rfl) (by kernel_rfl) (by kernel_rfl) (fun _ _ _ h => h) (by kernel_rfl) (by (intro Y hSw; obtain ⟨C1, C2, C3, C4⟩ := A0.below hSw (by omega); go_simp)) (by assumption) ?_
  simp only [List.set_cons_zero, List.set_cons_succ]
  refine BN 9 12 (.pointer (some ⟨P, 2, none⟩)) rfl rfl (by kernel_rfl) (by kernel_rfl) (by kernel_rfl) (fun _ _ _ h => h) (by kernel_rfl) (by (intro w hSw; go_simp)) (by assumption) ?_
  simp only [List.set_cons_zero, List.set_cons_succ]
  refine BN 10 13 (.int .i64 b) rfl rfl (by kernel_rfl) (by kernel_rfl) (by kernel_rfl) (fun _ _ _ h => h) (by kernel_rfl) (by (intro Y hSw; obtain ⟨C1, C2, C3, C4⟩ := A0.below hSw (by omega); go_simp)) (by assumption) ?_
  simp only [List.set_cons_zero, List.set_cons_succ]
  refine BN 14 17 (.pointer (some ⟨P, 3, none⟩)) rfl rfl (by kernel_rfl) (by kernel_rfl) (by kernel_rfl) (fun _ _ _ h => h) (by kernel_rfl) (by (intro w hSw; go_simp)) (by assumption) ?_
  simp only [List.set_cons_zero, List.set_cons_succ]
  refine BN 15 18 (.int .i64 p) rfl rfl (by kernel_rfl) (by kernel_rfl) (by kernel_rfl) (fun _ _ _ h => h) (by kernel_rfl) (by (intro Y hSw; obtain ⟨C1, C2, C3, C4⟩ := A0.below hSw (by omega); go_simp)) (by assumption) ?_
  simp only [List.set_cons_zero, List.set_cons_succ]
  refine wpAnyH_all (rs := [2]) (by kernel_rfl) (by simp) ?_
  intro i hi; obtain rfl : i = 2 := by simpa using hi
  refine wpOp_step rfl (fun K hK => ?_)
  rw [if_pos (by kernel_rfl)]
  go_simp
  go_at_call 64
  refine (Bm r y0 hr.1 hr.2).mono ?_
  rintro e y1 ⟨rfl, kq⟩
  have hb1 : Below x.heap.size x y1 := hb0.trans (kq.mono hb0.size)
  clear kq
  rw [show (⟨(Lib.itoa r).toArray⟩ : ByteArray) = AH r from rfl]
  refine hK _ _ ⟨hb1, ?_⟩
  clear hK K hi
  refine BN 3 6 (.string (AH r ++ ⟨#[46]⟩)) rfl rfl (by kernel_rfl) (by kernel_rfl) (by kernel_rfl) (fun _ _ _ h => h) (by kernel_rfl) (by (intro w hSw; go_simp)) (by assumption) ?_
  simp only [List.set_cons_zero, List.set_cons_succ]
  refine wpAnyH_all (rs := [6]) (by kernel_rfl) (by simp) ?_
  intro i hi; obtain rfl : i = 6 := by simpa using hi
  refine wpOp_step rfl (fun K hK => ?_)
  rw [if_pos (by kernel_rfl)]
  go_simp
  go_at_call 64
  refine (Bm c y1 hc.1 hc.2).mono ?_
  rintro e y2 ⟨rfl, kq⟩
  have hb2 : Below x.heap.size x y2 := hb1.trans (kq.mono hb1.size)
  clear kq
  rw [show (⟨(Lib.itoa c).toArray⟩ : ByteArray) = AH c from rfl]
  refine hK _ _ ⟨hb2, ?_⟩
  clear hK K hi
  refine BN 7 10 (.string (AH r ++ ⟨#[46]⟩ ++ AH c)) rfl rfl (by kernel_rfl) (by kernel_rfl) (by kernel_rfl) (fun _ _ _ h => h) (by kernel_rfl) (by (intro w hSw; go_simp)) (by assumption) ?_
  simp only [List.set_cons_zero, List.set_cons_succ]
  refine BN 8 11 (.string (AH r ++ ⟨#[46]⟩ ++ AH c ++ ⟨#[46]⟩)) rfl rfl (by kernel_rfl) (by kernel_rfl) (by kernel_rfl) (fun _ _ _ h => h) (by kernel_rfl) (by (intro w hSw; go_simp)) (by assumption) ?_
  simp only [List.set_cons_zero, List.set_cons_succ]
  refine wpAnyH_all (rs := [11]) (by kernel_rfl) (by simp) ?_
  intro i hi; obtain rfl : i = 11 := by simpa using hi
  refine wpOp_step rfl (fun K hK => ?_)
  rw [if_pos (by kernel_rfl)]
  go_simp
  go_at_call 64
  refine (Bm b y2 hb.1 hb.2).mono ?_
  rintro e y3 ⟨rfl, kq⟩
  have hb3 : Below x.heap.size x y3 := hb2.trans (kq.mono hb2.size)
  clear kq
  rw [show (⟨(Lib.itoa b).toArray⟩ : ByteArray) = AH b from rfl]
  refine hK _ _ ⟨hb3, ?_⟩
  clear hK K hi
  refine BN 12 15 (.string (AH r ++ ⟨#[46]⟩ ++ AH c ++ ⟨#[46]⟩ ++ AH b)) rfl rfl (by kernel_rfl) (by kernel_rfl) (by kernel_rfl) (fun _ _ _ h => h) (by kernel_rfl) (by (intro w hSw; go_simp)) (by assumption) ?_
  simp only [List.set_cons_zero, List.set_cons_succ]
  refine BN 13 16 (.string (AH r ++ ⟨#[46]⟩ ++ AH c ++ ⟨#[46]⟩ ++ AH b ++ ⟨#[46]⟩)) rfl rfl (by kernel_rfl) (by kernel_rfl) (by kernel_rfl) (fun _ _ _ h => h) (by kernel_rfl) (by (intro w hSw; go_simp)) (by assumption) ?_
  simp only [List.set_cons_zero, List.set_cons_succ]
  refine wpAnyH_all (rs := [16]) (by kernel_rfl) (by simp) ?_
  intro i hi; obtain rfl : i = 16 := by simpa using hi
  refine wpOp_step rfl (fun K hK => ?_)
  rw [if_pos (by kernel_rfl)]
  go_simp
  go_at_call 64
  refine (Bm p y3 hp.1 hp.2).mono ?_
  rintro e y4 ⟨rfl, kq⟩
  have hb4 : Below x.heap.size x y4 := hb3.trans (kq.mono hb3.size)
  clear kq
  rw [show (⟨(Lib.itoa p).toArray⟩ : ByteArray) = AH p from rfl]
  refine hK _ _ ⟨hb4, ?_⟩
  clear hK K hi
  refine BN 17 20 (.string (AH r ++ ⟨#[46]⟩ ++ AH c ++ ⟨#[46]⟩ ++ AH b ++ ⟨#[46]⟩ ++ AH p)) rfl rfl (by kernel_rfl) (by kernel_rfl) (by kernel_rfl) (fun _ _ _ h => h) (by kernel_rfl) (by (intro w hSw; go_simp)) (by assumption) ?_
  simp only [List.set_cons_zero, List.set_cons_succ]
  refine BN 18 2 (.string (AH r ++ ⟨#[46]⟩ ++ AH c ++ ⟨#[46]⟩ ++ AH b ++ ⟨#[46]⟩ ++ AH p)) rfl rfl (by kernel_rfl) (by kernel_rfl) (by kernel_rfl) (fun _ _ _ h => h) (by kernel_rfl) (by (intro w hSw; go_simp)) (by assumption) ?_
  simp only [List.set_cons_zero, List.set_cons_succ]
  refine wpAnyH_done (by kernel_rfl) ?_ _
  go_wp2
  go_ret
  exact ⟨rfl, B0.trans (hb4.mono B0.size)⟩
def Ez (w : World) (q : Nat) (r c b p : Int) (k : Nat) : Prop := ∀ j, j < 4 → w.cell? ⟨q, j, none⟩ = some (.string (if j < k then AH (E7 r c b p j) else ⟨#[]⟩)) ∧ w.frozen? ⟨q, j, none⟩ = false
theorem Ez.below {w w' : World} {q n : Nat} {r c b p : Int} {k : Nat} (h : Ez w q r c b p k) (g : Below n w w') (hq : q < n) : Ez w' q r c b p k :=
  fun j hj => ⟨(g.cell (p := ⟨q, j, none⟩) hq).trans (h j hj).1, (World.frozen?_of_block (a := ⟨q, j, none⟩) (g.block q hq)).trans (h j hj).2⟩
theorem Ez.step {w : World} {q : Nat} {r c b p : Int} {k : Nat} (h : Ez w q r c b p k) (hk : k < 4) : Ez (w.setCell ⟨q, k, none⟩ (.string (AH (E7 r c b p k)))) q r c b p (k + 1) := by
  intro j hj
  refine ⟨?_, by rw [World.frozen?_setCell]; exact (h j hj).2⟩
  by_cases e : j = k
  · subst e
    rw [if_pos (by omega)]
    exact World.cell?_setCell_same' _ _ _ (by rw [(h j hj).1]; rfl)
  · have := (h j hj).1
    rw [GX e, this]
    congr 2
    by_cases h2 : j < k
    · rw [if_pos h2, if_pos (by omega)]
    · rw [if_neg h2, if_neg (by omega)]
theorem DC.setOther {w : World} {q q' k : Nat} {r c b p : Int} {v : Value} (h : DC w q r c b p) (hne : q ≠ q') : DC (w.setCell ⟨q', k, none⟩ v) q r c b p := by
  have e : ∀ i, (w.setCell ⟨q', k, none⟩ v).cell? ⟨q, i, none⟩ = w.cell? ⟨q, i, none⟩ := fun i => World.cell?_setCell_other _ _ _ _ (by intro h; apply hne; exact (congrArg Addr.block h).symm)
  exact ⟨(e 0).trans h.1, (e 1).trans h.2.1, (e 2).trans h.2.2.1, (e 3).trans h.2.2.2⟩
theorem LT (r c b p : Int) : (⟨(Lib.join ([AH r, AH c, AH b, AH p].map (·.data.toList)) [46]).toArray⟩ : ByteArray) = EG r c b p := by
  apply ByteArray.ext
  unfold EG
  simp [Lib.join, List.intercalate, ByteArray.data_append]
theorem Kl {r c b p : Int} (hr : BK r) (hc : BK c) (hb : BK b) (hp : BK p) (k : Nat) : BK (E7 r c b p k) := by
  unfold E7
  split
  · exact hr
  · split
    · exact hc
    · split
      · exact hb
      · exact hp
theorem LK (r c b p : Int) (w : World) (hr : BK r) (hc : BK c) (hb : BK b) (hp : BK p) (htab : Dx w) :
    Calls prog 100 #[.agg #[.int .i64 r, .int .i64 c, .int .i64 b, .int .i64 p]] w fun e w' => e = .returned (.string (EG r c b p)) ∧ Below w.heap.size w w' := by
  have hlen : (Lib.join ([AH r, AH c, AH b, AH p].map (·.data.toList)) [46]).length ≤ 140737488355328 := by
    have z0 := Bj hr.1 hr.2
    have z1 := Bj hc.1 hc.2
    have z2 := Bj hb.1 hb.2
    have z3 := Bj hp.1 hp.2
    rw [List.map_cons, Lib.join_length]
    simp only [List.map_cons, List.map_nil, Lib.lens, List.length_cons, List.length_nil, List.sum_cons, List.sum_nil]
    have e : ∀ d : ByteArray, d.data.toList.length = d.size := fun d => Array.length_toList
    simp only [e]
    omega
  obtain ⟨x, hx⟩ : ∃ x, x = (w.alloc (Obj.cells #[.int .i64 r, .int .i64 c, .int .i64 b, .int .i64 p] 25)).alloc (Obj.cells #[.string ⟨#[]⟩, .string ⟨#[]⟩, .string ⟨#[]⟩, .string ⟨#[]⟩] 197) := ⟨_, rfl⟩
  obtain ⟨P, hP⟩ : ∃ P, P = w.heap.size := ⟨_, rfl⟩
  have A0 : DC x P r c b p := by rw [hx, hP]; refine ⟨?_, ?_, ?_, ?_⟩ <;> simp [go_sem]
  have T0 : Ez x (P + 1) r c b p 0 := by
    intro j hj
    rw [hx, hP]
    obtain rfl | rfl | rfl | rfl : j = 0 ∨ j = 1 ∨ j = 2 ∨ j = 3 := by omega
    · exact ⟨by simp [go_sem], by simp [go_sem]⟩
    · exact ⟨by simp [go_sem], by simp [go_sem]⟩
    · exact ⟨by simp [go_sem], by simp [go_sem]⟩
    · exact ⟨by simp [go_sem], by simp [go_sem]⟩
  have B0 : Below w.heap.size w x := by rw [hx]; exact ((Below.refl _ _).alloc (Nat.le_refl _) _).alloc (by simp) _
  have S0 : P + 1 < x.heap.size := by rw [hx, hP]; simp
  have hPw : w.heap.size ≤ P := by omega
  go_enter func100, ntmps100
  go_wp2
  rw [← hx, ← hP]
  clear hx hP
  go_loopw [5] (fun i wr => ∃ k : Nat, k ≤ 4 ∧ i = .int .i64 (k : Int) ∧ Ez wr (P + 1) r c b p k ∧ DC wr P r c b p ∧ Below w.heap.size w wr ∧ P + 1 < wr.heap.size) (fun i _ => 4 - (intOf i).toNat)
  case atStart => exact ⟨0, by omega, rfl, T0, A0, B0, S0⟩
  case round =>
    obtain ⟨k, hk, rfl, hT, hA, hB, hS⟩ := hrel
    clear T0 A0 B0 S0
    by_cases hlt : k < 4
    · have hlt' : (k : Int) < 4 := by omega
      obtain ⟨C1, C2, C3, C4⟩ := hA
      go_wp2_with fail
      go_at_call 122
      refine (LN r c b p k _ hlt).mono ?_
      rintro e w1 ⟨rfl, k1⟩
      have s1 := k1.size
      have B1 := hB.trans (k1.mono hB.size)
      have A1 : DC w1 P r c b p := DC.below ⟨C1, C2, C3, C4⟩ k1 (by omega)
      have T1 := hT.below k1 hS
      clear hT C1 C2 C3 C4
      go_wp2_with fail
      go_at_call 99
      have hq := Kl hr hc hb hp k
      refine (HN (E7 r c b p k) w1 hq.1 hq.2 (Dc htab B1)).mono ?_
      rintro e w2 ⟨rfl, k2⟩
      rw [show (⟨(Lib.itoa (E7 r c b p k)).toArray⟩ : ByteArray) = AH (E7 r c b p k) from rfl]
      have s2 := k2.size
      have B2 := B1.trans (k2.mono B1.size)
      have A2 := A1.below k2 (by omega)
      have T2 := T1.below k2 (by omega)
      clear T1 A1
      obtain ⟨c1, f1⟩ := T2 k hlt
      have hk0 : (0 : Int) ≤ (k : Int) := by omega
      have T3 := T2.step hlt
      have hkn : (k : Int).toNat = k := by omega
      go_wp2
      go_roundw
      case rel => exact ⟨k + 1, by omega, by simp, T3, A2.setOther (by omega), B2.setCell (by show w.heap.size ≤ P + 1; omega) _, by simp; omega⟩
      case measure => simp [intOf]; omega
    · obtain rfl : k = 4 := by omega
      have hcells : ∀ (j : Nat) x, [AH r, AH c, AH b, AH p][j]? = some x → wr.cell? ⟨P + 1, 0 + j, none⟩ = some (.string x) := by
        intro j x hj
        have hj4 : j < 4 := by
          have := (List.getElem?_eq_some_iff.1 hj).1
          simpa using this
        rw [Nat.zero_add, (hT j hj4).1, if_pos hj4]
        obtain rfl | rfl | rfl | rfl : j = 0 ∨ j = 1 ∨ j = 2 ∨ j = 3 := by omega
        all_goals (simp at hj; subst hj; rfl)
      go_wp2_with fail
      go_at_call 98
      refine (Tryz.strings_Join (P + 1) 0 4 [AH r, AH c, AH b, AH p] ⟨#[46]⟩ wr hcells hS (by simp) (by simp) hlen).mono ?_
      rintro e w1 ⟨rfl, k1⟩
      rw [show (⟨(Lib.join ([AH r, AH c, AH b, AH p].map (·.data.toList)) (⟨#[46]⟩ : ByteArray).data.toList).toArray⟩ : ByteArray) = EG r c b p from LT r c b p]
      go_wp2
      go_ret
      exact ⟨rfl, hB.trans (k1.mono hB.size)⟩
abbrev Be := ByteArray ⊕ Option Int
def pV (x : Be) : Value :=
  match x with
  | .inl s => .iface 114 (.string s)
  | .inr (some n) => .iface 115 (.int .i64 n)
  | .inr none => .iface 117 (.agg #[])
def pT (x : Be) : ByteArray :=
  match x with
  | .inl s => s
  | .inr (some n) => AH n
  | .inr none => ⟨#[10]⟩
def pE (x : Be) : Bool :=
  match x with
  | .inl _ => false
  | .inr (some _) => false
  | .inr none => true
def pW (x : Be) : Prop :=
  match x with
  | .inl s => s.size ≤ 100
  | .inr (some n) => BK n
  | .inr none => True
def CI (x : Be) : List Value := [pV x]
theorem Eh (x : Be) : (CI x).length = 1 := rfl
theorem Km (x : Be) : (pV x).oneCell' = true := by
  match x with
  | .inl s => rfl
  | .inr (some n) => rfl
  | .inr none => rfl
theorem E9 (L : List Be) : ∀ u ∈ AT CI L, u.oneCell' = true := by
  induction L with
  | nil => intro u h; cases h
  | cons x L ih =>
    intro u h
    simp only [AT, CI, List.mem_append, List.mem_cons, List.not_mem_nil, or_false] at h
    rcases h with rfl | h
    · exact Km x
    · exact ih u h
theorem FF {x : Be} (h : pW x) : (pT x).size ≤ 100 := by
  match x, h with
  | .inl s, h => exact h
  | .inr (some n), h =>
    have := Bj (n := n) h.1 h.2
    show (AH n).size ≤ 100
    omega
  | .inr none, _ => show (⟨#[10]⟩ : ByteArray).size ≤ 100; decide
def Cx (x : UInt8) : List Value := [.int .u8 x.toNat]
theorem Hg (x : UInt8) : (Cx x).length = 1 := rfl
theorem HS (L : List UInt8) : ∀ u ∈ AT Cx L, u.oneCell' = true := by
  induction L with
  | nil => intro u h; cases h
  | cons x L ih =>
    intro u h
    simp only [AT, Cx, List.mem_append, List.mem_cons, List.not_mem_nil, or_false] at h
    rcases h with rfl | h
    · rfl
    · exact ih u h
theorem IC (L : List UInt8) : AT Cx L = L.map (fun b => Value.int .u8 b.toNat) := by
  induction L with
  | nil => rfl
  | cons x L ih => simp only [AT, Cx, List.map_cons, ih, List.cons_append, List.nil_append]
theorem I5 (s : ByteArray) : Lib.strCells s = AT Cx s.data.toList := by rw [IC]; rfl
def Ce (s : List UInt8 × Bool) (x : Be) : List UInt8 × Bool := (s.1 ++ (if s.2 && !pE x then [32] else []) ++ (pT x).data.toList, !pE x)
def BI (L : List Be) : List UInt8 × Bool := L.foldl Ce ([], false)
def Et (L : List Be) : ByteArray := ⟨(BI L).1.toArray⟩
theorem Jh {L : List Be} {k : Nat} (hk : k < L.length) : Ce (BI (L.take k)) (L.getD k (.inr none)) = BI (L.take (k + 1)) := by
  have e : L.getD k (.inr none) = L[k] := by simp [List.getD, List.getElem?_eq_getElem hk]
  rw [e, List.take_add_one, List.getElem?_eq_getElem hk, BI, BI, List.foldl_append]
  rfl
theorem KN (L : List Be) (h : ∀ x ∈ L, pW x) : ∀ s : List UInt8 × Bool, (L.foldl Ce s).1.length ≤ s.1.length + 101 * L.length := by
  induction L with
  | nil => intro s; simp
  | cons x L ih =>
    intro s
    have h1 := ih (fun y hy => h y (List.mem_cons_of_mem _ hy)) (Ce s x)
    have h2 := FF (h x List.mem_cons_self)
    have h3 : (Ce s x).1.length ≤ s.1.length + 101 := by
      have h4 : (pT x).data.toList.length = (pT x).size := Array.length_toList
      unfold Ce
      simp only [List.length_append]
      split <;> simp <;> omega
    simp only [List.foldl_cons, List.length_cons]
    omega
theorem Ix (L : List Be) (h : ∀ x ∈ L, pW x) (k : Nat) : (BI (L.take k)).1.length ≤ 101 * k := by
  have h1 := KN (L.take k) (fun x hx => h x (List.mem_of_mem_take hx)) ([], false)
  have h2 : (L.take k).length ≤ k := by simp; omega
  unfold BI
  simp only [List.length_nil] at h1
  omega
theorem LX {P : Program} {X : Type} {enc : X → List Value} {n : Nat} (hn : ∀ x, (enc x).length = n) (h1 : ∀ L, ∀ u ∈ AT enc L, u.oneCell' = true) {w : World} {o : Oper} {a : Act} {K : Act → World → Prop} {Q : Exit → Act → World → Prop} (s x : Operand) (t : TypeId) (ho : o.op = .call { callee := .builtin .append, args := #[s, x], argTypes := #[t, t] })
    (base : Nat) (e : TypeId) (i : TypeInfo) (z : Value) (bytes : Nat) (ht : P.underlying t = some (.slice e)) (hi : P.info? e = some i) (hz : i.zero = some z)
    (hsize : i.size = n) (hby : i.bytes = bytes) (hzs : z.cells.size = n) (hsz : 0 < n)
    (v : Value) (M : List X) (hs : a.eval s = v) (hown : AA enc n e base w v M)
    (ad : Option Addr) (cap : Nat) (L : List X) (hx : a.eval x = .slice ad L.length cap) (hc : ad = none → cap = 0) (hv : AI enc w ad L)
    (hlen : M.length + L.length ≤ 1000000000) (hb2 : bytes ≤ 100) (hbase : base ≤ w.heap.size)
    (h : ∀ v' w', AA enc n e base w' v' (M ++ L) → w.grownBy w' v.ownBlock → (v'.ownBlock = v.ownBlock ∨ v'.ownBlock = some w.heap.size) → K (a.put o.dst v') w') : o.wp P a w K Q := by
  cases ad with
  | none =>
    obtain rfl := hv.none_nil
    obtain rfl := hc rfl
    exact Hx s x t ho base e i n ht hi v M.length (AT enc M) hs hown hx (h v w (by simpa using hown) ⟨rfl, rfl, rfl, Nat.le_refl _, fun _ _ _ => rfl⟩ (.inl rfl))
  | some q =>
    have hmul : (M.length + L.length) * bytes ≤ 1000000000 * 100 := Nat.mul_le_mul hlen hb2
    refine IT s x t ho base e i z n bytes ht hi hz hsize hby hzs hsz v M.length (AT enc M) hs hown q L.length cap (AT enc L) hx (Ev hn L) hv.news (h1 L) (by unfold maxLen; omega) (by omega) hbase ?_
    intro v' w' o' g' e'
    exact h v' w' (AA.app o' rfl) g' e'
theorem Ej {P : Program} {X : Type} {enc : X → List Value} {n : Nat} (hn : ∀ x, (enc x).length = n) (h1 : ∀ L, ∀ u ∈ AT enc L, u.oneCell' = true) {w : World} {ops : Array Oper} {rest : List Oper} {o : Oper} {a : Act} {Q : Exit → Act → World → Prop} (hgd : o.guard = none) (s x : Operand) (t : TypeId) (ho : o.op = .call { callee := .builtin .append, args := #[s, x], argTypes := #[t, t] })
    (base : Nat) (e : TypeId) (i : TypeInfo) (z : Value) (bytes : Nat) (ht : P.underlying t = some (.slice e)) (hi : P.info? e = some i) (hz : i.zero = some z)
    (hsize : i.size = n) (hby : i.bytes = bytes) (hzs : z.cells.size = n) (hsz : 0 < n)
    (v : Value) (M : List X) (hs : a.eval s = v) (hown : AA enc n e base w v M)
    (ad : Option Addr) (cap : Nat) (L : List X) (hx : a.eval x = .slice ad L.length cap) (hc : ad = none → cap = 0) (hv : AI enc w ad L)
    (hlen : M.length + L.length ≤ 1000000000) (hb2 : bytes ≤ 100) (hbase : base ≤ w.heap.size)
    (h : ∀ v' w', AA enc n e base w' v' (M ++ L) → w.grownBy w' v.ownBlock → (v'.ownBlock = v.ownBlock ∨ v'.ownBlock = some w.heap.size) → wpList P ops Q rest (a.put o.dst v') w') : wpList P ops Q (o :: rest) a w := by
  refine wpList_plain hgd fun K hK => ?_
  exact LX hn h1 s x t ho base e i z bytes ht hi hz hsize hby hzs hsz v M hs hown ad cap L hx hc hv hlen hb2 hbase (fun v' w' a b c => hK _ _ (h v' w' a b c))
theorem IX : (prog.info? 5).map (fun i => (i.zero, i.size, i.bytes)) = some (some (.int .u8 0), 1, 1) := by kernel_rfl
theorem IE : (prog.info? 166).map (fun i => (i.zero, i.size, i.bytes)) = some (some .nilIface, 1, 16) := by kernel_rfl
theorem Fa {w : World} {ops : Array Oper} {rest : List Oper} {o : Oper} {a : Act} {Q : Exit → Act → World → Prop} (hgd : o.guard = none) (sl x : Operand)
    (ho : o.op = .call { callee := .builtin .append, args := #[sl, x], argTypes := #[22, 9] }) (base : Nat) (v : Value) (M : List UInt8) (hs : a.eval sl = v) (hown : AA Cx 1 5 base w v M) (s : ByteArray) (hx : a.eval x = .string s)
    (hlen : M.length + s.size ≤ 1000000000) (hbase : base ≤ w.heap.size)
    (h : ∀ v' w', AA Cx 1 5 base w' v' (M ++ s.data.toList) → w.grownBy w' v.ownBlock → wpList prog ops Q rest (a.put o.dst v') w') : wpList prog ops Q (o :: rest) a w := by
  obtain ⟨i0, hi, hz0, hz1, hz2⟩ := info_parts IX
  refine Lib.wpList_append_own_string w hgd sl x 22 9 ho base 5 i0 underlying22 underlying9 hi hz0 hz1 hz2 v M.length (AT Cx M) hs hown s hx (by unfold maxLen; omega) (by omega) hbase ?_
  intro v' w' o' g' _
  rw [I5] at o'
  exact h v' w' (AA.app o' (by rw [Array.length_toList]; rfl)) g'
def Cy (x : Pt) : Prop := BK x.r ∧ BK x.c ∧ BK x.b ∧ BK x.p ∧ BK x.wa
theorem I4 {r c b p : Int} (hr : BK r) (hc : BK c) (hb : BK b) (hp : BK p) : (EG r c b p).size ≤ 87 := by
  have z0 := Bj hr.1 hr.2
  have z1 := Bj hc.1 hc.2
  have z2 := Bj hb.1 hb.2
  have z3 := Bj hp.1 hp.2
  unfold EG
  simp only [ByteArray.size_append]
  have e : (⟨#[46]⟩ : ByteArray).size = 1 := rfl
  omega
theorem Gk (o : Bool) (y n : ByteArray) (w : World) : Calls prog 74 #[.bool o, .string y, .string n] w fun e w' => e = .returned (.string (if o then y else n)) ∧ w' = w := by
  cases o
  · go_enter func74, ntmps74
    go_wp2
    go_ret
    exact ⟨rfl, rfl⟩
  · go_enter func74, ntmps74
    go_wp2
    go_ret
    exact ⟨rfl, rfl⟩
def BU (n : Int) : ByteArray := if n = 0 then ⟨#[111, 102, 102]⟩ else if n = 1 then ⟨#[114, 111, 111, 116]⟩ else if n = 2 then ⟨#[100, 101, 115]⟩ else if n = 3 then ⟨#[97, 108, 116]⟩ else ⟨#[110, 111, 110, 101]⟩
def Bu (o : Bool) : ByteArray := if o then ⟨#[111, 112, 101, 110]⟩ else ⟨#[115, 104, 117, 116]⟩
def Bi (x : Pt) : ByteArray := if x.has then EG x.r x.c x.b x.p else ⟨#[45]⟩
def DA (x : Pt) : List Be := [.inl (BU x.ro), .inl (Bu x.op), .inr (some x.wa), .inl (Bi x)]
def Ah (x : Pt) : ByteArray := BU x.ro ++ ⟨#[32]⟩ ++ Bu x.op ++ ⟨#[32]⟩ ++ AH x.wa ++ ⟨#[32]⟩ ++ Bi x
theorem Hl (n : Int) : (BU n).size ≤ 4 := by
  unfold BU
  repeat' split
  all_goals decide
theorem Hn (o : Bool) : (Bu o).size ≤ 4 := by cases o <;> decide
theorem Hw (x : Pt) (h : Cy x) : (Bi x).size ≤ 87 := by
  obtain ⟨h1, h2, h3, h4, _⟩ := h
  unfold Bi
  split
  · have z0 := Bj h1.1 h1.2
    have z1 := Bj h2.1 h2.2
    have z2 := Bj h3.1 h3.2
    have z3 := Bj h4.1 h4.2
    unfold EG
    simp only [ByteArray.size_append]
    have e : (⟨#[46]⟩ : ByteArray).size = 1 := rfl
    omega
  · decide
theorem ID (x : Pt) (h : Cy x) : ∀ y ∈ DA x, pW y := by
  have h1 := Hl x.ro
  have h2 := Hn x.op
  have h3 := Hw x h
  intro y hy
  simp only [DA, List.mem_cons, List.not_mem_nil, or_false] at hy
  rcases hy with rfl | rfl | rfl | rfl
  · show (BU x.ro).size ≤ 100; omega
  · show (Bu x.op).size ≤ 100; omega
  · exact h.2.2.2.2
  · show (Bi x).size ≤ 100; omega
theorem Jg (x : Pt) : Et (DA x) = Ah x := by
  apply ByteArray.ext
  simp [Et, BI, DA, Ce, pE, pT, Ah, ByteArray.data_append]
theorem Kj (n : Int) (w : World) : Calls prog 105 #[.int .i64 n] w fun e w' => e = .returned (.string (BU n)) ∧ w' = w := by
  by_cases h0 : n = 0
  · subst h0
    rw [show BU 0 = ⟨#[111, 102, 102]⟩ from rfl]
    go_enter func105, ntmps105
    go_wp2
    go_ret
    exact ⟨rfl, rfl⟩
  have d0 : (n == 0) = false := by simpa using h0
  by_cases h1 : n = 1
  · subst h1
    rw [show BU 1 = ⟨#[114, 111, 111, 116]⟩ from rfl]
    go_enter func105, ntmps105
    go_wp2
    go_ret
    exact ⟨rfl, rfl⟩
  have d1 : (n == 1) = false := by simpa using h1
  by_cases h2 : n = 2
  · subst h2
    rw [show BU 2 = ⟨#[100, 101, 115]⟩ from rfl]
    go_enter func105, ntmps105
    go_wp2
    go_ret
    exact ⟨rfl, rfl⟩
  have d2 : (n == 2) = false := by simpa using h2
  by_cases h3 : n = 3
  · subst h3
    rw [show BU 3 = ⟨#[97, 108, 116]⟩ from rfl]
    go_enter func105, ntmps105
    go_wp2
    go_ret
    exact ⟨rfl, rfl⟩
  have d3 : (n == 3) = false := by simpa using h3
  rw [show BU n = ⟨#[110, 111, 110, 101]⟩ by unfold BU; rw [if_neg h0, if_neg h1, if_neg h2, if_neg h3]]
  go_enter func105, ntmps105
  go_wp2
  go_ret
  exact ⟨rfl, rfl⟩
theorem J4 (x : Pt) (w : World) (hw : Cy x) (htab : Dx w) : Calls prog 106 #[.agg #[.bool x.up, .bool x.has, .int .i64 x.r, .int .i64 x.c, .int .i64 x.b, .int .i64 x.p, .int .i64 x.h, .int .i64 x.l, .int .i64 x.ro, .int .i64 x.wa, .bool x.op]] w fun e w' => e = .returned (.string (Bi x)) ∧ Below w.heap.size w w' := by
  obtain ⟨up, has, r, c, b, p, h, l, ro, wa, op⟩ := x
  obtain ⟨hr, hc, hb, hp, _⟩ := hw
  dsimp only at hr hc hb hp ⊢
  by_cases hh : has = false
  · subst hh
    obtain ⟨y, hy⟩ : ∃ y, y = w.alloc (Obj.cells #[.bool up, .bool false, .int .i64 r, .int .i64 c, .int .i64 b, .int .i64 p, .int .i64 h, .int .i64 l, .int .i64 ro, .int .i64 wa, .bool op] 47) := ⟨_, rfl⟩
    have A0 : Bg y w.heap.size ⟨up, false, r, c, b, p, h, l, ro, wa, op⟩ := by rw [hy]; exact EN w _ ⟨up, false, r, c, b, p, h, l, ro, wa, op⟩
    have B0 : Below w.heap.size w y := by rw [hy]; exact (Below.refl _ _).alloc (Nat.le_refl _) _
    rw [show Bi ⟨up, false, r, c, b, p, h, l, ro, wa, op⟩ = ⟨#[45]⟩ from rfl]
    go_enter func106, ntmps106
    go_upto_region 1 with fail
    rw [← hy]
    clear hy
    obtain ⟨c0, c1, c2, c3, c4, c5, c6, c7, c8, c9, c10⟩ := A0
    go_wp2
    go_ret
    exact ⟨rfl, B0⟩
  · have hh : has = true := by simpa using hh
    subst hh
    obtain ⟨y, hy⟩ : ∃ y, y = w.alloc (Obj.cells #[.bool up, .bool true, .int .i64 r, .int .i64 c, .int .i64 b, .int .i64 p, .int .i64 h, .int .i64 l, .int .i64 ro, .int .i64 wa, .bool op] 47) := ⟨_, rfl⟩
    have A0 : Bg y w.heap.size ⟨up, true, r, c, b, p, h, l, ro, wa, op⟩ := by rw [hy]; exact EN w _ ⟨up, true, r, c, b, p, h, l, ro, wa, op⟩
    have B0 : Below w.heap.size w y := by rw [hy]; exact (Below.refl _ _).alloc (Nat.le_refl _) _
    rw [show Bi ⟨up, true, r, c, b, p, h, l, ro, wa, op⟩ = EG r c b p from rfl]
    go_enter func106, ntmps106
    go_upto_region 1 with fail
    rw [← hy]
    clear hy
    obtain ⟨c0, c1, c2, c3, c4, c5, c6, c7, c8, c9, c10⟩ := A0
    go_wp2_with fail
    go_at_call 100
    refine (LK r c b p y hr hc hb hp (Dc htab B0)).mono ?_
    rintro e w1 ⟨rfl, k1⟩
    go_wp2
    go_ret
    exact ⟨rfl, B0.trans (k1.mono B0.size)⟩
theorem Em (L : List Be) (w : World) {base : Nat} (h : base ≤ w.heap.size) (hl : L.length ≤ 1000 := by decide) : AA CI 1 166 base (w.alloc (Obj.cells (L.map pV).toArray 166)) (.slice (some ⟨w.heap.size, 0, none⟩) L.length L.length) L := by
  have e : AT CI L = L.map pV := by
    clear hl
    induction L with
    | nil => rfl
    | cons x L ih => simp only [AT, CI, List.map_cons, ih, List.cons_append, List.nil_append]
  refine ⟨by rw [e]; simp, .inr ⟨w.heap.size, L.length, (L.map pV).toArray, rfl, h, Cl w _, Nat.le_refl _, by unfold maxLen; omega, by simp, ?_⟩⟩
  rw [e]
  simp [List.take_of_length_le]
theorem IF (x : Pt) (w : World) (hw : Cy x) (htab : Dx w) : Calls prog 76 #[.agg #[.bool x.up, .bool x.has, .int .i64 x.r, .int .i64 x.c, .int .i64 x.b, .int .i64 x.p, .int .i64 x.h, .int .i64 x.l, .int .i64 x.ro, .int .i64 x.wa, .bool x.op]] w fun e w' => ∃ g, e = .returned (.slice (some ⟨g, 0, none⟩) 4 4) ∧ AA CI 1 166 w.heap.size w' (.slice (some ⟨g, 0, none⟩) 4 4) (DA x) ∧ Below w.heap.size w w' := by
  obtain ⟨y, hy⟩ : ∃ y, y = w.alloc (Obj.cells #[.bool x.up, .bool x.has, .int .i64 x.r, .int .i64 x.c, .int .i64 x.b, .int .i64 x.p, .int .i64 x.h, .int .i64 x.l, .int .i64 x.ro, .int .i64 x.wa, .bool x.op] 47) := ⟨_, rfl⟩
  have A0 : Bg y w.heap.size x := by rw [hy]; exact EN w _ x
  have B0 : Below w.heap.size w y := by rw [hy]; exact (Below.refl _ _).alloc (Nat.le_refl _) _
  have S0 := A0.lt
  go_enter func76, ntmps76
  go_upto_region 1 with fail
  rw [← hy]
  clear hy
  refine wp_region_held (S := fun Y => Below y.heap.size y Y) (by kernel_rfl) ?_
  change wpAnyH _ _ _ _ _ _ _ _ (World.drew _)
  have hb0 : Below y.heap.size y y.drew := (Below.refl _ _).drew
  obtain ⟨u0, hy0⟩ : ∃ y_, y_ = y.drew := ⟨_, rfl⟩
  rw [← hy0] at hb0 ⊢
  clear hy0
  refine BN 0 3 (.pointer (some ⟨w.heap.size, 8, none⟩)) rfl rfl (by kernel_rfl) (by kernel_rfl) (by kernel_rfl) (fun _ _ _ h => h) (by kernel_rfl) (by (intro w hSw; go_simp)) (by assumption) ?_
  simp only [List.set_cons_zero, List.set_cons_succ]
  refine BN 1 4 (.int .i64 x.ro) rfl rfl (by kernel_rfl) (by kernel_rfl) (by kernel_rfl) (fun _ _ _ h => h) (by kernel_rfl) (by (intro Y hSw; obtain ⟨C0, C1, C2, C3, C4, C5, C6, C7, C8, C9, C10⟩ := A0.below hSw A0.lt; go_simp)) (by assumption) ?_
  simp only [List.set_cons_zero, List.set_cons_succ]
  refine BN 4 7 (.pointer (some ⟨w.heap.size, 10, none⟩)) rfl rfl (by kernel_rfl) (by kernel_rfl) (by kernel_rfl) (fun _ _ _ h => h) (by kernel_rfl) (by (intro w hSw; go_simp)) (by assumption) ?_
  simp only [List.set_cons_zero, List.set_cons_succ]
  refine BN 5 8 (.bool x.op) rfl rfl (by kernel_rfl) (by kernel_rfl) (by kernel_rfl) (fun _ _ _ h => h) (by kernel_rfl) (by (intro Y hSw; obtain ⟨C0, C1, C2, C3, C4, C5, C6, C7, C8, C9, C10⟩ := A0.below hSw A0.lt; go_simp)) (by assumption) ?_
  simp only [List.set_cons_zero, List.set_cons_succ]
  refine BN 8 11 (.pointer (some ⟨w.heap.size, 9, none⟩)) rfl rfl (by kernel_rfl) (by kernel_rfl) (by kernel_rfl) (fun _ _ _ h => h) (by kernel_rfl) (by (intro w hSw; go_simp)) (by assumption) ?_
  simp only [List.set_cons_zero, List.set_cons_succ]
  refine BN 9 12 (.int .i64 x.wa) rfl rfl (by kernel_rfl) (by kernel_rfl) (by kernel_rfl) (fun _ _ _ h => h) (by kernel_rfl) (by (intro Y hSw; obtain ⟨C0, C1, C2, C3, C4, C5, C6, C7, C8, C9, C10⟩ := A0.below hSw A0.lt; go_simp)) (by assumption) ?_
  simp only [List.set_cons_zero, List.set_cons_succ]
  refine BN 10 13 (.iface 115 (.int .i64 x.wa)) rfl rfl (by kernel_rfl) (by kernel_rfl) (by kernel_rfl) (fun _ _ _ h => h) (by kernel_rfl) (by (intro w hSw; go_simp)) (by assumption) ?_
  simp only [List.set_cons_zero, List.set_cons_succ]
  refine BN 11 14 (.agg #[.bool x.up, .bool x.has, .int .i64 x.r, .int .i64 x.c, .int .i64 x.b, .int .i64 x.p, .int .i64 x.h, .int .i64 x.l, .int .i64 x.ro, .int .i64 x.wa, .bool x.op]) rfl rfl (by kernel_rfl) (by kernel_rfl) (by kernel_rfl) (fun _ _ _ h => h) (by kernel_rfl) (by (intro Y hSw; obtain ⟨C0, C1, C2, C3, C4, C5, C6, C7, C8, C9, C10⟩ := A0.below hSw A0.lt; go_simp)) (by assumption) ?_
  simp only [List.set_cons_zero, List.set_cons_succ]
  refine wpAnyH_all (rs := [2]) (by kernel_rfl) (by simp) ?_
  intro i hi; obtain rfl : i = 2 := by simpa using hi
  refine wpOp_step rfl (fun Kz hKz => ?_)
  rw [if_pos (by kernel_rfl)]
  go_simp
  go_at_call 105
  refine (Kj x.ro u0).mono ?_
  rintro e u1 ⟨rfl, hu1⟩
  rw [hu1]
  clear hu1 u1
  refine hKz _ _ ⟨hb0, ?_⟩
  clear hKz Kz hi
  refine BN 3 6 (.iface 114 (.string (BU x.ro))) rfl rfl (by kernel_rfl) (by kernel_rfl) (by kernel_rfl) (fun _ _ _ h => h) (by kernel_rfl) (by (intro w hSw; go_simp)) (by assumption) ?_
  simp only [List.set_cons_zero, List.set_cons_succ]
  refine wpAnyH_all (rs := [6]) (by kernel_rfl) (by simp) ?_
  intro i hi; obtain rfl : i = 6 := by simpa using hi
  refine wpOp_step rfl (fun Kz hKz => ?_)
  rw [if_pos (by kernel_rfl)]
  go_simp
  go_at_call 74
  refine (Gk x.op ⟨#[111, 112, 101, 110]⟩ ⟨#[115, 104, 117, 116]⟩ u0).mono ?_
  rintro e u1 ⟨rfl, hu1⟩
  rw [hu1]
  clear hu1 u1
  rw [show (if x.op = true then (⟨#[111, 112, 101, 110]⟩ : ByteArray) else ⟨#[115, 104, 117, 116]⟩) = Bu x.op from rfl]
  refine hKz _ _ ⟨hb0, ?_⟩
  clear hKz Kz hi
  refine BN 7 10 (.iface 114 (.string (Bu x.op))) rfl rfl (by kernel_rfl) (by kernel_rfl) (by kernel_rfl) (fun _ _ _ h => h) (by kernel_rfl) (by (intro w hSw; go_simp)) (by assumption) ?_
  simp only [List.set_cons_zero, List.set_cons_succ]
  refine wpAnyH_all (rs := [12]) (by kernel_rfl) (by simp) ?_
  intro i hi; obtain rfl : i = 12 := by simpa using hi
  refine wpOp_step rfl (fun Kz hKz => ?_)
  rw [if_pos (by kernel_rfl)]
  go_simp
  go_at_call 106
  refine (J4 x u0 hw (Dc htab (B0.trans (hb0.mono B0.size)))).mono ?_
  rintro e u1 ⟨rfl, kq⟩
  have hb1 : Below y.heap.size y u1 := hb0.trans (kq.mono hb0.size)
  clear kq
  refine hKz _ _ ⟨hb1, ?_⟩
  clear hKz Kz hi
  refine BN 13 16 (.iface 114 (.string (Bi x))) rfl rfl (by kernel_rfl) (by kernel_rfl) (by kernel_rfl) (fun _ _ _ h => h) (by kernel_rfl) (by (intro w hSw; go_simp)) (by assumption) ?_
  simp only [List.set_cons_zero, List.set_cons_succ]
  refine wpAnyH_all (rs := [14]) (by kernel_rfl) (by simp) ?_
  intro i hi; obtain rfl : i = 14 := by simpa using hi
  refine wpOp_step rfl (fun Kz hKz => ?_)
  rw [if_pos (by kernel_rfl)]
  go_simp
  obtain ⟨u2, hu2⟩ : ∃ y_, y_ = u1.alloc (Obj.cells #[pV (.inl (BU x.ro)), pV (.inl (Bu x.op)), pV (.inr (some x.wa)), pV (.inl (Bi x))] 166) := ⟨_, rfl⟩
  have O2 : AA CI 1 166 w.heap.size u2 (.slice (some ⟨u1.heap.size, 0, none⟩) 4 4) (DA x) := by rw [hu2]; exact Em (DA x) u1 (by have := hb1.size; have := B0.size; omega) (by show 4 ≤ 1000; decide)
  have kq : Below u1.heap.size u1 u2 := by rw [hu2]; exact (Below.refl _ _).alloc (Nat.le_refl _) _
  have hb2 : Below y.heap.size y u2 := hb1.trans (kq.mono hb1.size)
  rw [show (Obj.cells #[Value.iface 114 (.string (BU x.ro)), .iface 114 (.string (Bu x.op)), .iface 115 (.int .i64 x.wa), .iface 114 (.string (Bi x))] 166) = Obj.cells #[pV (.inl (BU x.ro)), pV (.inl (Bu x.op)), pV (.inr (some x.wa)), pV (.inl (Bi x))] 166 from rfl]
  rw [← hu2]
  clear hu2 kq
  generalize u1.heap.size = gz at O2 ⊢
  refine hKz _ _ ⟨hb2, ?_⟩
  clear hKz Kz hi
  refine BN 15 2 (.slice (some ⟨gz, 0, none⟩) 4 4) rfl rfl (by kernel_rfl) (by kernel_rfl) (by kernel_rfl) (fun _ _ _ h => h) (by kernel_rfl) (by (intro w hSw; go_simp)) (by assumption) ?_
  simp only [List.set_cons_zero, List.set_cons_succ]
  refine wpAnyH_done (by kernel_rfl) ?_ _
  go_wp2
  go_ret
  exact ⟨gz, rfl, O2, B0.trans (hb2.mono B0.size)⟩
theorem LZ {w : World} {ad : Option Addr} {c : Nat} {L : List UInt8} (hv : AI Cx w ad L) : (convert 22 9 (.slice ad L.length c)).run prog w = .ok (.string ⟨L.toArray⟩) w := by
  cases ad with
  | none =>
    obtain rfl := hv.none_nil
    exact Lib.run_convert_nil_bytes w 22 9 5 c underlying22 underlying5 underlying9
  | some a =>
    exact run_convert_bytes_back (P := prog) w 22 9 5 a c L underlying22 underlying5 underlying9 (fun j hj => by
      obtain ⟨b, off, e, hc⟩ := hv (by omega)
      cases e
      have := hc j (.int .u8 L[j].toNat) (by rw [IC, List.getElem?_map, List.getElem?_eq_getElem hj]; rfl)
      by_cases hj0 : j = 0
      · subst hj0; simpa [Addr.add] using this
      · simpa [Addr.add, hj0] using this)
theorem IB (s : ByteArray) (w : World) : Calls prog 193 #[.string s] w fun e w' => e = .returned (.string s) ∧ Below w.heap.size w w' := by
  go_enter func193, ntmps193
  go_wp2
  go_ret
  exact ⟨rfl, Below.refl _ _⟩
theorem Ie (w : World) : Calls prog 195 #[.agg #[]] w fun e w' => e = .returned (.string ⟨#[10]⟩) ∧ Below w.heap.size w w' := by
  go_enter func195, ntmps195
  go_wp2
  go_ret
  exact ⟨rfl, (Below.refl _ _).alloc (Nat.le_refl _) _⟩
theorem IZ (n : Int) (w : World) (hn : BK n) (htab : Dx w) : Calls prog 194 #[.int .i64 n] w fun e w' => e = .returned (.string (AH n)) ∧ Below w.heap.size w w' := by
  go_enter func194, ntmps194
  go_wp2_with fail
  go_at_call 99
  refine (HN n w hn.1 hn.2 htab).mono ?_
  rintro e u1 ⟨rfl, k1⟩
  rw [show (⟨(Lib.itoa n).toArray⟩ : ByteArray) = AH n from rfl]
  go_wp2
  go_ret
  exact ⟨rfl, k1⟩
theorem GI (ad : Option Addr) (cap : Nat) (L : List Be) (w : World) (hv : AI CI w ad L) (hw : ∀ x ∈ L, pW x) (hl : L.length ≤ 6000000) (htab : Dx w) :
    Calls prog 75 #[.slice ad L.length cap] w fun e w' => e = .returned (.string (Et L)) ∧ Below w.heap.size w w' := by
  have hB := hv.lt Eh (by omega)
  obtain ⟨i0, hi, hz0, hz1, hz2⟩ := info_parts IX
  go_enter func75, ntmps75
  go_wp2
  go_loopw [3, 4, 11] (fun v b i wr => ∃ k : Nat, k ≤ L.length ∧ i = .int .i64 k ∧ AA Cx 1 5 w.heap.size wr v (BI (L.take k)).1 ∧ b = .bool (BI (L.take k)).2 ∧ Below w.heap.size w wr) (fun _ _ i _ => L.length - (intOf i).toNat)
  case atStart => exact ⟨0, Nat.zero_le _, rfl, AA.nil, rfl, Below.refl _ _⟩
  case round =>
    obtain ⟨k, hk, rfl, O, rfl, B⟩ := hrel
    by_cases hlt : k < L.length
    · obtain ⟨b, off, e_b, _⟩ := hv (by omega)
      replace e_b : _ = some (⟨b, off, none⟩ : Addr) := e_b
      subst e_b
      have HT : Hid (Ce (BI (L.take k)) (L.getD k (.inr none)) = BI (L.take (k + 1))) := Jh hlt
      have hml : (BI (L.take k)).1.length ≤ 606000000 := by have := Ix L hw k; omega
      have hx : pW (L.getD k (.inr none)) := hw _ (by rw [show L.getD k (.inr none) = L[k] by simp [List.getD, List.getElem?_eq_getElem hlt]]; exact List.getElem_mem hlt)
      obtain ⟨x, hxe⟩ : ∃ x, L.getD k (.inr none) = x := ⟨_, rfl⟩
      have hc : wr.cell? ⟨b, off + k, none⟩ = some (pV x) := by
        have := (hv.below B hB).at_ Eh (.inr none) hlt 0 (pV x) (by rw [hxe]; rfl)
        simpa using this
      rw [hxe] at HT hx
      clear hxe
      have hbl : b < wr.heap.size := World.block_lt_of_cell? wr _ hc
      obtain ⟨⟨M, o⟩, hM⟩ : ∃ M, BI (L.take k) = M := ⟨_, rfl⟩
      rw [hM] at O HT hml ⊢
      dsimp only at O hml ⊢
      clear hM
      have S := B.size
      rcases x with s | _ | n
      · cases o
        · replace hc : wr.cell? ⟨b, off + k, none⟩ = some (.iface 114 (.string s)) := hc
          have hta : ∀ w_ : World, (Instr.typeAssert (.iface 114 (.string s)) 166 117 true).run prog w_ = .ok (.tuple #[.agg #[], .bool false]) w_ := fun _ => by kernel_rfl
          have hm1 : ∀ w_ : World, (method 382 114 (.string s) "loop.example/g00470/impl.text").run prog w_ = .ok (193, .string s) w_ := fun _ => by kernel_rfl
          obtain ⟨w1, hw1⟩ : ∃ y, y = wr.alloc (Obj.cells #[] 117) := ⟨_, rfl⟩
          have j1 : Below wr.heap.size wr w1 := by rw [hw1]; exact (Below.refl _ _).alloc (Nat.le_refl _) _
          have B1 := B.trans (j1.mono B.size)
          have O1 := O.later j1
          have S1 := j1.size
          go_wp2_with fail
          go_at_call 193
          rw [← hw1]
          clear hw1
          refine (IB s w1).mono ?_
          rintro e w4 ⟨rfl, k4⟩
          have B4 := B1.trans (k4.mono B1.size)
          have O4 := O1.later k4
          have S4 := B4.size
          go_wp2_with (first | (at_builtin; refine Fa rfl _ _ rfl w.heap.size _ M rfl O4 (s) rfl ?yl ?yb ?_))
          try case yl => have z := FF hx; (try simp only [List.length_append, List.length_cons, List.length_nil]); have e : (pT (.inl s)).size = (s).size := rfl; omega
          try case yb => omega
          intro v5 w5 O5 g5
          have B5 : Below w.heap.size w w5 := B4.grown g5 S4 (fun g e => (O4.lt g e).1)
          have O6 : AA Cx 1 5 w.heap.size w5 v5 (BI (L.take (k + 1))).1 := by rw [← HT.out]; simpa [Ce, pE, pT] using O5
          have e6 : (BI (L.take (k + 1))).2 = true := by rw [← HT.out]; rfl
          go_wp2
          go_roundw
          case rel => exact ⟨k + 1, by omega, by go_num, O6, by rw [e6], B5⟩
          case measure => simp [intOf]; omega
        · replace hc : wr.cell? ⟨b, off + k, none⟩ = some (.iface 114 (.string s)) := hc
          have hta : ∀ w_ : World, (Instr.typeAssert (.iface 114 (.string s)) 166 117 true).run prog w_ = .ok (.tuple #[.agg #[], .bool false]) w_ := fun _ => by kernel_rfl
          have hm1 : ∀ w_ : World, (method 382 114 (.string s) "loop.example/g00470/impl.text").run prog w_ = .ok (193, .string s) w_ := fun _ => by kernel_rfl
          obtain ⟨w1, hw1⟩ : ∃ y, y = wr.alloc (Obj.cells #[] 117) := ⟨_, rfl⟩
          have j1 : Below wr.heap.size wr w1 := by rw [hw1]; exact (Below.refl _ _).alloc (Nat.le_refl _) _
          have B1 := B.trans (j1.mono B.size)
          have O1 := O.later j1
          have S1 := j1.size
          obtain ⟨w2, hw2⟩ : ∃ y, y = (wr.alloc (Obj.cells #[] 117)).alloc (Obj.cells #[.int .u8 32] 5) := ⟨_, rfl⟩
          have j2 : Below wr.heap.size wr w2 := by rw [hw2]; exact ((Below.refl _ _).alloc (Nat.le_refl _) _).alloc (by simp) _
          have B2 := B.trans (j2.mono B.size)
          have O2 := O.later j2
          have S2 := B2.size
          have V2 : AI Cx w2 (some ⟨wr.heap.size + 1, 0, none⟩) [32] := fun _ => ⟨wr.heap.size + 1, 0, rfl, fun j v hv => by obtain rfl : j = 0 := (by have h1 : j < 1 := (List.getElem?_eq_some_iff.1 hv).1; omega); cases hv; rw [hw2]; simp [go_sem]⟩
          go_wp2_with (first | (at_builtin; refine Ej Hg HS rfl _ _ 22 rfl w.heap.size 5 i0 (.int .u8 0) 1 underlying22 hi hz0 hz1 hz2 rfl (by decide) _ M rfl ?zo (some ⟨wr.heap.size + 1, 0, none⟩) 1 [32] rfl (fun e => by cases e) ?zv ?zl (by decide) ?zb ?_))
          case zo => rw [← hw2]; exact O2
          case zv => rw [← hw2]; exact V2
          try case zl => simp; omega
          try case zb => rw [← hw2]; exact S2
          rw [← hw2]
          clear hw2 V2 O2
          intro v3 w3 O3 g3 _
          have B3 : Below w.heap.size w w3 := B2.grown g3 S2 (fun g e => (O.lt g e).1)
          have S3 := B3.size
          go_wp2_with fail
          go_at_call 193
          clear hw1
          refine (IB s w3).mono ?_
          rintro e w4 ⟨rfl, k4⟩
          have B4 := B3.trans (k4.mono B3.size)
          have O4 := O3.later k4
          have S4 := B4.size
          go_wp2_with (first | (at_builtin; refine Fa rfl _ _ rfl w.heap.size v3 (M ++ [32]) rfl O4 (s) rfl ?yl ?yb ?_))
          try case yl => have z := FF hx; (try simp only [List.length_append, List.length_cons, List.length_nil]); have e : (pT (.inl s)).size = (s).size := rfl; omega
          try case yb => omega
          intro v5 w5 O5 g5
          have B5 : Below w.heap.size w w5 := B4.grown g5 S4 (fun g e => (O4.lt g e).1)
          have O6 : AA Cx 1 5 w.heap.size w5 v5 (BI (L.take (k + 1))).1 := by rw [← HT.out]; simpa [Ce, pE, pT] using O5
          have e6 : (BI (L.take (k + 1))).2 = true := by rw [← HT.out]; rfl
          go_wp2
          go_roundw
          case rel => exact ⟨k + 1, by omega, by go_num, O6, by rw [e6], B5⟩
          case measure => simp [intOf]; omega
      · cases o
        · replace hc : wr.cell? ⟨b, off + k, none⟩ = some (.iface 117 (.agg #[])) := hc
          have hta : ∀ w_ : World, (Instr.typeAssert (.iface 117 (.agg #[])) 166 117 true).run prog w_ = .ok (.tuple #[.agg #[], .bool true]) w_ := fun _ => by kernel_rfl
          have hm1 : ∀ w_ : World, (method 382 117 (.agg #[]) "loop.example/g00470/impl.text").run prog w_ = .ok (195, .agg #[]) w_ := fun _ => by kernel_rfl
          obtain ⟨w1, hw1⟩ : ∃ y, y = wr.alloc (Obj.cells #[] 117) := ⟨_, rfl⟩
          have j1 : Below wr.heap.size wr w1 := by rw [hw1]; exact (Below.refl _ _).alloc (Nat.le_refl _) _
          have B1 := B.trans (j1.mono B.size)
          have O1 := O.later j1
          have S1 := j1.size
          go_wp2_with fail
          go_at_call 195
          rw [← hw1]
          clear hw1
          refine (Ie w1).mono ?_
          rintro e w4 ⟨rfl, k4⟩
          have B4 := B1.trans (k4.mono B1.size)
          have O4 := O1.later k4
          have S4 := B4.size
          go_wp2_with (first | (at_builtin; refine Fa rfl _ _ rfl w.heap.size _ M rfl O4 ((⟨#[10]⟩ : ByteArray)) rfl ?yl ?yb ?_))
          try case yl => have z := FF hx; (try simp only [List.length_append, List.length_cons, List.length_nil]); have e : (pT (.inr none)).size = ((⟨#[10]⟩ : ByteArray)).size := rfl; omega
          try case yb => omega
          intro v5 w5 O5 g5
          have B5 : Below w.heap.size w w5 := B4.grown g5 S4 (fun g e => (O4.lt g e).1)
          have O6 : AA Cx 1 5 w.heap.size w5 v5 (BI (L.take (k + 1))).1 := by rw [← HT.out]; simpa [Ce, pE, pT] using O5
          have e6 : (BI (L.take (k + 1))).2 = false := by rw [← HT.out]; rfl
          go_wp2
          go_roundw
          case rel => exact ⟨k + 1, by omega, by go_num, O6, by rw [e6], B5⟩
          case measure => simp [intOf]; omega
        · replace hc : wr.cell? ⟨b, off + k, none⟩ = some (.iface 117 (.agg #[])) := hc
          have hta : ∀ w_ : World, (Instr.typeAssert (.iface 117 (.agg #[])) 166 117 true).run prog w_ = .ok (.tuple #[.agg #[], .bool true]) w_ := fun _ => by kernel_rfl
          have hm1 : ∀ w_ : World, (method 382 117 (.agg #[]) "loop.example/g00470/impl.text").run prog w_ = .ok (195, .agg #[]) w_ := fun _ => by kernel_rfl
          obtain ⟨w1, hw1⟩ : ∃ y, y = wr.alloc (Obj.cells #[] 117) := ⟨_, rfl⟩
          have j1 : Below wr.heap.size wr w1 := by rw [hw1]; exact (Below.refl _ _).alloc (Nat.le_refl _) _
          have B1 := B.trans (j1.mono B.size)
          have O1 := O.later j1
          have S1 := j1.size
          go_wp2_with fail
          go_at_call 195
          rw [← hw1]
          clear hw1
          refine (Ie w1).mono ?_
          rintro e w4 ⟨rfl, k4⟩
          have B4 := B1.trans (k4.mono B1.size)
          have O4 := O1.later k4
          have S4 := B4.size
          go_wp2_with (first | (at_builtin; refine Fa rfl _ _ rfl w.heap.size _ M rfl O4 ((⟨#[10]⟩ : ByteArray)) rfl ?yl ?yb ?_))
          try case yl => have z := FF hx; (try simp only [List.length_append, List.length_cons, List.length_nil]); have e : (pT (.inr none)).size = ((⟨#[10]⟩ : ByteArray)).size := rfl; omega
          try case yb => omega
          intro v5 w5 O5 g5
          have B5 : Below w.heap.size w w5 := B4.grown g5 S4 (fun g e => (O4.lt g e).1)
          have O6 : AA Cx 1 5 w.heap.size w5 v5 (BI (L.take (k + 1))).1 := by rw [← HT.out]; simpa [Ce, pE, pT] using O5
          have e6 : (BI (L.take (k + 1))).2 = false := by rw [← HT.out]; rfl
          go_wp2
          go_roundw
          case rel => exact ⟨k + 1, by omega, by go_num, O6, by rw [e6], B5⟩
          case measure => simp [intOf]; omega
      · cases o
        · replace hc : wr.cell? ⟨b, off + k, none⟩ = some (.iface 115 (.int .i64 n)) := hc
          have hta : ∀ w_ : World, (Instr.typeAssert (.iface 115 (.int .i64 n)) 166 117 true).run prog w_ = .ok (.tuple #[.agg #[], .bool false]) w_ := fun _ => by kernel_rfl
          have hm1 : ∀ w_ : World, (method 382 115 (.int .i64 n) "loop.example/g00470/impl.text").run prog w_ = .ok (194, .int .i64 n) w_ := fun _ => by kernel_rfl
          obtain ⟨w1, hw1⟩ : ∃ y, y = wr.alloc (Obj.cells #[] 117) := ⟨_, rfl⟩
          have j1 : Below wr.heap.size wr w1 := by rw [hw1]; exact (Below.refl _ _).alloc (Nat.le_refl _) _
          have B1 := B.trans (j1.mono B.size)
          have O1 := O.later j1
          have S1 := j1.size
          go_wp2_with fail
          go_at_call 194
          rw [← hw1]
          clear hw1
          refine (IZ n w1 hx (Dc htab B1)).mono ?_
          rintro e w4 ⟨rfl, k4⟩
          have B4 := B1.trans (k4.mono B1.size)
          have O4 := O1.later k4
          have S4 := B4.size
          go_wp2_with (first | (at_builtin; refine Fa rfl _ _ rfl w.heap.size _ M rfl O4 (AH n) rfl ?yl ?yb ?_))
          try case yl => have z := FF hx; (try simp only [List.length_append, List.length_cons, List.length_nil]); have e : (pT (.inr (some n))).size = (AH n).size := rfl; omega
          try case yb => omega
          intro v5 w5 O5 g5
          have B5 : Below w.heap.size w w5 := B4.grown g5 S4 (fun g e => (O4.lt g e).1)
          have O6 : AA Cx 1 5 w.heap.size w5 v5 (BI (L.take (k + 1))).1 := by rw [← HT.out]; simpa [Ce, pE, pT] using O5
          have e6 : (BI (L.take (k + 1))).2 = true := by rw [← HT.out]; rfl
          go_wp2
          go_roundw
          case rel => exact ⟨k + 1, by omega, by go_num, O6, by rw [e6], B5⟩
          case measure => simp [intOf]; omega
        · replace hc : wr.cell? ⟨b, off + k, none⟩ = some (.iface 115 (.int .i64 n)) := hc
          have hta : ∀ w_ : World, (Instr.typeAssert (.iface 115 (.int .i64 n)) 166 117 true).run prog w_ = .ok (.tuple #[.agg #[], .bool false]) w_ := fun _ => by kernel_rfl
          have hm1 : ∀ w_ : World, (method 382 115 (.int .i64 n) "loop.example/g00470/impl.text").run prog w_ = .ok (194, .int .i64 n) w_ := fun _ => by kernel_rfl
          obtain ⟨w1, hw1⟩ : ∃ y, y = wr.alloc (Obj.cells #[] 117) := ⟨_, rfl⟩
          have j1 : Below wr.heap.size wr w1 := by rw [hw1]; exact (Below.refl _ _).alloc (Nat.le_refl _) _
          have B1 := B.trans (j1.mono B.size)
          have O1 := O.later j1
          have S1 := j1.size
          obtain ⟨w2, hw2⟩ : ∃ y, y = (wr.alloc (Obj.cells #[] 117)).alloc (Obj.cells #[.int .u8 32] 5) := ⟨_, rfl⟩
          have j2 : Below wr.heap.size wr w2 := by rw [hw2]; exact ((Below.refl _ _).alloc (Nat.le_refl _) _).alloc (by simp) _
          have B2 := B.trans (j2.mono B.size)
          have O2 := O.later j2
          have S2 := B2.size
          have V2 : AI Cx w2 (some ⟨wr.heap.size + 1, 0, none⟩) [32] := fun _ => ⟨wr.heap.size + 1, 0, rfl, fun j v hv => by obtain rfl : j = 0 := (by have h1 : j < 1 := (List.getElem?_eq_some_iff.1 hv).1; omega); cases hv; rw [hw2]; simp [go_sem]⟩
          go_wp2_with (first | (at_builtin; refine Ej Hg HS rfl _ _ 22 rfl w.heap.size 5 i0 (.int .u8 0) 1 underlying22 hi hz0 hz1 hz2 rfl (by decide) _ M rfl ?zo (some ⟨wr.heap.size + 1, 0, none⟩) 1 [32] rfl (fun e => by cases e) ?zv ?zl (by decide) ?zb ?_))
          case zo => rw [← hw2]; exact O2
          case zv => rw [← hw2]; exact V2
          try case zl => simp; omega
          try case zb => rw [← hw2]; exact S2
          rw [← hw2]
          clear hw2 V2 O2
          intro v3 w3 O3 g3 _
          have B3 : Below w.heap.size w w3 := B2.grown g3 S2 (fun g e => (O.lt g e).1)
          have S3 := B3.size
          go_wp2_with fail
          go_at_call 194
          clear hw1
          refine (IZ n w3 hx (Dc htab B3)).mono ?_
          rintro e w4 ⟨rfl, k4⟩
          have B4 := B3.trans (k4.mono B3.size)
          have O4 := O3.later k4
          have S4 := B4.size
          go_wp2_with (first | (at_builtin; refine Fa rfl _ _ rfl w.heap.size v3 (M ++ [32]) rfl O4 (AH n) rfl ?yl ?yb ?_))
          try case yl => have z := FF hx; (try simp only [List.length_append, List.length_cons, List.length_nil]); have e : (pT (.inr (some n))).size = (AH n).size := rfl; omega
          try case yb => omega
          intro v5 w5 O5 g5
          have B5 : Below w.heap.size w w5 := B4.grown g5 S4 (fun g e => (O4.lt g e).1)
          have O6 : AA Cx 1 5 w.heap.size w5 v5 (BI (L.take (k + 1))).1 := by rw [← HT.out]; simpa [Ce, pE, pT] using O5
          have e6 : (BI (L.take (k + 1))).2 = true := by rw [← HT.out]; rfl
          go_wp2
          go_roundw
          case rel => exact ⟨k + 1, by omega, by go_num, O6, by rw [e6], B5⟩
          case measure => simp [intOf]; omega
    · obtain rfl : k = L.length := by omega
      rw [List.take_length] at O
      obtain ⟨a, c, rfl⟩ := O.open_
      have hcv := LZ O.view.2 (c := c)
      go_wp2
      go_ret
      exact ⟨rfl, B⟩
attribute [local go_sem] pc
theorem KK (x : Pt) (w : World) (hok : Ae x = true) : Calls prog 114 #[.agg #[.bool x.up, .bool x.has, ji x.r, ji x.c, ji x.b, ji x.p, ji x.h, ji x.l, ji x.ro, ji x.wa, .bool x.op]] w fun e w' => e = .returned (.agg #[.bool (CF x).up, .bool (CF x).has, ji (CF x).r, ji (CF x).c, ji (CF x).b, ji (CF x).p, ji (CF x).h, ji (CF x).l, ji (CF x).ro, ji (CF x).wa, .bool (CF x).op]) ∧ Bw w w' := by
 obtain ⟨y, hy⟩ := AC ((w.alloc (Obj.cells (pc x) 47)).alloc (Obj.cells #[.bool false, .bool false, ji 0, ji 0, ji 0, ji 0, ji 0, ji 0, ji 0, ji 0, .bool false] 47));have B0 : Bw w y := by rw [hy]; exact ((Below.refl _ _).alloc (Nat.le_refl _) _).alloc (by simp) _
 have P0 : AO y w.heap.size x := by rw [hy]; refine ⟨?_, fun i => ?_⟩; constructor <;> simp [go_sem]; simp [go_sem]
 have R0 : AO y (w.heap.size + 1) Pt.nil := by rw [hy]; refine ⟨?_, fun i => ?_⟩; constructor <;> simp [go_sem, Pt.nil]; simp [go_sem]
 have S0 := R0.lt;obtain ⟨t, ht⟩ : ∃ t, CF x = t := ⟨_, rfl⟩;rw [ht];obtain ⟨z, hz⟩ : ∃ z, Aq x = z := ⟨_, rfl⟩;have hti : Hid (t = if (z.ro = 1 ∨ z.ro = 2) ∧ 0 < z.wa then { z with wa := z.wa - 1, op := (z.wa - 1 == 0) } else z) := by unfold Hid; rw [← ht, Jd hok, hz]
 have hw4 : z.wa ≤ 4 ∧ 0 ≤ z.wa := by
  have := (Fq.1 hok).2.2.2.1;have e := (GW x).2.2.1;rw [hz] at e;omega
 have htr : Hid (t = { z with wa := Dt z, op := Ay z.ro (Dt z) }) := by unfold Hid; rw [← ht, ← hz]; rfl
 obtain ⟨hw4, hw0⟩ := hw4;replace hz : Hid _ := hz;clear ht hok;go_enter func114, ntmps114
 go_wp2_with fail
 go_at_call 124
 rw [← hy];clear hy;refine (Id x y).mono ?_;rintro e w1 ⟨rfl, k1⟩;rw [hz.out];have B1 := AG B0 k1;have P1 := P0.below k1 (by omega);have R1 := R0.below k1 (by omega);have S1 := R1.lt;clear hz k1 P0 R0 B0 S0;obtain ⟨y2, hy2⟩ := AC (((((((((((w1.setCell (ja w.heap.size 0) (.bool z.up)).setCell (ja w.heap.size 1) (.bool z.has)).setCell (ja w.heap.size 2) (ji z.r)).setCell (ja w.heap.size 3) (ji z.c)).setCell (ja w.heap.size 4) (ji z.b)).setCell (ja w.heap.size 5) (ji z.p)).setCell (ja w.heap.size 6) (ji z.h)).setCell (ja w.heap.size 7) (ji z.l)).setCell (ja w.heap.size 8) (ji z.ro)).setCell (ja w.heap.size 9) (ji z.wa)).setCell (ja w.heap.size 10) (.bool z.op));have P2 : AO y2 w.heap.size z := by rw [hy2]; exact (((((((((((P1.set0 z.up).set1 z.has).set2 z.r).set3 z.c).set4 z.b).set5 z.p).set6 z.h).set7 z.l).set8 z.ro).set9 z.wa).set10 z.op)
 have R2 : AO y2 (w.heap.size + 1) Pt.nil := by rw [hy2]; exact (((((((((((R1.other (by omega)).other (by omega)).other (by omega)).other (by omega)).other (by omega)).other (by omega)).other (by omega)).other (by omega)).other (by omega)).other (by omega)).other (by omega))
 have B2 : Bw w y2 := by rw [hy2]; exact (((((((((((B1.setCell (p := (ja w.heap.size 0)) (by show _ ≤ w.heap.size; omega) (.bool z.up)).setCell (p := (ja w.heap.size 1)) (by show _ ≤ w.heap.size; omega) (.bool z.has)).setCell (p := (ja w.heap.size 2)) (by show _ ≤ w.heap.size; omega) (ji z.r)).setCell (p := (ja w.heap.size 3)) (by show _ ≤ w.heap.size; omega) (ji z.c)).setCell (p := (ja w.heap.size 4)) (by show _ ≤ w.heap.size; omega) (ji z.b)).setCell (p := (ja w.heap.size 5)) (by show _ ≤ w.heap.size; omega) (ji z.p)).setCell (p := (ja w.heap.size 6)) (by show _ ≤ w.heap.size; omega) (ji z.h)).setCell (p := (ja w.heap.size 7)) (by show _ ≤ w.heap.size; omega) (ji z.l)).setCell (p := (ja w.heap.size 8)) (by show _ ≤ w.heap.size; omega) (ji z.ro)).setCell (p := (ja w.heap.size 9)) (by show _ ≤ w.heap.size; omega) (ji z.wa)).setCell (p := (ja w.heap.size 10)) (by show _ ≤ w.heap.size; omega) (.bool z.op))
 have P1' := P1;obtain ⟨⟨p0, p1, p2, p3, p4, p5, p6, p7, p8, p9, p10⟩, pf⟩ := P1;go_upto_region 2 with fail
 rw [← hy2];clear hy2 p0 p1 p2 p3 p4 p5 p6 p7 p8 p9 p10 pf P1' R1 B1;obtain ⟨⟨p0, p1, p2, p3, p4, p5, p6, p7, p8, p9, p10⟩, pf⟩ := P2;have P2 : AO y2 w.heap.size z := ⟨⟨p0, p1, p2, p3, p4, p5, p6, p7, p8, p9, p10⟩, pf⟩;by_cases h1 : z.ro = 1
 ·
  have d1 : (z.ro == 1) = true := by simpa using h1
  by_cases h0 : 0 < z.wa
  focus
   have d0 : decide (0 < z.wa) = true := decide_eq_true h0;have hcc : Hid ((z.ro = 1 ∨ z.ro = 2) ∧ 0 < z.wa) := ⟨.inl h1, h0⟩;replace h1 : Hid _ := h1;have P3 := P2.set9 (z.wa - 1);have B3 := B2.setCell (p := (ja w.heap.size 9)) (Nat.le_refl w.heap.size) (ji (z.wa - 1));have R3 := R2.other (q' := w.heap.size) (i := 9) (v := ji (z.wa - 1)) (by omega);obtain ⟨y3, hy3⟩ := AC (y2.setCell (ja w.heap.size 9) (ji (z.wa - 1)));rw [← hy3] at P3 B3 R3;go_upto_region 4 with fail
   rw [← hy3];clear hy3 p0 p1 p2 p3 p4 p5 p6 p7 p8 p9 p10 pf P2 B2 R2;obtain ⟨v, hv⟩ := AC ({ z with wa := z.wa - 1 } : Pt);have P3 : AO y3 w.heap.size v := by rw [hv]; exact P3
   replace hv : Hid _ := hv;obtain ⟨⟨p0, p1, p2, p3, p4, p5, p6, p7, p8, p9, p10⟩, pf⟩ := P3;go_wp2_with fail
   go_at_call 123
   refine (EH v y3).mono ?_;rintro e w4 ⟨rfl, k4⟩;have B4 := AG B3 k4;have S4 : w.heap.size + 1 < y3.heap.size := R3.lt;have R4 := R3.below k4 S4;obtain ⟨o, ho⟩ : ∃ o : Pt, o = { v with op := Ay v.ro v.wa } := ⟨_, rfl⟩;have ho0 : Value.agg (pc o) = Value.agg #[.bool v.up, .bool v.has, ji v.r, ji v.c, ji v.b, ji v.p, ji v.h, ji v.l, ji v.ro, ji v.wa, .bool (Ay v.ro v.wa)] := by rw [ho]
   rw [← ho0];have hT : Hid (t = o) := by unfold Hid; rw [htr.out, ho]; rw [hv.out]; unfold Dt; rw [if_pos hcc.out]
  rotate_left;focus
   have d0 : decide (0 < z.wa) = false := decide_eq_false h0;have hcc : Hid (¬ ((z.ro = 1 ∨ z.ro = 2) ∧ 0 < z.wa)) := fun e => h0 e.2
   replace h1 : Hid _ := h1;replace h0 : Hid _ := h0;go_upto_region 4 with fail
   go_wp2_with fail
   go_at_call 123
   refine (EH z y2).mono ?_;rintro e w4 ⟨rfl, k4⟩;have B4 := AG B2 k4;have S4 : w.heap.size + 1 < y2.heap.size := R2.lt;have R4 := R2.below k4 S4;obtain ⟨o, ho⟩ : ∃ o : Pt, o = { z with op := Ay z.ro z.wa } := ⟨_, rfl⟩;have ho0 : Value.agg (pc o) = Value.agg #[.bool z.up, .bool z.has, ji z.r, ji z.c, ji z.b, ji z.p, ji z.h, ji z.l, ji z.ro, ji z.wa, .bool (Ay z.ro z.wa)] := by rw [ho]
   rw [← ho0];have hT : Hid (t = o) := by unfold Hid; rw [htr.out, ho]; unfold Dt; rw [if_neg hcc.out]
  rotate_left;all_goals
   clear ho ho0 k4 p0 p1 p2 p3 p4 p5 p6 p7 p8 p9 p10 pf;have RZ := (((((((((((R4.set0 o.up).set1 o.has).set2 o.r).set3 o.c).set4 o.b).set5 o.p).set6 o.h).set7 o.l).set8 o.ro).set9 o.wa).set10 o.op);have BZ := (((((((((((B4.setCell (p := ⟨w.heap.size + 1, 0, none⟩) (by show _ ≤ w.heap.size + 1; omega) (.bool o.up)).setCell (p := ⟨w.heap.size + 1, 1, none⟩) (by show _ ≤ w.heap.size + 1; omega) (.bool o.has)).setCell (p := ⟨w.heap.size + 1, 2, none⟩) (by show _ ≤ w.heap.size + 1; omega) (ji o.r)).setCell (p := ⟨w.heap.size + 1, 3, none⟩) (by show _ ≤ w.heap.size + 1; omega) (ji o.c)).setCell (p := ⟨w.heap.size + 1, 4, none⟩) (by show _ ≤ w.heap.size + 1; omega) (ji o.b)).setCell (p := ⟨w.heap.size + 1, 5, none⟩) (by show _ ≤ w.heap.size + 1; omega) (ji o.p)).setCell (p := ⟨w.heap.size + 1, 6, none⟩) (by show _ ≤ w.heap.size + 1; omega) (ji o.h)).setCell (p := ⟨w.heap.size + 1, 7, none⟩) (by show _ ≤ w.heap.size + 1; omega) (ji o.l)).setCell (p := ⟨w.heap.size + 1, 8, none⟩) (by show _ ≤ w.heap.size + 1; omega) (ji o.ro)).setCell (p := ⟨w.heap.size + 1, 9, none⟩) (by show _ ≤ w.heap.size + 1; omega) (ji o.wa)).setCell (p := ⟨w.heap.size + 1, 10, none⟩) (by show _ ≤ w.heap.size + 1; omega) (.bool o.op));obtain ⟨⟨z0, z1, z2, z3, z4, z5, z6, z7, z8, z9, z10⟩, _⟩ := RZ;obtain ⟨⟨r0, r1, r2, r3, r4, r5, r6, r7, r8, r9, r10⟩, rf⟩ := R4;go_wp2
   refine bodyPost_ret (v := .agg (pc o)) (by simp [results, results114, go_sem, *]) rfl ⟨by rw [hT.out], BZ⟩
 have d1 : (z.ro == 1) = false := by simpa using h1
 by_cases h2 : z.ro = 2
 ·
  have d2 : (z.ro == 2) = true := by simpa using h2
  by_cases h0 : 0 < z.wa
  focus
   have d0 : decide (0 < z.wa) = true := decide_eq_true h0;have hcc : Hid ((z.ro = 1 ∨ z.ro = 2) ∧ 0 < z.wa) := ⟨.inr h2, h0⟩;replace h2 : Hid _ := h2;replace h1 : Hid _ := h1;have P3 := P2.set9 (z.wa - 1);have B3 := B2.setCell (p := (ja w.heap.size 9)) (Nat.le_refl w.heap.size) (ji (z.wa - 1));have R3 := R2.other (q' := w.heap.size) (i := 9) (v := ji (z.wa - 1)) (by omega);obtain ⟨y3, hy3⟩ := AC (y2.setCell (ja w.heap.size 9) (ji (z.wa - 1)));rw [← hy3] at P3 B3 R3;go_upto_region 4 with fail
   rw [← hy3];clear hy3 p0 p1 p2 p3 p4 p5 p6 p7 p8 p9 p10 pf P2 B2 R2;obtain ⟨v, hv⟩ := AC ({ z with wa := z.wa - 1 } : Pt);have P3 : AO y3 w.heap.size v := by rw [hv]; exact P3
   replace hv : Hid _ := hv;obtain ⟨⟨p0, p1, p2, p3, p4, p5, p6, p7, p8, p9, p10⟩, pf⟩ := P3;go_wp2_with fail
   go_at_call 123
   refine (EH v y3).mono ?_;rintro e w4 ⟨rfl, k4⟩;have B4 := AG B3 k4;have S4 : w.heap.size + 1 < y3.heap.size := R3.lt;have R4 := R3.below k4 S4;obtain ⟨o, ho⟩ : ∃ o : Pt, o = { v with op := Ay v.ro v.wa } := ⟨_, rfl⟩;have ho0 : Value.agg (pc o) = Value.agg #[.bool v.up, .bool v.has, ji v.r, ji v.c, ji v.b, ji v.p, ji v.h, ji v.l, ji v.ro, ji v.wa, .bool (Ay v.ro v.wa)] := by rw [ho]
   rw [← ho0];have hT : Hid (t = o) := by unfold Hid; rw [htr.out, ho]; rw [hv.out]; unfold Dt; rw [if_pos hcc.out]
  rotate_left;focus
   have d0 : decide (0 < z.wa) = false := decide_eq_false h0;have hcc : Hid (¬ ((z.ro = 1 ∨ z.ro = 2) ∧ 0 < z.wa)) := fun e => h0 e.2
   replace h2 : Hid _ := h2;replace h1 : Hid _ := h1;replace h0 : Hid _ := h0;go_upto_region 4 with fail
   go_wp2_with fail
   go_at_call 123
   refine (EH z y2).mono ?_;rintro e w4 ⟨rfl, k4⟩;have B4 := AG B2 k4;have S4 : w.heap.size + 1 < y2.heap.size := R2.lt;have R4 := R2.below k4 S4;obtain ⟨o, ho⟩ : ∃ o : Pt, o = { z with op := Ay z.ro z.wa } := ⟨_, rfl⟩;have ho0 : Value.agg (pc o) = Value.agg #[.bool z.up, .bool z.has, ji z.r, ji z.c, ji z.b, ji z.p, ji z.h, ji z.l, ji z.ro, ji z.wa, .bool (Ay z.ro z.wa)] := by rw [ho]
   rw [← ho0];have hT : Hid (t = o) := by unfold Hid; rw [htr.out, ho]; unfold Dt; rw [if_neg hcc.out]
  rotate_left;all_goals
   clear ho ho0 k4 p0 p1 p2 p3 p4 p5 p6 p7 p8 p9 p10 pf;have RZ := (((((((((((R4.set0 o.up).set1 o.has).set2 o.r).set3 o.c).set4 o.b).set5 o.p).set6 o.h).set7 o.l).set8 o.ro).set9 o.wa).set10 o.op);have BZ := (((((((((((B4.setCell (p := ⟨w.heap.size + 1, 0, none⟩) (by show _ ≤ w.heap.size + 1; omega) (.bool o.up)).setCell (p := ⟨w.heap.size + 1, 1, none⟩) (by show _ ≤ w.heap.size + 1; omega) (.bool o.has)).setCell (p := ⟨w.heap.size + 1, 2, none⟩) (by show _ ≤ w.heap.size + 1; omega) (ji o.r)).setCell (p := ⟨w.heap.size + 1, 3, none⟩) (by show _ ≤ w.heap.size + 1; omega) (ji o.c)).setCell (p := ⟨w.heap.size + 1, 4, none⟩) (by show _ ≤ w.heap.size + 1; omega) (ji o.b)).setCell (p := ⟨w.heap.size + 1, 5, none⟩) (by show _ ≤ w.heap.size + 1; omega) (ji o.p)).setCell (p := ⟨w.heap.size + 1, 6, none⟩) (by show _ ≤ w.heap.size + 1; omega) (ji o.h)).setCell (p := ⟨w.heap.size + 1, 7, none⟩) (by show _ ≤ w.heap.size + 1; omega) (ji o.l)).setCell (p := ⟨w.heap.size + 1, 8, none⟩) (by show _ ≤ w.heap.size + 1; omega) (ji o.ro)).setCell (p := ⟨w.heap.size + 1, 9, none⟩) (by show _ ≤ w.heap.size + 1; omega) (ji o.wa)).setCell (p := ⟨w.heap.size + 1, 10, none⟩) (by show _ ≤ w.heap.size + 1; omega) (.bool o.op));obtain ⟨⟨z0, z1, z2, z3, z4, z5, z6, z7, z8, z9, z10⟩, _⟩ := RZ;obtain ⟨⟨r0, r1, r2, r3, r4, r5, r6, r7, r8, r9, r10⟩, rf⟩ := R4;go_wp2
   refine bodyPost_ret (v := .agg (pc o)) (by simp [results, results114, go_sem, *]) rfl ⟨by rw [hT.out], BZ⟩
 have d2 : (z.ro == 2) = false := by simpa using h2
 have hcc : Hid (¬ ((z.ro = 1 ∨ z.ro = 2) ∧ 0 < z.wa)) := fun e => by rcases e.1 with q | q; exact h1 q; exact h2 q
 replace h1 : Hid _ := h1;replace h2 : Hid _ := h2;go_upto_region 4 with fail
 go_wp2_with fail
 go_at_call 123
 refine (EH z y2).mono ?_;rintro e w4 ⟨rfl, k4⟩;have B4 := AG B2 k4;have S4 : w.heap.size + 1 < y2.heap.size := R2.lt;have R4 := R2.below k4 S4;obtain ⟨o, ho⟩ : ∃ o : Pt, o = { z with op := Ay z.ro z.wa } := ⟨_, rfl⟩;have ho0 : Value.agg (pc o) = Value.agg #[.bool z.up, .bool z.has, ji z.r, ji z.c, ji z.b, ji z.p, ji z.h, ji z.l, ji z.ro, ji z.wa, .bool (Ay z.ro z.wa)] := by rw [ho]
 rw [← ho0];have hT : Hid (t = o) := by unfold Hid; rw [htr.out, ho]; unfold Dt; rw [if_neg hcc.out]
 clear ho ho0 k4 p0 p1 p2 p3 p4 p5 p6 p7 p8 p9 p10 pf;have RZ := (((((((((((R4.set0 o.up).set1 o.has).set2 o.r).set3 o.c).set4 o.b).set5 o.p).set6 o.h).set7 o.l).set8 o.ro).set9 o.wa).set10 o.op);have BZ := (((((((((((B4.setCell (p := ⟨w.heap.size + 1, 0, none⟩) (by show _ ≤ w.heap.size + 1; omega) (.bool o.up)).setCell (p := ⟨w.heap.size + 1, 1, none⟩) (by show _ ≤ w.heap.size + 1; omega) (.bool o.has)).setCell (p := ⟨w.heap.size + 1, 2, none⟩) (by show _ ≤ w.heap.size + 1; omega) (ji o.r)).setCell (p := ⟨w.heap.size + 1, 3, none⟩) (by show _ ≤ w.heap.size + 1; omega) (ji o.c)).setCell (p := ⟨w.heap.size + 1, 4, none⟩) (by show _ ≤ w.heap.size + 1; omega) (ji o.b)).setCell (p := ⟨w.heap.size + 1, 5, none⟩) (by show _ ≤ w.heap.size + 1; omega) (ji o.p)).setCell (p := ⟨w.heap.size + 1, 6, none⟩) (by show _ ≤ w.heap.size + 1; omega) (ji o.h)).setCell (p := ⟨w.heap.size + 1, 7, none⟩) (by show _ ≤ w.heap.size + 1; omega) (ji o.l)).setCell (p := ⟨w.heap.size + 1, 8, none⟩) (by show _ ≤ w.heap.size + 1; omega) (ji o.ro)).setCell (p := ⟨w.heap.size + 1, 9, none⟩) (by show _ ≤ w.heap.size + 1; omega) (ji o.wa)).setCell (p := ⟨w.heap.size + 1, 10, none⟩) (by show _ ≤ w.heap.size + 1; omega) (.bool o.op));obtain ⟨⟨z0, z1, z2, z3, z4, z5, z6, z7, z8, z9, z10⟩, _⟩ := RZ;obtain ⟨⟨r0, r1, r2, r3, r4, r5, r6, r7, r8, r9, r10⟩, rf⟩ := R4;go_wp2
 refine bodyPost_ret (v := .agg (pc o)) (by simp [results, results114, go_sem, *]) rfl ⟨by rw [hT.out], BZ⟩
def Cz (P : Program) (md : Region.Mode) (ops : Array Oper) (Q : Exit → Act → World → Prop) (S : World → Prop) (z : Nat) : Nat → Array Bool → Act → World → Prop
 | 0, li, a, w => Region.ready md ops li = [] ∧ Q .normal a w
 | n + 1, li, a, w => (Region.ready md ops li = [] → Q .normal a w) ∧ ∀ i ∈ Region.ready md ops li, wpOp P ops Q i (fun a' w' => (i ≠ z → S w') ∧ Cz P md ops Q S z n (li.setIfInBounds i true) a' w') a w
theorem KG {P : Program} {md : Region.Mode} {ops : Array Oper} {Q : Exit → Act → World → Prop} {S : World → Prop} {z : Nat} (n : Nat) : ∀ (li : Array Bool) (a : Act) (w : World), Cz P md ops Q S z n li a w → wpAny P md ops Q n li a w := by
 induction n with
 | zero => exact fun _ _ _ h => h
 | succ n ih => exact fun _ _ _ h => ⟨h.1, fun i hi => wpOp_mono (fun a' w' r => ih _ a' w' r.2) (h.2 i hi)⟩
theorem JG {P : Program} {md : Region.Mode} {ops : Array Oper} {Q : Exit → Act → World → Prop} {S : World → Prop} {z i : Nat} {oi oz : Oper} {v : Value} (hi : ops[i]? = some oi) (hz : ops[z]? = some oz) (hza : oz.after.any (fun e => Region.binds md e && e.on == i) = true) (hsel : ∀ (j : Nat) (o : Oper) cs b, ops[j]? = some o → o.op ≠ .select cs b) (hQ : ∀ c a w, Q (.panic c) (a.put oi.dst v) w → Q (.panic c) a w) (n : Nat) :
  ∀ (li : Array Bool) (a : Act) (w : World), (∀ j oj, ops[j]? = some oj → j ≠ i → li.getD j true = false → (∀ e ∈ oj.after, Region.binds md e = true → e.on ≠ i) → oi.apart ops oj = true) → i ∈ Region.ready md ops li → YieldsIf P ops S oi v a → S w → Cz P md ops Q S z n (li.setIfInBounds i true) (a.put oi.dst v) w → Cz P md ops Q S z (n + 1) li a w := by
 induction n with
 | zero =>
  intro li a w _ hr hy hS h;refine ⟨fun e => absurd hr (by rw [e]; simp), fun j hj => ?_⟩;rcases Decidable.em (j = i) with rfl | e
  ·
   exact hy.wpOp hi hS ⟨fun _ => hS, h⟩
  exact absurd (ready_mono hj e) (by rw [h.1]; simp)
 | succ n ih =>
  intro li a w hf hr hy hS h;refine ⟨fun e => absurd hr (by rw [e]; simp), fun j hj => ?_⟩;rcases Decidable.em (j = i) with rfl | e
  ·
   exact hy.wpOp hi hS ⟨fun _ => hS, h⟩
  obtain ⟨hju, oj, ho, hal⟩ := mem_ready.1 hj;have hiu := (mem_ready.1 hr).1;have hno : ∀ y ∈ oj.after, Region.binds md y = true → y.on ≠ i := by
   intro y hy_ hb q;have t := hal y hy_ hb;rw [q] at t;by_cases hs : i < li.size
   ·
    simp [hs] at hiu t
    rw [hiu] at t;cases t
   simp [Array.getElem?_eq_none (Nat.le_of_not_lt hs)] at hiu
  have hjz : j ≠ z := by
   rintro rfl;obtain rfl := Option.some.inj (ho.symm.trans hz);obtain ⟨y, hm, hy_⟩ := Array.any_eq_true'.1 hza;simp only [Bool.and_eq_true, beq_iff_eq] at hy_;exact hno y hm hy_.1 hy_.2
  refine wpOp_mono (fun a' w' r => ⟨r.2.1, ih _ a' w' (fun k ok hk hne hu hn => hf k ok hk hne (by rcases Decidable.em (j = k) with rfl | q; exact hju; rwa [getD_set_ne true q] at hu) hn) (ready_mono hr (fun q => e q.symm)) r.1 (r.2.1 hjz) (by rw [Array.setIfInBounds_comm _ _ e]; exact r.2.2)⟩) (wpOp_putIf ho (hf j oj ho e hju hno) (fun cs b => hsel i oi cs b hi) (fun cs b => hsel j oj cs b ho) hQ hy (h.2 j (ready_mono hj e)))
theorem DK {P : Program} {ops : Array Oper} {Q : Exit → Act → World → Prop} {md : Region.Mode} {S : World → Prop} {z : Nat} (i d : Nat) (v : Value) {oi oz : Oper} {n : Nat} {li : Array Bool} {l : List Value} {ds : List Deferred} {w : World} (hi : ops[i]? = some oi) (hd : oi.dst = some d) (hy : ∀ w, S w → (execOp (Act.eval ⟨l.toArray, ds⟩) oi).run P w = .ok (.value v) w) (hS : S w)
  (h : Cz P md ops Q S z n (li.setIfInBounds i true) ⟨(l.set d v).toArray, ds⟩ w) (hz : ops[z]? = some oz := by rfl) (hza : oz.after.any (fun e => Region.binds md e && e.on == i) = true := by kernel_rfl)
  (hs : Region.noSelect ops = true := by kernel_rfl) (hf : Region.free md ops li i = true := by kernel_rfl) (hr : (Region.ready md ops li).contains i = true := by kernel_rfl)
  (hQ : ∀ c a w, Q (.panic c) (a.put oi.dst v) w → Q (.panic c) a w := by exact fun _ _ _ h => h) (hw : Region.wanted oi (yielded ops l.toArray) = true := by kernel_rfl) : Cz P md ops Q S z (n + 1) li ⟨l.toArray, ds⟩ w := by
 refine JG hi hz hza (Region.noSelect_spec hs) hQ n li _ w (Region.free_spec hi hf) (by simpa using hr) (.inl ⟨hw, hy⟩) hS ?_;have e : (Act.mk l.toArray ds).put oi.dst v = ⟨(l.set d v).toArray, ds⟩ := by rw [hd]; simp [Act.put]
 rw [e];exact h
theorem Dn {P : Program} {md : Region.Mode} {ops : Array Oper} {Q : Exit → Act → World → Prop} {S : World → Prop} {z : Nat} (i : Nat) {n : Nat} {li : Array Bool} {a : Act} {w : World} (h : wpOp P ops Q i (fun a' w' => (i ≠ z → S w') ∧ Cz P md ops Q S z n (li.setIfInBounds i true) a' w') a w) (hr : Region.ready md ops li = [i] := by kernel_rfl) : Cz P md ops Q S z (n + 1) li a w := by
 refine ⟨fun e => absurd (hr.symm.trans e) (by simp), fun j hj => ?_⟩;rw [hr] at hj;obtain rfl : j = i := by simpa using hj
 exact h
theorem FD {P : Program} {md : Region.Mode} {ops : Array Oper} {Q : Exit → Act → World → Prop} {S : World → Prop} {z : Nat} {li : Array Bool} {a : Act} {w : World} (h : Q .normal a w) (hr : Region.ready md ops li = [] := by kernel_rfl) : Cz P md ops Q S z 0 li a w := ⟨hr, h⟩
theorem Fn {P : Program} {ops : Array Oper} {Q : Exit → Act → World → Prop} (S : World → Prop) (z : Nat) {id : Nat} {a : Act} {w : World} (h : ∀ y, y = w.drew → Cz P .any ops Q S z ops.size (Array.replicate ops.size false) a y) (hm : P.follows .mixedOrders = true := by kernel_rfl) : (Code.region id ops true).wp P Q a w :=
 wp_region_any hm (KG _ _ _ _ (h _ rfl))
theorem tl {P : Program} {ops : Array Oper} {Q : Exit → Act → World → Prop} {md : Region.Mode} {S : World → Prop} {z : Nat} (i d : Nat) (v : Value) {oi oz : Oper} {n : Nat} {li : Array Bool} {l l2 : List Value} {ds : List Deferred} {w : World}
 (h : Cz P md ops Q S z n (li.setIfInBounds i true) ⟨l2.toArray, ds⟩ w) (hi : ops[i]? = some oi := by exact rfl) (hd : oi.dst = some d := by exact rfl) (hz : ops[z]? = some oz := by exact rfl) (hza : oz.after.any (fun e => Region.binds md e && e.on == i) = true := by kernel_rfl)
 (hs : Region.noSelect ops = true := by kernel_rfl) (hf : Region.free md ops li i = true := by kernel_rfl) (hr : (Region.ready md ops li).contains i = true := by kernel_rfl) (hQ : ∀ c a w, Q (.panic c) (a.put oi.dst v) w → Q (.panic c) a w := by exact fun _ _ _ h => h) (hw : Region.wanted oi (yielded ops l.toArray) = true := by kernel_rfl)
 (hy : ∀ w, S w → (execOp (Act.eval ⟨l.toArray, ds⟩) oi).run P w = .ok (.value v) w := by (intro w hSw; go_simp)) (hS : S w := by assumption) (hl : l.set d v = l2 := by simp only [List.set_cons_zero, List.set_cons_succ]; rfl) : Cz P md ops Q S z (n + 1) li ⟨l.toArray, ds⟩ w := by
 subst hl;exact DK i d v hi hd hy hS h hz hza hs hf hr hQ hw
theorem wl {P : Program} {ops : Array Oper} {Q : Exit → Act → World → Prop} {md : Region.Mode} {S : World → Prop} {z : Nat} (i : Nat) {oi : Oper} {n : Nat} {li : Array Bool} {a : Act} {w : World} (h : ∀ K : Act → World → Prop, (∀ a' w', ((i ≠ z → S w') ∧ Cz P md ops Q S z n (li.setIfInBounds i true) a' w') → K a' w') → Oper.wp P oi a w K Q) (hr : Region.ready md ops li = [i] := by kernel_rfl) (ho : ops[i]? = some oi := by exact rfl) (hw : Region.wanted oi (yielded ops a.tmps) = true := by kernel_rfl) : Cz P md ops Q S z (n + 1) li a w := by
 refine Dn i ?_ hr;refine wpOp_step ho (fun K hK => ?_);rw [if_pos hw];exact h K hK
theorem G6 {P : Program} {ops : Array Oper} {Q : Exit → Act → World → Prop} {id : Nat} {a : Act} {w : World} (S : World → Prop) (z : Nat) (h : ∀ y, Bw w y → Cz P .any ops Q S z ops.size (Array.replicate ops.size false) a y) (hm : P.follows .mixedOrders = true := by kernel_rfl) : (Code.region id ops true).wp P Q a w := Fn S z (fun y hy => h y (by rw [hy]; exact (Below.refl _ _).drew)) hm
theorem Kk (m : Mi) (ad : Option Addr) (cap : Nat) (p : Int) (w : World) (hm : m.lg.length ≤ maxLen) :
  Calls prog 158 #[.agg #[.bool m.up, ji m.li, ji m.ep, .slice ad m.lg.length cap, ji m.sd, ji m.ac, ji m.al], ji p] w fun e w' => e = .returned (.bool (Dr m p)) ∧ Bw w w' := by
 obtain ⟨up, li, ep, L, sd, ac, al⟩ := m;dsimp only
 dsimp only at hm;obtain ⟨R, hR⟩ := AC (Dr ⟨up, li, ep, L, sd, ac, al⟩ p);rw [← hR];replace hR : Hid _ := hR;unfold maxLen at hm;have B0 := Ax (w := w) (Obj.cells #[.bool up, ji li, ji ep, .slice ad L.length cap, ji sd, ji ac, ji al] 54);cases up
 focus
  have hN : Hid (R = false) := by unfold Hid; rw [hR.out]; unfold Dr; clear hR B0; first | (simp [*]; done) | (simp [*] at *; done) | (simp_all; done) | omega | grind
 rotate_left;focus
  by_cases q1 : 0 < ep
  focus
   have dq1 : decide (0 < ep) = true := decide_eq_true q1;by_cases q2 : sd < (L.length : Int)
   focus
    have dq2 : decide (sd < (L.length : Int)) = true := decide_eq_true q2;by_cases q3 : p = 0
    focus
     have dq3 : (p == 0) = true := by simpa using q3
     replace q3 : Hid _ := q3;have hN : Hid (R = true) := by unfold Hid; rw [hR.out]; unfold Dr; clear hR B0; have eq3 := q3.out; first | (simp [*]; done) | (simp [*] at *; done) | (simp_all; done) | omega | grind
    rotate_left;focus
     have dq3 : (p == 0) = false := by simpa using q3
     replace q3 : Hid _ := q3;by_cases q4 : al = p
     focus
      have dq4 : (al == p) = true := by simpa using q4
      replace q4 : Hid _ := q4;by_cases q5 : sd < ac
      focus
       have dq5 : decide (sd < ac) = true := decide_eq_true q5;have hN : Hid (R = true) := by unfold Hid; rw [hR.out]; unfold Dr; clear hR B0; have eq3 := q3.out; have eq4 := q4.out; first | (simp [*]; done) | (simp [*] at *; done) | (simp_all; done) | omega | grind
      rotate_left;focus
       have dq5 : decide (sd < ac) = false := decide_eq_false q5;have hN : Hid (R = false) := by unfold Hid; rw [hR.out]; unfold Dr; clear hR B0; have eq3 := q3.out; have eq4 := q4.out; first | (simp [*]; done) | (simp [*] at *; done) | (simp_all; done) | omega | grind
      rotate_left
     rotate_left 2;focus
      have dq4 : (al == p) = false := by simpa using q4
      replace q4 : Hid _ := q4;have hN : Hid (R = false) := by unfold Hid; rw [hR.out]; unfold Dr; clear hR B0; have eq3 := q3.out; have eq4 := q4.out; first | (simp [*]; done) | (simp [*] at *; done) | (simp_all; done) | omega | grind
     rotate_left
    rotate_left 3
   rotate_left 4;focus
    have dq2 : decide (sd < (L.length : Int)) = false := decide_eq_false q2;have hN : Hid (R = false) := by unfold Hid; rw [hR.out]; unfold Dr; clear hR B0; first | (simp [*]; done) | (simp [*] at *; done) | (simp_all; done) | omega | grind
   rotate_left
  rotate_left 5;focus
   have dq1 : decide (0 < ep) = false := decide_eq_false q1;have hN : Hid (R = false) := by unfold Hid; rw [hR.out]; unfold Dr; clear hR B0; first | (simp [*]; done) | (simp [*] at *; done) | (simp_all; done) | omega | grind
  rotate_left
 rotate_left 6;all_goals
  clear hR;go_enter func158, ntmps158
  go_wp2
  go_ret
  exact ⟨by rw [hN.out]; rfl, B0⟩
end Go.Proofs.YtjmnaeeknomiaaaGreatDoor
namespace Go.Proofs.YtjmnaeeknomiaaaGreatDoor
open Go.ChangeShapes Go.WideShapes Go.ChangeAt Go.RowKit
open Go.ChangeMaps (open_string shut_string)
set_option linter.unusedVariables false
set_option maxRecDepth 100000
set_option maxHeartbeats 32000000
set_option linter.unusedSimpArgs false
open Go.Proofs.Tryz
structure IW (w : World) (ad : Option Addr) (len : Nat) (f : Nat → Int) : Prop where
 lm : len ≤ maxLen
 view : E5 w ad len f
 lt : ∀ a, ad = some a → 0 < len → a.block < w.heap.size
 bytes : ∀ i, 0 ≤ f i ∧ f i ≤ 255
theorem I3 {H : Type} {enc : TypeId × Value → H} {w : World} {r : Reach} {b0 : Nat} {v : Value} {d : DataW H} {p : List MemPlace} (hv : Value.okWide prog w r b0 22 v) (h : DataW.Trod enc prog w 0 (fun _ => true) true 22 v d p) :
  ∃ ad len cap f, v = .slice ad len cap ∧ IW w ad len f := by
 obtain ⟨n, hn⟩ := h;obtain ⟨a0, len0, cap0, rfl⟩ := okWide_slice (P := prog) (t := 22) (e := 5) underlying22 hv;have hcell0 : ∀ x, (Value.slice a0 len0 cap0).cells.toList = [x] → Value.slice a0 len0 cap0 = x := fun x h => by simpa [Value.cells] using h
 rcases open_ints underlying22 underlying5 (by kernel_rfl) hn with ⟨hcs, _⟩ | ⟨x, l, cp, zs, hcs, _, hl, hm, hz, _, hcell, hwz⟩
 ·
  exact ⟨none, 0, 0, fun _ => 0, hcell0 _ hcs, by unfold maxLen; omega, fun h => absurd h (by omega), fun a h => by simp at h, fun i => by simp⟩
 simp at hz
 refine ⟨some x, l, cp, fun i => zs.getD i 0, hcell0 _ hcs, by omega, fun hp => ?_, fun a h hp => ?_, fun i => ?_⟩
 ·
  obtain ⟨b, off, rfl, hc⟩ := ints_at hcell (by omega);exact ⟨b, off, rfl, fun i hi => hc i (by omega)⟩
 ·
  obtain rfl : x = a := by simpa using h
  have hc := hcell 0 (by omega);simpa [Addr.add] using World.block_lt_of_cell? w _ hc
 by_cases hi : i < zs.length
 ·
  have := bounds_u8 (hwz (zs.getD i 0) (by simp [List.getD, hi]));exact this
 simp [List.getD, List.getElem?_eq_none (by omega : zs.length ≤ i)]
theorem LD (ad : Option Addr) (len cap : Nat) (w : World) (h : (1048576 : Int) < (len : Int)) : Calls prog 5 #[.slice ad len cap] w fun e w' => e = .returned (.bool true) ∧ w' = w := by
 go_enter func5, ntmps5
 go_wp2
 go_ret
 exact ⟨rfl, rfl⟩
theorem La (ad : Option Addr) (len cap : Nat) (w : World) (h : len ≤ 1048576) : Calls prog 5 #[.slice ad len cap] w fun e w' => e = .returned (.bool false) ∧ w' = w := by
 have h' : decide ((1048576 : Int) < (len : Int)) = false := decide_eq_false (by omega);go_enter func5, ntmps5
 go_wp2
 go_ret
 exact ⟨rfl, rfl⟩
end Go.Proofs.YtjmnaeeknomiaaaGreatDoor
