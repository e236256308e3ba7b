/- bytes.Equal, impl.inAt, walked. -/
import Derived.Test.YthgcbihhdbpbdaaGreatDoorRows
import Derived.WalkKit
import Derived.ProofKit
import Derived.OpenShut
import Derived.ShutString
import Derived.ChangeOld
import Derived.Below
import Derived.Deep.QuietTactic
import Derived.BigQuiet
import Derived.WalkSmall
import Derived.Laws.OwnMore
import Derived.WalkSpells
import Derived.WalkLawsBesides
import Derived.Deep.Cut
import Derived.Test.YthgcbihhdbpbdaaGreatDoorM11
import Derived.Test.YthgcbihhdbpbdaaGreatDoorKWn
import Derived.Test.YthgcbihhdbpbdaaGreatDoorM10
import Derived.Test.YthgcbihhdbpbdaaGreatDoorM1
namespace Go.Proofs.YthgcbihhdbpbdaaGreatDoor
open Go.ChangeShapes Go.WideShapes Go.ChangeAt Go.RowKit
open Go.ChangeMaps (open_string shut_string)
set_option linter.unusedVariables false
set_option maxRecDepth 100000

theorem bytesEq (ad ad' : Option Addr) (cap cap' : Nat) (A B : List Int) (w : World) (hv : View w ad A.length (fun i => A.getD i 0)) (hv' : View w ad' B.length (fun i => B.getD i 0)) (hA : ∀ x ∈ A, 0 ≤ x ∧ x ≤ 255) (hB : ∀ x ∈ B, 0 ≤ x ∧ x ≤ 255) :
    Calls Tryz.prog 85 #[.slice ad A.length cap, .slice ad' B.length cap'] w fun e w' => e = .returned (.bool (decide (A = B))) ∧ w' = w := by
  have h1 := conv_view (cap := cap) hv hA
  have h2 := conv_view (cap := cap') hv' hB
  have h3 := txt_eq hA hB
  go_enter Tryz.func85, Tryz.ntmps85
  go_wp2
  go_ret
  exact ⟨rfl, rfl⟩
theorem getKind (ad : Option Addr) (cap : Nat) (L : List Int) (a : Int) (w : World) (hv : View w ad L.length (fun i => L.getD i 0)) (hB : ∀ x, ad = some x → 0 < L.length → x.block < w.heap.size) (hl : L.length ≤ 1048576) (hcap : L.length ≤ cap) (hLbd : ∀ x ∈ L, 0 ≤ x ∧ x ≤ 255) (ha0 : -9223372036854775808 ≤ a ∧ a ≤ 9223372036854775807) (tp : TypeId) (pv : Value) (hs : w.cell? ⟨1, 0, none⟩ = some (.iface tp pv)) :
    Calls Tryz.prog 82 #[.slice ad L.length cap, .int .i64 a] w fun e w' => (∃ s o, e = .returned (.tuple #[.int .i64 (kindAt L a), .int .i64 s, .bool o])) ∧ Below w.heap.size w w' := by
  refine (getImpl ad L.length cap (fun i => L.getD i 0) a w hv hB hl (getD_bd hLbd) ha0.1 ha0.2 tp pv hs).mono ?_
  rintro e w' ⟨rfl, k⟩
  refine ⟨?_, k⟩
  have e : getFrom L.length a (fun i => L.getD (a.toNat + i) 0) 5 0 = numAtL L a := rfl
  rw [e]
  unfold kindAt
  cases numAtL L a with
  | none => exact ⟨_, _, rfl⟩
  | some y => exact ⟨_, _, rfl⟩
/-- What impl.inAt hands back. -/
def inAtV (a : Int) : Option (Ik × Int) → Value
  | none => .tuple #[.agg #[.int .i64 0, .int .i64 0, .int .i64 0, .int .i64 0, .int .i64 0, .int .i64 0, .int .i64 0, .bool false], .int .i64 0, .iface 84 (.agg #[.int .i64 a])]
  | some (x, s) => .tuple #[.agg #[.int .i64 x.k, .int .i64 x.q, .int .i64 x.r, .int .i64 x.c, .int .i64 x.b, .int .i64 x.p, .int .i64 x.h, .bool x.up], .int .i64 s, .nilIface]
theorem kindAt_bd (L : List Int) (a : Int) : 2 ≤ cntK (kindAt L a) ∧ cntK (kindAt L a) ≤ 7 := by
  unfold cntK
  (repeat' split) <;> omega
theorem implAt_none {L : List Int} {a : Int} (h : rdAll L (cntK (kindAt L a)) a = none) : implAt L a = none := by unfold implAt; rw [h]
theorem implAt_long {L : List Int} {a e : Int} {M : List Int} (h : rdAll L (cntK (kindAt L a)) a = some (M, e)) (h2 : (L.length : Int) < e + 4) : implAt L a = none := by
  unfold implAt; rw [h]; simp only; rw [if_neg (by rintro ⟨c, _⟩; omega)]
theorem implAt_other {L : List Int} {a e : Int} {M : List Int} (h : rdAll L (cntK (kindAt L a)) a = some (M, e)) (h2 : inBy (inC fun j => M.getD j 0) ≠ (L.drop a.toNat).take (e + 4 - a).toNat) : implAt L a = none := by
  unfold implAt; rw [h]; simp only; rw [if_neg (by rintro ⟨_, c⟩; exact h2 c)]
theorem implAt_same {L : List Int} {a e : Int} {M : List Int} (h : rdAll L (cntK (kindAt L a)) a = some (M, e)) (h1 : e + 4 ≤ L.length) (h2 : inBy (inC fun j => M.getD j 0) = (L.drop a.toNat).take (e + 4 - a).toNat) : implAt L a = some (inC fun j => M.getD j 0, e + 4) := by
  unfold implAt; rw [h]; simp only; rw [if_pos ⟨h1, h2⟩]
set_option maxHeartbeats 8000000 in
theorem inAtI (ad : Option Addr) (cap : Nat) (L : List Int) (a : Int) (w : World) (hv : View w ad L.length (fun i => L.getD i 0)) (hB : ∀ x, ad = some x → 0 < L.length → x.block < w.heap.size) (hl : L.length ≤ 1048576) (hcap : L.length ≤ cap) (hLbd : ∀ x ∈ L, 0 ≤ x ∧ x ≤ 255) (ha0 : -9223372036854775808 ≤ a ∧ a ≤ 9223372036854775807) (tp : TypeId) (pv : Value) (hs : w.cell? ⟨1, 0, none⟩ = some (.iface tp pv)) :
    Calls Tryz.prog 48 #[.slice ad L.length cap, .int .i64 a] w fun e w' => e = .returned (inAtV a (implAt L a)) ∧ Below w.heap.size w w' := by
  obtain ⟨R, hR⟩ : ∃ R, R = implAt L a := ⟨_, rfl⟩
  rw [← hR]
  replace hR : Hid _ := hR
  obtain ⟨y0, hy⟩ : ∃ y, y = w.alloc (Obj.cells #[.int .i64 0, .int .i64 0, .int .i64 0, .int .i64 0, .int .i64 0, .int .i64 0, .int .i64 0, .bool false] 27) := ⟨_, rfl⟩
  have Z0 : JBox y0 w.heap.size Ik.nil := by rw [hy]; refine ⟨?_, fun i => by simp [go_sem]⟩; constructor <;> simp [go_sem, Ik.nil]
  have BW : Below w.heap.size w y0 := by rw [hy]; exact below_new _
  have lz := Z0.lt
  have hsl : 1 < w.heap.size := World.block_lt_of_cell? w _ hs
  have hcb := kindAt_bd L a
  obtain ⟨kd, hkd⟩ : ∃ k, kindAt L a = k := ⟨_, rfl⟩
  rw [hkd] at hcb
  obtain ⟨cnt, hcnt⟩ : ∃ k, cntK kd = k := ⟨_, rfl⟩
  rw [hcnt] at hcb
  replace hkd : Hid _ := hkd
  replace hcnt : Hid _ := hcnt
  go_enter Tryz.func48, Tryz.ntmps48
  go_wp2_with fail
  go_at_call 82
  rw [← hy]
  clear hy
  refine (getKind ad cap L a y0 (hv.carry (fun x h h2 => BW.block _ (hB x h h2))) (fun x h h2 => by have := hB x h h2; omega) hl hcap hLbd ha0 tp pv ((BW.cell (p := ⟨1, 0, none⟩) hsl).trans hs)).mono ?_
  rintro e y1 ⟨⟨s1, o1, rfl⟩, kq⟩
  rw [hkd.out]
  replace BW := BW.trans (kq.mono BW.size)
  replace Z0 := Z0.below kq Z0.lt
  have sy1 := kq.size
  clear kq
  go_wp2_with fail
  go_at_call 40
  refine (numsI ⟨kd, 0, 0, 0, 0, 0, 0, false⟩ y1).mono ?_
  rintro e y2 ⟨adN, capN, rfl, oN, kq⟩
  rw [cntK_inN, hcnt.out]
  replace BW := BW.trans (kq.mono BW.size)
  replace Z0 := Z0.below kq Z0.lt
  have sy2 := kq.size
  clear kq oN
  go_wp2_with fail
  go_at_call 83
  refine (numsAtI ad cap L a cnt y2 (hv.carry (fun x h h2 => BW.block _ (hB x h h2))) (fun x h h2 => by have := hB x h h2; omega) hl hLbd ha0 hcb.2 tp pv ((BW.cell (p := ⟨1, 0, none⟩) hsl).trans hs)).mono ?_
  rintro e y3 ⟨hm, kq⟩
  replace BW := BW.trans (kq.mono BW.size)
  replace Z0 := Z0.below kq Z0.lt
  have sy3 := kq.size
  clear kq
  cases hr : rdAll L cnt a with
  | none =>
    rw [hr] at hm
    simp only at hm
    subst hm
    have hrr : Hid (rdAll L (cntK (kindAt L a)) a = none) := by show _ = _; rw [hkd.out, hcnt.out]; exact hr
    clear hr
    obtain ⟨⟨e0, e1, e2, e3, e4, e5, e6, e7⟩, ef⟩ := Z0
    have f0 := ef 0
    have f1 := ef 1
    have f2 := ef 2
    have f3 := ef 3
    have f4 := ef 4
    have f5 := ef 5
    have f6 := ef 6
    have f7 := ef 7
    go_wp2
    refine bodyPost_ret (v := .tuple #[.agg #[.int .i64 0, .int .i64 0, .int .i64 0, .int .i64 0, .int .i64 0, .int .i64 0, .int .i64 0, .bool false], .int .i64 0, .iface 84 (.agg #[.int .i64 a])]) (by simp [results, Tryz.results48, go_sem, *]) rfl ⟨?_, ?_⟩
    · rw [hR.out, implAt_none hrr.out]; rfl
    · exact below_all BW (Nat.le_refl _) Ik.nil
  | some mm =>
    obtain ⟨M, e4⟩ := mm
    rw [hr] at hm
    simp only at hm
    obtain ⟨aM, cM, rfl, OM⟩ := hm
    obtain ⟨q1, q2, q3⟩ := rdAll_some hr
    obtain ⟨q4, q5⟩ := q3 (by omega)
    have hrr : Hid (rdAll L (cntK (kindAt L a)) a = some (M, e4)) := by show _ = _; rw [hkd.out, hcnt.out]; exact hr
    have hM0 : M.getD 0 0 = kd := by
      obtain ⟨c, hc⟩ : ∃ c, cnt = c + 1 := ⟨cnt - 1, by omega⟩
      rw [hc] at hr
      rw [rdAll_head hr, hkd.out]
    clear hr q3
    obtain ⟨aN, rfl⟩ : ∃ aN : Nat, a = aN := ⟨a.toNat, by omega⟩
    obtain ⟨eN, rfl⟩ : ∃ eN : Nat, e4 = eN := ⟨e4.toNat, by omega⟩
    obtain ⟨t, ht⟩ : ∃ t : Nat, (eN : Int) + 4 = (t : Int) := ⟨eN + 4, by omega⟩
    have hmM : M.length ≤ 7 := by omega
    have hM2 : 2 ≤ M.length := by omega
    have hM7 : M.getD 0 0 = 1 → 7 ≤ M.length := fun h => by rw [q1, ← hcnt.out, ← hM0, h]; decide
    have hM3 : M.getD 0 0 = 3 → 3 ≤ M.length := fun h => by rw [q1, ← hcnt.out, ← hM0, h]; decide
    replace q1 : Hid _ := q1
    clear hM0
    by_cases hlong : (L.length : Int) < (t : Int)
    · have hd1 : decide ((L.length : Int) < (t : Int)) = true := decide_eq_true hlong
      have hL9 : Hid ((L.length : Int) < (eN : Int) + 4) := by show _ < _; omega
      obtain ⟨⟨e0, e1, e2, e3, e4, e5, e6, e7⟩, ef⟩ := Z0
      have f0 := ef 0
      have f1 := ef 1
      have f2 := ef 2
      have f3 := ef 3
      have f4 := ef 4
      have f5 := ef 5
      have f6 := ef 6
      have f7 := ef 7
      go_wp2
      refine bodyPost_ret (v := .tuple #[.agg #[.int .i64 0, .int .i64 0, .int .i64 0, .int .i64 0, .int .i64 0, .int .i64 0, .int .i64 0, .bool false], .int .i64 0, .iface 84 (.agg #[.int .i64 (aN : Int)])]) (by simp [results, Tryz.results48, go_sem, *]) rfl ⟨?_, ?_⟩
      · rw [hR.out, implAt_long hrr.out hL9.out]; rfl
      · exact below_all BW (Nat.le_refl _) Ik.nil
    have hd1 : decide ((L.length : Int) < (t : Int)) = false := decide_eq_false hlong
    obtain ⟨bb, off, rfl, _⟩ := hv (by omega)
    have hbb : bb < w.heap.size := hB ⟨bb, off, none⟩ rfl (by omega)
    obtain ⟨xx, hxx⟩ : ∃ x, inC (fun j => M.getD j 0) = x := ⟨_, rfl⟩
    obtain ⟨WB, hWB⟩ : ∃ WB, inBy xx = WB := ⟨_, rfl⟩
    have hWbd := inBy_bd xx
    rw [hWB] at hWbd
    replace hWB : Hid _ := hWB
    replace hxx : Hid _ := hxx
    go_wp2_with fail
    go_at_call 84
    refine (withI aM cM M y3 OM.view.2 hM2 hM7 hM3 hmM).mono ?_
    rintro e y4 ⟨rfl, kq⟩
    rw [hxx.out]
    replace BW := BW.trans (kq.mono BW.size)
    replace Z0 := Z0.below kq Z0.lt
    have sy4 := kq.size
    clear kq OM
    obtain ⟨y, hy⟩ : ∃ y_, y_ = y4.alloc (Obj.cells #[.int .i64 xx.k, .int .i64 xx.q, .int .i64 xx.r, .int .i64 xx.c, .int .i64 xx.b, .int .i64 xx.p, .int .i64 xx.h, .bool xx.up] 27) := ⟨_, rfl⟩
    have X0 : JBox y y4.heap.size xx := by rw [hy]; exact ⟨InAt.new y4 _ xx, fun i => by simp [go_sem]⟩
    have kq : Below y4.heap.size y4 y := by rw [hy]; exact below_new _
    replace BW := BW.trans (kq.mono BW.size)
    replace Z0 := Z0.below kq Z0.lt
    have sy5 := X0.lt
    clear kq
    have vB := hv.carry (w' := y) (fun x h h2 => BW.block _ (hB x h h2))
    have cutv := cut_view vB aN (t - aN) (by omega)
    have hCbd := cut_bd hLbd aN (t - aN)
    have hClen : ((L.drop aN).take (t - aN)).length = t - aN := by simp; omega
    obtain ⟨CB, hCB⟩ : ∃ CB, (L.drop aN).take (t - aN) = CB := ⟨_, rfl⟩
    rw [hCB] at cutv hCbd hClen
    have hCs : Hid ((L.drop (aN : Int).toNat).take ((eN : Int) + 4 - (aN : Int)).toNat = CB) := by show _ = _; rw [← hCB]; congr 1; omega
    clear hCB vB
    have cutb : ∀ x, (some ⟨bb, off + aN, none⟩ : Option Addr) = some x → 0 < CB.length → x.block < y.heap.size := fun x h h2 => by have := BW.size; cases h; show bb < _; omega
    have hs1 : 0 ≤ (t : Int) ∧ (t : Int) ≤ (cap : Int) := by omega
    have hs2 : (aN : Int) ≤ (t : Int) := by omega
    have hs3 : ¬ t - aN = 0 := by omega
    have hs4 : t - aN = CB.length := hClen.symm
    replace hClen : Hid _ := hClen
    go_upto_region 7 with fail
    rw [← hy]
    clear hy
    by_cases hCW : WB = CB
    rotate_left
    · refine wp_region_held (S := fun Y => Below y.heap.size y Y) (by kernel_rfl) ?_
      change wpAnyH _ _ _ _ _ _ _ _ (World.drew _)
      have hb0 : Below y.heap.size y y.drew := (Below.refl _ _).drew
      obtain ⟨u0, hy0⟩ : ∃ y_, y_ = y.drew := ⟨_, rfl⟩
      rw [← hy0] at hb0 ⊢
      clear hy0
      refine takeW 0 49 (.agg #[.int .i64 xx.k, .int .i64 xx.q, .int .i64 xx.r, .int .i64 xx.c, .int .i64 xx.b, .int .i64 xx.p, .int .i64 xx.h, .bool xx.up]) rfl rfl (by kernel_rfl) (by kernel_rfl) (by kernel_rfl) (fun _ _ _ h => h) (by kernel_rfl) (by (intro Y hSw; obtain ⟨X0_, X1_, X2_, X3_, X4_, X5_, X6_, X7_⟩ := (X0.below hSw X0.lt).at_; go_simp)) (by assumption) ?_
      simp only [List.set_cons_zero, List.set_cons_succ]
      refine takeW 2 51 (.slice (some ⟨bb, off, none⟩) L.length cap) rfl rfl (by kernel_rfl) (by kernel_rfl) (by kernel_rfl) (fun _ _ _ h => h) (by kernel_rfl) (by (intro w hSw; go_simp)) (by assumption) ?_
      simp only [List.set_cons_zero, List.set_cons_succ]
      refine takeW 3 52 (.int .i64 (aN : Int)) rfl rfl (by kernel_rfl) (by kernel_rfl) (by kernel_rfl) (fun _ _ _ h => h) (by kernel_rfl) (by (intro w hSw; go_simp)) (by assumption) ?_
      simp only [List.set_cons_zero, List.set_cons_succ]
      refine takeW 4 53 (.int .i64 (t : Int)) rfl rfl (by kernel_rfl) (by kernel_rfl) (by kernel_rfl) (fun _ _ _ h => h) (by kernel_rfl) (by (intro w hSw; go_simp)) (by assumption) ?_
      simp only [List.set_cons_zero, List.set_cons_succ]
      refine takeW 5 54 (.int .i64 (t : Int)) rfl rfl (by kernel_rfl) (by kernel_rfl) (by kernel_rfl) (fun _ _ _ h => h) (by kernel_rfl) (by (intro w hSw; go_simp)) (by assumption) ?_
      simp only [List.set_cons_zero, List.set_cons_succ]
      refine takeW 6 55 (.slice (some ⟨bb, off + aN, none⟩) CB.length CB.length) rfl rfl (by kernel_rfl) (by kernel_rfl) (by kernel_rfl) (fun _ _ _ h => h) (by kernel_rfl) (by (intro w hSw; go_simp; try omega)) (by assumption) ?_
      simp only [List.set_cons_zero, List.set_cons_succ]
      refine wpAnyH_all (rs := [1]) (by kernel_rfl) (by simp) ?_
      intro i hi; obtain rfl : i = 1 := by simpa using hi
      refine wpOp_step rfl (fun K hK => ?_)
      rw [if_pos (by kernel_rfl)]
      go_simp
      go_at_call 7
      refine (inBIo xx u0).mono ?_
      rintro e u1 ⟨aW, cW, rfl, OW, kq⟩
      rw [hWB.out] at OW ⊢
      have hb1 : Below y.heap.size y u1 := hb0.trans (kq.mono hb0.size)
      clear kq
      refine hK _ _ ⟨hb1, ?_⟩
      clear hK K hi
      refine wpAnyH_all (rs := [7]) (by kernel_rfl) (by simp) ?_
      intro i hi; obtain rfl : i = 7 := by simpa using hi
      refine wpOp_step rfl (fun K hK => ?_)
      rw [if_pos (by kernel_rfl)]
      go_simp
      go_at_call 85
      refine (bytesEq aW (some ⟨bb, off + aN, none⟩) cW CB.length WB CB u1 (bV OW.view.2) (cutv.carry (fun x h h2 => hb1.block _ (cutb x h h2))) hWbd hCbd).mono ?_
      rintro e u2 ⟨rfl, hu2⟩
      have hb2 : Below y.heap.size y u2 := by rw [hu2]; exact hb1
      clear hu2
      rw [decide_eq_false hCW]
      refine hK _ _ ⟨hb2, ?_⟩
      clear hK K hi
      refine takeW 8 57 (.bool true) rfl rfl (by kernel_rfl) (by kernel_rfl) (by kernel_rfl) (fun _ _ _ h => h) (by kernel_rfl) (by (intro w hSw; go_simp)) (by assumption) ?_
      simp only [List.set_cons_zero, List.set_cons_succ]
      refine wpAnyH_done (by kernel_rfl) ?_ _
      replace BW := BW.trans (hb2.mono BW.size)
      replace Z0 := Z0.below hb2 Z0.lt
      replace X0 := X0.below hb2 X0.lt
      clear hb0 hb1 hb2 OW
      have hne : Hid (inBy (inC fun j => M.getD j 0) ≠ (L.drop (aN : Int).toNat).take ((eN : Int) + 4 - (aN : Int)).toNat) := by show _ ≠ _; rw [hxx.out, hWB.out, hCs.out]; exact hCW
      obtain ⟨⟨e0, e1, e2, e3, e4, e5, e6, e7⟩, ef⟩ := Z0
      have f0 := ef 0
      have f1 := ef 1
      have f2 := ef 2
      have f3 := ef 3
      have f4 := ef 4
      have f5 := ef 5
      have f6 := ef 6
      have f7 := ef 7
      go_wp2
      refine bodyPost_ret (v := .tuple #[.agg #[.int .i64 0, .int .i64 0, .int .i64 0, .int .i64 0, .int .i64 0, .int .i64 0, .int .i64 0, .bool false], .int .i64 0, .iface 84 (.agg #[.int .i64 (aN : Int)])]) (by simp [results, Tryz.results48, go_sem, *]) rfl ⟨?_, ?_⟩
      · rw [hR.out, implAt_other hrr.out hne.out]; rfl
      · exact below_all BW (Nat.le_refl _) Ik.nil
    replace hCW : Hid (WB = CB) := hCW
    refine wp_region_held (S := fun Y => Below y.heap.size y Y) (by kernel_rfl) ?_
    change wpAnyH _ _ _ _ _ _ _ _ (World.drew _)
    have hb0 : Below y.heap.size y y.drew := (Below.refl _ _).drew
    obtain ⟨u0, hy0⟩ : ∃ y_, y_ = y.drew := ⟨_, rfl⟩
    rw [← hy0] at hb0 ⊢
    clear hy0
    refine takeW 0 49 (.agg #[.int .i64 xx.k, .int .i64 xx.q, .int .i64 xx.r, .int .i64 xx.c, .int .i64 xx.b, .int .i64 xx.p, .int .i64 xx.h, .bool xx.up]) rfl rfl (by kernel_rfl) (by kernel_rfl) (by kernel_rfl) (fun _ _ _ h => h) (by kernel_rfl) (by (intro Y hSw; obtain ⟨X0_, X1_, X2_, X3_, X4_, X5_, X6_, X7_⟩ := (X0.below hSw X0.lt).at_; go_simp)) (by assumption) ?_
    simp only [List.set_cons_zero, List.set_cons_succ]
    refine takeW 2 51 (.slice (some ⟨bb, off, none⟩) L.length cap) rfl rfl (by kernel_rfl) (by kernel_rfl) (by kernel_rfl) (fun _ _ _ h => h) (by kernel_rfl) (by (intro w hSw; go_simp)) (by assumption) ?_
    simp only [List.set_cons_zero, List.set_cons_succ]
    refine takeW 3 52 (.int .i64 (aN : Int)) rfl rfl (by kernel_rfl) (by kernel_rfl) (by kernel_rfl) (fun _ _ _ h => h) (by kernel_rfl) (by (intro w hSw; go_simp)) (by assumption) ?_
    simp only [List.set_cons_zero, List.set_cons_succ]
    refine takeW 4 53 (.int .i64 (t : Int)) rfl rfl (by kernel_rfl) (by kernel_rfl) (by kernel_rfl) (fun _ _ _ h => h) (by kernel_rfl) (by (intro w hSw; go_simp)) (by assumption) ?_
    simp only [List.set_cons_zero, List.set_cons_succ]
    refine takeW 5 54 (.int .i64 (t : Int)) rfl rfl (by kernel_rfl) (by kernel_rfl) (by kernel_rfl) (fun _ _ _ h => h) (by kernel_rfl) (by (intro w hSw; go_simp)) (by assumption) ?_
    simp only [List.set_cons_zero, List.set_cons_succ]
    refine takeW 6 55 (.slice (some ⟨bb, off + aN, none⟩) CB.length CB.length) rfl rfl (by kernel_rfl) (by kernel_rfl) (by kernel_rfl) (fun _ _ _ h => h) (by kernel_rfl) (by (intro w hSw; go_simp; try omega)) (by assumption) ?_
    simp only [List.set_cons_zero, List.set_cons_succ]
    refine wpAnyH_all (rs := [1]) (by kernel_rfl) (by simp) ?_
    intro i hi; obtain rfl : i = 1 := by simpa using hi
    refine wpOp_step rfl (fun K hK => ?_)
    rw [if_pos (by kernel_rfl)]
    go_simp
    go_at_call 7
    refine (inBIo xx u0).mono ?_
    rintro e u1 ⟨aW, cW, rfl, OW, kq⟩
    rw [hWB.out] at OW ⊢
    have hb1 : Below y.heap.size y u1 := hb0.trans (kq.mono hb0.size)
    clear kq
    refine hK _ _ ⟨hb1, ?_⟩
    clear hK K hi
    refine wpAnyH_all (rs := [7]) (by kernel_rfl) (by simp) ?_
    intro i hi; obtain rfl : i = 7 := by simpa using hi
    refine wpOp_step rfl (fun K hK => ?_)
    rw [if_pos (by kernel_rfl)]
    go_simp
    go_at_call 85
    refine (bytesEq aW (some ⟨bb, off + aN, none⟩) cW CB.length WB CB u1 (bV OW.view.2) (cutv.carry (fun x h h2 => hb1.block _ (cutb x h h2))) hWbd hCbd).mono ?_
    rintro e u2 ⟨rfl, hu2⟩
    have hb2 : Below y.heap.size y u2 := by rw [hu2]; exact hb1
    clear hu2
    rw [decide_eq_true hCW.out]
    refine hK _ _ ⟨hb2, ?_⟩
    clear hK K hi
    refine takeW 8 57 (.bool false) rfl rfl (by kernel_rfl) (by kernel_rfl) (by kernel_rfl) (fun _ _ _ h => h) (by kernel_rfl) (by (intro w hSw; go_simp)) (by assumption) ?_
    simp only [List.set_cons_zero, List.set_cons_succ]
    refine wpAnyH_done (by kernel_rfl) ?_ _
    replace BW := BW.trans (hb2.mono BW.size)
    replace Z0 := Z0.below hb2 Z0.lt
    replace X0 := X0.below hb2 X0.lt
    clear hb0 hb1 hb2 OW
    have hse : Hid (inBy (inC fun j => M.getD j 0) = (L.drop (aN : Int).toNat).take ((eN : Int) + 4 - (aN : Int)).toNat) := by show _ = _; rw [hxx.out, hWB.out, hCs.out]; exact hCW.out
    obtain ⟨⟨e0, e1, e2, e3, e4, e5, e6, e7⟩, ef⟩ := Z0
    have f0 := ef 0
    have f1 := ef 1
    have f2 := ef 2
    have f3 := ef 3
    have f4 := ef 4
    have f5 := ef 5
    have f6 := ef 6
    have f7 := ef 7
    obtain ⟨⟨g0, g1, g2, g3, g4, g5, g6, g7⟩, gf⟩ := X0
    have hl9 : Hid ((eN : Int) + 4 ≤ (L.length : Int)) := by show _ ≤ _; omega
    go_wp2
    refine bodyPost_ret (v := .tuple #[.agg #[.int .i64 xx.k, .int .i64 xx.q, .int .i64 xx.r, .int .i64 xx.c, .int .i64 xx.b, .int .i64 xx.p, .int .i64 xx.h, .bool xx.up], .int .i64 (t : Int), .nilIface]) (by simp [results, Tryz.results48, go_sem, *]) rfl ⟨?_, ?_⟩
    · rw [hR.out, implAt_same hrr.out hl9.out hse.out, hxx.out, ht]; rfl
    · exact below_all BW (Nat.le_refl _) xx

end Go.Proofs.YthgcbihhdbpbdaaGreatDoor
