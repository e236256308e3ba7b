/- What is said: gatesTurned, walked. -/
import Derived.Test.YtnpiljegdiconaaGreatRows
import Derived.WalkKit
import Derived.ProofKit
import Derived.OpenShut
import Derived.ShutString
import Derived.ChangeOld
import Derived.Below
import Derived.Deep.QuietTactic
import Derived.BigQuiet
import Derived.WalkSmall
import Derived.Laws.OwnMore
import Derived.WalkSpells
import Derived.WalkLawsBesides
import Derived.Deep.Cut
import Derived.Maps.AppendAt
import Derived.Test.YtnpiljegdiconaaGreatBr6
import Derived.Test.YtnpiljegdiconaaGreatFlatApp
import Derived.Test.YtnpiljegdiconaaGreatTakes
namespace Go.Proofs.YtnpiljegdiconaaGreat
open Go.ChangeShapes Go.WideShapes Go.ChangeAt Go.RowKit
open Go.ChangeMaps (open_string shut_string)
set_option linter.unusedVariables false
set_option maxRecDepth 100000

/-- A what is said: its cells. -/
structure Ou where
  k : Int
  pt : Int
  r : Int
  c : Int
  b : Int
  p : Int
  h : Int
  on : Bool
def Ou.nil : Ou := ⟨0, 0, 0, 0, 0, 0, 0, false⟩
def ouEnc (x : Ou) : List Value := [.int .i64 x.k, .int .i64 x.pt, .int .i64 x.r, .int .i64 x.c, .int .i64 x.b, .int .i64 x.p, .int .i64 x.h, .bool x.on]
theorem ouEnc_len (x : Ou) : (ouEnc x).length = 8 := rfl
theorem ouEnc_ones (L : List Ou) : ∀ u ∈ fcells ouEnc L, u.oneCell' = true := by
  induction L with
  | nil => intro u h; cases h
  | cons x L ih =>
    intro u h
    simp only [fcells, ouEnc, List.mem_append, List.mem_cons, List.not_mem_nil, or_false] at h
    rcases h with (rfl | rfl | rfl | rfl | rfl | rfl | rfl | rfl) | h
    · rfl
    · rfl
    · rfl
    · rfl
    · rfl
    · rfl
    · rfl
    · rfl
    · exact ih u h
/-- What its cells hold, in a world. -/
structure OuAtO (w : World) (b o : Nat) (x : Ou) : Prop where
  c0 : w.cell? ⟨b, o, none⟩ = some (.int .i64 x.k)
  c1 : w.cell? ⟨b, o + 1, none⟩ = some (.int .i64 x.pt)
  c2 : w.cell? ⟨b, o + 2, none⟩ = some (.int .i64 x.r)
  c3 : w.cell? ⟨b, o + 3, none⟩ = some (.int .i64 x.c)
  c4 : w.cell? ⟨b, o + 4, none⟩ = some (.int .i64 x.b)
  c5 : w.cell? ⟨b, o + 5, none⟩ = some (.int .i64 x.p)
  c6 : w.cell? ⟨b, o + 6, none⟩ = some (.int .i64 x.h)
  c7 : w.cell? ⟨b, o + 7, none⟩ = some (.bool x.on)
theorem ouAtO_of {w : World} {b o : Nat} {x : Ou} (h : ∀ j v, (ouEnc x)[j]? = some v → w.cell? ⟨b, o + j, none⟩ = some v) : OuAtO w b o x := ⟨h 0 _ rfl, h 1 _ rfl, h 2 _ rfl, h 3 _ rfl, h 4 _ rfl, h 5 _ rfl, h 6 _ rfl, h 7 _ rfl⟩
theorem ouPut (w : World) (g o : Nat) (x : Ou) : putAll w g o (ouEnc x) = ((((((((w.setCell ⟨g, o, none⟩ (.int .i64 x.k)).setCell ⟨g, o + 1, none⟩ (.int .i64 x.pt)).setCell ⟨g, o + 2, none⟩ (.int .i64 x.r)).setCell ⟨g, o + 3, none⟩ (.int .i64 x.c)).setCell ⟨g, o + 4, none⟩ (.int .i64 x.b)).setCell ⟨g, o + 5, none⟩ (.int .i64 x.p)).setCell ⟨g, o + 6, none⟩ (.int .i64 x.h)).setCell ⟨g, o + 7, none⟩ (.bool x.on)) := rfl
theorem ouInfo : (Tryz.prog.info? 114).map (fun i => (i.zero, i.size, i.bytes)) = some (some (.agg #[.int .i64 0, .int .i64 0, .int .i64 0, .int .i64 0, .int .i64 0, .int .i64 0, .int .i64 0, .bool false]), 8, 64) := by kernel_rfl
theorem FView.oneO (w : World) (t : TypeId) (x : Ou) : FView ouEnc (w.alloc (Obj.cells #[.int .i64 x.k, .int .i64 x.pt, .int .i64 x.r, .int .i64 x.c, .int .i64 x.b, .int .i64 x.p, .int .i64 x.h, .bool x.on] t)) (some ⟨w.heap.size, 0, none⟩) [x] := by
  intro _
  refine ⟨w.heap.size, 0, rfl, fun j v hv => ?_⟩
  have hj : j < 8 := by
    have := (List.getElem?_eq_some_iff.1 hv).1
    simpa [fcells, ouEnc] using this
  rcases (by omega : j = 0 ∨ j = 1 ∨ j = 2 ∨ j = 3 ∨ j = 4 ∨ j = 5 ∨ j = 6 ∨ j = 7) with rfl | rfl | rfl | rfl | rfl | rfl | rfl | rfl
  · cases hv; simp [go_sem]
  · cases hv; simp [go_sem]
  · cases hv; simp [go_sem]
  · cases hv; simp [go_sem]
  · cases hv; simp [go_sem]
  · cases hv; simp [go_sem]
  · cases hv; simp [go_sem]
  · cases hv; simp [go_sem]
/-- A gate that turned. -/
def gateO (i : Nat) (on : Bool) : Ou := ⟨2, i, 0, 0, 0, 0, 0, on⟩
def gatesTo (L M : List Pt) : Nat → List Ou
  | 0 => []
  | n + 1 => gatesTo L M n ++ if (M.getD n Pt.nil).op = (L.getD n Pt.nil).op then [] else [gateO n (M.getD n Pt.nil).op]
/-- What a bridge claims at its ports. -/
def toldO (id : Int) (M : List Pt) (i : Nat) : Ou := ⟨1, i, (ownR id M i).1, (ownR id M i).2.1, (ownR id M i).2.2.1, (ownR id M i).2.2.2, hopsR id M, false⟩
def toldTo (id : Int) (M : List Pt) : Nat → List Ou
  | 0 => []
  | n + 1 => toldTo id M n ++ if (M.getD n Pt.nil).ro = 2 then [toldO id M n] else []
theorem gates_len (L M : List Pt) (n : Nat) : (gatesTo L M n).length ≤ n := by
  induction n with
  | zero => simp [gatesTo]
  | succ n ih => simp only [gatesTo, List.length_append]; split <;> simp <;> omega
theorem told_len (id : Int) (M : List Pt) (n : Nat) : (toldTo id M n).length ≤ n := by
  induction n with
  | zero => simp [toldTo]
  | succ n ih => simp only [toldTo, List.length_append]; split <;> simp <;> omega
theorem gates_yes {L M : List Pt} {n : Nat} {h g : Pt} (hh : M.getD n Pt.nil = h) (hg : L.getD n Pt.nil = g) (e : h.op = g.op) : gatesTo L M (n + 1) = gatesTo L M n := by
  simp only [gatesTo, hh, hg]; rw [if_pos e, List.append_nil]
theorem gates_no {L M : List Pt} {n : Nat} {h g : Pt} (hh : M.getD n Pt.nil = h) (hg : L.getD n Pt.nil = g) (e : h.op ≠ g.op) : gatesTo L M (n + 1) = gatesTo L M n ++ [gateO n h.op] := by
  simp only [gatesTo, hh, hg]; rw [if_neg e]
theorem told_yes {id : Int} {M : List Pt} {n : Nat} {h : Pt} (hh : M.getD n Pt.nil = h) (e : h.ro = 2) : toldTo id M (n + 1) = toldTo id M n ++ [toldO id M n] := by
  simp only [toldTo, hh]; rw [if_pos e]
theorem told_no {id : Int} {M : List Pt} {n : Nat} {h : Pt} (hh : M.getD n Pt.nil = h) (e : h.ro ≠ 2) : toldTo id M (n + 1) = toldTo id M n := by
  simp only [toldTo, hh]; rw [if_neg e, List.append_nil]
set_option maxHeartbeats 4000000 in
theorem gatesI (id id' : Int) (ad ad' : Option Addr) (cap cap' : Nat) (L M : List Pt) (w : World) (hv : FView ptEnc w ad L) (hv' : FView ptEnc w ad' M) (hLM : L.length = M.length) (hl : M.length ≤ 4) :
    Calls Tryz.prog 194 #[.agg #[.int .i64 id, .slice ad L.length cap], .agg #[.int .i64 id', .slice ad' M.length cap']] w fun e w' => ∃ adk capk, e = .returned (.slice adk (gatesTo L M M.length).length capk) ∧ FOwn ouEnc 8 114 w.heap.size w' (.slice adk (gatesTo L M M.length).length capk) (gatesTo L M M.length) ∧ Below w.heap.size w w' := by
  obtain ⟨i0, hi, hz0, hz1, hz2⟩ := info_parts ouInfo
  have hB := hv.lt ptEnc_len (by omega)
  have hB' := hv'.lt ptEnc_len (by omega)
  replace hLM : Hid _ := hLM
  obtain ⟨y, hy⟩ : ∃ y, y = (w.alloc (Obj.cells #[.int .i64 id, .slice ad L.length cap] 56)).alloc (Obj.cells #[.int .i64 id', .slice ad' M.length cap'] 56) := ⟨_, rfl⟩
  have B0 : Below w.heap.size w y := by rw [hy]; exact ((Below.refl _ _).alloc (Nat.le_refl _) _).alloc (by simp) _
  have A0 : BrAt y w.heap.size id (.slice ad L.length cap) := by rw [hy]; constructor <;> simp [go_sem]
  have A1 : BrAt y (w.heap.size + 1) id' (.slice ad' M.length cap') := by rw [hy]; constructor <;> simp [go_sem]
  have S0 := A1.lt
  have hv1 := hv.below B0 hB
  have hv1' := hv'.below B0 hB'
  have hB1 := hv1.lt ptEnc_len (by omega)
  have hB1' := hv1'.lt ptEnc_len (by omega)
  clear hv hv' hB hB'
  go_enter Tryz.func194, Tryz.ntmps194
  go_upto_region 2 with fail
  rw [← hy]
  clear hy
  obtain ⟨a0, a1⟩ := A1
  have A1 : BrAt y (w.heap.size + 1) id' (.slice ad' M.length cap') := ⟨a0, a1⟩
  go_wp2
  clear a0 a1
  go_loopw [5, 11] (fun v i wr => ∃ k : Nat, k ≤ M.length ∧ i = .int .i64 (k : Int) ∧ FOwn ouEnc 8 114 y.heap.size wr v (gatesTo L M k) ∧ Below y.heap.size y wr) (fun _ i _ => M.length - (intOf i).toNat)
  case atStart => exact ⟨0, Nat.zero_le _, rfl, FOwn.nil, Below.refl _ _⟩
  case round =>
    obtain ⟨k, hk, rfl, O, K⟩ := hrel
    obtain ⟨adk, capk, rfl⟩ := O.open_
    have A2 := A0.below K (by omega)
    obtain ⟨b0, b1⟩ := A1.below K S0
    by_cases hlt : k < M.length
    · have hltL : k < L.length := by rw [hLM.out]; exact hlt
      have hv2 := hv1.below K hB1
      have hv2' := hv1'.below K hB1'
      obtain ⟨bk', off', rfl, _⟩ := hv2' (by omega)
      obtain ⟨bk, off, rfl, _⟩ := hv2 (by omega)
      obtain ⟨h, hh⟩ : ∃ h, M.getD k Pt.nil = h := ⟨_, rfl⟩
      obtain ⟨g, hg⟩ : ∃ g, L.getD k Pt.nil = g := ⟨_, rfl⟩
      obtain ⟨c0, c1, c2, c3, c4, c5, c6, c7, c8, c9, c10⟩ : PtAtO wr bk' (off' + k * 11) h := by rw [← hh]; exact ptAtO_of (hv2'.at_ ptEnc_len Pt.nil hlt)
      replace hh : Hid _ := hh
      have gl := gates_len L M k
      obtain ⟨G, hG⟩ : ∃ G, gatesTo L M k = G := ⟨_, rfl⟩
      rw [hG] at O gl ⊢
      replace hG : Hid _ := hG
      obtain ⟨y3, hy3⟩ : ∃ y_, y_ = wr.alloc (Obj.cells #[.bool h.up, .bool h.has, .int .i64 h.r, .int .i64 h.c, .int .i64 h.b, .int .i64 h.p, .int .i64 h.h, .int .i64 h.l, .int .i64 h.ro, .int .i64 h.wa, .bool h.op] 109) := ⟨_, rfl⟩
      have P3 : PtAt y3 wr.heap.size h := by rw [hy3]; exact ptAt_box wr _ _
      have kn : Below wr.heap.size wr y3 := by rw [hy3]; exact below_new _
      have A3 := A2.below kn A2.lt
      have O3 := O.later kn
      have K3 := K.trans (kn.mono K.size)
      have hv3 := hv2.below kn (hv2.lt ptEnc_len (by omega))
      have hgc : ∀ Y, Below y3.heap.size y3 Y → PtAtO Y bk (off + k * 11) g := fun Y hY => by rw [← hg]; exact ptAtO_of ((hv3.below hY (hv3.lt ptEnc_len (by omega))).at_ ptEnc_len Pt.nil hltL)
      replace hg : Hid _ := hg
      have S3 := P3.lt
      have S4 := K.size
      go_upto_region 5 with fail
      rw [← hy3]
      clear hy3 b0 b1 c0 c1 c2 c3 c4 c5 c6 c7 c8 c9 c10 kn O hv2 hv2' A2 hv3
      generalize wr.heap.size = Q at P3 S3 S4 ⊢
      by_cases ho : h.op = g.op
      · have dq : (h.op != g.op) = false := by rw [ho]; simp
        have hN : Hid (gatesTo L M (k + 1) = G) := by unfold Hid; rw [gates_yes hh.out hg.out ho, hG.out]
        replace ho : Hid _ := ho
        refine wp_region_held (S := fun Y => Below y3.heap.size y3 Y) (by kernel_rfl) ?_
        change wpAnyH _ _ _ _ _ _ _ _ (World.drew _)
        have hb0 : Below y3.heap.size y3 y3.drew := (Below.refl _ _).drew
        obtain ⟨u0, hy0⟩ : ∃ y_, y_ = y3.drew := ⟨_, rfl⟩
        rw [← hy0] at hb0 ⊢
        clear hy0
        refine takeW 0 16 (.pointer (some ⟨Q, 10, none⟩)) rfl rfl (by kernel_rfl) (by kernel_rfl) (by kernel_rfl) (fun _ _ _ h => h) (by kernel_rfl) (by (intro w hSw; go_simp)) (by assumption) ?_
        simp only [List.set_cons_zero, List.set_cons_succ]
        refine takeW 1 17 (.bool h.op) rfl rfl (by kernel_rfl) (by kernel_rfl) (by kernel_rfl) (fun _ _ _ h => h) (by kernel_rfl) (by (intro Y hSw; obtain ⟨X0, X1, X2, X3, X4, X5, X6, X7, X8, X9, X10⟩ := P3.below hSw (by omega); go_simp)) (by assumption) ?_
        simp only [List.set_cons_zero, List.set_cons_succ]
        refine takeW 2 18 (.pointer (some ⟨w.heap.size, 1, none⟩)) rfl rfl (by kernel_rfl) (by kernel_rfl) (by kernel_rfl) (fun _ _ _ h => h) (by kernel_rfl) (by (intro w hSw; go_simp)) (by assumption) ?_
        simp only [List.set_cons_zero, List.set_cons_succ]
        refine takeW 3 19 (.slice (some ⟨bk, off, none⟩) L.length cap) rfl rfl (by kernel_rfl) (by kernel_rfl) (by kernel_rfl) (fun _ _ _ h => h) (by kernel_rfl) (by (intro Y hSw; obtain ⟨X0, X1⟩ := A3.below hSw (by omega); go_simp)) (by assumption) ?_
        simp only [List.set_cons_zero, List.set_cons_succ]
        refine takeW 4 20 (.int .i64 (k : Int)) rfl rfl (by kernel_rfl) (by kernel_rfl) (by kernel_rfl) (fun _ _ _ h => h) (by kernel_rfl) (by (intro w hSw; go_simp)) (by assumption) ?_
        simp only [List.set_cons_zero, List.set_cons_succ]
        refine takeW 5 21 (.pointer (some ⟨bk, off + k * 11, none⟩)) rfl rfl (by kernel_rfl) (by kernel_rfl) (by kernel_rfl) (fun _ _ _ h => h) (by kernel_rfl) (by (intro Y hSw; go_simp; try omega)) (by assumption) ?_
        simp only [List.set_cons_zero, List.set_cons_succ]
        refine takeW 6 22 (.pointer (some ⟨bk, off + k * 11 + 10, none⟩)) rfl rfl (by kernel_rfl) (by kernel_rfl) (by kernel_rfl) (fun _ _ _ h => h) (by kernel_rfl) (by (intro w hSw; go_simp)) (by assumption) ?_
        simp only [List.set_cons_zero, List.set_cons_succ]
        refine takeW 7 23 (.bool g.op) rfl rfl (by kernel_rfl) (by kernel_rfl) (by kernel_rfl) (fun _ _ _ h => h) (by kernel_rfl) (by (intro Y hSw; obtain ⟨X0, X1, X2, X3, X4, X5, X6, X7, X8, X9, X10⟩ := hgc Y hSw; go_simp)) (by assumption) ?_
        simp only [List.set_cons_zero, List.set_cons_succ]
        refine takeW 8 24 (.bool false) rfl rfl (by kernel_rfl) (by kernel_rfl) (by kernel_rfl) (fun _ _ _ h => h) (by kernel_rfl) (by (intro Y hSw; go_simp; exact ho.out)) (by assumption) ?_
        simp only [List.set_cons_zero, List.set_cons_succ]
        refine wpAnyH_done (by kernel_rfl) ?_ _
        go_wp2
        go_roundw
        case rel => exact ⟨k + 1, by omega, by go_num, by rw [hN.out]; exact O3.later hb0, K3.trans (hb0.mono K3.size)⟩
        case measure => simp [intOf]; omega
      · have dq : (h.op != g.op) = true := by simpa using ho
        have hN : Hid (gatesTo L M (k + 1) = G ++ [gateO k h.op]) := by unfold Hid; rw [gates_no hh.out hg.out ho, hG.out]
        replace ho : Hid _ := ho
        refine wp_region_held (S := fun Y => Below y3.heap.size y3 Y) (by kernel_rfl) ?_
        change wpAnyH _ _ _ _ _ _ _ _ (World.drew _)
        have hb0 : Below y3.heap.size y3 y3.drew := (Below.refl _ _).drew
        obtain ⟨u0, hy0⟩ : ∃ y_, y_ = y3.drew := ⟨_, rfl⟩
        rw [← hy0] at hb0 ⊢
        clear hy0
        refine takeW 0 16 (.pointer (some ⟨Q, 10, none⟩)) rfl rfl (by kernel_rfl) (by kernel_rfl) (by kernel_rfl) (fun _ _ _ h => h) (by kernel_rfl) (by (intro w hSw; go_simp)) (by assumption) ?_
        simp only [List.set_cons_zero, List.set_cons_succ]
        refine takeW 1 17 (.bool h.op) rfl rfl (by kernel_rfl) (by kernel_rfl) (by kernel_rfl) (fun _ _ _ h => h) (by kernel_rfl) (by (intro Y hSw; obtain ⟨X0, X1, X2, X3, X4, X5, X6, X7, X8, X9, X10⟩ := P3.below hSw (by omega); go_simp)) (by assumption) ?_
        simp only [List.set_cons_zero, List.set_cons_succ]
        refine takeW 2 18 (.pointer (some ⟨w.heap.size, 1, none⟩)) rfl rfl (by kernel_rfl) (by kernel_rfl) (by kernel_rfl) (fun _ _ _ h => h) (by kernel_rfl) (by (intro w hSw; go_simp)) (by assumption) ?_
        simp only [List.set_cons_zero, List.set_cons_succ]
        refine takeW 3 19 (.slice (some ⟨bk, off, none⟩) L.length cap) rfl rfl (by kernel_rfl) (by kernel_rfl) (by kernel_rfl) (fun _ _ _ h => h) (by kernel_rfl) (by (intro Y hSw; obtain ⟨X0, X1⟩ := A3.below hSw (by omega); go_simp)) (by assumption) ?_
        simp only [List.set_cons_zero, List.set_cons_succ]
        refine takeW 4 20 (.int .i64 (k : Int)) rfl rfl (by kernel_rfl) (by kernel_rfl) (by kernel_rfl) (fun _ _ _ h => h) (by kernel_rfl) (by (intro w hSw; go_simp)) (by assumption) ?_
        simp only [List.set_cons_zero, List.set_cons_succ]
        refine takeW 5 21 (.pointer (some ⟨bk, off + k * 11, none⟩)) rfl rfl (by kernel_rfl) (by kernel_rfl) (by kernel_rfl) (fun _ _ _ h => h) (by kernel_rfl) (by (intro Y hSw; go_simp; try omega)) (by assumption) ?_
        simp only [List.set_cons_zero, List.set_cons_succ]
        refine takeW 6 22 (.pointer (some ⟨bk, off + k * 11 + 10, none⟩)) rfl rfl (by kernel_rfl) (by kernel_rfl) (by kernel_rfl) (fun _ _ _ h => h) (by kernel_rfl) (by (intro w hSw; go_simp)) (by assumption) ?_
        simp only [List.set_cons_zero, List.set_cons_succ]
        refine takeW 7 23 (.bool g.op) rfl rfl (by kernel_rfl) (by kernel_rfl) (by kernel_rfl) (fun _ _ _ h => h) (by kernel_rfl) (by (intro Y hSw; obtain ⟨X0, X1, X2, X3, X4, X5, X6, X7, X8, X9, X10⟩ := hgc Y hSw; go_simp)) (by assumption) ?_
        simp only [List.set_cons_zero, List.set_cons_succ]
        refine takeW 8 24 (.bool true) rfl rfl (by kernel_rfl) (by kernel_rfl) (by kernel_rfl) (fun _ _ _ h => h) (by kernel_rfl) (by (intro Y hSw; go_simp; exact ho.out)) (by assumption) ?_
        simp only [List.set_cons_zero, List.set_cons_succ]
        refine wpAnyH_done (by kernel_rfl) ?_ _
        obtain ⟨c0, c1, c2, c3, c4, c5, c6, c7, c8, c9, c10⟩ := P3.below hb0 (by omega)
        have K4 := K3.trans (hb0.mono K3.size)
        have V1 := FView.oneO u0 114 (gateO k h.op)
        have O2 : FOwn ouEnc 8 114 y.heap.size (u0.alloc (Obj.cells #[.int .i64 (gateO k h.op).k, .int .i64 (gateO k h.op).pt, .int .i64 (gateO k h.op).r, .int .i64 (gateO k h.op).c, .int .i64 (gateO k h.op).b, .int .i64 (gateO k h.op).p, .int .i64 (gateO k h.op).h, .bool (gateO k h.op).on] 114)) (.slice adk G.length capk) G := (O3.later hb0).later (below_new _)
        unfold gateO at V1 O2
        dsimp only at V1 O2
        have S5 := K4.size
        go_wp2_with (first | (at_builtin; refine fappL ouEnc_len ouEnc_ones rfl _ _ 46 rfl y.heap.size 114 i0 (.agg #[.int .i64 0, .int .i64 0, .int .i64 0, .int .i64 0, .int .i64 0, .int .i64 0, .int .i64 0, .bool false]) 64 Tryz.underlying46 hi hz0 hz1 hz2 rfl (by decide) (by decide) (.slice adk G.length capk) G rfl O2 (some ⟨u0.heap.size, 0, none⟩) 1 [(⟨2, (k : Int), 0, 0, 0, 0, 0, h.op⟩ : Ou)] rfl (fun e => by cases e) V1 ?z0 ?z1 ?_) | go_in)
        case z0 => simp; omega
        case z1 => simp; omega
        intro vZ wZ hownZ hgrowZ _
        have ho2 : ∀ g_, (Value.slice adk G.length capk).ownBlock = some g_ → y.heap.size ≤ g_ := fun g_ e => (O2.lt g_ e).1
        have KZ : Below y.heap.size y wZ := (K4.alloc S5 _).grown hgrowZ (by simp; omega) ho2
        clear hgrowZ V1 O2 ho2 O3 c0 c1 c2 c3 c4 c5 c6 c7 c8 c9 c10
        go_wp2
        go_roundw
        case rel => exact ⟨k + 1, by omega, by go_num, by rw [hN.out]; exact hownZ, KZ⟩
        case measure => simp [intOf]; omega
    · obtain rfl : k = M.length := by omega
      have BZ := B0.trans (K.mono B0.size)
      have OZ := O.base B0.size
      clear b0 b1
      go_wp2
      go_ret
      exact ⟨_, _, rfl, OZ, BZ⟩

end Go.Proofs.YtnpiljegdiconaaGreat
