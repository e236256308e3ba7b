/- spec.BpduOf, walked. -/
import Derived.Test.YtlgcjhebbmejaaaRows
import Derived.WalkKit
import Derived.ProofKit
import Derived.OpenShut
import Derived.ShutString
import Derived.ChangeOld
import Derived.Below
import Derived.Deep.QuietTactic
import Derived.BigQuiet
import Derived.WalkSmall
import Derived.Laws.OwnMore
import Derived.WalkSpells
import Derived.WalkLawsBesides
import Derived.Deep.Cut
import Derived.Deep.RegionHeld
import Derived.BigQuiet
import Derived.Test.YtlgcjhebbmejaaaBp7b
import Derived.Test.YtlgcjhebbmejaaaBp4s
namespace Go.Proofs.Ytlgcjhebbmejaaa
open Go.ChangeShapes Go.WideShapes Go.ChangeAt Go.RowKit
open Go.ChangeMaps (open_string shut_string)
set_option linter.unusedVariables false
set_option maxRecDepth 100000

theorem or_nat (a b i : Nat) (hb : b < 2 ^ i) (ha : 2 ^ i * a + b < 4611686018427387904) : bits .or .i64 ((2 ^ i * a : Nat) : Int) (b : Int) = ((2 ^ i * a + b : Nat) : Int) := by
  rw [or_i64_nat _ _ (by omega) (by omega), ← Nat.two_pow_add_eq_or_of_lt hb]
theorem or_cost (g13 g14 g15 g16 : Int) (h13 : 0 ≤ g13 ∧ g13 ≤ 255) (h14 : 0 ≤ g14 ∧ g14 ≤ 255) (h15 : 0 ≤ g15 ∧ g15 ≤ 255) (h16 : 0 ≤ g16 ∧ g16 ≤ 255) :
    bits .or .i64 (g13 * 16777216) (g14 * 65536) = g13 * 16777216 + g14 * 65536 ∧ bits .or .i64 (g13 * 16777216 + g14 * 65536) (g15 * 256) = g13 * 16777216 + g14 * 65536 + g15 * 256 ∧ bits .or .i64 (g13 * 16777216 + g14 * 65536 + g15 * 256) g16 = g13 * 16777216 + g14 * 65536 + g15 * 256 + g16 := by
  obtain ⟨a, rfl⟩ : ∃ a : Nat, g13 = a := ⟨g13.toNat, by omega⟩
  obtain ⟨b, rfl⟩ : ∃ b : Nat, g14 = b := ⟨g14.toNat, by omega⟩
  obtain ⟨c, rfl⟩ : ∃ c : Nat, g15 = c := ⟨g15.toNat, by omega⟩
  obtain ⟨d, rfl⟩ : ∃ d : Nat, g16 = d := ⟨g16.toNat, by omega⟩
  have e1 : (a : Int) * 16777216 = ((2 ^ 24 * a : Nat) : Int) := by simp; omega
  have e2 : (b : Int) * 65536 = ((b * 65536 : Nat) : Int) := by simp
  have e3 : (a : Int) * 16777216 + (b : Int) * 65536 = ((2 ^ 16 * (a * 256 + b) : Nat) : Int) := by simp; omega
  have e4 : (c : Int) * 256 = ((c * 256 : Nat) : Int) := by simp
  have e5 : (a : Int) * 16777216 + (b : Int) * 65536 + (c : Int) * 256 = ((2 ^ 8 * (a * 65536 + b * 256 + c) : Nat) : Int) := by simp; omega
  refine ⟨?_, ?_, ?_⟩
  · rw [e3, e1, e2, or_nat _ _ _ (by omega) (by omega)]; simp; omega
  · rw [e5, e3, e4, or_nat _ _ _ (by omega) (by omega)]; simp; omega
  · rw [e5, or_nat _ _ _ (by omega) (by omega)]; simp
theorem cell_ix {w : World} {b off : Nat} {L : List Int} (hv : View w (some ⟨b, off, none⟩) L.length (fun i => L.getD i 0)) (i : Nat) (h : i < L.length) : w.cell? ⟨b, off + i, none⟩ = some (.int .u8 (L.getD i 0)) := by
  obtain ⟨b', off', e, hc⟩ := hv (by omega)
  cases e
  exact hc i h
theorem getD_in {L : List Int} (hb : ∀ x ∈ L, 0 ≤ x ∧ x ≤ 255) (i : Nat) (h : i < L.length) : 0 ≤ L.getD i 0 ∧ L.getD i 0 ≤ 255 := by
  have e : L.getD i 0 = L[i] := by simp [List.getD, h]
  rw [e]
  exact hb _ (List.getElem_mem h)
theorem ro_cell (g : Nat) (y : World) (k : Nat) (h : k < 4) (c0 : y.cell? ⟨g, 0, none⟩ = some (.int .i64 0)) (c1 : y.cell? ⟨g, 1, none⟩ = some (.int .i64 3)) (c2 : y.cell? ⟨g, 2, none⟩ = some (.int .i64 1)) (c3 : y.cell? ⟨g, 3, none⟩ = some (.int .i64 2)) : y.cell? ⟨g, k, none⟩ = some (.int .i64 (roB k)) := by
  rcases (by omega : k = 0 ∨ k = 1 ∨ k = 2 ∨ k = 3) with rfl | rfl | rfl | rfl
  · exact c0
  · exact c1
  · exact c2
  · exact c3
set_option maxHeartbeats 8000000 in
theorem bpduOfS (ad : Option Addr) (cap : Nat) (L : List Int) (w : World) (hv : View w ad L.length (fun i => L.getD i 0)) (hlt : ∀ x, ad = some x → 0 < L.length → x.block < w.heap.size) (hcap : L.length ≤ cap) (hm : L.length ≤ 1048576) (hb : ∀ x ∈ L, 0 ≤ x ∧ x ≤ 255) :
    Calls Try.prog 14 #[.slice ad L.length cap] w fun e w' => e = .returned (outV (outS L)) ∧ Below w.heap.size w w' := by
  obtain ⟨y, hy⟩ : ∃ y, y = w.alloc (Obj.cells #[.bool false, .bool false, .bool false, .bool false, .bool false, .int .i64 0, .int .i64 0, .int .i64 0, .int .i64 0, .int .i64 0, .int .i64 0] 27) := ⟨_, rfl⟩
  have B0 : Below w.heap.size w y := by rw [hy]; exact below_new _
  have R0 : BpW y w.heap.size bpNil := by rw [hy]; refine ⟨?_, fun i => by simp [go_sem]⟩; constructor <;> simp [go_sem, bpNil]
  have S0 := R0.lt
  by_cases hl : L.length = 36
  rotate_left
  · have hne : ¬ (L.length : Int) = 36 := by omega
    have e : Hid (outS L = (bpNil, false)) := outS_len hl
    clear hv
    go_enter Try.func14, Try.ntmps14
    go_wp2_with fail
    refine bodyPost_ret (v := .tuple #[.agg #[.bool false, .bool false, .bool false, .bool false, .bool false, .int .i64 0, .int .i64 0, .int .i64 0, .int .i64 0, .int .i64 0, .int .i64 0], .bool false]) (by simp [results, Try.results14, go_sem, *]) rfl ⟨by rw [e.out]; rfl, below_new _⟩
  obtain ⟨b, off, rfl, -⟩ := hv (by omega)
  have hlb : b < w.heap.size := hlt _ rfl (by omega)
  rw [hl] at hcap
  rw [hl]
  obtain ⟨X, hX⟩ : ∃ X, X = rdS L := ⟨_, rfl⟩
  have e1 : byB X = L → outS L = (X, true) := fun h => by rw [hX] at h ⊢; exact outS_yes hl h
  have e2 : byB X ≠ L → outS L = (bpNil, false) := fun h => by rw [hX] at h; exact outS_no h
  replace e1 : Hid _ := e1
  replace e2 : Hid _ := e2
  have V0 : View y (some ⟨b, off, none⟩) L.length (fun i => L.getD i 0) := hv.carry (fun x h _ => by cases h; exact B0.block _ hlb)
  have h4 := getD_in hb 4 (by omega)
  have d4 := cell_ix V0 4 (by omega)
  have h12 := getD_in hb 12 (by omega)
  have d12 := cell_ix V0 12 (by omega)
  have h13 := getD_in hb 13 (by omega)
  have d13 := cell_ix V0 13 (by omega)
  have h14 := getD_in hb 14 (by omega)
  have d14 := cell_ix V0 14 (by omega)
  have h15 := getD_in hb 15 (by omega)
  have d15 := cell_ix V0 15 (by omega)
  have h16 := getD_in hb 16 (by omega)
  have d16 := cell_ix V0 16 (by omega)
  have h24 := getD_in hb 24 (by omega)
  have d24 := cell_ix V0 24 (by omega)
  have h26 := getD_in hb 26 (by omega)
  have d26 := cell_ix V0 26 (by omega)
  have h27 := getD_in hb 27 (by omega)
  have d27 := cell_ix V0 27 (by omega)
  obtain ⟨g4, e4⟩ : ∃ g, g = L.getD 4 0 := ⟨_, rfl⟩
  rw [← e4] at h4 d4
  obtain ⟨g12, e12⟩ : ∃ g, g = L.getD 12 0 := ⟨_, rfl⟩
  rw [← e12] at h12 d12
  obtain ⟨g13, e13⟩ : ∃ g, g = L.getD 13 0 := ⟨_, rfl⟩
  rw [← e13] at h13 d13
  obtain ⟨g14, e14⟩ : ∃ g, g = L.getD 14 0 := ⟨_, rfl⟩
  rw [← e14] at h14 d14
  obtain ⟨g15, e15⟩ : ∃ g, g = L.getD 15 0 := ⟨_, rfl⟩
  rw [← e15] at h15 d15
  obtain ⟨g16, e16⟩ : ∃ g, g = L.getD 16 0 := ⟨_, rfl⟩
  rw [← e16] at h16 d16
  obtain ⟨g24, e24⟩ : ∃ g, g = L.getD 24 0 := ⟨_, rfl⟩
  rw [← e24] at h24 d24
  obtain ⟨g26, e26⟩ : ∃ g, g = L.getD 26 0 := ⟨_, rfl⟩
  rw [← e26] at h26 d26
  obtain ⟨g27, e27⟩ : ∃ g, g = L.getD 27 0 := ⟨_, rfl⟩
  rw [← e27] at h27 d27
  have hX2 : Hid (X = ⟨btB g4 1, btB g4 2, btB g4 64, btB g4 16, btB g4 32, roB (g4 / 4 % 4), g12, (g13 * 16777216 + g14 * 65536 + g15 * 256 + g16) / 20000, g24, g26 - 1, g27⟩) := by show _ = _; rw [hX]; unfold rdS cS; rw [← e4, ← e12, ← e13, ← e14, ← e15, ← e16, ← e24, ← e26, ← e27]
  clear hX
  replace e4 : Hid _ := e4
  replace e12 : Hid _ := e12
  replace e13 : Hid _ := e13
  replace e14 : Hid _ := e14
  replace e15 : Hid _ := e15
  replace e16 : Hid _ := e16
  replace e24 : Hid _ := e24
  replace e26 : Hid _ := e26
  replace e27 : Hid _ := e27
  obtain ⟨o1, o2, o3⟩ := or_cost g13 g14 g15 g16 h13 h14 h15 h16
  obtain ⟨C, hC⟩ : ∃ C, C = g13 * 16777216 + g14 * 65536 + g15 * 256 + g16 := ⟨_, rfl⟩
  rw [← hC] at o3
  have hC0 : 0 ≤ C ∧ C ≤ 4294967295 := by omega
  obtain ⟨k, hk⟩ : ∃ k : Nat, g4 / 4 % 4 = (k : Int) := ⟨(g4 / 4 % 4).toNat, by omega⟩
  have hk4 : k < 4 := by omega
  rw [hk, ← hC] at hX2
  replace hC : Hid _ := hC
  have t1 : (bits .and .i64 g4 1 != 0) = btB g4 1 := rfl
  have t2 : (bits .and .i64 g4 2 != 0) = btB g4 2 := rfl
  have t3 : (bits .and .i64 g4 16 != 0) = btB g4 16 := rfl
  have t4 : (bits .and .i64 g4 32 != 0) = btB g4 32 := rfl
  have t5 : (bits .and .i64 g4 64 != 0) = btB g4 64 := rfl
  have hand := and3
  rw [hy] at d4
  go_enter Try.func14, Try.ntmps14
  go_upto_region 4 with fail
  rw [← hy]
  clear hy
  go_quiet (fail)
  clear o1 o2 o3 d4 d12 d13 d14 d15 d16 d24 d26 d27
  obtain ⟨y1, hy1⟩ : ∃ y1, y1 = y.drewN nq := ⟨_, rfl⟩
  have B1 : Below w.heap.size w y1 := by rw [hy1]; exact below_drewN B0 nq
  have R1 : BpW y1 w.heap.size bpNil := by rw [hy1]; exact R0.below (below_drewN (Below.refl y.heap.size y) nq) S0
  have S1 : w.heap.size < y1.heap.size := R1.lt
  have V1 : View y1 (some ⟨b, off, none⟩) L.length (fun i => L.getD i 0) := hv.carry (fun x h _ => by cases h; exact B1.block _ hlb)
  rw [← hy1]
  clear hy1 R0 V0 B0 S0
  have d27 := cell_ix V1 27 (by omega)
  rw [← e27.out] at d27
  obtain ⟨y2, hy2⟩ : ∃ z, z = y1.alloc (Obj.cells #[.bool (Bp.mk (btB g4 1) (btB g4 2) (btB g4 64) (btB g4 16) (btB g4 32) (roB k) 0 0 0 0 g27).ch, .bool (Bp.mk (btB g4 1) (btB g4 2) (btB g4 64) (btB g4 16) (btB g4 32) (roB k) 0 0 0 0 g27).ak, .bool (Bp.mk (btB g4 1) (btB g4 2) (btB g4 64) (btB g4 16) (btB g4 32) (roB k) 0 0 0 0 g27).ag, .bool (Bp.mk (btB g4 1) (btB g4 2) (btB g4 64) (btB g4 16) (btB g4 32) (roB k) 0 0 0 0 g27).le, .bool (Bp.mk (btB g4 1) (btB g4 2) (btB g4 64) (btB g4 16) (btB g4 32) (roB k) 0 0 0 0 g27).op, .int .i64 (Bp.mk (btB g4 1) (btB g4 2) (btB g4 64) (btB g4 16) (btB g4 32) (roB k) 0 0 0 0 g27).ro, .int .i64 (Bp.mk (btB g4 1) (btB g4 2) (btB g4 64) (btB g4 16) (btB g4 32) (roB k) 0 0 0 0 g27).r, .int .i64 (Bp.mk (btB g4 1) (btB g4 2) (btB g4 64) (btB g4 16) (btB g4 32) (roB k) 0 0 0 0 g27).c, .int .i64 (Bp.mk (btB g4 1) (btB g4 2) (btB g4 64) (btB g4 16) (btB g4 32) (roB k) 0 0 0 0 g27).b, .int .i64 (Bp.mk (btB g4 1) (btB g4 2) (btB g4 64) (btB g4 16) (btB g4 32) (roB k) 0 0 0 0 g27).p, .int .i64 (Bp.mk (btB g4 1) (btB g4 2) (btB g4 64) (btB g4 16) (btB g4 32) (roB k) 0 0 0 0 g27).h] 27) := ⟨_, rfl⟩
  have X2 : BpW y2 y1.heap.size ⟨btB g4 1, btB g4 2, btB g4 64, btB g4 16, btB g4 32, roB k, 0, 0, 0, 0, g27⟩ := by rw [hy2]; exact BpW.new y1 27 ⟨btB g4 1, btB g4 2, btB g4 64, btB g4 16, btB g4 32, roB k, 0, 0, 0, 0, g27⟩
  have k2 : Below y1.heap.size y1 y2 := by rw [hy2]; exact below_new _
  have B2 := B1.trans (k2.mono B1.size)
  have R2 := R1.below k2 S1
  have x2 := X2.lt
  dsimp only at hy2
  obtain ⟨y3, hy3⟩ : ∃ z, z = y2.alloc (Obj.cells #[.int .i64 0, .int .i64 3, .int .i64 1, .int .i64 2] 3) := ⟨_, rfl⟩
  have k3 : Below y2.heap.size y2 y3 := by rw [hy3]; exact below_new _
  have B3 := B2.trans (k3.mono B2.size)
  have R3 := R2.below k3 (by omega)
  have X3 := X2.below k3 x2
  have x3 := X3.lt
  have s1 : w.heap.size < y1.heap.size := S1
  have hL4 : ∀ h, ([Value.int IntKind.i64 0, Value.int IntKind.i64 3, Value.int IntKind.i64 1, Value.int IntKind.i64 2] : List Value)[k]'h = Value.int IntKind.i64 (roB k) := by
    intro h
    rcases (by omega : k = 0 ∨ k = 1 ∨ k = 2 ∨ k = 3) with rfl | rfl | rfl | rfl <;> rfl
  go_upto_region 7 with fail
  rw [← hy2, ← hy3]
  have k2' : y1.heap.size ≤ y3.heap.size := by omega
  clear hy3 hy2 hL4 t1 t2 t3 t4 t5 hand R1 R2 X2 k2 k3 B1 B2 d27
  have V3 : View y3 (some ⟨b, off, none⟩) L.length (fun i => L.getD i 0) := hv.carry (fun x h _ => by cases h; exact B3.block _ hlb)
  have d12 := cell_ix V3 12 (by omega)
  have d24 := cell_ix V3 24 (by omega)
  have d26 := cell_ix V3 26 (by omega)
  rw [← e12.out] at d12
  rw [← e24.out] at d24
  rw [← e26.out] at d26
  have bl : b < y1.heap.size := by omega
  refine wp_region_held (S := fun Y => Below y1.heap.size y3 Y) (by kernel_rfl) ?_
  change wpAnyH _ _ _ _ _ _ _ _ (World.drew _)
  have hb0 : Below y1.heap.size y3 y3.drew := (Below.refl _ _).drew
  have XX : BpW y3.drew y1.heap.size ⟨btB g4 1, btB g4 2, btB g4 64, btB g4 16, btB g4 32, roB k, 0, 0, 0, 0, g27⟩ := X3.below (Below.refl _ _).drew x3
  have RR : BpW y3.drew w.heap.size bpNil := R3.below (Below.refl _ _).drew (by omega)
  have BB : Below w.heap.size w y3.drew := B3.drew
  have bz : y3.heap.size ≤ y3.drew.heap.size := (Below.refl y3.heap.size y3).drew.size
  obtain ⟨u0, hu0⟩ : ∃ y_, y_ = y3.drew := ⟨_, rfl⟩
  rw [← hu0] at hb0 XX RR BB bz ⊢
  clear hu0 X3 R3
  refine takeW 0 64 (.slice (some ⟨b, off, none⟩) 36 cap) rfl rfl (by kernel_rfl) (by kernel_rfl) (by kernel_rfl) (fun _ _ _ h => h) (by kernel_rfl) (by (intro w hSw; go_simp)) (by assumption) ?_
  simp only [List.set_cons_zero, List.set_cons_succ]
  refine takeW 1 65 (.pointer (some ⟨b, off + 12, none⟩)) rfl rfl (by kernel_rfl) (by kernel_rfl) (by kernel_rfl) (fun _ _ _ h => h) (by kernel_rfl) (by (intro w hSw; go_simp)) (by assumption) ?_
  simp only [List.set_cons_zero, List.set_cons_succ]
  refine takeW 2 66 (.int .u8 g12) rfl rfl (by kernel_rfl) (by kernel_rfl) (by kernel_rfl) (fun _ _ _ h => h) (by kernel_rfl) (by (intro Y hSw; have dd := (hSw.cell (p := ⟨b, off + 12, none⟩) (by show b < _; omega)).trans d12; go_simp)) (by assumption) ?_
  simp only [List.set_cons_zero, List.set_cons_succ]
  refine takeW 3 67 (.int .i64 g12) rfl rfl (by kernel_rfl) (by kernel_rfl) (by kernel_rfl) (fun _ _ _ h => h) (by kernel_rfl) (by (intro w hSw; go_simp; rw [IntKind.wrap_i64]; omega)) (by assumption) ?_
  simp only [List.set_cons_zero, List.set_cons_succ]
  refine takeW 4 68 (.int .i64 C) rfl rfl (by kernel_rfl) (by kernel_rfl) (by kernel_rfl) (fun _ _ _ h => h) (by kernel_rfl) (by (intro w hSw; go_simp)) (by assumption) ?_
  simp only [List.set_cons_zero, List.set_cons_succ]
  refine takeW 5 69 (.int .i64 (C / 20000)) rfl rfl (by kernel_rfl) (by kernel_rfl) (by kernel_rfl) (fun _ _ _ h => h) (by kernel_rfl) (by (intro w hSw; go_simp; rw [IntKind.wrap_i64, Int.tdiv_eq_ediv_of_nonneg (by omega)]; omega)) (by assumption) ?_
  simp only [List.set_cons_zero, List.set_cons_succ]
  refine takeW 6 70 (.slice (some ⟨b, off, none⟩) 36 cap) rfl rfl (by kernel_rfl) (by kernel_rfl) (by kernel_rfl) (fun _ _ _ h => h) (by kernel_rfl) (by (intro w hSw; go_simp)) (by assumption) ?_
  simp only [List.set_cons_zero, List.set_cons_succ]
  refine takeW 7 71 (.pointer (some ⟨b, off + 24, none⟩)) rfl rfl (by kernel_rfl) (by kernel_rfl) (by kernel_rfl) (fun _ _ _ h => h) (by kernel_rfl) (by (intro w hSw; go_simp)) (by assumption) ?_
  simp only [List.set_cons_zero, List.set_cons_succ]
  refine takeW 8 72 (.int .u8 g24) rfl rfl (by kernel_rfl) (by kernel_rfl) (by kernel_rfl) (fun _ _ _ h => h) (by kernel_rfl) (by (intro Y hSw; have dd := (hSw.cell (p := ⟨b, off + 24, none⟩) (by show b < _; omega)).trans d24; go_simp)) (by assumption) ?_
  simp only [List.set_cons_zero, List.set_cons_succ]
  refine takeW 9 73 (.int .i64 g24) rfl rfl (by kernel_rfl) (by kernel_rfl) (by kernel_rfl) (fun _ _ _ h => h) (by kernel_rfl) (by (intro w hSw; go_simp; rw [IntKind.wrap_i64]; omega)) (by assumption) ?_
  simp only [List.set_cons_zero, List.set_cons_succ]
  refine takeW 10 74 (.slice (some ⟨b, off, none⟩) 36 cap) rfl rfl (by kernel_rfl) (by kernel_rfl) (by kernel_rfl) (fun _ _ _ h => h) (by kernel_rfl) (by (intro w hSw; go_simp)) (by assumption) ?_
  simp only [List.set_cons_zero, List.set_cons_succ]
  refine takeW 11 75 (.pointer (some ⟨b, off + 26, none⟩)) rfl rfl (by kernel_rfl) (by kernel_rfl) (by kernel_rfl) (fun _ _ _ h => h) (by kernel_rfl) (by (intro w hSw; go_simp)) (by assumption) ?_
  simp only [List.set_cons_zero, List.set_cons_succ]
  refine takeW 12 76 (.int .u8 g26) rfl rfl (by kernel_rfl) (by kernel_rfl) (by kernel_rfl) (fun _ _ _ h => h) (by kernel_rfl) (by (intro Y hSw; have dd := (hSw.cell (p := ⟨b, off + 26, none⟩) (by show b < _; omega)).trans d26; go_simp)) (by assumption) ?_
  simp only [List.set_cons_zero, List.set_cons_succ]
  refine takeW 13 77 (.int .i64 g26) rfl rfl (by kernel_rfl) (by kernel_rfl) (by kernel_rfl) (fun _ _ _ h => h) (by kernel_rfl) (by (intro w hSw; go_simp; rw [IntKind.wrap_i64]; omega)) (by assumption) ?_
  simp only [List.set_cons_zero, List.set_cons_succ]
  refine takeW 14 78 (.int .i64 (g26 - 1)) rfl rfl (by kernel_rfl) (by kernel_rfl) (by kernel_rfl) (fun _ _ _ h => h) (by kernel_rfl) (by (intro w hSw; go_simp; rw [IntKind.wrap_i64]; omega)) (by assumption) ?_
  simp only [List.set_cons_zero, List.set_cons_succ]
  refine takeW 15 79 (.agg #[.int .i64 g12, .int .i64 (C / 20000), .int .i64 g24, .int .i64 (g26 - 1)]) rfl rfl (by kernel_rfl) (by kernel_rfl) (by kernel_rfl) (fun _ _ _ h => h) (by kernel_rfl) (by (intro w hSw; go_simp)) (by assumption) ?_
  simp only [List.set_cons_zero, List.set_cons_succ]
  refine takeW 16 80 (.pointer (some ⟨y1.heap.size, 6, none⟩)) rfl rfl (by kernel_rfl) (by kernel_rfl) (by kernel_rfl) (fun _ _ _ h => h) (by kernel_rfl) (by (intro w hSw; go_simp)) (by assumption) ?_
  simp only [List.set_cons_zero, List.set_cons_succ]
  have x6 := XX.at_.c6
  have x7 := XX.at_.c7
  have x8 := XX.at_.c8
  have x9 := XX.at_.c9
  have z6 := XX.fr 6
  have z7 := XX.fr 7
  have z8 := XX.fr 8
  have z9 := XX.fr 9
  refine wpAnyH_all (rs := [17]) (by kernel_rfl) (by simp) ?_
  intro i hi; obtain rfl : i = 17 := by simpa using hi
  refine wpOp_step rfl (fun Kz hKz => ?_)
  rw [if_pos (by kernel_rfl)]
  go_simp
  obtain ⟨u1, hu1⟩ : ∃ u, u = (((u0.setCell ⟨y1.heap.size, 6, none⟩ (.int .i64 g12)).setCell ⟨y1.heap.size, 7, none⟩ (.int .i64 (C / 20000))).setCell ⟨y1.heap.size, 8, none⟩ (.int .i64 g24)).setCell ⟨y1.heap.size, 9, none⟩ (.int .i64 (g26 - 1)) := ⟨_, rfl⟩
  have kq : Below y1.heap.size u0 u1 := by rw [hu1]; exact ((((Below.refl y1.heap.size u0).setCell (Nat.le_refl _) _).setCell (Nat.le_refl _) _).setCell (Nat.le_refl _) _).setCell (Nat.le_refl _) _
  have XY : BpW u1 y1.heap.size X := by rw [hu1, hX2.out]; exact (((XX.set6 g12).set7 (C / 20000)).set8 g24).set9 (g26 - 1)
  rw [← hu1]
  clear hu1 x6 x7 x8 x9 z6 z7 z8 z9 XX
  have hb1 : Below y1.heap.size y3 u1 := hb0.trans kq
  have RR := RR.below kq s1
  have BB := BB.trans (kq.mono (by omega))
  have bz : u0.heap.size ≤ u1.heap.size := kq.size
  refine hKz _ _ ⟨hb1, ?_⟩
  clear hKz Kz hi kq
  refine wpAnyH_done (by kernel_rfl) ?_ _
  clear hX2 hC hk hk4 hC0 hb0 hb1 V3 d12 d24 d26 B3 V1
  have lX := XY.lt
  have V4 : View u1 (some ⟨b, off, none⟩) L.length (fun i => L.getD i 0) := hv.carry (fun x h _ => by cases h; exact BB.block _ hlb)
  go_upto_region 8 with fail
  refine wp_region_held (S := fun Y => Below u1.heap.size u1 Y) (by kernel_rfl) ?_
  change wpAnyH _ _ _ _ _ _ _ _ (World.drew _)
  have hb0 : Below u1.heap.size u1 u1.drew := (Below.refl _ _).drew
  obtain ⟨v0, hv0⟩ : ∃ y_, y_ = u1.drew := ⟨_, rfl⟩
  rw [← hv0] at hb0 ⊢
  clear hv0
  have hc2 : ∀ Y, Below u1.heap.size u1 Y → (convert 22 9 (.slice (some ⟨b, off, none⟩) 36 cap)).run Try.prog Y = .ok (.string (txt L)) Y := fun Y h => by have q := conv_later (cap := cap) V4 hb (B := u1.heap.size) (fun a e => by cases e; show b < _; omega) h; rw [hl] at q; exact q
  refine takeW 0 81 (.agg #[.bool X.ch, .bool X.ak, .bool X.ag, .bool X.le, .bool X.op, .int .i64 X.ro, .int .i64 X.r, .int .i64 X.c, .int .i64 X.b, .int .i64 X.p, .int .i64 X.h]) rfl rfl (by kernel_rfl) (by kernel_rfl) (by kernel_rfl) (fun _ _ _ h => h) (by kernel_rfl) (by (intro Y hSw; obtain ⟨⟨q0, q1, q2, q3, q4, q5, q6, q7, q8, q9, q10⟩, _⟩ := XY.below hSw lX; go_simp)) (by assumption) ?_
  simp only [List.set_cons_zero, List.set_cons_succ]
  refine takeW 3 84 (.slice (some ⟨b, off, none⟩) 36 cap) rfl rfl (by kernel_rfl) (by kernel_rfl) (by kernel_rfl) (fun _ _ _ h => h) (by kernel_rfl) (by (intro w hSw; go_simp)) (by assumption) ?_
  simp only [List.set_cons_zero, List.set_cons_succ]
  refine takeW 4 85 (.string (txt L)) rfl rfl (by kernel_rfl) (by kernel_rfl) (by kernel_rfl) (fun _ _ _ h => h) (by kernel_rfl) (by (intro Y hSw; have q := hc2 Y hSw; go_simp)) (by assumption) ?_
  simp only [List.set_cons_zero, List.set_cons_succ]
  refine wpAnyH_all (rs := [1]) (by kernel_rfl) (by simp) ?_
  intro i hi; obtain rfl : i = 1 := by simpa using hi
  refine wpOp_step rfl (fun Kz hKz => ?_)
  rw [if_pos (by kernel_rfl)]
  go_simp
  go_at_call 20
  refine (byS X v0).mono ?_
  rintro e v1 ⟨aD, cD, rfl, OD, kq⟩
  have hb1 : Below u1.heap.size u1 v1 := hb0.trans (kq.mono hb0.size)
  refine hKz _ _ ⟨hb1, ?_⟩
  clear hKz Kz hi kq hb0
  have hc1 := conv_view (cap := cD) (bV OD.view.2) (byB_bd X)
  refine wpAnyH_all (rs := [2]) (by kernel_rfl) (by simp) ?_
  intro i hi; obtain rfl : i = 2 := by simpa using hi
  refine wpOp_step rfl (fun Kz hKz => ?_)
  rw [if_pos (by kernel_rfl)]
  go_simp
  refine hKz _ _ ⟨hb1, ?_⟩
  clear hKz Kz hi
  have hq := txt_eq (byB_bd X) hb
  have R9 := RR.below (n := u1.heap.size) (hb1) (by omega)
  have X9 := XY.below hb1 lX
  have B9 := BB.trans (hb1.mono (by omega))
  clear hc1 hc2 OD V4 RR XY BB hv
  obtain ⟨⟨r0, r1, r2, r3, r4, r5, r6, r7, r8, r9, r10⟩, hfr⟩ := R9
  obtain ⟨f0, f1, f2, f3, f4, f5, f6, f7, f8, f9, f10⟩ : v1.frozen? ⟨w.heap.size, 0, none⟩ = false ∧ v1.frozen? ⟨w.heap.size, 1, none⟩ = false ∧ v1.frozen? ⟨w.heap.size, 2, none⟩ = false ∧ v1.frozen? ⟨w.heap.size, 3, none⟩ = false ∧ v1.frozen? ⟨w.heap.size, 4, none⟩ = false ∧ v1.frozen? ⟨w.heap.size, 5, none⟩ = false ∧ v1.frozen? ⟨w.heap.size, 6, none⟩ = false ∧ v1.frozen? ⟨w.heap.size, 7, none⟩ = false ∧ v1.frozen? ⟨w.heap.size, 8, none⟩ = false ∧ v1.frozen? ⟨w.heap.size, 9, none⟩ = false ∧ v1.frozen? ⟨w.heap.size, 10, none⟩ = false := ⟨hfr 0, hfr 1, hfr 2, hfr 3, hfr 4, hfr 5, hfr 6, hfr 7, hfr 8, hfr 9, hfr 10⟩
  clear hfr
  obtain ⟨⟨q0, q1, q2, q3, q4, q5, q6, q7, q8, q9, q10⟩, _⟩ := X9
  by_cases hd : byB X = L
  · have e3 : Hid (outS L = (X, true)) := e1.out hd
    rw [decide_eq_true hd] at hq
    clear e1 e2 hd
    refine takeW 5 86 (.bool false) rfl rfl (by kernel_rfl) (by kernel_rfl) (by kernel_rfl) (fun _ _ _ h => h) (by kernel_rfl) (by (intro w hSw; go_simp)) (by assumption) ?_
    simp only [List.set_cons_zero, List.set_cons_succ]
    refine wpAnyH_done (by kernel_rfl) ?_ _
    go_wp2
    refine bodyPost_ret (v := .tuple #[.agg #[.bool X.ch, .bool X.ak, .bool X.ag, .bool X.le, .bool X.op, .int .i64 X.ro, .int .i64 X.r, .int .i64 X.c, .int .i64 X.b, .int .i64 X.p, .int .i64 X.h], .bool true]) (by simp [results, Try.results14, go_sem, *]) rfl ⟨by rw [e3.out]; rfl, ?_⟩
    repeat' (first | with_reducible exact B9 | refine Below.setCell ?_ (by show w.heap.size ≤ w.heap.size; exact Nat.le_refl _) _)
  · have e3 : Hid (outS L = (bpNil, false)) := e2.out hd
    rw [decide_eq_false hd] at hq
    clear e1 e2 hd
    refine takeW 5 86 (.bool true) rfl rfl (by kernel_rfl) (by kernel_rfl) (by kernel_rfl) (fun _ _ _ h => h) (by kernel_rfl) (by (intro w hSw; go_simp)) (by assumption) ?_
    simp only [List.set_cons_zero, List.set_cons_succ]
    refine wpAnyH_done (by kernel_rfl) ?_ _
    go_wp2
    refine bodyPost_ret (v := .tuple #[.agg #[.bool false, .bool false, .bool false, .bool false, .bool false, .int .i64 0, .int .i64 0, .int .i64 0, .int .i64 0, .int .i64 0, .int .i64 0], .bool false]) (by simp [results, Try.results14, go_sem, *]) rfl ⟨by rw [e3.out]; rfl, ?_⟩
    repeat' (first | with_reducible exact B9 | refine Below.setCell ?_ (by show w.heap.size ≤ w.heap.size; exact Nat.le_refl _) _)

end Go.Proofs.Ytlgcjhebbmejaaa
