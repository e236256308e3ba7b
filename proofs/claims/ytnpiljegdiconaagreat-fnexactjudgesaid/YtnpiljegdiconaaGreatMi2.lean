/- Minders: how they come in, copied, compared. -/
import Derived.Test.YtnpiljegdiconaaGreatRows
import Derived.WalkKit
import Derived.ProofKit
import Derived.OpenShut
import Derived.ShutString
import Derived.ChangeOld
import Derived.Below
import Derived.Deep.QuietTactic
import Derived.BigQuiet
import Derived.WalkSmall
import Derived.Laws.OwnMore
import Derived.WalkSpells
import Derived.WalkLawsBesides
import Derived.Lib.SmallJoins
import Derived.Test.YtnpiljegdiconaaGreatMi1
import Derived.Test.YtnpiljegdiconaaGreatIs2
import Derived.Test.YtnpiljegdiconaaGreatIs3
namespace Go.Proofs.YtnpiljegdiconaaGreat
open Go.ChangeShapes Go.WideShapes Go.ChangeAt Go.RowKit
open Go.ChangeMaps (open_string shut_string)
set_option linter.unusedVariables false
set_option maxRecDepth 100000

/-- What is known of a minder that comes in. -/
structure MiIn (w : World) (ad : Option Addr) (cap : Nat) (m : Mi) : Prop where
  lm : m.lg.length ≤ maxLen
  hv : FView ikEnc w ad m.lg
  hn : ad = none → cap = 0
set_option maxRecDepth 100000 in
theorem miIn_open {H : Type} {enc : TypeId × Value → H} {w : World} {r : Reach} {b0 : Nat} {v : Value} {d : DataW H} {p : List MemPlace} (hv : Value.okWide Tryz.prog w r b0 191 v) (h : DataW.Trod enc Tryz.prog w 0 (fun _ => true) true 191 v d p) :
    ∃ m ad cap, v = .agg #[.bool (Mi.up m), .int .i64 (Mi.li m), .int .i64 (Mi.ep m), .slice ad (Mi.lg m).length cap, .int .i64 (Mi.sd m), .int .i64 (Mi.ac m), .int .i64 (Mi.al m)] ∧ MiIn w ad cap m := by
  obtain ⟨cs, rfl, hsz⟩ := okWide_struct Tryz.underlying191 hv
  rw [(by kernel_rfl : Tryz.prog.cellsOf 191 = 7)] at hsz
  obtain ⟨cs⟩ := cs
  obtain ⟨fuel, hf0⟩ := h
  simp only [Value.cells] at hf0
  have hlen : cs.length = 7 := by simpa using hsz
  obtain ⟨xs, k, hk, hxy, _, hxl, hf⟩ := DataW.trod_struct Tryz.underlying191 hf0
  match xs, hxl, cs, hlen with
  | [y0, y1, y2, y3, y4, y5, y6], _, [c0, c1, c2, c3, c4, c5, c6], _ =>
    have g0 : DataW.trod enc Tryz.prog w 0 (fun _ => true) true k 4 ((List.drop 0 [c0, c1, c2, c3, c4, c5, c6]).take (Tryz.prog.cellsOf 4)) = some y0 := hf 0 _ rfl
    rw [(by kernel_rfl : Tryz.prog.cellsOf 4 = 1)] at g0
    have g1 : DataW.trod enc Tryz.prog w 0 (fun _ => true) true k 3 ((List.drop 1 [c0, c1, c2, c3, c4, c5, c6]).take (Tryz.prog.cellsOf 3)) = some y1 := hf 1 _ rfl
    rw [(by kernel_rfl : Tryz.prog.cellsOf 3 = 1)] at g1
    have g2 : DataW.trod enc Tryz.prog w 0 (fun _ => true) true k 3 ((List.drop 2 [c0, c1, c2, c3, c4, c5, c6]).take (Tryz.prog.cellsOf 3)) = some y2 := hf 2 _ rfl
    rw [(by kernel_rfl : Tryz.prog.cellsOf 3 = 1)] at g2
    have g3 : DataW.trod enc Tryz.prog w 0 (fun _ => true) true k 67 ((List.drop 3 [c0, c1, c2, c3, c4, c5, c6]).take (Tryz.prog.cellsOf 67)) = some y3 := hf 3 _ rfl
    rw [(by kernel_rfl : Tryz.prog.cellsOf 67 = 1)] at g3
    have g4 : DataW.trod enc Tryz.prog w 0 (fun _ => true) true k 3 ((List.drop 4 [c0, c1, c2, c3, c4, c5, c6]).take (Tryz.prog.cellsOf 3)) = some y4 := hf 4 _ rfl
    rw [(by kernel_rfl : Tryz.prog.cellsOf 3 = 1)] at g4
    have g5 : DataW.trod enc Tryz.prog w 0 (fun _ => true) true k 3 ((List.drop 5 [c0, c1, c2, c3, c4, c5, c6]).take (Tryz.prog.cellsOf 3)) = some y5 := hf 5 _ rfl
    rw [(by kernel_rfl : Tryz.prog.cellsOf 3 = 1)] at g5
    have g6 : DataW.trod enc Tryz.prog w 0 (fun _ => true) true k 3 ((List.drop 6 [c0, c1, c2, c3, c4, c5, c6]).take (Tryz.prog.cellsOf 3)) = some y6 := hf 6 _ rfl
    rw [(by kernel_rfl : Tryz.prog.cellsOf 3 = 1)] at g6
    obtain ⟨z0, e0, _⟩ := DataW.trod_bool Tryz.underlying4 g0
    obtain ⟨z1, e1, _, _⟩ := DataW.trod_int Tryz.underlying3 g1
    obtain ⟨z2, e2, _, _⟩ := DataW.trod_int Tryz.underlying3 g2
    obtain ⟨z4, e4, _, _⟩ := DataW.trod_int Tryz.underlying3 g4
    obtain ⟨z5, e5, _, _⟩ := DataW.trod_int Tryz.underlying3 g5
    obtain ⟨z6, e6, _, _⟩ := DataW.trod_int Tryz.underlying3 g6
    simp at e0 e1 e2 e4 e5 e6
    subst e0 e1 e2 e4 e5 e6
    obtain ⟨ad, cap, L, e3, m, hV, hn⟩ := ikRow_open g3
    subst e3
    exact ⟨⟨z0, z1, z2, L, z4, z5, z6⟩, ad, cap, rfl, m, hV, hn⟩
theorem miSz (m : Mi) (ad : Option Addr) (cap : Nat) (left : Int) (w : World) (h0 : 0 ≤ left) (h1 : left ≤ 1048576) (hm : m.lg.length ≤ maxLen) :
    Calls Tryz.prog 160 #[.agg #[.bool m.up, .int .i64 m.li, .int .i64 m.ep, .slice ad m.lg.length cap, .int .i64 m.sd, .int .i64 m.ac, .int .i64 m.al], .int .i64 left] w fun e w' => e = .returned (.int .i64 (if (m.lg.length : Int) ≤ left then left - m.lg.length else -1)) ∧ Below w.heap.size w w' := by
  have B0 := below_new (w := w) (Obj.cells #[.bool m.up, .int .i64 m.li, .int .i64 m.ep, .slice ad m.lg.length cap, .int .i64 m.sd, .int .i64 m.ac, .int .i64 m.al] 191)
  by_cases h : (m.lg.length : Int) ≤ left
  · rw [if_pos h]
    have h2 : 0 ≤ left - (m.lg.length : Int) := by omega
    go_enter Tryz.func160, Tryz.ntmps160
    go_wp2_with fail
    go_at_call 108
    refine (ikSz ad m.lg.length cap left _ h0 h1 hm).mono ?_
    rintro e w1 ⟨rfl, rfl⟩
    rw [if_pos h]
    go_wp2
    go_ret
    exact ⟨rfl, B0⟩
  · rw [if_neg h]
    go_enter Tryz.func160, Tryz.ntmps160
    go_wp2_with fail
    go_at_call 108
    refine (ikSz ad m.lg.length cap left _ h0 h1 hm).mono ?_
    rintro e w1 ⟨rfl, rfl⟩
    rw [if_neg (by omega)]
    go_wp2
    go_ret
    exact ⟨rfl, B0⟩
set_option maxHeartbeats 2000000 in
theorem miTo (m : Mi) (ad : Option Addr) (cap : Nat) (w : World) (hv : FView ikEnc w ad m.lg) (hl : m.lg.length ≤ 1048576) :
    Calls Tryz.prog 161 #[.agg #[.bool m.up, .int .i64 m.li, .int .i64 m.ep, .slice ad m.lg.length cap, .int .i64 m.sd, .int .i64 m.ac, .int .i64 m.al]] w fun e w' => ∃ g, e = .returned (.agg #[.bool m.up, .int .i64 m.li, .int .i64 m.ep, .slice (some ⟨g, 0, none⟩) m.lg.length m.lg.length, .int .i64 m.sd, .int .i64 m.ac, .int .i64 m.al]) ∧ w.heap.size ≤ g ∧ g < w'.heap.size ∧ FOwn ikEnc 8 105 w.heap.size w' (.slice (some ⟨g, 0, none⟩) m.lg.length m.lg.length) m.lg ∧ Below w.heap.size w w' := by
  have hB := hv.lt ikEnc_len (by omega)
  obtain ⟨y, hy⟩ : ∃ y, y = ((w.alloc (Obj.cells #[.bool m.up, .int .i64 m.li, .int .i64 m.ep, .slice ad m.lg.length cap, .int .i64 m.sd, .int .i64 m.ac, .int .i64 m.al] 191)).alloc (Obj.cells #[.bool false, .int .i64 0, .int .i64 0, .slice none 0 0, .int .i64 0, .int .i64 0, .int .i64 0] 28)).alloc (Obj.cells #[.bool m.up, .int .i64 m.li, .int .i64 m.ep, .slice none 0 0, .int .i64 0, .int .i64 0, .int .i64 0] 28) := ⟨_, rfl⟩
  have B0 : Below w.heap.size w y := by rw [hy]; exact (((Below.refl _ _).alloc (Nat.le_refl _) _).alloc (by simp) _).alloc (by simp; omega) _
  have A0 : MiAt y w.heap.size m (.slice ad m.lg.length cap) := by rw [hy]; constructor <;> simp [go_sem]
  have A1 : MiBox y (w.heap.size + 1) ⟨false, 0, 0, [], 0, 0, 0⟩ (.slice none 0 0) := by rw [hy]; constructor <;> simp [go_sem]
  have A2 : MiBox y (w.heap.size + 1 + 1) ⟨m.up, m.li, m.ep, [], 0, 0, 0⟩ (.slice none 0 0) := by rw [hy]; constructor <;> simp [go_sem]
  have S0 := A2.lt
  go_enter Tryz.func161, Tryz.ntmps161
  go_wp2_with fail
  go_at_call 114
  rw [← hy]
  clear hy
  refine (ikToS ad cap m.lg y (hv.below B0 hB) hl).mono ?_
  rintro e w1 ⟨rfl, O1, k1⟩
  generalize hg : y.heap.size = g at O1 k1 S0 ⊢
  have hgs : g < w1.heap.size := (O1.lt g rfl).2
  have B1 := B0.trans (k1.mono (by omega))
  have A0 := A0.below k1 (by omega)
  have A1 := A1.below k1 (by omega)
  have A2 := A2.below k1 (by omega)
  have hg' : w.heap.size + 1 + 1 < g := S0
  have O1 : FOwn ikEnc 8 105 w.heap.size w1 (.slice (some ⟨g, 0, none⟩) m.lg.length m.lg.length) m.lg := O1.base (by omega)
  clear hg k1 B0 hv hB
  obtain ⟨z0, z1, z2, z3, z4, z5, z6⟩ := A0
  obtain ⟨a0, a1, a2, a3, a4, a5, a6, F1⟩ := A1
  obtain ⟨c0, c1, c2, c3, c4, c5, c6, F2⟩ := A2
  dsimp only at a0 a1 a2 a4 a5 a6 c0 c1 c2 c4 c5 c6
  have f10 := F1 0
  have f11 := F1 1
  have f12 := F1 2
  have f13 := F1 3
  have f14 := F1 4
  have f15 := F1 5
  have f16 := F1 6
  have f23 := F2 3
  have f24 := F2 4
  have f25 := F2 5
  have f26 := F2 6
  have B3 : Below w.heap.size w ((((((((((((w1.setCell ⟨w.heap.size + 1 + 1, 3, none⟩ (.slice (some ⟨g, 0, none⟩) m.lg.length m.lg.length)).setCell ⟨w.heap.size + 1 + 1, 4, none⟩ (.int .i64 m.sd)).setCell ⟨w.heap.size + 1 + 1, 5, none⟩ (.int .i64 m.ac)).setCell ⟨w.heap.size + 1 + 1, 6, none⟩ (.int .i64 m.al)).setCell ⟨w.heap.size + 1, 0, none⟩ (.bool m.up)).setCell ⟨w.heap.size + 1, 1, none⟩ (.int .i64 m.li)).setCell ⟨w.heap.size + 1, 2, none⟩ (.int .i64 m.ep)).setCell ⟨w.heap.size + 1, 3, none⟩ (.slice (some ⟨g, 0, none⟩) m.lg.length m.lg.length)).setCell ⟨w.heap.size + 1, 4, none⟩ (.int .i64 m.sd)).setCell ⟨w.heap.size + 1, 5, none⟩ (.int .i64 m.ac)).setCell ⟨w.heap.size + 1, 6, none⟩ (.int .i64 m.al))) := (((((((((((B1.setCell (by show _ ≤ w.heap.size + 1 + 1; omega) _).setCell (by show _ ≤ w.heap.size + 1 + 1; omega) _).setCell (by show _ ≤ w.heap.size + 1 + 1; omega) _).setCell (by show _ ≤ w.heap.size + 1 + 1; omega) _).setCell (by show _ ≤ w.heap.size + 1; omega) _).setCell (by show _ ≤ w.heap.size + 1; omega) _).setCell (by show _ ≤ w.heap.size + 1; omega) _).setCell (by show _ ≤ w.heap.size + 1; omega) _).setCell (by show _ ≤ w.heap.size + 1; omega) _).setCell (by show _ ≤ w.heap.size + 1; omega) _).setCell (by show _ ≤ w.heap.size + 1; omega) _)
  have O3 : FOwn ikEnc 8 105 w.heap.size ((((((((((((w1.setCell ⟨w.heap.size + 1 + 1, 3, none⟩ (.slice (some ⟨g, 0, none⟩) m.lg.length m.lg.length)).setCell ⟨w.heap.size + 1 + 1, 4, none⟩ (.int .i64 m.sd)).setCell ⟨w.heap.size + 1 + 1, 5, none⟩ (.int .i64 m.ac)).setCell ⟨w.heap.size + 1 + 1, 6, none⟩ (.int .i64 m.al)).setCell ⟨w.heap.size + 1, 0, none⟩ (.bool m.up)).setCell ⟨w.heap.size + 1, 1, none⟩ (.int .i64 m.li)).setCell ⟨w.heap.size + 1, 2, none⟩ (.int .i64 m.ep)).setCell ⟨w.heap.size + 1, 3, none⟩ (.slice (some ⟨g, 0, none⟩) m.lg.length m.lg.length)).setCell ⟨w.heap.size + 1, 4, none⟩ (.int .i64 m.sd)).setCell ⟨w.heap.size + 1, 5, none⟩ (.int .i64 m.ac)).setCell ⟨w.heap.size + 1, 6, none⟩ (.int .i64 m.al))) (.slice (some ⟨g, 0, none⟩) m.lg.length m.lg.length) m.lg := O1.keep fun g' e => by
    obtain rfl : g = g' := by simpa [Value.ownBlock] using e
    rw [Below.heap_setCell _ _ _ _ (by show g ≠ w.heap.size + 1; omega), Below.heap_setCell _ _ _ _ (by show g ≠ w.heap.size + 1; omega), Below.heap_setCell _ _ _ _ (by show g ≠ w.heap.size + 1; omega), Below.heap_setCell _ _ _ _ (by show g ≠ w.heap.size + 1; omega), Below.heap_setCell _ _ _ _ (by show g ≠ w.heap.size + 1; omega), Below.heap_setCell _ _ _ _ (by show g ≠ w.heap.size + 1; omega), Below.heap_setCell _ _ _ _ (by show g ≠ w.heap.size + 1; omega), Below.heap_setCell _ _ _ _ (by show g ≠ w.heap.size + 1 + 1; omega), Below.heap_setCell _ _ _ _ (by show g ≠ w.heap.size + 1 + 1; omega), Below.heap_setCell _ _ _ _ (by show g ≠ w.heap.size + 1 + 1; omega), Below.heap_setCell _ _ _ _ (by show g ≠ w.heap.size + 1 + 1; omega)]
  clear F1 F2
  go_wp2
  refine bodyPost_ret (v := .agg #[.bool m.up, .int .i64 m.li, .int .i64 m.ep, .slice (some ⟨g, 0, none⟩) m.lg.length m.lg.length, .int .i64 m.sd, .int .i64 m.ac, .int .i64 m.al]) (by simp [results, Tryz.results161, go_sem, *]) rfl ⟨g, rfl, by omega, by simpa using hgs, O3, B3⟩
theorem miEq (m : Mi) (ad ad' : Option Addr) (cap cap' : Nat) (w : World) (hv : FView ikEnc w ad m.lg) (hv' : FView ikEnc w ad' m.lg) (hl : m.lg.length ≤ 1048576) :
    Calls Tryz.prog 165 #[.agg #[.bool m.up, .int .i64 m.li, .int .i64 m.ep, .slice ad m.lg.length cap, .int .i64 m.sd, .int .i64 m.ac, .int .i64 m.al], .agg #[.bool m.up, .int .i64 m.li, .int .i64 m.ep, .slice ad' m.lg.length cap', .int .i64 m.sd, .int .i64 m.ac, .int .i64 m.al]] w fun e w' => e = .returned (.bool true) ∧ Below w.heap.size w w' := by
  have hB := hv.lt ikEnc_len (by omega)
  have hB' := hv'.lt ikEnc_len (by omega)
  obtain ⟨y, hy⟩ : ∃ y, y = (w.alloc (Obj.cells #[.bool m.up, .int .i64 m.li, .int .i64 m.ep, .slice ad m.lg.length cap, .int .i64 m.sd, .int .i64 m.ac, .int .i64 m.al] 28)).alloc (Obj.cells #[.bool m.up, .int .i64 m.li, .int .i64 m.ep, .slice ad' m.lg.length cap', .int .i64 m.sd, .int .i64 m.ac, .int .i64 m.al] 28) := ⟨_, rfl⟩
  have B0 : Below w.heap.size w y := by rw [hy]; exact ((Below.refl _ _).alloc (Nat.le_refl _) _).alloc (by simp) _
  have A0 : MiAt y w.heap.size m (.slice ad m.lg.length cap) := by rw [hy]; constructor <;> simp [go_sem]
  have A1 : MiAt y (w.heap.size + 1) m (.slice ad' m.lg.length cap') := by rw [hy]; constructor <;> simp [go_sem]
  have S1 := A1.lt
  go_enter Tryz.func165, Tryz.ntmps165
  go_wp2_with fail
  go_at_call 120
  rw [← hy]
  clear hy
  refine (ikEqS ad ad' cap cap' m.lg y (hv.below B0 hB) (hv'.below B0 hB') hl).mono ?_
  rintro e w1 ⟨rfl, k1⟩
  have B1 := B0.trans (k1.mono B0.size)
  have A0 := A0.below k1 (by omega)
  have A1 := A1.below k1 (by omega)
  clear k1 B0
  obtain ⟨a0, a1, a2, a3, a4, a5, a6⟩ := A0
  obtain ⟨b0, b1, b2, b3, b4, b5, b6⟩ := A1
  go_wp2
  go_ret
  exact ⟨rfl, B1⟩

end Go.Proofs.YtnpiljegdiconaaGreat
