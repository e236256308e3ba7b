/- The register at work: made, told, handed on; a minder that minds. (*minding).fits, walked. impl.isFallen, impl.MinderOk, walked. impl.RegOk, walked. impl.RegOk, impl.Minds, impl.mayPair, walked. impl.mindsAt, walked. slices.Clone of wires, flags and what is said, walked. spec.Note, walked. write, told, walked. impl.copiedBox, walked. impl.turnGates, walked. impl.saidBehind, walked. Boxes whose said is a piece of a list: marked. impl.Accept, walked. -/
import Derived.Test.YtijhpfccjaaalaaGreatZa2
import Derived.Test.YtijhpfccjaaalaaGreatRows
import Derived.WalkKit
import Derived.ProofKit
import Derived.OpenShut
import Derived.ShutString
import Derived.ChangeOld
import Derived.Below
import Derived.Deep.QuietTactic
import Derived.BigQuiet
import Derived.WalkSmall
import Derived.Laws.OwnMore
import Derived.WalkSpells
import Derived.WalkLawsBesides
import Derived.Deep.Cut
import Derived.Conc.MuLone
import Derived.Test.YtijhpfccjaaalaaGreatTakes
import Derived.Test.YtijhpfccjaaalaaGreatZa1
import Derived.Laws.StructEq
import Derived.Maps.AppendAt
import Derived.Lib.AppendZeros
namespace Go.Proofs.YtijhpfccjaaalaaGreat
open Go.ChangeShapes Go.WideShapes Go.ChangeAt Go.RowKit
open Go.ChangeMaps (open_string shut_string)
set_option linter.unusedVariables false
set_option maxRecDepth 100000

open Go.MuLone
/-- A region that does not panic, whatever is asked where it does. -/
theorem dropQ {P : Program} {reg : Code} {K : Act → World → Prop} {Q : Exit → Act → World → Prop} {a : Act} {W : World} (h : Code.wp P reg (Exit.then K (fun _ _ _ => False)) a W) : Code.wp P reg (Exit.then K Q) a W :=
  Code.wp_mono (fun e a w h => by cases e <;> first | exact h | exact (h : False).elim) h
set_option maxHeartbeats 2000000 in
theorem regOfI (r : Rg) (w : World) :
    Calls Tryz.prog 33 #[.agg #[.int .i64 r.ep, .int .i64 r.ow, .int .i64 r.pa]] w fun e w' => ∃ q, e = .returned (.pointer (some ⟨q, 0, none⟩)) ∧ GBox w' q 0 r ∧ w.heap.size < q ∧ Below w.heap.size w w' := by
  obtain ⟨y, hy⟩ : ∃ y, y = (w.alloc (Obj.cells #[.int .i64 r.ep, .int .i64 r.ow, .int .i64 r.pa] 25)).alloc (Obj.cells #[.int .i64 0, .int .i32 0, .int .u32 0, .int .i64 r.ow, .int .i64 r.pa] 132) := ⟨_, rfl⟩
  have B0 : Below w.heap.size w y := by rw [hy]; exact ((Below.refl _ _).alloc (Nat.le_refl _) _).alloc (by simp) _
  have A : RgAt y w.heap.size r := by rw [hy]; constructor <;> simp [go_sem]
  have G : GBox y (w.heap.size + 1) 0 ⟨0, r.ow, r.pa⟩ := by rw [hy]; constructor <;> simp [go_sem]
  go_enter Tryz.func33, Tryz.ntmps33
  go_upto_region 2 with fail
  rw [← hy]
  clear hy
  refine wp_region_held (S := fun Y => RgAt Y w.heap.size r) (by kernel_rfl) ?_
  change wpAnyH _ _ _ _ _ _ _ _ (World.drew _)
  have kd : Below y.heap.size y y.drew := (Below.refl _ _).drew
  obtain ⟨u0, hu0⟩ : ∃ y_, y_ = y.drew := ⟨_, rfl⟩
  rw [← hu0] at kd ⊢
  clear hu0
  have hs0 : RgAt u0 w.heap.size r := A.below kd A.lt
  have G0 := G.below kd G.lt
  refine takeW 0 10 (.pointer (some ⟨w.heap.size + 1, 0, none⟩)) rfl rfl (by kernel_rfl) (by kernel_rfl) (by kernel_rfl) (fun _ _ _ h => h) (by kernel_rfl) (by (intro w hSw; go_simp)) (by assumption) ?_
  simp only [List.set_cons_zero, List.set_cons_succ]
  refine takeW 1 11 (.pointer (some ⟨w.heap.size + 1, 0, none⟩)) rfl rfl (by kernel_rfl) (by kernel_rfl) (by kernel_rfl) (fun _ _ _ h => h) (by kernel_rfl) (by (intro w hSw; go_simp)) (by assumption) ?_
  simp only [List.set_cons_zero, List.set_cons_succ]
  refine takeW 2 12 (.pointer (some ⟨w.heap.size + 1, 0, none⟩)) rfl rfl (by kernel_rfl) (by kernel_rfl) (by kernel_rfl) (fun _ _ _ h => h) (by kernel_rfl) (by (intro w hSw; go_simp)) (by assumption) ?_
  simp only [List.set_cons_zero, List.set_cons_succ]
  refine takeW 3 13 (.pointer (some ⟨w.heap.size, 0, none⟩)) rfl rfl (by kernel_rfl) (by kernel_rfl) (by kernel_rfl) (fun _ _ _ h => h) (by kernel_rfl) (by (intro w hSw; go_simp)) (by assumption) ?_
  simp only [List.set_cons_zero, List.set_cons_succ]
  refine takeW 4 14 (.int .i64 r.ep) rfl rfl (by kernel_rfl) (by kernel_rfl) (by kernel_rfl) (fun _ _ _ h => h) (by kernel_rfl) (by (intro Y hSw; obtain ⟨X0, X1, X2⟩ := hSw; go_simp)) (by assumption) ?_
  simp only [List.set_cons_zero, List.set_cons_succ]
  refine wpAnyH_all (rs := [5]) (by kernel_rfl) (by simp) ?_
  intro i hi; obtain rfl : i = 5 := by simpa using hi
  refine wpOp_step rfl (fun Kz hKz => ?_)
  rw [if_pos (by kernel_rfl)]
  go_simp
  go_at_call 85
  refine (storeG r.ep _ (w.heap.size + 1) u0 G0.c0 (G0.fr 0)).mono ?_
  rintro e u1 ⟨rfl, hu1⟩
  have G1 : GBox u1 (w.heap.size + 1) 0 r := by rw [hu1]; exact G0.setEp r.ep
  have hs1 : RgAt u1 w.heap.size r := hs0.keep (by rw [hu1]; exact Below.heap_setCell _ _ _ _ (by show w.heap.size ≠ w.heap.size + 1; omega))
  have B1 : Below w.heap.size w u1 := by rw [hu1]; exact (B0.trans (kd.mono B0.size)).setCell (p := ⟨w.heap.size + 1, 0, none⟩) (by show _ ≤ w.heap.size + 1; omega) _
  clear hu1
  refine hKz _ _ ⟨hs1, ?_⟩
  clear hKz Kz hi
  refine wpAnyH_done (by kernel_rfl) ?_ _
  go_wp2
  go_ret
  exact ⟨_, rfl, G1, by omega, B1⟩
theorem RgBox.set0 {w : World} {q : Nat} {r : Rg} (h : RgBox w q r) (x : Int) : RgBox (w.setCell ⟨q, 0, none⟩ (.int .i64 x)) q ⟨x, r.ow, r.pa⟩ := by
  obtain ⟨⟨h0, h1, h2⟩, hf⟩ := h
  exact ⟨⟨pset_same h0, (pset_else (by decide)).trans h1, (pset_else (by decide)).trans h2⟩, fun i => by rw [World.frozen?_setCell]; exact hf i⟩
theorem RgBox.set1 {w : World} {q : Nat} {r : Rg} (h : RgBox w q r) (x : Int) : RgBox (w.setCell ⟨q, 1, none⟩ (.int .i64 x)) q ⟨r.ep, x, r.pa⟩ := by
  obtain ⟨⟨h0, h1, h2⟩, hf⟩ := h
  exact ⟨⟨(pset_else (by decide)).trans h0, pset_same h1, (pset_else (by decide)).trans h2⟩, fun i => by rw [World.frozen?_setCell]; exact hf i⟩
theorem RgBox.set2 {w : World} {q : Nat} {r : Rg} (h : RgBox w q r) (x : Int) : RgBox (w.setCell ⟨q, 2, none⟩ (.int .i64 x)) q ⟨r.ep, r.ow, x⟩ := by
  obtain ⟨⟨h0, h1, h2⟩, hf⟩ := h
  exact ⟨⟨(pset_else (by decide)).trans h0, (pset_else (by decide)).trans h1, pset_same h2⟩, fun i => by rw [World.frozen?_setCell]; exact hf i⟩
/-- A block that is new may be written. -/
theorem Turned.setHi {q p : Nat} {o : Option Nat} {w w' : World} (h : Turned q o w w') (hp : w.heap.size ≤ p) (i : Nat) (v : Value) : Turned q o w (w'.setCell ⟨p, i, none⟩ v) :=
  ⟨h.os, h.tape, h.output, by have := h.size; simpa using this, fun k hk h1 h2 => (Below.heap_setCell _ _ _ _ (by show k ≠ p; omega)).trans (h.block k hk h1 h2)⟩
set_option maxHeartbeats 4000000 in
theorem gToldI (r : Rg) (q : Nat) (w : World) (G : GBox w q 0 r) :
    Calls Tryz.prog 39 #[.pointer (some ⟨q, 0, none⟩)] w fun e w' => e = .returned (.agg #[.int .i64 r.ep, .int .i64 r.ow, .int .i64 r.pa]) ∧ GBox w' q 0 r ∧ Turned q none w w' := by
  have lq := G.lt
  obtain ⟨y, hy⟩ : ∃ y, y = w.alloc (Obj.cells #[.int .i64 0, .int .i64 0, .int .i64 0] 25) := ⟨_, rfl⟩
  have T0 : Turned q none w y := by
    rw [hy]
    have B : Below w.heap.size w (w.alloc (Obj.cells #[.int .i64 0, .int .i64 0, .int .i64 0] 25)) := below_new _
    exact ⟨B.os, B.tape, B.output, B.size, fun k hk _ _ => B.block k hk⟩
  have Z : RgBox y w.heap.size ⟨0, 0, 0⟩ := by rw [hy]; refine ⟨?_, fun i => ?_⟩; constructor <;> simp [go_sem]; simp [go_sem]
  have G : GBox y q 0 r := by rw [hy]; exact G.below (below_new _) lq
  go_enter_defers Tryz.func39, Tryz.ntmps39
  go_wp2_with fail
  go_at_call 89
  rw [← hy]
  clear hy
  refine (lock_free Tryz.muLib ⟨q, 1, none⟩ y G.c1 (G.fr 1)).mono ?_
  rintro e w' ⟨rfl, rfl⟩
  obtain ⟨v, hv⟩ : ∃ v, v = y.setCell ⟨q, 1, none⟩ (.int .i32 1) := ⟨_, rfl⟩
  have G1 : GBox v q 1 r := by rw [hv]; exact G.lock 1
  have T1 : Turned q none w v := by rw [hv]; exact T0.set 1 _
  have Z1 : RgBox v w.heap.size ⟨0, 0, 0⟩ := by rw [hv]; exact Z.keep (Below.heap_setCell _ _ _ _ (by show w.heap.size ≠ q; omega))
  have sv : y.heap.size ≤ v.heap.size := by rw [hv]; simp
  rw [← hv]
  clear hv G Z
  go_upto_region 3 with fail
  refine dropQ ?_
  refine wp_region_held (S := fun Y => GBox Y q 1 r) (by kernel_rfl) ?_
  change wpAnyH _ _ _ _ _ _ _ _ (World.drew _)
  have kd : Below v.heap.size v v.drew := (Below.refl _ _).drew
  obtain ⟨u0, hu0⟩ : ∃ y_, y_ = v.drew := ⟨_, rfl⟩
  rw [← hu0] at kd ⊢
  clear hu0
  have hs0 : GBox u0 q 1 r := G1.below kd G1.lt
  have Z0 := Z1.below kd Z1.lt
  have Td : Turned q none w u0 := ⟨kd.os.trans T1.os, kd.tape.trans T1.tape, kd.output.trans T1.output, Nat.le_trans T1.size kd.size, fun k hk h1 h2 => (kd.block k (by have := T1.size; omega)).trans (T1.block k hk h1 h2)⟩
  refine takeW 0 10 (.pointer (some ⟨q, 0, none⟩)) rfl rfl (by kernel_rfl) (by kernel_rfl) (by kernel_rfl) (fun _ _ _ h => h) (by kernel_rfl) (by (intro w hSw; go_simp)) (by assumption) ?_
  simp only [List.set_cons_zero, List.set_cons_succ]
  refine takeW 2 12 (.pointer (some ⟨q, 0, none⟩)) rfl rfl (by kernel_rfl) (by kernel_rfl) (by kernel_rfl) (fun _ _ _ h => h) (by kernel_rfl) (by (intro w hSw; go_simp)) (by assumption) ?_
  simp only [List.set_cons_zero, List.set_cons_succ]
  refine takeW 3 13 (.pointer (some ⟨q, 0, none⟩)) rfl rfl (by kernel_rfl) (by kernel_rfl) (by kernel_rfl) (fun _ _ _ h => h) (by kernel_rfl) (by (intro w hSw; go_simp)) (by assumption) ?_
  simp only [List.set_cons_zero, List.set_cons_succ]
  refine takeW 4 14 (.pointer (some ⟨q, 3, none⟩)) rfl rfl (by kernel_rfl) (by kernel_rfl) (by kernel_rfl) (fun _ _ _ h => h) (by kernel_rfl) (by (intro w hSw; go_simp)) (by assumption) ?_
  simp only [List.set_cons_zero, List.set_cons_succ]
  refine takeW 5 15 (.int .i64 r.ow) rfl rfl (by kernel_rfl) (by kernel_rfl) (by kernel_rfl) (fun _ _ _ h => h) (by kernel_rfl) (by (intro Y hSw; obtain ⟨X0, X1, X2, X3, X4, XF⟩ := hSw; go_simp)) (by assumption) ?_
  simp only [List.set_cons_zero, List.set_cons_succ]
  refine takeW 6 16 (.pointer (some ⟨q, 0, none⟩)) rfl rfl (by kernel_rfl) (by kernel_rfl) (by kernel_rfl) (fun _ _ _ h => h) (by kernel_rfl) (by (intro w hSw; go_simp)) (by assumption) ?_
  simp only [List.set_cons_zero, List.set_cons_succ]
  refine takeW 7 17 (.pointer (some ⟨q, 0, none⟩)) rfl rfl (by kernel_rfl) (by kernel_rfl) (by kernel_rfl) (fun _ _ _ h => h) (by kernel_rfl) (by (intro w hSw; go_simp)) (by assumption) ?_
  simp only [List.set_cons_zero, List.set_cons_succ]
  refine takeW 8 18 (.pointer (some ⟨q, 4, none⟩)) rfl rfl (by kernel_rfl) (by kernel_rfl) (by kernel_rfl) (fun _ _ _ h => h) (by kernel_rfl) (by (intro w hSw; go_simp)) (by assumption) ?_
  simp only [List.set_cons_zero, List.set_cons_succ]
  refine takeW 9 19 (.int .i64 r.pa) rfl rfl (by kernel_rfl) (by kernel_rfl) (by kernel_rfl) (fun _ _ _ h => h) (by kernel_rfl) (by (intro Y hSw; obtain ⟨X0, X1, X2, X3, X4, XF⟩ := hSw; go_simp)) (by assumption) ?_
  simp only [List.set_cons_zero, List.set_cons_succ]
  refine wpAnyH_all (rs := [1]) (by kernel_rfl) (by simp) ?_
  intro i hi; obtain rfl : i = 1 := by simpa using hi
  refine wpOp_step rfl (fun Kz hKz => ?_)
  rw [if_pos (by kernel_rfl)]
  go_simp
  go_at_call 38
  refine (epochI r.ep q u0 hs0.c0).mono ?_
  rintro e u1 ⟨rfl, rfl⟩
  refine hKz _ _ ⟨hs0, ?_⟩
  clear hKz Kz hi
  refine wpAnyH_all (rs := [10]) (by kernel_rfl) (by simp) ?_
  intro i hi; obtain rfl : i = 10 := by simpa using hi
  refine wpOp_step rfl (fun Kz hKz => ?_)
  rw [if_pos (by kernel_rfl)]
  have cc := Z0
  obtain ⟨⟨z0, z1, z2⟩, zf⟩ := cc
  have g0 := zf 0
  have g1 := zf 1
  have g2 := zf 2
  go_simp
  clear z0 z1 z2 zf g0 g1 g2
  obtain ⟨s0, hs⟩ : ∃ y_, y_ = (((u1.setCell ⟨w.heap.size, 0, none⟩ (.int .i64 0)).setCell ⟨w.heap.size, 1, none⟩ (.int .i64 0)).setCell ⟨w.heap.size, 2, none⟩ (.int .i64 0)) := ⟨_, rfl⟩
  have Zs0 : RgBox s0 w.heap.size ⟨0, 0, 0⟩ := by rw [hs]; exact Z0.put ⟨0, 0, 0⟩
  have Ss0 : GBox s0 q 1 r := hs0.keep (by rw [hs]; exact heap_put3 _ _ _ ⟨0, 0, 0⟩ (by omega))
  have Ts0 : Turned q none w s0 := by rw [hs]; exact ((Td.setHi (by omega) _ _).setHi (by omega) _ _).setHi (by omega) _ _
  rw [← hs]
  clear hs Z0
  refine hKz _ _ ⟨Ss0, ?_⟩
  clear hKz Kz hi
  refine takeW 11 20 (.pointer (some ⟨w.heap.size, 0, none⟩)) rfl rfl (by kernel_rfl) (by kernel_rfl) (by kernel_rfl) (fun _ _ _ h => h) (by kernel_rfl) (by (intro w hSw; go_simp)) (by assumption) ?_
  simp only [List.set_cons_zero, List.set_cons_succ]
  refine wpAnyH_all (rs := [12]) (by kernel_rfl) (by simp) ?_
  intro i hi; obtain rfl : i = 12 := by simpa using hi
  refine wpOp_step rfl (fun Kz hKz => ?_)
  rw [if_pos (by kernel_rfl)]
  have cc := Zs0
  obtain ⟨⟨z0, z1, z2⟩, zf⟩ := cc
  have g0 := zf 0
  have g1 := zf 1
  have g2 := zf 2
  go_simp
  clear z0 z1 z2 zf g0 g1 g2
  obtain ⟨s1, hs1⟩ : ∃ y_, y_ = s0.setCell ⟨w.heap.size, 0, none⟩ (.int .i64 r.ep) := ⟨_, rfl⟩
  have Zs1 : RgBox s1 w.heap.size ⟨r.ep, 0, 0⟩ := by rw [hs1]; exact Zs0.set0 _
  have Ss1 : GBox s1 q 1 r := Ss0.keep (by rw [hs1]; exact Below.heap_setCell _ _ _ _ (by show q ≠ w.heap.size; omega))
  have Ts1 : Turned q none w s1 := by rw [hs1]; exact Ts0.setHi (by omega) _ _
  rw [← hs1]
  clear hs1 Zs0
  refine hKz _ _ ⟨Ss1, ?_⟩
  clear hKz Kz hi
  refine takeW 13 21 (.pointer (some ⟨w.heap.size, 1, none⟩)) rfl rfl (by kernel_rfl) (by kernel_rfl) (by kernel_rfl) (fun _ _ _ h => h) (by kernel_rfl) (by (intro w hSw; go_simp)) (by assumption) ?_
  simp only [List.set_cons_zero, List.set_cons_succ]
  refine wpAnyH_all (rs := [14]) (by kernel_rfl) (by simp) ?_
  intro i hi; obtain rfl : i = 14 := by simpa using hi
  refine wpOp_step rfl (fun Kz hKz => ?_)
  rw [if_pos (by kernel_rfl)]
  have cc := Zs1
  obtain ⟨⟨z0, z1, z2⟩, zf⟩ := cc
  have g0 := zf 0
  have g1 := zf 1
  have g2 := zf 2
  go_simp
  clear z0 z1 z2 zf g0 g1 g2
  obtain ⟨s2, hs2⟩ : ∃ y_, y_ = s1.setCell ⟨w.heap.size, 1, none⟩ (.int .i64 r.ow) := ⟨_, rfl⟩
  have Zs2 : RgBox s2 w.heap.size ⟨r.ep, r.ow, 0⟩ := by rw [hs2]; exact Zs1.set1 _
  have Ss2 : GBox s2 q 1 r := Ss1.keep (by rw [hs2]; exact Below.heap_setCell _ _ _ _ (by show q ≠ w.heap.size; omega))
  have Ts2 : Turned q none w s2 := by rw [hs2]; exact Ts1.setHi (by omega) _ _
  rw [← hs2]
  clear hs2 Zs1
  refine hKz _ _ ⟨Ss2, ?_⟩
  clear hKz Kz hi
  refine takeW 15 22 (.pointer (some ⟨w.heap.size, 2, none⟩)) rfl rfl (by kernel_rfl) (by kernel_rfl) (by kernel_rfl) (fun _ _ _ h => h) (by kernel_rfl) (by (intro w hSw; go_simp)) (by assumption) ?_
  simp only [List.set_cons_zero, List.set_cons_succ]
  refine wpAnyH_all (rs := [16]) (by kernel_rfl) (by simp) ?_
  intro i hi; obtain rfl : i = 16 := by simpa using hi
  refine wpOp_step rfl (fun Kz hKz => ?_)
  rw [if_pos (by kernel_rfl)]
  have cc := Zs2
  obtain ⟨⟨z0, z1, z2⟩, zf⟩ := cc
  have g0 := zf 0
  have g1 := zf 1
  have g2 := zf 2
  go_simp
  clear z0 z1 z2 zf g0 g1 g2
  obtain ⟨s3, hs3⟩ : ∃ y_, y_ = s2.setCell ⟨w.heap.size, 2, none⟩ (.int .i64 r.pa) := ⟨_, rfl⟩
  have Zs3 : RgBox s3 w.heap.size ⟨r.ep, r.ow, r.pa⟩ := by rw [hs3]; exact Zs2.set2 _
  have Ss3 : GBox s3 q 1 r := Ss2.keep (by rw [hs3]; exact Below.heap_setCell _ _ _ _ (by show q ≠ w.heap.size; omega))
  have Ts3 : Turned q none w s3 := by rw [hs3]; exact Ts2.setHi (by omega) _ _
  rw [← hs3]
  clear hs3 Zs2
  refine hKz _ _ ⟨Ss3, ?_⟩
  clear hKz Kz hi
  refine wpAnyH_done (by kernel_rfl) ?_ _
  have GF := Ss3.lock 0
  have TF := Ts3.set 1 (.int .i32 0)
  have ZF : RgAt (s3.setCell ⟨q, 1, none⟩ (.int .i32 0)) w.heap.size ⟨r.ep, r.ow, r.pa⟩ := Zs3.at_.keep (Below.heap_setCell _ _ _ _ (by show w.heap.size ≠ q; omega))
  obtain ⟨x0, x1, x2⟩ := ZF
  go_wp2
  refine leaves_cons (f := 90) (args := #[.pointer (some ⟨q, 1, none⟩)]) (by simp) (by simp [go_sem]) ?_
  refine (unlock_deferred Tryz.muLib ⟨q, 1, none⟩ .returning _ Ss3.c1 (Ss3.fr 1)).mono ?_
  rintro e u' w'' ⟨rfl, rfl, rfl⟩
  refine ⟨.agg #[.int .i64 r.ep, .int .i64 r.ow, .int .i64 r.pa], by simp [results, Tryz.results39, go_sem, *], rfl, GF, TF⟩
/-- Whether the register is handed to s, and what it is then. -/
def handB (r : Rg) (s li : Int) : Bool := decide (s ≠ r.ow) && (decide (0 < li) && decide (li = r.pa))
def handR (r : Rg) (s li : Int) : Rg := if handB r s li then ⟨r.ep + 1, s, 0⟩ else r
set_option maxHeartbeats 4000000 in
theorem handToI (r : Rg) (s li : Int) (q : Nat) (w : World) (G : GBox w q 0 r) (h1 : 1 ≤ r.ep) (h2 : r.ep ≤ 100000) :
    Calls Tryz.prog 36 #[.pointer (some ⟨q, 0, none⟩), .int .i64 s, .int .i64 li] w fun e w' => e = .returned (.bool (handB r s li)) ∧ GBox w' q 0 (handR r s li) ∧ Turned q none w w' := by
  obtain ⟨R, hR⟩ : ∃ R, R = handB r s li := ⟨_, rfl⟩
  rw [← hR]
  replace hR : Hid _ := hR
  go_enter_defers Tryz.func36, Tryz.ntmps36
  go_wp2_with fail
  go_at_call 89
  refine (lock_free Tryz.muLib ⟨q, 1, none⟩ w G.c1 (G.fr 1)).mono ?_
  rintro e w' ⟨rfl, rfl⟩
  obtain ⟨v, hv⟩ : ∃ v, v = w.setCell ⟨q, 1, none⟩ (.int .i32 1) := ⟨_, rfl⟩
  have G1 : GBox v q 1 r := by rw [hv]; exact G.lock 1
  have T1 : Turned q none w v := by rw [hv]; exact (Turned.refl _ _ _).set 1 _
  rw [← hv]
  clear hv G
  have c0 := G1.c0
  have c3 := G1.c3
  have c4 := G1.c4
  by_cases e1 : s = r.ow
  · have hN : Hid (R = false) := by unfold Hid; rw [hR.out]; unfold handB; rw [decide_eq_false (show ¬ (s ≠ r.ow) from fun h => h e1)]; rfl
    have d1 : decide (s = r.ow) = true := decide_eq_true e1
    have b1 : (s == r.ow) = true := by simpa using e1
    have hQ : Hid (handR r s li = r) := by unfold Hid handR; rw [← hR.out, hN.out]; rfl
    replace e1 : Hid _ := e1
    go_wp2
    refine leaves_cons (f := 90) (args := #[.pointer (some ⟨q, 1, none⟩)]) (by simp) (by simp [go_sem]) ?_
    refine (unlock_deferred Tryz.muLib ⟨q, 1, none⟩ .returning _ G1.c1 (G1.fr 1)).mono ?_
    rintro e u' w'' ⟨rfl, rfl, rfl⟩
    exact ⟨_, results_tmp rfl _ _ _, by rw [hN.out]; rfl, by rw [hQ.out]; exact G1.lock 0, T1.set 1 _⟩
  · have d1 : decide (s = r.ow) = false := decide_eq_false e1
    have b1 : (s == r.ow) = false := by simpa using e1
    by_cases e2 : 0 < li
    · have d2 : decide (li ≤ 0) = false := decide_eq_false (by omega)
      by_cases e3 : li = r.pa
      · have d3 : (li != r.pa) = false := by simpa using e3
        have d3' : decide (li = r.pa) = true := decide_eq_true e3
        have hN : Hid (R = true) := by unfold Hid; rw [hR.out]; unfold handB; rw [decide_eq_true (show s ≠ r.ow from e1), decide_eq_true e2, decide_eq_true e3]; rfl
        have hQ : Hid (handR r s li = ⟨r.ep + 1, s, 0⟩) := by unfold Hid handR; rw [← hR.out, hN.out]; rfl
        replace e1 : Hid _ := e1
        replace e3 : Hid _ := e3
        have f3 := G1.fr 3
        have f4 := G1.fr 4
        have G2 := (G1.setOw s).setPa 0
        have T2 := (T1.set 3 (.int .i64 s)).set 4 (.int .i64 0)
        go_wp2_with fail
        go_at_call 91
        obtain ⟨v2, hv2⟩ : ∃ v2, v2 = (v.setCell ⟨q, 3, none⟩ (.int .i64 s)).setCell ⟨q, 4, none⟩ (.int .i64 0) := ⟨_, rfl⟩
        rw [← hv2] at G2 T2 ⊢
        clear hv2 c0 c3 c4 f3 f4
        refine (addG r.ep q v2 G2.c0 (G2.fr 0) h1 h2).mono ?_
        rintro e w' ⟨rfl, rfl⟩
        have G3 := G2.setEp (r.ep + 1)
        have T3 := T2.set 0 (.int .i64 (r.ep + 1))
        go_wp2
        refine leaves_cons (f := 90) (args := #[.pointer (some ⟨q, 1, none⟩)]) (by simp) (by simp [go_sem]) ?_
        refine (unlock_deferred Tryz.muLib ⟨q, 1, none⟩ .returning _ G3.c1 (G3.fr 1)).mono ?_
        rintro e u' w'' ⟨rfl, rfl, rfl⟩
        exact ⟨_, results_tmp rfl _ _ _, by rw [hN.out]; rfl, by rw [hQ.out]; exact G3.lock 0, T3.set 1 _⟩
      · have hN : Hid (R = false) := by unfold Hid; rw [hR.out]; unfold handB; rw [decide_eq_true (show s ≠ r.ow from e1), decide_eq_true e2, decide_eq_false e3]; rfl
        have d3 : (li != r.pa) = true := by simpa using e3
        have d3' : decide (li = r.pa) = false := decide_eq_false e3
        have hQ : Hid (handR r s li = r) := by unfold Hid handR; rw [← hR.out, hN.out]; rfl
        replace e3 : Hid _ := e3
        replace e1 : Hid _ := e1
        go_wp2
        refine leaves_cons (f := 90) (args := #[.pointer (some ⟨q, 1, none⟩)]) (by simp) (by simp [go_sem]) ?_
        refine (unlock_deferred Tryz.muLib ⟨q, 1, none⟩ .returning _ G1.c1 (G1.fr 1)).mono ?_
        rintro e u' w'' ⟨rfl, rfl, rfl⟩
        exact ⟨_, results_tmp rfl _ _ _, by rw [hN.out]; rfl, by rw [hQ.out]; exact G1.lock 0, T1.set 1 _⟩
    · have hN : Hid (R = false) := by unfold Hid; rw [hR.out]; unfold handB; rw [decide_eq_true (show s ≠ r.ow from e1), decide_eq_false e2]; rfl
      have d2 : decide (li ≤ 0) = true := decide_eq_true (by omega)
      have hQ : Hid (handR r s li = r) := by unfold Hid handR; rw [← hR.out, hN.out]; rfl
      replace e2 : Hid _ := e2
      replace e1 : Hid _ := e1
      go_wp2
      refine leaves_cons (f := 90) (args := #[.pointer (some ⟨q, 1, none⟩)]) (by simp) (by simp [go_sem]) ?_
      refine (unlock_deferred Tryz.muLib ⟨q, 1, none⟩ .returning _ G1.c1 (G1.fr 1)).mono ?_
      rintro e u' w'' ⟨rfl, rfl, rfl⟩
      exact ⟨_, results_tmp rfl _ _ _, by rw [hN.out]; rfl, by rw [hQ.out]; exact G1.lock 0, T1.set 1 _⟩
theorem MgBox.as {w : World} {q : Nat} {m : Mi} {v : Value} (h : MgBox w q m v) (x : Int) : MgBox (((w.setCell ⟨q, 3, none⟩ (.int .i64 x)).setCell ⟨q, 5, none⟩ (.int .i64 0)).setCell ⟨q, 6, none⟩ (.int .i64 0)) q ⟨m.up, m.li, x, m.lg, m.sd, 0, 0⟩ v := by
  obtain ⟨h0, h1, h2, h3, h4, h5, h6, hf⟩ := h
  have h0 : (w.setCell ⟨q, 3, none⟩ (.int .i64 x)).cell? ⟨q, 0, none⟩ = _ := (pset_else (by decide)).trans h0
  have h1 : (w.setCell ⟨q, 3, none⟩ (.int .i64 x)).cell? ⟨q, 1, none⟩ = _ := (pset_else (by decide)).trans h1
  have h2 : (w.setCell ⟨q, 3, none⟩ (.int .i64 x)).cell? ⟨q, 2, none⟩ = _ := (pset_else (by decide)).trans h2
  have h3 : (w.setCell ⟨q, 3, none⟩ (.int .i64 x)).cell? ⟨q, 3, none⟩ = some (.int .i64 x) := pset_same h3
  have h4 : (w.setCell ⟨q, 3, none⟩ (.int .i64 x)).cell? ⟨q, 4, none⟩ = _ := (pset_else (by decide)).trans h4
  have h5 : (w.setCell ⟨q, 3, none⟩ (.int .i64 x)).cell? ⟨q, 5, none⟩ = _ := (pset_else (by decide)).trans h5
  have h6 : (w.setCell ⟨q, 3, none⟩ (.int .i64 x)).cell? ⟨q, 6, none⟩ = _ := (pset_else (by decide)).trans h6
  have h0 : ((w.setCell ⟨q, 3, none⟩ (.int .i64 x)).setCell ⟨q, 5, none⟩ (.int .i64 0)).cell? ⟨q, 0, none⟩ = _ := (pset_else (by decide)).trans h0
  have h1 : ((w.setCell ⟨q, 3, none⟩ (.int .i64 x)).setCell ⟨q, 5, none⟩ (.int .i64 0)).cell? ⟨q, 1, none⟩ = _ := (pset_else (by decide)).trans h1
  have h2 : ((w.setCell ⟨q, 3, none⟩ (.int .i64 x)).setCell ⟨q, 5, none⟩ (.int .i64 0)).cell? ⟨q, 2, none⟩ = _ := (pset_else (by decide)).trans h2
  have h3 : ((w.setCell ⟨q, 3, none⟩ (.int .i64 x)).setCell ⟨q, 5, none⟩ (.int .i64 0)).cell? ⟨q, 3, none⟩ = _ := (pset_else (by decide)).trans h3
  have h4 : ((w.setCell ⟨q, 3, none⟩ (.int .i64 x)).setCell ⟨q, 5, none⟩ (.int .i64 0)).cell? ⟨q, 4, none⟩ = _ := (pset_else (by decide)).trans h4
  have h5 : ((w.setCell ⟨q, 3, none⟩ (.int .i64 x)).setCell ⟨q, 5, none⟩ (.int .i64 0)).cell? ⟨q, 5, none⟩ = some (.int .i64 0) := pset_same h5
  have h6 : ((w.setCell ⟨q, 3, none⟩ (.int .i64 x)).setCell ⟨q, 5, none⟩ (.int .i64 0)).cell? ⟨q, 6, none⟩ = _ := (pset_else (by decide)).trans h6
  have h0 : (((w.setCell ⟨q, 3, none⟩ (.int .i64 x)).setCell ⟨q, 5, none⟩ (.int .i64 0)).setCell ⟨q, 6, none⟩ (.int .i64 0)).cell? ⟨q, 0, none⟩ = _ := (pset_else (by decide)).trans h0
  have h1 : (((w.setCell ⟨q, 3, none⟩ (.int .i64 x)).setCell ⟨q, 5, none⟩ (.int .i64 0)).setCell ⟨q, 6, none⟩ (.int .i64 0)).cell? ⟨q, 1, none⟩ = _ := (pset_else (by decide)).trans h1
  have h2 : (((w.setCell ⟨q, 3, none⟩ (.int .i64 x)).setCell ⟨q, 5, none⟩ (.int .i64 0)).setCell ⟨q, 6, none⟩ (.int .i64 0)).cell? ⟨q, 2, none⟩ = _ := (pset_else (by decide)).trans h2
  have h3 : (((w.setCell ⟨q, 3, none⟩ (.int .i64 x)).setCell ⟨q, 5, none⟩ (.int .i64 0)).setCell ⟨q, 6, none⟩ (.int .i64 0)).cell? ⟨q, 3, none⟩ = _ := (pset_else (by decide)).trans h3
  have h4 : (((w.setCell ⟨q, 3, none⟩ (.int .i64 x)).setCell ⟨q, 5, none⟩ (.int .i64 0)).setCell ⟨q, 6, none⟩ (.int .i64 0)).cell? ⟨q, 4, none⟩ = _ := (pset_else (by decide)).trans h4
  have h5 : (((w.setCell ⟨q, 3, none⟩ (.int .i64 x)).setCell ⟨q, 5, none⟩ (.int .i64 0)).setCell ⟨q, 6, none⟩ (.int .i64 0)).cell? ⟨q, 5, none⟩ = _ := (pset_else (by decide)).trans h5
  have h6 : (((w.setCell ⟨q, 3, none⟩ (.int .i64 x)).setCell ⟨q, 5, none⟩ (.int .i64 0)).setCell ⟨q, 6, none⟩ (.int .i64 0)).cell? ⟨q, 6, none⟩ = some (.int .i64 0) := pset_same h6
  refine ⟨h0, h1, h2, h3, h4, h5, h6, fun i => ?_⟩
  rw [World.frozen?_setCell, World.frozen?_setCell, World.frozen?_setCell]
  exact hf i
set_option maxHeartbeats 2000000 in
theorem mindAsI (m : Mi) (x : Int) (q : Nat) (v : Value) (w : World) (M : MgBox w q m v) :
    Calls Tryz.prog 37 #[.pointer (some ⟨q, 0, none⟩), .int .i64 x] w fun e w' => e = .returned (.tuple #[]) ∧ MgBox w' q ⟨m.up, m.li, x, m.lg, m.sd, 0, 0⟩ v ∧ Turned q none w w' := by
  have N := M.as x
  have T := (((Turned.refl q none w).set 3 (.int .i64 x)).set 5 (.int .i64 0)).set 6 (.int .i64 0)
  obtain ⟨c0, c1, c2, c3, c4, c5, c6, fr⟩ := M
  have f3 := fr 3
  have f5 := fr 5
  have f6 := fr 6
  clear fr
  go_enter Tryz.func37, Tryz.ntmps37
  go_wp2
  go_end0
  exact ⟨rfl, N, T⟩

end Go.Proofs.YtijhpfccjaaalaaGreat
namespace Go.Proofs.YtijhpfccjaaalaaGreat
open Go.ChangeShapes Go.WideShapes Go.ChangeAt Go.RowKit
open Go.ChangeMaps (open_string shut_string)
set_option linter.unusedVariables false
set_option maxRecDepth 100000

/-- What fits asks. -/
def fitsM (m : Mi) : Bool :=
  numB m.li && (numB m.ep && (numB m.al && (decide ((m.lg.length : Int) ≤ 60) && (m.lg.all inOk && (decide (0 ≤ m.sd ∧ m.sd ≤ (m.lg.length : Int)) && decide (0 ≤ m.ac ∧ m.ac ≤ (m.lg.length : Int)))))))
set_option maxHeartbeats 4000000 in
theorem fitsI (m : Mi) (q : Nat) (ad : Option Addr) (cap : Nat) (w : World) (M : MgBox w q m (.slice ad m.lg.length cap)) (hv : FView ikEnc w ad m.lg) (hl : m.lg.length ≤ 1048577) :
    Calls Tryz.prog 87 #[.pointer (some ⟨q, 0, none⟩)] w fun e w' => e = .returned (.bool (fitsM m)) ∧ Below w.heap.size w w' := by
  obtain ⟨R, hR⟩ : ∃ R, R = fitsM m := ⟨_, rfl⟩
  rw [← hR]
  replace hR : Hid _ := hR
  go_enter Tryz.func87, Tryz.ntmps87
  go_upto_region 1 with fail
  refine wp_region_held (S := fun Y => Below w.heap.size w Y) (by kernel_rfl) ?_
  change wpAnyH _ _ _ _ _ _ _ _ (World.drew _)
  have hb0 : Below w.heap.size w w.drew := (Below.refl _ _).drew
  obtain ⟨u0, hy0⟩ : ∃ y_, y_ = w.drew := ⟨_, rfl⟩
  rw [← hy0] at hb0 ⊢
  clear hy0
  refine takeW 0 3 (.pointer (some ⟨q, 0, none⟩)) rfl rfl (by kernel_rfl) (by kernel_rfl) (by kernel_rfl) (fun _ _ _ h => h) (by kernel_rfl) (by (intro w hSw; go_simp)) (by assumption) ?_
  simp only [List.set_cons_zero, List.set_cons_succ]
  refine takeW 1 4 (.pointer (some ⟨q, 0, none⟩)) rfl rfl (by kernel_rfl) (by kernel_rfl) (by kernel_rfl) (fun _ _ _ h => h) (by kernel_rfl) (by (intro w hSw; go_simp)) (by assumption) ?_
  simp only [List.set_cons_zero, List.set_cons_succ]
  refine takeW 2 5 (.pointer (some ⟨q, 1, none⟩)) rfl rfl (by kernel_rfl) (by kernel_rfl) (by kernel_rfl) (fun _ _ _ h => h) (by kernel_rfl) (by (intro w hSw; go_simp)) (by assumption) ?_
  simp only [List.set_cons_zero, List.set_cons_succ]
  refine takeW 3 6 (.pointer (some ⟨q, 2, none⟩)) rfl rfl (by kernel_rfl) (by kernel_rfl) (by kernel_rfl) (fun _ _ _ h => h) (by kernel_rfl) (by (intro w hSw; go_simp)) (by assumption) ?_
  simp only [List.set_cons_zero, List.set_cons_succ]
  refine takeW 4 7 (.int .i64 m.li) rfl rfl (by kernel_rfl) (by kernel_rfl) (by kernel_rfl) (fun _ _ _ h => h) (by kernel_rfl) (by (intro Y hSw; obtain ⟨X0, X1, X2, X3, X4, X5, X6, XF⟩ := M.below hSw M.lt; go_simp)) (by assumption) ?_
  simp only [List.set_cons_zero, List.set_cons_succ]
  refine wpAnyH_all (rs := [5]) (by kernel_rfl) (by simp) ?_
  intro i hi; obtain rfl : i = 5 := by simpa using hi
  refine wpOp_step rfl (fun Kz hKz => ?_)
  rw [if_pos (by kernel_rfl)]
  go_simp
  go_at_call 50
  refine (numFitsI m.li u0).mono ?_
  rintro e u1 ⟨rfl, kq⟩
  replace kq : Below u0.heap.size u0 u1 := by rw [kq]; exact Below.refl _ _
  have hb1 : Below w.heap.size w u1 := hb0.trans (kq.mono hb0.size)
  clear kq
  refine hKz _ _ ⟨hb1, ?_⟩
  clear hKz Kz hi
  cases h_li : (numB m.li)
  · replace h_li : Hid _ := h_li
    refine takeW 6 9 (.bool false) rfl rfl (by kernel_rfl) (by kernel_rfl) (by kernel_rfl) (fun _ _ _ h => h) (by kernel_rfl) (by (intro w hSw; go_simp)) (by assumption) ?_
    simp only [List.set_cons_zero, List.set_cons_succ]
    refine takeS 7 10 rfl rfl (by kernel_rfl) (by kernel_rfl) (by kernel_rfl) (fun _ _ _ h => h) (by kernel_rfl) (by assumption) ?_
    simp only [List.set_cons_zero, List.set_cons_succ]
    refine takeS 8 11 rfl rfl (by kernel_rfl) (by kernel_rfl) (by kernel_rfl) (fun _ _ _ h => h) (by kernel_rfl) (by assumption) ?_
    simp only [List.set_cons_zero, List.set_cons_succ]
    refine takeS 9 12 rfl rfl (by kernel_rfl) (by kernel_rfl) (by kernel_rfl) (fun _ _ _ h => h) (by kernel_rfl) (by assumption) ?_
    simp only [List.set_cons_zero, List.set_cons_succ]
    refine takeS 10 13 rfl rfl (by kernel_rfl) (by kernel_rfl) (by kernel_rfl) (fun _ _ _ h => h) (by kernel_rfl) (by assumption) ?_
    simp only [List.set_cons_zero, List.set_cons_succ]
    refine takeS 11 14 rfl rfl (by kernel_rfl) (by kernel_rfl) (by kernel_rfl) (fun _ _ _ h => h) (by kernel_rfl) (by assumption) ?_
    simp only [List.set_cons_zero, List.set_cons_succ]
    refine takeS 12 15 rfl rfl (by kernel_rfl) (by kernel_rfl) (by kernel_rfl) (fun _ _ _ h => h) (by kernel_rfl) (by assumption) ?_
    simp only [List.set_cons_zero, List.set_cons_succ]
    refine takeW 13 16 (.bool false) rfl rfl (by kernel_rfl) (by kernel_rfl) (by kernel_rfl) (fun _ _ _ h => h) (by kernel_rfl) (by (intro w hSw; go_simp)) (by assumption) ?_
    simp only [List.set_cons_zero, List.set_cons_succ]
    refine takeW 14 17 (.bool false) rfl rfl (by kernel_rfl) (by kernel_rfl) (by kernel_rfl) (fun _ _ _ h => h) (by kernel_rfl) (by (intro w hSw; go_simp)) (by assumption) ?_
    simp only [List.set_cons_zero, List.set_cons_succ]
    refine takeS 15 18 rfl rfl (by kernel_rfl) (by kernel_rfl) (by kernel_rfl) (fun _ _ _ h => h) (by kernel_rfl) (by assumption) ?_
    simp only [List.set_cons_zero, List.set_cons_succ]
    refine takeS 16 19 rfl rfl (by kernel_rfl) (by kernel_rfl) (by kernel_rfl) (fun _ _ _ h => h) (by kernel_rfl) (by assumption) ?_
    simp only [List.set_cons_zero, List.set_cons_succ]
    refine takeS 17 20 rfl rfl (by kernel_rfl) (by kernel_rfl) (by kernel_rfl) (fun _ _ _ h => h) (by kernel_rfl) (by assumption) ?_
    simp only [List.set_cons_zero, List.set_cons_succ]
    refine takeS 18 21 rfl rfl (by kernel_rfl) (by kernel_rfl) (by kernel_rfl) (fun _ _ _ h => h) (by kernel_rfl) (by assumption) ?_
    simp only [List.set_cons_zero, List.set_cons_succ]
    refine takeS 19 22 rfl rfl (by kernel_rfl) (by kernel_rfl) (by kernel_rfl) (fun _ _ _ h => h) (by kernel_rfl) (by assumption) ?_
    simp only [List.set_cons_zero, List.set_cons_succ]
    refine takeS 20 23 rfl rfl (by kernel_rfl) (by kernel_rfl) (by kernel_rfl) (fun _ _ _ h => h) (by kernel_rfl) (by assumption) ?_
    simp only [List.set_cons_zero, List.set_cons_succ]
    refine takeW 21 24 (.bool false) rfl rfl (by kernel_rfl) (by kernel_rfl) (by kernel_rfl) (fun _ _ _ h => h) (by kernel_rfl) (by (intro w hSw; go_simp)) (by assumption) ?_
    simp only [List.set_cons_zero, List.set_cons_succ]
    refine takeW 22 25 (.bool false) rfl rfl (by kernel_rfl) (by kernel_rfl) (by kernel_rfl) (fun _ _ _ h => h) (by kernel_rfl) (by (intro w hSw; go_simp)) (by assumption) ?_
    simp only [List.set_cons_zero, List.set_cons_succ]
    refine takeS 23 26 rfl rfl (by kernel_rfl) (by kernel_rfl) (by kernel_rfl) (fun _ _ _ h => h) (by kernel_rfl) (by assumption) ?_
    simp only [List.set_cons_zero, List.set_cons_succ]
    refine takeS 24 27 rfl rfl (by kernel_rfl) (by kernel_rfl) (by kernel_rfl) (fun _ _ _ h => h) (by kernel_rfl) (by assumption) ?_
    simp only [List.set_cons_zero, List.set_cons_succ]
    refine takeS 25 28 rfl rfl (by kernel_rfl) (by kernel_rfl) (by kernel_rfl) (fun _ _ _ h => h) (by kernel_rfl) (by assumption) ?_
    simp only [List.set_cons_zero, List.set_cons_succ]
    refine takeS 26 29 rfl rfl (by kernel_rfl) (by kernel_rfl) (by kernel_rfl) (fun _ _ _ h => h) (by kernel_rfl) (by assumption) ?_
    simp only [List.set_cons_zero, List.set_cons_succ]
    refine takeS 27 30 rfl rfl (by kernel_rfl) (by kernel_rfl) (by kernel_rfl) (fun _ _ _ h => h) (by kernel_rfl) (by assumption) ?_
    simp only [List.set_cons_zero, List.set_cons_succ]
    refine takeW 28 31 (.bool false) rfl rfl (by kernel_rfl) (by kernel_rfl) (by kernel_rfl) (fun _ _ _ h => h) (by kernel_rfl) (by (intro w hSw; go_simp)) (by assumption) ?_
    simp only [List.set_cons_zero, List.set_cons_succ]
    refine takeW 29 32 (.bool false) rfl rfl (by kernel_rfl) (by kernel_rfl) (by kernel_rfl) (fun _ _ _ h => h) (by kernel_rfl) (by (intro w hSw; go_simp)) (by assumption) ?_
    simp only [List.set_cons_zero, List.set_cons_succ]
    refine takeS 30 33 rfl rfl (by kernel_rfl) (by kernel_rfl) (by kernel_rfl) (fun _ _ _ h => h) (by kernel_rfl) (by assumption) ?_
    simp only [List.set_cons_zero, List.set_cons_succ]
    refine takeS 31 34 rfl rfl (by kernel_rfl) (by kernel_rfl) (by kernel_rfl) (fun _ _ _ h => h) (by kernel_rfl) (by assumption) ?_
    simp only [List.set_cons_zero, List.set_cons_succ]
    refine takeS 32 35 rfl rfl (by kernel_rfl) (by kernel_rfl) (by kernel_rfl) (fun _ _ _ h => h) (by kernel_rfl) (by assumption) ?_
    simp only [List.set_cons_zero, List.set_cons_succ]
    refine takeS 33 36 rfl rfl (by kernel_rfl) (by kernel_rfl) (by kernel_rfl) (fun _ _ _ h => h) (by kernel_rfl) (by assumption) ?_
    simp only [List.set_cons_zero, List.set_cons_succ]
    refine takeW 34 37 (.bool false) rfl rfl (by kernel_rfl) (by kernel_rfl) (by kernel_rfl) (fun _ _ _ h => h) (by kernel_rfl) (by (intro w hSw; go_simp)) (by assumption) ?_
    simp only [List.set_cons_zero, List.set_cons_succ]
    refine takeW 35 38 (.bool false) rfl rfl (by kernel_rfl) (by kernel_rfl) (by kernel_rfl) (fun _ _ _ h => h) (by kernel_rfl) (by (intro w hSw; go_simp)) (by assumption) ?_
    simp only [List.set_cons_zero, List.set_cons_succ]
    refine takeS 36 39 rfl rfl (by kernel_rfl) (by kernel_rfl) (by kernel_rfl) (fun _ _ _ h => h) (by kernel_rfl) (by assumption) ?_
    simp only [List.set_cons_zero, List.set_cons_succ]
    refine takeS 37 40 rfl rfl (by kernel_rfl) (by kernel_rfl) (by kernel_rfl) (fun _ _ _ h => h) (by kernel_rfl) (by assumption) ?_
    simp only [List.set_cons_zero, List.set_cons_succ]
    refine takeS 38 41 rfl rfl (by kernel_rfl) (by kernel_rfl) (by kernel_rfl) (fun _ _ _ h => h) (by kernel_rfl) (by assumption) ?_
    simp only [List.set_cons_zero, List.set_cons_succ]
    refine takeS 39 42 rfl rfl (by kernel_rfl) (by kernel_rfl) (by kernel_rfl) (fun _ _ _ h => h) (by kernel_rfl) (by assumption) ?_
    simp only [List.set_cons_zero, List.set_cons_succ]
    refine takeS 40 43 rfl rfl (by kernel_rfl) (by kernel_rfl) (by kernel_rfl) (fun _ _ _ h => h) (by kernel_rfl) (by assumption) ?_
    simp only [List.set_cons_zero, List.set_cons_succ]
    refine takeS 41 44 rfl rfl (by kernel_rfl) (by kernel_rfl) (by kernel_rfl) (fun _ _ _ h => h) (by kernel_rfl) (by assumption) ?_
    simp only [List.set_cons_zero, List.set_cons_succ]
    refine takeS 42 45 rfl rfl (by kernel_rfl) (by kernel_rfl) (by kernel_rfl) (fun _ _ _ h => h) (by kernel_rfl) (by assumption) ?_
    simp only [List.set_cons_zero, List.set_cons_succ]
    refine takeS 43 46 rfl rfl (by kernel_rfl) (by kernel_rfl) (by kernel_rfl) (fun _ _ _ h => h) (by kernel_rfl) (by assumption) ?_
    simp only [List.set_cons_zero, List.set_cons_succ]
    refine takeS 44 47 rfl rfl (by kernel_rfl) (by kernel_rfl) (by kernel_rfl) (fun _ _ _ h => h) (by kernel_rfl) (by assumption) ?_
    simp only [List.set_cons_zero, List.set_cons_succ]
    refine takeW 45 48 (.bool false) rfl rfl (by kernel_rfl) (by kernel_rfl) (by kernel_rfl) (fun _ _ _ h => h) (by kernel_rfl) (by (intro w hSw; go_simp)) (by assumption) ?_
    simp only [List.set_cons_zero, List.set_cons_succ]
    refine takeW 46 49 (.bool false) rfl rfl (by kernel_rfl) (by kernel_rfl) (by kernel_rfl) (fun _ _ _ h => h) (by kernel_rfl) (by (intro w hSw; go_simp)) (by assumption) ?_
    simp only [List.set_cons_zero, List.set_cons_succ]
    refine takeS 47 50 rfl rfl (by kernel_rfl) (by kernel_rfl) (by kernel_rfl) (fun _ _ _ h => h) (by kernel_rfl) (by assumption) ?_
    simp only [List.set_cons_zero, List.set_cons_succ]
    refine takeS 48 51 rfl rfl (by kernel_rfl) (by kernel_rfl) (by kernel_rfl) (fun _ _ _ h => h) (by kernel_rfl) (by assumption) ?_
    simp only [List.set_cons_zero, List.set_cons_succ]
    refine takeS 49 52 rfl rfl (by kernel_rfl) (by kernel_rfl) (by kernel_rfl) (fun _ _ _ h => h) (by kernel_rfl) (by assumption) ?_
    simp only [List.set_cons_zero, List.set_cons_succ]
    refine takeS 50 53 rfl rfl (by kernel_rfl) (by kernel_rfl) (by kernel_rfl) (fun _ _ _ h => h) (by kernel_rfl) (by assumption) ?_
    simp only [List.set_cons_zero, List.set_cons_succ]
    refine takeS 51 54 rfl rfl (by kernel_rfl) (by kernel_rfl) (by kernel_rfl) (fun _ _ _ h => h) (by kernel_rfl) (by assumption) ?_
    simp only [List.set_cons_zero, List.set_cons_succ]
    refine takeS 52 55 rfl rfl (by kernel_rfl) (by kernel_rfl) (by kernel_rfl) (fun _ _ _ h => h) (by kernel_rfl) (by assumption) ?_
    simp only [List.set_cons_zero, List.set_cons_succ]
    refine takeS 53 56 rfl rfl (by kernel_rfl) (by kernel_rfl) (by kernel_rfl) (fun _ _ _ h => h) (by kernel_rfl) (by assumption) ?_
    simp only [List.set_cons_zero, List.set_cons_succ]
    refine takeS 54 57 rfl rfl (by kernel_rfl) (by kernel_rfl) (by kernel_rfl) (fun _ _ _ h => h) (by kernel_rfl) (by assumption) ?_
    simp only [List.set_cons_zero, List.set_cons_succ]
    refine takeS 55 58 rfl rfl (by kernel_rfl) (by kernel_rfl) (by kernel_rfl) (fun _ _ _ h => h) (by kernel_rfl) (by assumption) ?_
    simp only [List.set_cons_zero, List.set_cons_succ]
    refine takeW 56 59 (.bool false) rfl rfl (by kernel_rfl) (by kernel_rfl) (by kernel_rfl) (fun _ _ _ h => h) (by kernel_rfl) (by (intro w hSw; go_simp)) (by assumption) ?_
    simp only [List.set_cons_zero, List.set_cons_succ]
    refine takeW 57 2 (.bool false) rfl rfl (by kernel_rfl) (by kernel_rfl) (by kernel_rfl) (fun _ _ _ h => h) (by kernel_rfl) (by (intro w hSw; go_simp)) (by assumption) ?_
    simp only [List.set_cons_zero, List.set_cons_succ]
    refine wpAnyH_done (by kernel_rfl) ?_ _
    have hN : Hid (R = false) := by unfold Hid; rw [hR.out]; unfold fitsM; rw [h_li.out]; rfl
    go_wp2
    go_ret
    exact ⟨by rw [hN.out]; rfl, hb1⟩
  · replace h_li : Hid _ := h_li
    refine takeW 6 9 (.bool true) rfl rfl (by kernel_rfl) (by kernel_rfl) (by kernel_rfl) (fun _ _ _ h => h) (by kernel_rfl) (by (intro w hSw; go_simp)) (by assumption) ?_
    simp only [List.set_cons_zero, List.set_cons_succ]
    refine takeW 7 10 (.pointer (some ⟨q, 0, none⟩)) rfl rfl (by kernel_rfl) (by kernel_rfl) (by kernel_rfl) (fun _ _ _ h => h) (by kernel_rfl) (by (intro w hSw; go_simp)) (by assumption) ?_
    simp only [List.set_cons_zero, List.set_cons_succ]
    refine takeW 8 11 (.pointer (some ⟨q, 0, none⟩)) rfl rfl (by kernel_rfl) (by kernel_rfl) (by kernel_rfl) (fun _ _ _ h => h) (by kernel_rfl) (by (intro w hSw; go_simp)) (by assumption) ?_
    simp only [List.set_cons_zero, List.set_cons_succ]
    refine takeW 9 12 (.pointer (some ⟨q, 1, none⟩)) rfl rfl (by kernel_rfl) (by kernel_rfl) (by kernel_rfl) (fun _ _ _ h => h) (by kernel_rfl) (by (intro w hSw; go_simp)) (by assumption) ?_
    simp only [List.set_cons_zero, List.set_cons_succ]
    refine takeW 10 13 (.pointer (some ⟨q, 3, none⟩)) rfl rfl (by kernel_rfl) (by kernel_rfl) (by kernel_rfl) (fun _ _ _ h => h) (by kernel_rfl) (by (intro w hSw; go_simp)) (by assumption) ?_
    simp only [List.set_cons_zero, List.set_cons_succ]
    refine takeW 11 14 (.int .i64 m.ep) rfl rfl (by kernel_rfl) (by kernel_rfl) (by kernel_rfl) (fun _ _ _ h => h) (by kernel_rfl) (by (intro Y hSw; obtain ⟨X0, X1, X2, X3, X4, X5, X6, XF⟩ := M.below hSw M.lt; go_simp)) (by assumption) ?_
    simp only [List.set_cons_zero, List.set_cons_succ]
    refine wpAnyH_all (rs := [12]) (by kernel_rfl) (by simp) ?_
    intro i hi; obtain rfl : i = 12 := by simpa using hi
    refine wpOp_step rfl (fun Kz hKz => ?_)
    rw [if_pos (by kernel_rfl)]
    go_simp
    go_at_call 50
    refine (numFitsI m.ep u1).mono ?_
    rintro e u2 ⟨rfl, kq⟩
    replace kq : Below u1.heap.size u1 u2 := by rw [kq]; exact Below.refl _ _
    have hb2 : Below w.heap.size w u2 := hb1.trans (kq.mono hb1.size)
    clear kq
    refine hKz _ _ ⟨hb2, ?_⟩
    clear hKz Kz hi
    cases h_ep : (numB m.ep)
    · replace h_ep : Hid _ := h_ep
      refine takeW 13 16 (.bool false) rfl rfl (by kernel_rfl) (by kernel_rfl) (by kernel_rfl) (fun _ _ _ h => h) (by kernel_rfl) (by (intro w hSw; go_simp)) (by assumption) ?_
      simp only [List.set_cons_zero, List.set_cons_succ]
      refine takeW 14 17 (.bool false) rfl rfl (by kernel_rfl) (by kernel_rfl) (by kernel_rfl) (fun _ _ _ h => h) (by kernel_rfl) (by (intro w hSw; go_simp)) (by assumption) ?_
      simp only [List.set_cons_zero, List.set_cons_succ]
      refine takeS 15 18 rfl rfl (by kernel_rfl) (by kernel_rfl) (by kernel_rfl) (fun _ _ _ h => h) (by kernel_rfl) (by assumption) ?_
      simp only [List.set_cons_zero, List.set_cons_succ]
      refine takeS 16 19 rfl rfl (by kernel_rfl) (by kernel_rfl) (by kernel_rfl) (fun _ _ _ h => h) (by kernel_rfl) (by assumption) ?_
      simp only [List.set_cons_zero, List.set_cons_succ]
      refine takeS 17 20 rfl rfl (by kernel_rfl) (by kernel_rfl) (by kernel_rfl) (fun _ _ _ h => h) (by kernel_rfl) (by assumption) ?_
      simp only [List.set_cons_zero, List.set_cons_succ]
      refine takeS 18 21 rfl rfl (by kernel_rfl) (by kernel_rfl) (by kernel_rfl) (fun _ _ _ h => h) (by kernel_rfl) (by assumption) ?_
      simp only [List.set_cons_zero, List.set_cons_succ]
      refine takeS 19 22 rfl rfl (by kernel_rfl) (by kernel_rfl) (by kernel_rfl) (fun _ _ _ h => h) (by kernel_rfl) (by assumption) ?_
      simp only [List.set_cons_zero, List.set_cons_succ]
      refine takeS 20 23 rfl rfl (by kernel_rfl) (by kernel_rfl) (by kernel_rfl) (fun _ _ _ h => h) (by kernel_rfl) (by assumption) ?_
      simp only [List.set_cons_zero, List.set_cons_succ]
      refine takeW 21 24 (.bool false) rfl rfl (by kernel_rfl) (by kernel_rfl) (by kernel_rfl) (fun _ _ _ h => h) (by kernel_rfl) (by (intro w hSw; go_simp)) (by assumption) ?_
      simp only [List.set_cons_zero, List.set_cons_succ]
      refine takeW 22 25 (.bool false) rfl rfl (by kernel_rfl) (by kernel_rfl) (by kernel_rfl) (fun _ _ _ h => h) (by kernel_rfl) (by (intro w hSw; go_simp)) (by assumption) ?_
      simp only [List.set_cons_zero, List.set_cons_succ]
      refine takeS 23 26 rfl rfl (by kernel_rfl) (by kernel_rfl) (by kernel_rfl) (fun _ _ _ h => h) (by kernel_rfl) (by assumption) ?_
      simp only [List.set_cons_zero, List.set_cons_succ]
      refine takeS 24 27 rfl rfl (by kernel_rfl) (by kernel_rfl) (by kernel_rfl) (fun _ _ _ h => h) (by kernel_rfl) (by assumption) ?_
      simp only [List.set_cons_zero, List.set_cons_succ]
      refine takeS 25 28 rfl rfl (by kernel_rfl) (by kernel_rfl) (by kernel_rfl) (fun _ _ _ h => h) (by kernel_rfl) (by assumption) ?_
      simp only [List.set_cons_zero, List.set_cons_succ]
      refine takeS 26 29 rfl rfl (by kernel_rfl) (by kernel_rfl) (by kernel_rfl) (fun _ _ _ h => h) (by kernel_rfl) (by assumption) ?_
      simp only [List.set_cons_zero, List.set_cons_succ]
      refine takeS 27 30 rfl rfl (by kernel_rfl) (by kernel_rfl) (by kernel_rfl) (fun _ _ _ h => h) (by kernel_rfl) (by assumption) ?_
      simp only [List.set_cons_zero, List.set_cons_succ]
      refine takeW 28 31 (.bool false) rfl rfl (by kernel_rfl) (by kernel_rfl) (by kernel_rfl) (fun _ _ _ h => h) (by kernel_rfl) (by (intro w hSw; go_simp)) (by assumption) ?_
      simp only [List.set_cons_zero, List.set_cons_succ]
      refine takeW 29 32 (.bool false) rfl rfl (by kernel_rfl) (by kernel_rfl) (by kernel_rfl) (fun _ _ _ h => h) (by kernel_rfl) (by (intro w hSw; go_simp)) (by assumption) ?_
      simp only [List.set_cons_zero, List.set_cons_succ]
      refine takeS 30 33 rfl rfl (by kernel_rfl) (by kernel_rfl) (by kernel_rfl) (fun _ _ _ h => h) (by kernel_rfl) (by assumption) ?_
      simp only [List.set_cons_zero, List.set_cons_succ]
      refine takeS 31 34 rfl rfl (by kernel_rfl) (by kernel_rfl) (by kernel_rfl) (fun _ _ _ h => h) (by kernel_rfl) (by assumption) ?_
      simp only [List.set_cons_zero, List.set_cons_succ]
      refine takeS 32 35 rfl rfl (by kernel_rfl) (by kernel_rfl) (by kernel_rfl) (fun _ _ _ h => h) (by kernel_rfl) (by assumption) ?_
      simp only [List.set_cons_zero, List.set_cons_succ]
      refine takeS 33 36 rfl rfl (by kernel_rfl) (by kernel_rfl) (by kernel_rfl) (fun _ _ _ h => h) (by kernel_rfl) (by assumption) ?_
      simp only [List.set_cons_zero, List.set_cons_succ]
      refine takeW 34 37 (.bool false) rfl rfl (by kernel_rfl) (by kernel_rfl) (by kernel_rfl) (fun _ _ _ h => h) (by kernel_rfl) (by (intro w hSw; go_simp)) (by assumption) ?_
      simp only [List.set_cons_zero, List.set_cons_succ]
      refine takeW 35 38 (.bool false) rfl rfl (by kernel_rfl) (by kernel_rfl) (by kernel_rfl) (fun _ _ _ h => h) (by kernel_rfl) (by (intro w hSw; go_simp)) (by assumption) ?_
      simp only [List.set_cons_zero, List.set_cons_succ]
      refine takeS 36 39 rfl rfl (by kernel_rfl) (by kernel_rfl) (by kernel_rfl) (fun _ _ _ h => h) (by kernel_rfl) (by assumption) ?_
      simp only [List.set_cons_zero, List.set_cons_succ]
      refine takeS 37 40 rfl rfl (by kernel_rfl) (by kernel_rfl) (by kernel_rfl) (fun _ _ _ h => h) (by kernel_rfl) (by assumption) ?_
      simp only [List.set_cons_zero, List.set_cons_succ]
      refine takeS 38 41 rfl rfl (by kernel_rfl) (by kernel_rfl) (by kernel_rfl) (fun _ _ _ h => h) (by kernel_rfl) (by assumption) ?_
      simp only [List.set_cons_zero, List.set_cons_succ]
      refine takeS 39 42 rfl rfl (by kernel_rfl) (by kernel_rfl) (by kernel_rfl) (fun _ _ _ h => h) (by kernel_rfl) (by assumption) ?_
      simp only [List.set_cons_zero, List.set_cons_succ]
      refine takeS 40 43 rfl rfl (by kernel_rfl) (by kernel_rfl) (by kernel_rfl) (fun _ _ _ h => h) (by kernel_rfl) (by assumption) ?_
      simp only [List.set_cons_zero, List.set_cons_succ]
      refine takeS 41 44 rfl rfl (by kernel_rfl) (by kernel_rfl) (by kernel_rfl) (fun _ _ _ h => h) (by kernel_rfl) (by assumption) ?_
      simp only [List.set_cons_zero, List.set_cons_succ]
      refine takeS 42 45 rfl rfl (by kernel_rfl) (by kernel_rfl) (by kernel_rfl) (fun _ _ _ h => h) (by kernel_rfl) (by assumption) ?_
      simp only [List.set_cons_zero, List.set_cons_succ]
      refine takeS 43 46 rfl rfl (by kernel_rfl) (by kernel_rfl) (by kernel_rfl) (fun _ _ _ h => h) (by kernel_rfl) (by assumption) ?_
      simp only [List.set_cons_zero, List.set_cons_succ]
      refine takeS 44 47 rfl rfl (by kernel_rfl) (by kernel_rfl) (by kernel_rfl) (fun _ _ _ h => h) (by kernel_rfl) (by assumption) ?_
      simp only [List.set_cons_zero, List.set_cons_succ]
      refine takeW 45 48 (.bool false) rfl rfl (by kernel_rfl) (by kernel_rfl) (by kernel_rfl) (fun _ _ _ h => h) (by kernel_rfl) (by (intro w hSw; go_simp)) (by assumption) ?_
      simp only [List.set_cons_zero, List.set_cons_succ]
      refine takeW 46 49 (.bool false) rfl rfl (by kernel_rfl) (by kernel_rfl) (by kernel_rfl) (fun _ _ _ h => h) (by kernel_rfl) (by (intro w hSw; go_simp)) (by assumption) ?_
      simp only [List.set_cons_zero, List.set_cons_succ]
      refine takeS 47 50 rfl rfl (by kernel_rfl) (by kernel_rfl) (by kernel_rfl) (fun _ _ _ h => h) (by kernel_rfl) (by assumption) ?_
      simp only [List.set_cons_zero, List.set_cons_succ]
      refine takeS 48 51 rfl rfl (by kernel_rfl) (by kernel_rfl) (by kernel_rfl) (fun _ _ _ h => h) (by kernel_rfl) (by assumption) ?_
      simp only [List.set_cons_zero, List.set_cons_succ]
      refine takeS 49 52 rfl rfl (by kernel_rfl) (by kernel_rfl) (by kernel_rfl) (fun _ _ _ h => h) (by kernel_rfl) (by assumption) ?_
      simp only [List.set_cons_zero, List.set_cons_succ]
      refine takeS 50 53 rfl rfl (by kernel_rfl) (by kernel_rfl) (by kernel_rfl) (fun _ _ _ h => h) (by kernel_rfl) (by assumption) ?_
      simp only [List.set_cons_zero, List.set_cons_succ]
      refine takeS 51 54 rfl rfl (by kernel_rfl) (by kernel_rfl) (by kernel_rfl) (fun _ _ _ h => h) (by kernel_rfl) (by assumption) ?_
      simp only [List.set_cons_zero, List.set_cons_succ]
      refine takeS 52 55 rfl rfl (by kernel_rfl) (by kernel_rfl) (by kernel_rfl) (fun _ _ _ h => h) (by kernel_rfl) (by assumption) ?_
      simp only [List.set_cons_zero, List.set_cons_succ]
      refine takeS 53 56 rfl rfl (by kernel_rfl) (by kernel_rfl) (by kernel_rfl) (fun _ _ _ h => h) (by kernel_rfl) (by assumption) ?_
      simp only [List.set_cons_zero, List.set_cons_succ]
      refine takeS 54 57 rfl rfl (by kernel_rfl) (by kernel_rfl) (by kernel_rfl) (fun _ _ _ h => h) (by kernel_rfl) (by assumption) ?_
      simp only [List.set_cons_zero, List.set_cons_succ]
      refine takeS 55 58 rfl rfl (by kernel_rfl) (by kernel_rfl) (by kernel_rfl) (fun _ _ _ h => h) (by kernel_rfl) (by assumption) ?_
      simp only [List.set_cons_zero, List.set_cons_succ]
      refine takeW 56 59 (.bool false) rfl rfl (by kernel_rfl) (by kernel_rfl) (by kernel_rfl) (fun _ _ _ h => h) (by kernel_rfl) (by (intro w hSw; go_simp)) (by assumption) ?_
      simp only [List.set_cons_zero, List.set_cons_succ]
      refine takeW 57 2 (.bool false) rfl rfl (by kernel_rfl) (by kernel_rfl) (by kernel_rfl) (fun _ _ _ h => h) (by kernel_rfl) (by (intro w hSw; go_simp)) (by assumption) ?_
      simp only [List.set_cons_zero, List.set_cons_succ]
      refine wpAnyH_done (by kernel_rfl) ?_ _
      have hN : Hid (R = false) := by unfold Hid; rw [hR.out]; unfold fitsM; rw [h_li.out, h_ep.out]; rfl
      go_wp2
      go_ret
      exact ⟨by rw [hN.out]; rfl, hb2⟩
    · replace h_ep : Hid _ := h_ep
      refine takeW 13 16 (.bool true) rfl rfl (by kernel_rfl) (by kernel_rfl) (by kernel_rfl) (fun _ _ _ h => h) (by kernel_rfl) (by (intro w hSw; go_simp)) (by assumption) ?_
      simp only [List.set_cons_zero, List.set_cons_succ]
      refine takeW 14 17 (.bool true) rfl rfl (by kernel_rfl) (by kernel_rfl) (by kernel_rfl) (fun _ _ _ h => h) (by kernel_rfl) (by (intro w hSw; go_simp)) (by assumption) ?_
      simp only [List.set_cons_zero, List.set_cons_succ]
      refine takeW 15 18 (.pointer (some ⟨q, 0, none⟩)) rfl rfl (by kernel_rfl) (by kernel_rfl) (by kernel_rfl) (fun _ _ _ h => h) (by kernel_rfl) (by (intro w hSw; go_simp)) (by assumption) ?_
      simp only [List.set_cons_zero, List.set_cons_succ]
      refine takeW 16 19 (.pointer (some ⟨q, 0, none⟩)) rfl rfl (by kernel_rfl) (by kernel_rfl) (by kernel_rfl) (fun _ _ _ h => h) (by kernel_rfl) (by (intro w hSw; go_simp)) (by assumption) ?_
      simp only [List.set_cons_zero, List.set_cons_succ]
      refine takeW 17 20 (.pointer (some ⟨q, 1, none⟩)) rfl rfl (by kernel_rfl) (by kernel_rfl) (by kernel_rfl) (fun _ _ _ h => h) (by kernel_rfl) (by (intro w hSw; go_simp)) (by assumption) ?_
      simp only [List.set_cons_zero, List.set_cons_succ]
      refine takeW 18 21 (.pointer (some ⟨q, 6, none⟩)) rfl rfl (by kernel_rfl) (by kernel_rfl) (by kernel_rfl) (fun _ _ _ h => h) (by kernel_rfl) (by (intro w hSw; go_simp)) (by assumption) ?_
      simp only [List.set_cons_zero, List.set_cons_succ]
      refine takeW 19 22 (.int .i64 m.al) rfl rfl (by kernel_rfl) (by kernel_rfl) (by kernel_rfl) (fun _ _ _ h => h) (by kernel_rfl) (by (intro Y hSw; obtain ⟨X0, X1, X2, X3, X4, X5, X6, XF⟩ := M.below hSw M.lt; go_simp)) (by assumption) ?_
      simp only [List.set_cons_zero, List.set_cons_succ]
      refine wpAnyH_all (rs := [20]) (by kernel_rfl) (by simp) ?_
      intro i hi; obtain rfl : i = 20 := by simpa using hi
      refine wpOp_step rfl (fun Kz hKz => ?_)
      rw [if_pos (by kernel_rfl)]
      go_simp
      go_at_call 50
      refine (numFitsI m.al u2).mono ?_
      rintro e u3 ⟨rfl, kq⟩
      replace kq : Below u2.heap.size u2 u3 := by rw [kq]; exact Below.refl _ _
      have hb3 : Below w.heap.size w u3 := hb2.trans (kq.mono hb2.size)
      clear kq
      refine hKz _ _ ⟨hb3, ?_⟩
      clear hKz Kz hi
      cases h_al : (numB m.al)
      · replace h_al : Hid _ := h_al
        refine takeW 21 24 (.bool false) rfl rfl (by kernel_rfl) (by kernel_rfl) (by kernel_rfl) (fun _ _ _ h => h) (by kernel_rfl) (by (intro w hSw; go_simp)) (by assumption) ?_
        simp only [List.set_cons_zero, List.set_cons_succ]
        refine takeW 22 25 (.bool false) rfl rfl (by kernel_rfl) (by kernel_rfl) (by kernel_rfl) (fun _ _ _ h => h) (by kernel_rfl) (by (intro w hSw; go_simp)) (by assumption) ?_
        simp only [List.set_cons_zero, List.set_cons_succ]
        refine takeS 23 26 rfl rfl (by kernel_rfl) (by kernel_rfl) (by kernel_rfl) (fun _ _ _ h => h) (by kernel_rfl) (by assumption) ?_
        simp only [List.set_cons_zero, List.set_cons_succ]
        refine takeS 24 27 rfl rfl (by kernel_rfl) (by kernel_rfl) (by kernel_rfl) (fun _ _ _ h => h) (by kernel_rfl) (by assumption) ?_
        simp only [List.set_cons_zero, List.set_cons_succ]
        refine takeS 25 28 rfl rfl (by kernel_rfl) (by kernel_rfl) (by kernel_rfl) (fun _ _ _ h => h) (by kernel_rfl) (by assumption) ?_
        simp only [List.set_cons_zero, List.set_cons_succ]
        refine takeS 26 29 rfl rfl (by kernel_rfl) (by kernel_rfl) (by kernel_rfl) (fun _ _ _ h => h) (by kernel_rfl) (by assumption) ?_
        simp only [List.set_cons_zero, List.set_cons_succ]
        refine takeS 27 30 rfl rfl (by kernel_rfl) (by kernel_rfl) (by kernel_rfl) (fun _ _ _ h => h) (by kernel_rfl) (by assumption) ?_
        simp only [List.set_cons_zero, List.set_cons_succ]
        refine takeW 28 31 (.bool false) rfl rfl (by kernel_rfl) (by kernel_rfl) (by kernel_rfl) (fun _ _ _ h => h) (by kernel_rfl) (by (intro w hSw; go_simp)) (by assumption) ?_
        simp only [List.set_cons_zero, List.set_cons_succ]
        refine takeW 29 32 (.bool false) rfl rfl (by kernel_rfl) (by kernel_rfl) (by kernel_rfl) (fun _ _ _ h => h) (by kernel_rfl) (by (intro w hSw; go_simp)) (by assumption) ?_
        simp only [List.set_cons_zero, List.set_cons_succ]
        refine takeS 30 33 rfl rfl (by kernel_rfl) (by kernel_rfl) (by kernel_rfl) (fun _ _ _ h => h) (by kernel_rfl) (by assumption) ?_
        simp only [List.set_cons_zero, List.set_cons_succ]
        refine takeS 31 34 rfl rfl (by kernel_rfl) (by kernel_rfl) (by kernel_rfl) (fun _ _ _ h => h) (by kernel_rfl) (by assumption) ?_
        simp only [List.set_cons_zero, List.set_cons_succ]
        refine takeS 32 35 rfl rfl (by kernel_rfl) (by kernel_rfl) (by kernel_rfl) (fun _ _ _ h => h) (by kernel_rfl) (by assumption) ?_
        simp only [List.set_cons_zero, List.set_cons_succ]
        refine takeS 33 36 rfl rfl (by kernel_rfl) (by kernel_rfl) (by kernel_rfl) (fun _ _ _ h => h) (by kernel_rfl) (by assumption) ?_
        simp only [List.set_cons_zero, List.set_cons_succ]
        refine takeW 34 37 (.bool false) rfl rfl (by kernel_rfl) (by kernel_rfl) (by kernel_rfl) (fun _ _ _ h => h) (by kernel_rfl) (by (intro w hSw; go_simp)) (by assumption) ?_
        simp only [List.set_cons_zero, List.set_cons_succ]
        refine takeW 35 38 (.bool false) rfl rfl (by kernel_rfl) (by kernel_rfl) (by kernel_rfl) (fun _ _ _ h => h) (by kernel_rfl) (by (intro w hSw; go_simp)) (by assumption) ?_
        simp only [List.set_cons_zero, List.set_cons_succ]
        refine takeS 36 39 rfl rfl (by kernel_rfl) (by kernel_rfl) (by kernel_rfl) (fun _ _ _ h => h) (by kernel_rfl) (by assumption) ?_
        simp only [List.set_cons_zero, List.set_cons_succ]
        refine takeS 37 40 rfl rfl (by kernel_rfl) (by kernel_rfl) (by kernel_rfl) (fun _ _ _ h => h) (by kernel_rfl) (by assumption) ?_
        simp only [List.set_cons_zero, List.set_cons_succ]
        refine takeS 38 41 rfl rfl (by kernel_rfl) (by kernel_rfl) (by kernel_rfl) (fun _ _ _ h => h) (by kernel_rfl) (by assumption) ?_
        simp only [List.set_cons_zero, List.set_cons_succ]
        refine takeS 39 42 rfl rfl (by kernel_rfl) (by kernel_rfl) (by kernel_rfl) (fun _ _ _ h => h) (by kernel_rfl) (by assumption) ?_
        simp only [List.set_cons_zero, List.set_cons_succ]
        refine takeS 40 43 rfl rfl (by kernel_rfl) (by kernel_rfl) (by kernel_rfl) (fun _ _ _ h => h) (by kernel_rfl) (by assumption) ?_
        simp only [List.set_cons_zero, List.set_cons_succ]
        refine takeS 41 44 rfl rfl (by kernel_rfl) (by kernel_rfl) (by kernel_rfl) (fun _ _ _ h => h) (by kernel_rfl) (by assumption) ?_
        simp only [List.set_cons_zero, List.set_cons_succ]
        refine takeS 42 45 rfl rfl (by kernel_rfl) (by kernel_rfl) (by kernel_rfl) (fun _ _ _ h => h) (by kernel_rfl) (by assumption) ?_
        simp only [List.set_cons_zero, List.set_cons_succ]
        refine takeS 43 46 rfl rfl (by kernel_rfl) (by kernel_rfl) (by kernel_rfl) (fun _ _ _ h => h) (by kernel_rfl) (by assumption) ?_
        simp only [List.set_cons_zero, List.set_cons_succ]
        refine takeS 44 47 rfl rfl (by kernel_rfl) (by kernel_rfl) (by kernel_rfl) (fun _ _ _ h => h) (by kernel_rfl) (by assumption) ?_
        simp only [List.set_cons_zero, List.set_cons_succ]
        refine takeW 45 48 (.bool false) rfl rfl (by kernel_rfl) (by kernel_rfl) (by kernel_rfl) (fun _ _ _ h => h) (by kernel_rfl) (by (intro w hSw; go_simp)) (by assumption) ?_
        simp only [List.set_cons_zero, List.set_cons_succ]
        refine takeW 46 49 (.bool false) rfl rfl (by kernel_rfl) (by kernel_rfl) (by kernel_rfl) (fun _ _ _ h => h) (by kernel_rfl) (by (intro w hSw; go_simp)) (by assumption) ?_
        simp only [List.set_cons_zero, List.set_cons_succ]
        refine takeS 47 50 rfl rfl (by kernel_rfl) (by kernel_rfl) (by kernel_rfl) (fun _ _ _ h => h) (by kernel_rfl) (by assumption) ?_
        simp only [List.set_cons_zero, List.set_cons_succ]
        refine takeS 48 51 rfl rfl (by kernel_rfl) (by kernel_rfl) (by kernel_rfl) (fun _ _ _ h => h) (by kernel_rfl) (by assumption) ?_
        simp only [List.set_cons_zero, List.set_cons_succ]
        refine takeS 49 52 rfl rfl (by kernel_rfl) (by kernel_rfl) (by kernel_rfl) (fun _ _ _ h => h) (by kernel_rfl) (by assumption) ?_
        simp only [List.set_cons_zero, List.set_cons_succ]
        refine takeS 50 53 rfl rfl (by kernel_rfl) (by kernel_rfl) (by kernel_rfl) (fun _ _ _ h => h) (by kernel_rfl) (by assumption) ?_
        simp only [List.set_cons_zero, List.set_cons_succ]
        refine takeS 51 54 rfl rfl (by kernel_rfl) (by kernel_rfl) (by kernel_rfl) (fun _ _ _ h => h) (by kernel_rfl) (by assumption) ?_
        simp only [List.set_cons_zero, List.set_cons_succ]
        refine takeS 52 55 rfl rfl (by kernel_rfl) (by kernel_rfl) (by kernel_rfl) (fun _ _ _ h => h) (by kernel_rfl) (by assumption) ?_
        simp only [List.set_cons_zero, List.set_cons_succ]
        refine takeS 53 56 rfl rfl (by kernel_rfl) (by kernel_rfl) (by kernel_rfl) (fun _ _ _ h => h) (by kernel_rfl) (by assumption) ?_
        simp only [List.set_cons_zero, List.set_cons_succ]
        refine takeS 54 57 rfl rfl (by kernel_rfl) (by kernel_rfl) (by kernel_rfl) (fun _ _ _ h => h) (by kernel_rfl) (by assumption) ?_
        simp only [List.set_cons_zero, List.set_cons_succ]
        refine takeS 55 58 rfl rfl (by kernel_rfl) (by kernel_rfl) (by kernel_rfl) (fun _ _ _ h => h) (by kernel_rfl) (by assumption) ?_
        simp only [List.set_cons_zero, List.set_cons_succ]
        refine takeW 56 59 (.bool false) rfl rfl (by kernel_rfl) (by kernel_rfl) (by kernel_rfl) (fun _ _ _ h => h) (by kernel_rfl) (by (intro w hSw; go_simp)) (by assumption) ?_
        simp only [List.set_cons_zero, List.set_cons_succ]
        refine takeW 57 2 (.bool false) rfl rfl (by kernel_rfl) (by kernel_rfl) (by kernel_rfl) (fun _ _ _ h => h) (by kernel_rfl) (by (intro w hSw; go_simp)) (by assumption) ?_
        simp only [List.set_cons_zero, List.set_cons_succ]
        refine wpAnyH_done (by kernel_rfl) ?_ _
        have hN : Hid (R = false) := by unfold Hid; rw [hR.out]; unfold fitsM; rw [h_li.out, h_ep.out, h_al.out]; rfl
        go_wp2
        go_ret
        exact ⟨by rw [hN.out]; rfl, hb3⟩
      · replace h_al : Hid _ := h_al
        refine takeW 21 24 (.bool true) rfl rfl (by kernel_rfl) (by kernel_rfl) (by kernel_rfl) (fun _ _ _ h => h) (by kernel_rfl) (by (intro w hSw; go_simp)) (by assumption) ?_
        simp only [List.set_cons_zero, List.set_cons_succ]
        refine takeW 22 25 (.bool true) rfl rfl (by kernel_rfl) (by kernel_rfl) (by kernel_rfl) (fun _ _ _ h => h) (by kernel_rfl) (by (intro w hSw; go_simp)) (by assumption) ?_
        simp only [List.set_cons_zero, List.set_cons_succ]
        refine takeW 23 26 (.pointer (some ⟨q, 0, none⟩)) rfl rfl (by kernel_rfl) (by kernel_rfl) (by kernel_rfl) (fun _ _ _ h => h) (by kernel_rfl) (by (intro w hSw; go_simp)) (by assumption) ?_
        simp only [List.set_cons_zero, List.set_cons_succ]
        refine takeW 24 27 (.pointer (some ⟨q, 0, none⟩)) rfl rfl (by kernel_rfl) (by kernel_rfl) (by kernel_rfl) (fun _ _ _ h => h) (by kernel_rfl) (by (intro w hSw; go_simp)) (by assumption) ?_
        simp only [List.set_cons_zero, List.set_cons_succ]
        refine takeW 25 28 (.pointer (some ⟨q, 0, none⟩)) rfl rfl (by kernel_rfl) (by kernel_rfl) (by kernel_rfl) (fun _ _ _ h => h) (by kernel_rfl) (by (intro w hSw; go_simp)) (by assumption) ?_
        simp only [List.set_cons_zero, List.set_cons_succ]
        refine wpAnyH_all (rs := [26]) (by kernel_rfl) (by simp) ?_
        intro i hi; obtain rfl : i = 26 := by simpa using hi
        refine wpOp_step rfl (fun Kz hKz => ?_)
        rw [if_pos (by kernel_rfl)]
        go_simp
        go_at_call 113
        refine (countI q m.lg.length ad cap u3 (M.below hb3 M.lt).c0).mono ?_
        rintro e u4 ⟨rfl, kq⟩
        replace kq : Below u3.heap.size u3 u4 := by rw [kq]; exact Below.refl _ _
        have hb4 : Below w.heap.size w u4 := hb3.trans (kq.mono hb3.size)
        clear kq
        refine hKz _ _ ⟨hb4, ?_⟩
        clear hKz Kz hi
        refine takeW 27 30 (.bool (decide ((m.lg.length : Int) ≤ 60))) rfl rfl (by kernel_rfl) (by kernel_rfl) (by kernel_rfl) (fun _ _ _ h => h) (by kernel_rfl) (by (intro w hSw; go_simp)) (by assumption) ?_
        simp only [List.set_cons_zero, List.set_cons_succ]
        cases h_len : (decide ((m.lg.length : Int) ≤ 60))
        · replace h_len : Hid _ := h_len
          refine takeW 28 31 (.bool false) rfl rfl (by kernel_rfl) (by kernel_rfl) (by kernel_rfl) (fun _ _ _ h => h) (by kernel_rfl) (by (intro w hSw; go_simp)) (by assumption) ?_
          simp only [List.set_cons_zero, List.set_cons_succ]
          refine takeW 29 32 (.bool false) rfl rfl (by kernel_rfl) (by kernel_rfl) (by kernel_rfl) (fun _ _ _ h => h) (by kernel_rfl) (by (intro w hSw; go_simp)) (by assumption) ?_
          simp only [List.set_cons_zero, List.set_cons_succ]
          refine takeS 30 33 rfl rfl (by kernel_rfl) (by kernel_rfl) (by kernel_rfl) (fun _ _ _ h => h) (by kernel_rfl) (by assumption) ?_
          simp only [List.set_cons_zero, List.set_cons_succ]
          refine takeS 31 34 rfl rfl (by kernel_rfl) (by kernel_rfl) (by kernel_rfl) (fun _ _ _ h => h) (by kernel_rfl) (by assumption) ?_
          simp only [List.set_cons_zero, List.set_cons_succ]
          refine takeS 32 35 rfl rfl (by kernel_rfl) (by kernel_rfl) (by kernel_rfl) (fun _ _ _ h => h) (by kernel_rfl) (by assumption) ?_
          simp only [List.set_cons_zero, List.set_cons_succ]
          refine takeS 33 36 rfl rfl (by kernel_rfl) (by kernel_rfl) (by kernel_rfl) (fun _ _ _ h => h) (by kernel_rfl) (by assumption) ?_
          simp only [List.set_cons_zero, List.set_cons_succ]
          refine takeW 34 37 (.bool false) rfl rfl (by kernel_rfl) (by kernel_rfl) (by kernel_rfl) (fun _ _ _ h => h) (by kernel_rfl) (by (intro w hSw; go_simp)) (by assumption) ?_
          simp only [List.set_cons_zero, List.set_cons_succ]
          refine takeW 35 38 (.bool false) rfl rfl (by kernel_rfl) (by kernel_rfl) (by kernel_rfl) (fun _ _ _ h => h) (by kernel_rfl) (by (intro w hSw; go_simp)) (by assumption) ?_
          simp only [List.set_cons_zero, List.set_cons_succ]
          refine takeS 36 39 rfl rfl (by kernel_rfl) (by kernel_rfl) (by kernel_rfl) (fun _ _ _ h => h) (by kernel_rfl) (by assumption) ?_
          simp only [List.set_cons_zero, List.set_cons_succ]
          refine takeS 37 40 rfl rfl (by kernel_rfl) (by kernel_rfl) (by kernel_rfl) (fun _ _ _ h => h) (by kernel_rfl) (by assumption) ?_
          simp only [List.set_cons_zero, List.set_cons_succ]
          refine takeS 38 41 rfl rfl (by kernel_rfl) (by kernel_rfl) (by kernel_rfl) (fun _ _ _ h => h) (by kernel_rfl) (by assumption) ?_
          simp only [List.set_cons_zero, List.set_cons_succ]
          refine takeS 39 42 rfl rfl (by kernel_rfl) (by kernel_rfl) (by kernel_rfl) (fun _ _ _ h => h) (by kernel_rfl) (by assumption) ?_
          simp only [List.set_cons_zero, List.set_cons_succ]
          refine takeS 40 43 rfl rfl (by kernel_rfl) (by kernel_rfl) (by kernel_rfl) (fun _ _ _ h => h) (by kernel_rfl) (by assumption) ?_
          simp only [List.set_cons_zero, List.set_cons_succ]
          refine takeS 41 44 rfl rfl (by kernel_rfl) (by kernel_rfl) (by kernel_rfl) (fun _ _ _ h => h) (by kernel_rfl) (by assumption) ?_
          simp only [List.set_cons_zero, List.set_cons_succ]
          refine takeS 42 45 rfl rfl (by kernel_rfl) (by kernel_rfl) (by kernel_rfl) (fun _ _ _ h => h) (by kernel_rfl) (by assumption) ?_
          simp only [List.set_cons_zero, List.set_cons_succ]
          refine takeS 43 46 rfl rfl (by kernel_rfl) (by kernel_rfl) (by kernel_rfl) (fun _ _ _ h => h) (by kernel_rfl) (by assumption) ?_
          simp only [List.set_cons_zero, List.set_cons_succ]
          refine takeS 44 47 rfl rfl (by kernel_rfl) (by kernel_rfl) (by kernel_rfl) (fun _ _ _ h => h) (by kernel_rfl) (by assumption) ?_
          simp only [List.set_cons_zero, List.set_cons_succ]
          refine takeW 45 48 (.bool false) rfl rfl (by kernel_rfl) (by kernel_rfl) (by kernel_rfl) (fun _ _ _ h => h) (by kernel_rfl) (by (intro w hSw; go_simp)) (by assumption) ?_
          simp only [List.set_cons_zero, List.set_cons_succ]
          refine takeW 46 49 (.bool false) rfl rfl (by kernel_rfl) (by kernel_rfl) (by kernel_rfl) (fun _ _ _ h => h) (by kernel_rfl) (by (intro w hSw; go_simp)) (by assumption) ?_
          simp only [List.set_cons_zero, List.set_cons_succ]
          refine takeS 47 50 rfl rfl (by kernel_rfl) (by kernel_rfl) (by kernel_rfl) (fun _ _ _ h => h) (by kernel_rfl) (by assumption) ?_
          simp only [List.set_cons_zero, List.set_cons_succ]
          refine takeS 48 51 rfl rfl (by kernel_rfl) (by kernel_rfl) (by kernel_rfl) (fun _ _ _ h => h) (by kernel_rfl) (by assumption) ?_
          simp only [List.set_cons_zero, List.set_cons_succ]
          refine takeS 49 52 rfl rfl (by kernel_rfl) (by kernel_rfl) (by kernel_rfl) (fun _ _ _ h => h) (by kernel_rfl) (by assumption) ?_
          simp only [List.set_cons_zero, List.set_cons_succ]
          refine takeS 50 53 rfl rfl (by kernel_rfl) (by kernel_rfl) (by kernel_rfl) (fun _ _ _ h => h) (by kernel_rfl) (by assumption) ?_
          simp only [List.set_cons_zero, List.set_cons_succ]
          refine takeS 51 54 rfl rfl (by kernel_rfl) (by kernel_rfl) (by kernel_rfl) (fun _ _ _ h => h) (by kernel_rfl) (by assumption) ?_
          simp only [List.set_cons_zero, List.set_cons_succ]
          refine takeS 52 55 rfl rfl (by kernel_rfl) (by kernel_rfl) (by kernel_rfl) (fun _ _ _ h => h) (by kernel_rfl) (by assumption) ?_
          simp only [List.set_cons_zero, List.set_cons_succ]
          refine takeS 53 56 rfl rfl (by kernel_rfl) (by kernel_rfl) (by kernel_rfl) (fun _ _ _ h => h) (by kernel_rfl) (by assumption) ?_
          simp only [List.set_cons_zero, List.set_cons_succ]
          refine takeS 54 57 rfl rfl (by kernel_rfl) (by kernel_rfl) (by kernel_rfl) (fun _ _ _ h => h) (by kernel_rfl) (by assumption) ?_
          simp only [List.set_cons_zero, List.set_cons_succ]
          refine takeS 55 58 rfl rfl (by kernel_rfl) (by kernel_rfl) (by kernel_rfl) (fun _ _ _ h => h) (by kernel_rfl) (by assumption) ?_
          simp only [List.set_cons_zero, List.set_cons_succ]
          refine takeW 56 59 (.bool false) rfl rfl (by kernel_rfl) (by kernel_rfl) (by kernel_rfl) (fun _ _ _ h => h) (by kernel_rfl) (by (intro w hSw; go_simp)) (by assumption) ?_
          simp only [List.set_cons_zero, List.set_cons_succ]
          refine takeW 57 2 (.bool false) rfl rfl (by kernel_rfl) (by kernel_rfl) (by kernel_rfl) (fun _ _ _ h => h) (by kernel_rfl) (by (intro w hSw; go_simp)) (by assumption) ?_
          simp only [List.set_cons_zero, List.set_cons_succ]
          refine wpAnyH_done (by kernel_rfl) ?_ _
          have hN : Hid (R = false) := by unfold Hid; rw [hR.out]; unfold fitsM; rw [h_li.out, h_ep.out, h_al.out, h_len.out]; rfl
          go_wp2
          go_ret
          exact ⟨by rw [hN.out]; rfl, hb4⟩
        · replace h_len : Hid _ := h_len
          refine takeW 28 31 (.bool true) rfl rfl (by kernel_rfl) (by kernel_rfl) (by kernel_rfl) (fun _ _ _ h => h) (by kernel_rfl) (by (intro w hSw; go_simp)) (by assumption) ?_
          simp only [List.set_cons_zero, List.set_cons_succ]
          refine takeW 29 32 (.bool true) rfl rfl (by kernel_rfl) (by kernel_rfl) (by kernel_rfl) (fun _ _ _ h => h) (by kernel_rfl) (by (intro w hSw; go_simp)) (by assumption) ?_
          simp only [List.set_cons_zero, List.set_cons_succ]
          refine takeW 30 33 (.pointer (some ⟨q, 0, none⟩)) rfl rfl (by kernel_rfl) (by kernel_rfl) (by kernel_rfl) (fun _ _ _ h => h) (by kernel_rfl) (by (intro w hSw; go_simp)) (by assumption) ?_
          simp only [List.set_cons_zero, List.set_cons_succ]
          refine takeW 31 34 (.pointer (some ⟨q, 0, none⟩)) rfl rfl (by kernel_rfl) (by kernel_rfl) (by kernel_rfl) (fun _ _ _ h => h) (by kernel_rfl) (by (intro w hSw; go_simp)) (by assumption) ?_
          simp only [List.set_cons_zero, List.set_cons_succ]
          refine takeW 32 35 (.pointer (some ⟨q, 0, none⟩)) rfl rfl (by kernel_rfl) (by kernel_rfl) (by kernel_rfl) (fun _ _ _ h => h) (by kernel_rfl) (by (intro w hSw; go_simp)) (by assumption) ?_
          simp only [List.set_cons_zero, List.set_cons_succ]
          refine wpAnyH_all (rs := [33]) (by kernel_rfl) (by simp) ?_
          intro i hi; obtain rfl : i = 33 := by simpa using hi
          refine wpOp_step rfl (fun Kz hKz => ?_)
          rw [if_pos (by kernel_rfl)]
          go_simp
          go_at_call 114
          refine (eachI q ad cap m.lg u4 (M.below hb4 M.lt).c0 (hv.below hb4 (hv.lt ikEnc_len (by omega))) hl).mono ?_
          rintro e u5 ⟨rfl, kq⟩
          have hb5 : Below w.heap.size w u5 := hb4.trans (kq.mono hb4.size)
          clear kq
          refine hKz _ _ ⟨hb5, ?_⟩
          clear hKz Kz hi
          cases h_all : (m.lg.all inOk)
          · replace h_all : Hid _ := h_all
            refine takeW 34 37 (.bool false) rfl rfl (by kernel_rfl) (by kernel_rfl) (by kernel_rfl) (fun _ _ _ h => h) (by kernel_rfl) (by (intro w hSw; go_simp)) (by assumption) ?_
            simp only [List.set_cons_zero, List.set_cons_succ]
            refine takeW 35 38 (.bool false) rfl rfl (by kernel_rfl) (by kernel_rfl) (by kernel_rfl) (fun _ _ _ h => h) (by kernel_rfl) (by (intro w hSw; go_simp)) (by assumption) ?_
            simp only [List.set_cons_zero, List.set_cons_succ]
            refine takeS 36 39 rfl rfl (by kernel_rfl) (by kernel_rfl) (by kernel_rfl) (fun _ _ _ h => h) (by kernel_rfl) (by assumption) ?_
            simp only [List.set_cons_zero, List.set_cons_succ]
            refine takeS 37 40 rfl rfl (by kernel_rfl) (by kernel_rfl) (by kernel_rfl) (fun _ _ _ h => h) (by kernel_rfl) (by assumption) ?_
            simp only [List.set_cons_zero, List.set_cons_succ]
            refine takeS 38 41 rfl rfl (by kernel_rfl) (by kernel_rfl) (by kernel_rfl) (fun _ _ _ h => h) (by kernel_rfl) (by assumption) ?_
            simp only [List.set_cons_zero, List.set_cons_succ]
            refine takeS 39 42 rfl rfl (by kernel_rfl) (by kernel_rfl) (by kernel_rfl) (fun _ _ _ h => h) (by kernel_rfl) (by assumption) ?_
            simp only [List.set_cons_zero, List.set_cons_succ]
            refine takeS 40 43 rfl rfl (by kernel_rfl) (by kernel_rfl) (by kernel_rfl) (fun _ _ _ h => h) (by kernel_rfl) (by assumption) ?_
            simp only [List.set_cons_zero, List.set_cons_succ]
            refine takeS 41 44 rfl rfl (by kernel_rfl) (by kernel_rfl) (by kernel_rfl) (fun _ _ _ h => h) (by kernel_rfl) (by assumption) ?_
            simp only [List.set_cons_zero, List.set_cons_succ]
            refine takeS 42 45 rfl rfl (by kernel_rfl) (by kernel_rfl) (by kernel_rfl) (fun _ _ _ h => h) (by kernel_rfl) (by assumption) ?_
            simp only [List.set_cons_zero, List.set_cons_succ]
            refine takeS 43 46 rfl rfl (by kernel_rfl) (by kernel_rfl) (by kernel_rfl) (fun _ _ _ h => h) (by kernel_rfl) (by assumption) ?_
            simp only [List.set_cons_zero, List.set_cons_succ]
            refine takeS 44 47 rfl rfl (by kernel_rfl) (by kernel_rfl) (by kernel_rfl) (fun _ _ _ h => h) (by kernel_rfl) (by assumption) ?_
            simp only [List.set_cons_zero, List.set_cons_succ]
            refine takeW 45 48 (.bool false) rfl rfl (by kernel_rfl) (by kernel_rfl) (by kernel_rfl) (fun _ _ _ h => h) (by kernel_rfl) (by (intro w hSw; go_simp)) (by assumption) ?_
            simp only [List.set_cons_zero, List.set_cons_succ]
            refine takeW 46 49 (.bool false) rfl rfl (by kernel_rfl) (by kernel_rfl) (by kernel_rfl) (fun _ _ _ h => h) (by kernel_rfl) (by (intro w hSw; go_simp)) (by assumption) ?_
            simp only [List.set_cons_zero, List.set_cons_succ]
            refine takeS 47 50 rfl rfl (by kernel_rfl) (by kernel_rfl) (by kernel_rfl) (fun _ _ _ h => h) (by kernel_rfl) (by assumption) ?_
            simp only [List.set_cons_zero, List.set_cons_succ]
            refine takeS 48 51 rfl rfl (by kernel_rfl) (by kernel_rfl) (by kernel_rfl) (fun _ _ _ h => h) (by kernel_rfl) (by assumption) ?_
            simp only [List.set_cons_zero, List.set_cons_succ]
            refine takeS 49 52 rfl rfl (by kernel_rfl) (by kernel_rfl) (by kernel_rfl) (fun _ _ _ h => h) (by kernel_rfl) (by assumption) ?_
            simp only [List.set_cons_zero, List.set_cons_succ]
            refine takeS 50 53 rfl rfl (by kernel_rfl) (by kernel_rfl) (by kernel_rfl) (fun _ _ _ h => h) (by kernel_rfl) (by assumption) ?_
            simp only [List.set_cons_zero, List.set_cons_succ]
            refine takeS 51 54 rfl rfl (by kernel_rfl) (by kernel_rfl) (by kernel_rfl) (fun _ _ _ h => h) (by kernel_rfl) (by assumption) ?_
            simp only [List.set_cons_zero, List.set_cons_succ]
            refine takeS 52 55 rfl rfl (by kernel_rfl) (by kernel_rfl) (by kernel_rfl) (fun _ _ _ h => h) (by kernel_rfl) (by assumption) ?_
            simp only [List.set_cons_zero, List.set_cons_succ]
            refine takeS 53 56 rfl rfl (by kernel_rfl) (by kernel_rfl) (by kernel_rfl) (fun _ _ _ h => h) (by kernel_rfl) (by assumption) ?_
            simp only [List.set_cons_zero, List.set_cons_succ]
            refine takeS 54 57 rfl rfl (by kernel_rfl) (by kernel_rfl) (by kernel_rfl) (fun _ _ _ h => h) (by kernel_rfl) (by assumption) ?_
            simp only [List.set_cons_zero, List.set_cons_succ]
            refine takeS 55 58 rfl rfl (by kernel_rfl) (by kernel_rfl) (by kernel_rfl) (fun _ _ _ h => h) (by kernel_rfl) (by assumption) ?_
            simp only [List.set_cons_zero, List.set_cons_succ]
            refine takeW 56 59 (.bool false) rfl rfl (by kernel_rfl) (by kernel_rfl) (by kernel_rfl) (fun _ _ _ h => h) (by kernel_rfl) (by (intro w hSw; go_simp)) (by assumption) ?_
            simp only [List.set_cons_zero, List.set_cons_succ]
            refine takeW 57 2 (.bool false) rfl rfl (by kernel_rfl) (by kernel_rfl) (by kernel_rfl) (fun _ _ _ h => h) (by kernel_rfl) (by (intro w hSw; go_simp)) (by assumption) ?_
            simp only [List.set_cons_zero, List.set_cons_succ]
            refine wpAnyH_done (by kernel_rfl) ?_ _
            have hN : Hid (R = false) := by unfold Hid; rw [hR.out]; unfold fitsM; rw [h_li.out, h_ep.out, h_al.out, h_len.out, h_all.out]; rfl
            go_wp2
            go_ret
            exact ⟨by rw [hN.out]; rfl, hb5⟩
          · replace h_all : Hid _ := h_all
            refine takeW 34 37 (.bool true) rfl rfl (by kernel_rfl) (by kernel_rfl) (by kernel_rfl) (fun _ _ _ h => h) (by kernel_rfl) (by (intro w hSw; go_simp)) (by assumption) ?_
            simp only [List.set_cons_zero, List.set_cons_succ]
            refine takeW 35 38 (.bool true) rfl rfl (by kernel_rfl) (by kernel_rfl) (by kernel_rfl) (fun _ _ _ h => h) (by kernel_rfl) (by (intro w hSw; go_simp)) (by assumption) ?_
            simp only [List.set_cons_zero, List.set_cons_succ]
            refine takeW 36 39 (.pointer (some ⟨q, 0, none⟩)) rfl rfl (by kernel_rfl) (by kernel_rfl) (by kernel_rfl) (fun _ _ _ h => h) (by kernel_rfl) (by (intro w hSw; go_simp)) (by assumption) ?_
            simp only [List.set_cons_zero, List.set_cons_succ]
            refine takeW 37 40 (.pointer (some ⟨q, 0, none⟩)) rfl rfl (by kernel_rfl) (by kernel_rfl) (by kernel_rfl) (fun _ _ _ h => h) (by kernel_rfl) (by (intro w hSw; go_simp)) (by assumption) ?_
            simp only [List.set_cons_zero, List.set_cons_succ]
            refine takeW 38 41 (.pointer (some ⟨q, 0, none⟩)) rfl rfl (by kernel_rfl) (by kernel_rfl) (by kernel_rfl) (fun _ _ _ h => h) (by kernel_rfl) (by (intro w hSw; go_simp)) (by assumption) ?_
            simp only [List.set_cons_zero, List.set_cons_succ]
            refine takeW 39 42 (.pointer (some ⟨q, 0, none⟩)) rfl rfl (by kernel_rfl) (by kernel_rfl) (by kernel_rfl) (fun _ _ _ h => h) (by kernel_rfl) (by (intro w hSw; go_simp)) (by assumption) ?_
            simp only [List.set_cons_zero, List.set_cons_succ]
            refine takeW 40 43 (.pointer (some ⟨q, 0, none⟩)) rfl rfl (by kernel_rfl) (by kernel_rfl) (by kernel_rfl) (fun _ _ _ h => h) (by kernel_rfl) (by (intro w hSw; go_simp)) (by assumption) ?_
            simp only [List.set_cons_zero, List.set_cons_succ]
            refine takeW 41 44 (.pointer (some ⟨q, 1, none⟩)) rfl rfl (by kernel_rfl) (by kernel_rfl) (by kernel_rfl) (fun _ _ _ h => h) (by kernel_rfl) (by (intro w hSw; go_simp)) (by assumption) ?_
            simp only [List.set_cons_zero, List.set_cons_succ]
            refine takeW 42 45 (.pointer (some ⟨q, 4, none⟩)) rfl rfl (by kernel_rfl) (by kernel_rfl) (by kernel_rfl) (fun _ _ _ h => h) (by kernel_rfl) (by (intro w hSw; go_simp)) (by assumption) ?_
            simp only [List.set_cons_zero, List.set_cons_succ]
            refine takeW 43 46 (.int .i64 m.sd) rfl rfl (by kernel_rfl) (by kernel_rfl) (by kernel_rfl) (fun _ _ _ h => h) (by kernel_rfl) (by (intro Y hSw; obtain ⟨X0, X1, X2, X3, X4, X5, X6, XF⟩ := M.below hSw M.lt; go_simp)) (by assumption) ?_
            simp only [List.set_cons_zero, List.set_cons_succ]
            refine wpAnyH_all (rs := [44]) (by kernel_rfl) (by simp) ?_
            intro i hi; obtain rfl : i = 44 := by simpa using hi
            refine wpOp_step rfl (fun Kz hKz => ?_)
            rw [if_pos (by kernel_rfl)]
            go_simp
            go_at_call 116
            refine (begI q m.lg.length ad cap m.sd u5 (M.below hb5 M.lt).c0).mono ?_
            rintro e u6 ⟨rfl, kq⟩
            replace kq : Below u5.heap.size u5 u6 := by rw [kq]; exact Below.refl _ _
            have hb6 : Below w.heap.size w u6 := hb5.trans (kq.mono hb5.size)
            clear kq
            refine hKz _ _ ⟨hb6, ?_⟩
            clear hKz Kz hi
            cases h_sd : (decide (0 ≤ m.sd ∧ m.sd ≤ (m.lg.length : Int)))
            · replace h_sd : Hid _ := h_sd
              refine takeW 45 48 (.bool false) rfl rfl (by kernel_rfl) (by kernel_rfl) (by kernel_rfl) (fun _ _ _ h => h) (by kernel_rfl) (by (intro w hSw; go_simp)) (by assumption) ?_
              simp only [List.set_cons_zero, List.set_cons_succ]
              refine takeW 46 49 (.bool false) rfl rfl (by kernel_rfl) (by kernel_rfl) (by kernel_rfl) (fun _ _ _ h => h) (by kernel_rfl) (by (intro w hSw; go_simp)) (by assumption) ?_
              simp only [List.set_cons_zero, List.set_cons_succ]
              refine takeS 47 50 rfl rfl (by kernel_rfl) (by kernel_rfl) (by kernel_rfl) (fun _ _ _ h => h) (by kernel_rfl) (by assumption) ?_
              simp only [List.set_cons_zero, List.set_cons_succ]
              refine takeS 48 51 rfl rfl (by kernel_rfl) (by kernel_rfl) (by kernel_rfl) (fun _ _ _ h => h) (by kernel_rfl) (by assumption) ?_
              simp only [List.set_cons_zero, List.set_cons_succ]
              refine takeS 49 52 rfl rfl (by kernel_rfl) (by kernel_rfl) (by kernel_rfl) (fun _ _ _ h => h) (by kernel_rfl) (by assumption) ?_
              simp only [List.set_cons_zero, List.set_cons_succ]
              refine takeS 50 53 rfl rfl (by kernel_rfl) (by kernel_rfl) (by kernel_rfl) (fun _ _ _ h => h) (by kernel_rfl) (by assumption) ?_
              simp only [List.set_cons_zero, List.set_cons_succ]
              refine takeS 51 54 rfl rfl (by kernel_rfl) (by kernel_rfl) (by kernel_rfl) (fun _ _ _ h => h) (by kernel_rfl) (by assumption) ?_
              simp only [List.set_cons_zero, List.set_cons_succ]
              refine takeS 52 55 rfl rfl (by kernel_rfl) (by kernel_rfl) (by kernel_rfl) (fun _ _ _ h => h) (by kernel_rfl) (by assumption) ?_
              simp only [List.set_cons_zero, List.set_cons_succ]
              refine takeS 53 56 rfl rfl (by kernel_rfl) (by kernel_rfl) (by kernel_rfl) (fun _ _ _ h => h) (by kernel_rfl) (by assumption) ?_
              simp only [List.set_cons_zero, List.set_cons_succ]
              refine takeS 54 57 rfl rfl (by kernel_rfl) (by kernel_rfl) (by kernel_rfl) (fun _ _ _ h => h) (by kernel_rfl) (by assumption) ?_
              simp only [List.set_cons_zero, List.set_cons_succ]
              refine takeS 55 58 rfl rfl (by kernel_rfl) (by kernel_rfl) (by kernel_rfl) (fun _ _ _ h => h) (by kernel_rfl) (by assumption) ?_
              simp only [List.set_cons_zero, List.set_cons_succ]
              refine takeW 56 59 (.bool false) rfl rfl (by kernel_rfl) (by kernel_rfl) (by kernel_rfl) (fun _ _ _ h => h) (by kernel_rfl) (by (intro w hSw; go_simp)) (by assumption) ?_
              simp only [List.set_cons_zero, List.set_cons_succ]
              refine takeW 57 2 (.bool false) rfl rfl (by kernel_rfl) (by kernel_rfl) (by kernel_rfl) (fun _ _ _ h => h) (by kernel_rfl) (by (intro w hSw; go_simp)) (by assumption) ?_
              simp only [List.set_cons_zero, List.set_cons_succ]
              refine wpAnyH_done (by kernel_rfl) ?_ _
              have hN : Hid (R = false) := by unfold Hid; rw [hR.out]; unfold fitsM; rw [h_li.out, h_ep.out, h_al.out, h_len.out, h_all.out, h_sd.out]; rfl
              go_wp2
              go_ret
              exact ⟨by rw [hN.out]; rfl, hb6⟩
            · replace h_sd : Hid _ := h_sd
              refine takeW 45 48 (.bool true) rfl rfl (by kernel_rfl) (by kernel_rfl) (by kernel_rfl) (fun _ _ _ h => h) (by kernel_rfl) (by (intro w hSw; go_simp)) (by assumption) ?_
              simp only [List.set_cons_zero, List.set_cons_succ]
              refine takeW 46 49 (.bool true) rfl rfl (by kernel_rfl) (by kernel_rfl) (by kernel_rfl) (fun _ _ _ h => h) (by kernel_rfl) (by (intro w hSw; go_simp)) (by assumption) ?_
              simp only [List.set_cons_zero, List.set_cons_succ]
              refine takeW 47 50 (.pointer (some ⟨q, 0, none⟩)) rfl rfl (by kernel_rfl) (by kernel_rfl) (by kernel_rfl) (fun _ _ _ h => h) (by kernel_rfl) (by (intro w hSw; go_simp)) (by assumption) ?_
              simp only [List.set_cons_zero, List.set_cons_succ]
              refine takeW 48 51 (.pointer (some ⟨q, 0, none⟩)) rfl rfl (by kernel_rfl) (by kernel_rfl) (by kernel_rfl) (fun _ _ _ h => h) (by kernel_rfl) (by (intro w hSw; go_simp)) (by assumption) ?_
              simp only [List.set_cons_zero, List.set_cons_succ]
              refine takeW 49 52 (.pointer (some ⟨q, 0, none⟩)) rfl rfl (by kernel_rfl) (by kernel_rfl) (by kernel_rfl) (fun _ _ _ h => h) (by kernel_rfl) (by (intro w hSw; go_simp)) (by assumption) ?_
              simp only [List.set_cons_zero, List.set_cons_succ]
              refine takeW 50 53 (.pointer (some ⟨q, 0, none⟩)) rfl rfl (by kernel_rfl) (by kernel_rfl) (by kernel_rfl) (fun _ _ _ h => h) (by kernel_rfl) (by (intro w hSw; go_simp)) (by assumption) ?_
              simp only [List.set_cons_zero, List.set_cons_succ]
              refine takeW 51 54 (.pointer (some ⟨q, 0, none⟩)) rfl rfl (by kernel_rfl) (by kernel_rfl) (by kernel_rfl) (fun _ _ _ h => h) (by kernel_rfl) (by (intro w hSw; go_simp)) (by assumption) ?_
              simp only [List.set_cons_zero, List.set_cons_succ]
              refine takeW 52 55 (.pointer (some ⟨q, 1, none⟩)) rfl rfl (by kernel_rfl) (by kernel_rfl) (by kernel_rfl) (fun _ _ _ h => h) (by kernel_rfl) (by (intro w hSw; go_simp)) (by assumption) ?_
              simp only [List.set_cons_zero, List.set_cons_succ]
              refine takeW 53 56 (.pointer (some ⟨q, 5, none⟩)) rfl rfl (by kernel_rfl) (by kernel_rfl) (by kernel_rfl) (fun _ _ _ h => h) (by kernel_rfl) (by (intro w hSw; go_simp)) (by assumption) ?_
              simp only [List.set_cons_zero, List.set_cons_succ]
              refine takeW 54 57 (.int .i64 m.ac) rfl rfl (by kernel_rfl) (by kernel_rfl) (by kernel_rfl) (fun _ _ _ h => h) (by kernel_rfl) (by (intro Y hSw; obtain ⟨X0, X1, X2, X3, X4, X5, X6, XF⟩ := M.below hSw M.lt; go_simp)) (by assumption) ?_
              simp only [List.set_cons_zero, List.set_cons_succ]
              refine wpAnyH_all (rs := [55]) (by kernel_rfl) (by simp) ?_
              intro i hi; obtain rfl : i = 55 := by simpa using hi
              refine wpOp_step rfl (fun Kz hKz => ?_)
              rw [if_pos (by kernel_rfl)]
              go_simp
              go_at_call 116
              refine (begI q m.lg.length ad cap m.ac u6 (M.below hb6 M.lt).c0).mono ?_
              rintro e u7 ⟨rfl, kq⟩
              replace kq : Below u6.heap.size u6 u7 := by rw [kq]; exact Below.refl _ _
              have hb7 : Below w.heap.size w u7 := hb6.trans (kq.mono hb6.size)
              clear kq
              refine hKz _ _ ⟨hb7, ?_⟩
              clear hKz Kz hi
              cases h_ac : (decide (0 ≤ m.ac ∧ m.ac ≤ (m.lg.length : Int)))
              · replace h_ac : Hid _ := h_ac
                refine takeW 56 59 (.bool false) rfl rfl (by kernel_rfl) (by kernel_rfl) (by kernel_rfl) (fun _ _ _ h => h) (by kernel_rfl) (by (intro w hSw; go_simp)) (by assumption) ?_
                simp only [List.set_cons_zero, List.set_cons_succ]
                refine takeW 57 2 (.bool false) rfl rfl (by kernel_rfl) (by kernel_rfl) (by kernel_rfl) (fun _ _ _ h => h) (by kernel_rfl) (by (intro w hSw; go_simp)) (by assumption) ?_
                simp only [List.set_cons_zero, List.set_cons_succ]
                refine wpAnyH_done (by kernel_rfl) ?_ _
                have hN : Hid (R = false) := by unfold Hid; rw [hR.out]; unfold fitsM; rw [h_li.out, h_ep.out, h_al.out, h_len.out, h_all.out, h_sd.out, h_ac.out]; rfl
                go_wp2
                go_ret
                exact ⟨by rw [hN.out]; rfl, hb7⟩
              · replace h_ac : Hid _ := h_ac
                refine takeW 56 59 (.bool true) rfl rfl (by kernel_rfl) (by kernel_rfl) (by kernel_rfl) (fun _ _ _ h => h) (by kernel_rfl) (by (intro w hSw; go_simp)) (by assumption) ?_
                simp only [List.set_cons_zero, List.set_cons_succ]
                refine takeW 57 2 (.bool true) rfl rfl (by kernel_rfl) (by kernel_rfl) (by kernel_rfl) (fun _ _ _ h => h) (by kernel_rfl) (by (intro w hSw; go_simp)) (by assumption) ?_
                simp only [List.set_cons_zero, List.set_cons_succ]
                refine wpAnyH_done (by kernel_rfl) ?_ _
                have hN : Hid (R = true) := by unfold Hid; rw [hR.out]; unfold fitsM; rw [h_li.out, h_ep.out, h_al.out, h_len.out, h_all.out, h_sd.out, h_ac.out]; rfl
                go_wp2
                go_ret
                exact ⟨by rw [hN.out]; rfl, hb7⟩

end Go.Proofs.YtijhpfccjaaalaaGreat
namespace Go.Proofs.YtijhpfccjaaalaaGreat
open Go.ChangeShapes Go.WideShapes Go.ChangeAt Go.RowKit
open Go.ChangeMaps (open_string shut_string)
set_option linter.unusedVariables false
set_option maxRecDepth 100000

/-- What isFallen answers. -/
def fallB (m : Mi) : Bool := decide (m.up = false ∧ m.ep = 0 ∧ m.sd = 0 ∧ m.ac = 0 ∧ m.al = 0) && decide (m.lg.length = 0)
theorem eqMarks (m : Mi) (w : World) : (binOp .eql 140 (.agg #[.bool m.up, .int .i64 m.li, .int .i64 m.ep, .int .i64 m.sd, .int .i64 m.ac, .int .i64 m.al]) (.agg #[.bool false, .int .i64 m.li, .int .i64 0, .int .i64 0, .int .i64 0, .int .i64 0])).run Tryz.prog w = .ok (.bool (decide (m.up = false ∧ m.ep = 0 ∧ m.sd = 0 ∧ m.ac = 0 ∧ m.al = 0))) w := by
  go_simp
  all_goals ((repeat' split) <;> first | (simp_all; done) | grind)
set_option maxHeartbeats 4000000 in
theorem fallenI (m : Mi) (ad : Option Addr) (cap : Nat) (w : World) (hv : FView ikEnc w ad m.lg) (hl : m.lg.length ≤ 1048577) :
    Calls Tryz.prog 88 #[.agg #[.bool m.up, .int .i64 m.li, .int .i64 m.ep, .slice ad m.lg.length cap, .int .i64 m.sd, .int .i64 m.ac, .int .i64 m.al]] w fun e w' => e = .returned (.bool (fallB m)) ∧ Below w.heap.size w w' := by
  have hB := hv.lt ikEnc_len (by omega)
  have eM := eqMarks m
  obtain ⟨R, hR⟩ : ∃ R, R = fallB m := ⟨_, rfl⟩
  rw [← hR]
  replace hR : Hid _ := hR
  obtain ⟨y, hy⟩ : ∃ y, y = w.alloc (Obj.cells #[.bool m.up, .int .i64 m.li, .int .i64 m.ep, .slice ad m.lg.length cap, .int .i64 m.sd, .int .i64 m.ac, .int .i64 m.al] 28) := ⟨_, rfl⟩
  have B0 : Below w.heap.size w y := by rw [hy]; exact below_new _
  have A : MiAt y w.heap.size m (.slice ad m.lg.length cap) := by rw [hy]; exact MiAt.new w _ _ _
  have S0 := A.lt
  have hv1 := hv.below B0 hB
  clear hv
  go_enter Tryz.func88, Tryz.ntmps88
  go_upto_region 1 with fail
  rw [← hy]
  clear hy
  refine wp_region_held (S := fun Y => Below y.heap.size y Y) (by kernel_rfl) ?_
  change wpAnyH _ _ _ _ _ _ _ _ (World.drew _)
  have hb0 : Below y.heap.size y y.drew := (Below.refl _ _).drew
  obtain ⟨u0, hy0⟩ : ∃ y_, y_ = y.drew := ⟨_, rfl⟩
  rw [← hy0] at hb0 ⊢
  clear hy0
  refine takeW 0 5 (.agg #[.bool m.up, .int .i64 m.li, .int .i64 m.ep, .slice ad m.lg.length cap, .int .i64 m.sd, .int .i64 m.ac, .int .i64 m.al]) rfl rfl (by kernel_rfl) (by kernel_rfl) (by kernel_rfl) (fun _ _ _ h => h) (by kernel_rfl) (by (intro Y hSw; obtain ⟨X0, X1, X2, X3, X4, X5, X6⟩ := A.below hSw A.lt; go_simp)) (by assumption) ?_
  simp only [List.set_cons_zero, List.set_cons_succ]
  refine takeW 2 7 (.agg #[.bool m.up, .int .i64 m.li, .int .i64 m.ep, .slice ad m.lg.length cap, .int .i64 m.sd, .int .i64 m.ac, .int .i64 m.al]) rfl rfl (by kernel_rfl) (by kernel_rfl) (by kernel_rfl) (fun _ _ _ h => h) (by kernel_rfl) (by (intro Y hSw; obtain ⟨X0, X1, X2, X3, X4, X5, X6⟩ := A.below hSw A.lt; go_simp)) (by assumption) ?_
  simp only [List.set_cons_zero, List.set_cons_succ]
  refine wpAnyH_all (rs := [1]) (by kernel_rfl) (by simp) ?_
  intro i hi; obtain rfl : i = 1 := by simpa using hi
  refine wpOp_step rfl (fun Kz hKz => ?_)
  rw [if_pos (by kernel_rfl)]
  go_simp
  go_at_call 34
  refine (mindOf m ad cap u0 (hv1.below hb0 (hv1.lt ikEnc_len (by omega))) hl).mono ?_
  rintro e u1 ⟨q1, a1, c1, rfl, M1, O1, lo1, lq1, kq⟩
  have hb1 : Below y.heap.size y u1 := hb0.trans (kq.mono hb0.size)
  have su1 := kq.size
  have sb0 := hb0.size
  have sq1 := M1.lt
  clear kq
  refine hKz _ _ ⟨hb1, ?_⟩
  clear hKz Kz hi
  refine wpAnyH_all (rs := [3]) (by kernel_rfl) (by simp) ?_
  intro i hi; obtain rfl : i = 3 := by simpa using hi
  refine wpOp_step rfl (fun Kz hKz => ?_)
  rw [if_pos (by kernel_rfl)]
  go_simp
  go_at_call 34
  refine (mindOf m ad cap u1 (hv1.below hb1 (hv1.lt ikEnc_len (by omega))) hl).mono ?_
  rintro e u2 ⟨q2, a2, c2, rfl, M2, O2, lo2, lq2, kq⟩
  have hb2 : Below y.heap.size y u2 := hb1.trans (kq.mono hb1.size)
  have su2 := kq.size
  have sb1 := hb1.size
  have sq2 := M2.lt
  have M1 := M1.below kq M1.lt
  clear kq
  refine hKz _ _ ⟨hb2, ?_⟩
  clear hKz Kz hi
  have hne1 : q1 ≠ q2 := by omega
  have hne2 : ∀ g, (Value.slice a2 m.lg.length c2).ownBlock = some g → g ≠ q1 := fun g e => by have := (O2.lt g e).1; omega
  have hne3 : ∀ g, (Value.slice a2 m.lg.length c2).ownBlock = some g → g ≠ q2 := fun g e => by have := lo2 g e; omega
  have hlo : y.heap.size ≤ q2 := by omega
  have hlo2 : ∀ g, (Value.slice a2 m.lg.length c2).ownBlock = some g → y.heap.size ≤ g := fun g e => by have := (O2.lt g e).1; omega
  clear lo2
  refine takeW 4 3 (.pointer (some ⟨q1, 0, none⟩)) rfl rfl (by kernel_rfl) (by kernel_rfl) (by kernel_rfl) (fun _ _ _ h => h) (by kernel_rfl) (by (intro w hSw; go_simp)) (by assumption) ?_
  simp only [List.set_cons_zero, List.set_cons_succ]
  refine takeW 5 4 (.pointer (some ⟨q2, 0, none⟩)) rfl rfl (by kernel_rfl) (by kernel_rfl) (by kernel_rfl) (fun _ _ _ h => h) (by kernel_rfl) (by (intro w hSw; go_simp)) (by assumption) ?_
  simp only [List.set_cons_zero, List.set_cons_succ]
  refine wpAnyH_done (by kernel_rfl) ?_ _
  clear lo1 O1 hv1 A
  go_wp2_with fail
  go_at_call 117
  refine (fallI m q2 _ a2 c2 u2 M2 O2 hne3).mono ?_
  rintro e v ⟨rfl, N2, T⟩
  have M1 := M1.keep (T.block q1 M1.lt hne1 (fun e => hne2 q1 e rfl))
  have hbv : Below y.heap.size y v := hb2.trans (T.below hb2.size hlo hlo2)
  clear T M2 O2 hb2 hb1 hb0 hne2 hne3 hlo2
  go_upto_region 3 with fail
  cases hF : decide (m.up = false ∧ m.ep = 0 ∧ m.sd = 0 ∧ m.ac = 0 ∧ m.al = 0)
  · rw [hF] at eM
    replace hF : Hid _ := hF
    refine wp_region_held (S := fun Y => Below v.heap.size v Y) (by kernel_rfl) ?_
    change wpAnyH _ _ _ _ _ _ _ _ (World.drew _)
    have hb0 : Below v.heap.size v v.drew := (Below.refl _ _).drew
    obtain ⟨u0, hy0⟩ : ∃ y_, y_ = v.drew := ⟨_, rfl⟩
    rw [← hy0] at hb0 ⊢
    clear hy0
    refine takeW 0 11 (.pointer (some ⟨q1, 0, none⟩)) rfl rfl (by kernel_rfl) (by kernel_rfl) (by kernel_rfl) (fun _ _ _ h => h) (by kernel_rfl) (by (intro w hSw; go_simp)) (by assumption) ?_
    simp only [List.set_cons_zero, List.set_cons_succ]
    refine takeW 1 12 (.pointer (some ⟨q1, 0, none⟩)) rfl rfl (by kernel_rfl) (by kernel_rfl) (by kernel_rfl) (fun _ _ _ h => h) (by kernel_rfl) (by (intro w hSw; go_simp)) (by assumption) ?_
    simp only [List.set_cons_zero, List.set_cons_succ]
    refine takeW 2 13 (.pointer (some ⟨q1, 1, none⟩)) rfl rfl (by kernel_rfl) (by kernel_rfl) (by kernel_rfl) (fun _ _ _ h => h) (by kernel_rfl) (by (intro w hSw; go_simp)) (by assumption) ?_
    simp only [List.set_cons_zero, List.set_cons_succ]
    refine takeW 3 14 (.agg #[.bool m.up, .int .i64 m.li, .int .i64 m.ep, .int .i64 m.sd, .int .i64 m.ac, .int .i64 m.al]) rfl rfl (by kernel_rfl) (by kernel_rfl) (by kernel_rfl) (fun _ _ _ h => h) (by kernel_rfl) (by (intro Y hSw; obtain ⟨X0, X1, X2, X3, X4, X5, X6, XF⟩ := M1.below hSw M1.lt; go_simp)) (by assumption) ?_
    simp only [List.set_cons_zero, List.set_cons_succ]
    refine takeW 4 15 (.pointer (some ⟨q2, 0, none⟩)) rfl rfl (by kernel_rfl) (by kernel_rfl) (by kernel_rfl) (fun _ _ _ h => h) (by kernel_rfl) (by (intro w hSw; go_simp)) (by assumption) ?_
    simp only [List.set_cons_zero, List.set_cons_succ]
    refine takeW 5 16 (.pointer (some ⟨q2, 0, none⟩)) rfl rfl (by kernel_rfl) (by kernel_rfl) (by kernel_rfl) (fun _ _ _ h => h) (by kernel_rfl) (by (intro w hSw; go_simp)) (by assumption) ?_
    simp only [List.set_cons_zero, List.set_cons_succ]
    refine takeW 6 17 (.pointer (some ⟨q2, 1, none⟩)) rfl rfl (by kernel_rfl) (by kernel_rfl) (by kernel_rfl) (fun _ _ _ h => h) (by kernel_rfl) (by (intro w hSw; go_simp)) (by assumption) ?_
    simp only [List.set_cons_zero, List.set_cons_succ]
    refine takeW 7 18 (.agg #[.bool false, .int .i64 m.li, .int .i64 0, .int .i64 0, .int .i64 0, .int .i64 0]) rfl rfl (by kernel_rfl) (by kernel_rfl) (by kernel_rfl) (fun _ _ _ h => h) (by kernel_rfl) (by (intro Y hSw; obtain ⟨X0, X1, X2, X3, X4, X5, X6, XF⟩ := N2.below hSw N2.lt; go_simp)) (by assumption) ?_
    simp only [List.set_cons_zero, List.set_cons_succ]
    refine takeW 8 19 (.bool false) rfl rfl (by kernel_rfl) (by kernel_rfl) (by kernel_rfl) (fun _ _ _ h => h) (by kernel_rfl) (by (intro w hSw; go_simp)) (by assumption) ?_
    simp only [List.set_cons_zero, List.set_cons_succ]
    refine takeW 9 20 (.bool false) rfl rfl (by kernel_rfl) (by kernel_rfl) (by kernel_rfl) (fun _ _ _ h => h) (by kernel_rfl) (by (intro w hSw; go_simp)) (by assumption) ?_
    simp only [List.set_cons_zero, List.set_cons_succ]
    refine takeS 10 21 rfl rfl (by kernel_rfl) (by kernel_rfl) (by kernel_rfl) (fun _ _ _ h => h) (by kernel_rfl) (by assumption) ?_
    simp only [List.set_cons_zero, List.set_cons_succ]
    refine takeS 11 22 rfl rfl (by kernel_rfl) (by kernel_rfl) (by kernel_rfl) (fun _ _ _ h => h) (by kernel_rfl) (by assumption) ?_
    simp only [List.set_cons_zero, List.set_cons_succ]
    refine takeS 12 23 rfl rfl (by kernel_rfl) (by kernel_rfl) (by kernel_rfl) (fun _ _ _ h => h) (by kernel_rfl) (by assumption) ?_
    simp only [List.set_cons_zero, List.set_cons_succ]
    refine takeS 13 24 rfl rfl (by kernel_rfl) (by kernel_rfl) (by kernel_rfl) (fun _ _ _ h => h) (by kernel_rfl) (by assumption) ?_
    simp only [List.set_cons_zero, List.set_cons_succ]
    refine takeS 14 25 rfl rfl (by kernel_rfl) (by kernel_rfl) (by kernel_rfl) (fun _ _ _ h => h) (by kernel_rfl) (by assumption) ?_
    simp only [List.set_cons_zero, List.set_cons_succ]
    refine takeS 15 26 rfl rfl (by kernel_rfl) (by kernel_rfl) (by kernel_rfl) (fun _ _ _ h => h) (by kernel_rfl) (by assumption) ?_
    simp only [List.set_cons_zero, List.set_cons_succ]
    refine takeS 16 27 rfl rfl (by kernel_rfl) (by kernel_rfl) (by kernel_rfl) (fun _ _ _ h => h) (by kernel_rfl) (by assumption) ?_
    simp only [List.set_cons_zero, List.set_cons_succ]
    refine takeS 17 28 rfl rfl (by kernel_rfl) (by kernel_rfl) (by kernel_rfl) (fun _ _ _ h => h) (by kernel_rfl) (by assumption) ?_
    simp only [List.set_cons_zero, List.set_cons_succ]
    refine takeS 18 29 rfl rfl (by kernel_rfl) (by kernel_rfl) (by kernel_rfl) (fun _ _ _ h => h) (by kernel_rfl) (by assumption) ?_
    simp only [List.set_cons_zero, List.set_cons_succ]
    refine takeW 19 30 (.bool false) rfl rfl (by kernel_rfl) (by kernel_rfl) (by kernel_rfl) (fun _ _ _ h => h) (by kernel_rfl) (by (intro w hSw; go_simp)) (by assumption) ?_
    simp only [List.set_cons_zero, List.set_cons_succ]
    refine takeW 20 2 (.bool false) rfl rfl (by kernel_rfl) (by kernel_rfl) (by kernel_rfl) (fun _ _ _ h => h) (by kernel_rfl) (by (intro w hSw; go_simp)) (by assumption) ?_
    simp only [List.set_cons_zero, List.set_cons_succ]
    refine wpAnyH_done (by kernel_rfl) ?_ _
    have hN : Hid (R = false) := by unfold Hid; rw [hR.out]; unfold fallB; rw [hF.out]; rfl
    go_wp2
    go_ret
    exact ⟨by rw [hN.out]; rfl, B0.trans ((hbv.trans (hb0.mono hbv.size)).mono B0.size)⟩
  · rw [hF] at eM
    replace hF : Hid _ := hF
    cases hG : decide (m.lg.length = 0)
    · have dG : ((m.lg.length : Int) == 0) = false := by rw [beq_eq_false_iff_ne]; have := of_decide_eq_false hG; omega
      replace hG : Hid _ := hG
      refine wp_region_held (S := fun Y => Below v.heap.size v Y) (by kernel_rfl) ?_
      change wpAnyH _ _ _ _ _ _ _ _ (World.drew _)
      have hb0 : Below v.heap.size v v.drew := (Below.refl _ _).drew
      obtain ⟨u0, hy0⟩ : ∃ y_, y_ = v.drew := ⟨_, rfl⟩
      rw [← hy0] at hb0 ⊢
      clear hy0
      refine takeW 0 11 (.pointer (some ⟨q1, 0, none⟩)) rfl rfl (by kernel_rfl) (by kernel_rfl) (by kernel_rfl) (fun _ _ _ h => h) (by kernel_rfl) (by (intro w hSw; go_simp)) (by assumption) ?_
      simp only [List.set_cons_zero, List.set_cons_succ]
      refine takeW 1 12 (.pointer (some ⟨q1, 0, none⟩)) rfl rfl (by kernel_rfl) (by kernel_rfl) (by kernel_rfl) (fun _ _ _ h => h) (by kernel_rfl) (by (intro w hSw; go_simp)) (by assumption) ?_
      simp only [List.set_cons_zero, List.set_cons_succ]
      refine takeW 2 13 (.pointer (some ⟨q1, 1, none⟩)) rfl rfl (by kernel_rfl) (by kernel_rfl) (by kernel_rfl) (fun _ _ _ h => h) (by kernel_rfl) (by (intro w hSw; go_simp)) (by assumption) ?_
      simp only [List.set_cons_zero, List.set_cons_succ]
      refine takeW 3 14 (.agg #[.bool m.up, .int .i64 m.li, .int .i64 m.ep, .int .i64 m.sd, .int .i64 m.ac, .int .i64 m.al]) rfl rfl (by kernel_rfl) (by kernel_rfl) (by kernel_rfl) (fun _ _ _ h => h) (by kernel_rfl) (by (intro Y hSw; obtain ⟨X0, X1, X2, X3, X4, X5, X6, XF⟩ := M1.below hSw M1.lt; go_simp)) (by assumption) ?_
      simp only [List.set_cons_zero, List.set_cons_succ]
      refine takeW 4 15 (.pointer (some ⟨q2, 0, none⟩)) rfl rfl (by kernel_rfl) (by kernel_rfl) (by kernel_rfl) (fun _ _ _ h => h) (by kernel_rfl) (by (intro w hSw; go_simp)) (by assumption) ?_
      simp only [List.set_cons_zero, List.set_cons_succ]
      refine takeW 5 16 (.pointer (some ⟨q2, 0, none⟩)) rfl rfl (by kernel_rfl) (by kernel_rfl) (by kernel_rfl) (fun _ _ _ h => h) (by kernel_rfl) (by (intro w hSw; go_simp)) (by assumption) ?_
      simp only [List.set_cons_zero, List.set_cons_succ]
      refine takeW 6 17 (.pointer (some ⟨q2, 1, none⟩)) rfl rfl (by kernel_rfl) (by kernel_rfl) (by kernel_rfl) (fun _ _ _ h => h) (by kernel_rfl) (by (intro w hSw; go_simp)) (by assumption) ?_
      simp only [List.set_cons_zero, List.set_cons_succ]
      refine takeW 7 18 (.agg #[.bool false, .int .i64 m.li, .int .i64 0, .int .i64 0, .int .i64 0, .int .i64 0]) rfl rfl (by kernel_rfl) (by kernel_rfl) (by kernel_rfl) (fun _ _ _ h => h) (by kernel_rfl) (by (intro Y hSw; obtain ⟨X0, X1, X2, X3, X4, X5, X6, XF⟩ := N2.below hSw N2.lt; go_simp)) (by assumption) ?_
      simp only [List.set_cons_zero, List.set_cons_succ]
      refine takeW 8 19 (.bool true) rfl rfl (by kernel_rfl) (by kernel_rfl) (by kernel_rfl) (fun _ _ _ h => h) (by kernel_rfl) (by (intro w hSw; go_simp)) (by assumption) ?_
      simp only [List.set_cons_zero, List.set_cons_succ]
      refine takeW 9 20 (.bool true) rfl rfl (by kernel_rfl) (by kernel_rfl) (by kernel_rfl) (fun _ _ _ h => h) (by kernel_rfl) (by (intro w hSw; go_simp)) (by assumption) ?_
      simp only [List.set_cons_zero, List.set_cons_succ]
      refine takeW 10 21 (.pointer (some ⟨q1, 0, none⟩)) rfl rfl (by kernel_rfl) (by kernel_rfl) (by kernel_rfl) (fun _ _ _ h => h) (by kernel_rfl) (by (intro w hSw; go_simp)) (by assumption) ?_
      simp only [List.set_cons_zero, List.set_cons_succ]
      refine takeW 11 22 (.pointer (some ⟨q1, 0, none⟩)) rfl rfl (by kernel_rfl) (by kernel_rfl) (by kernel_rfl) (fun _ _ _ h => h) (by kernel_rfl) (by (intro w hSw; go_simp)) (by assumption) ?_
      simp only [List.set_cons_zero, List.set_cons_succ]
      refine takeW 12 23 (.pointer (some ⟨q1, 0, none⟩)) rfl rfl (by kernel_rfl) (by kernel_rfl) (by kernel_rfl) (fun _ _ _ h => h) (by kernel_rfl) (by (intro w hSw; go_simp)) (by assumption) ?_
      simp only [List.set_cons_zero, List.set_cons_succ]
      refine takeW 14 25 (.pointer (some ⟨q2, 0, none⟩)) rfl rfl (by kernel_rfl) (by kernel_rfl) (by kernel_rfl) (fun _ _ _ h => h) (by kernel_rfl) (by (intro w hSw; go_simp)) (by assumption) ?_
      simp only [List.set_cons_zero, List.set_cons_succ]
      refine takeW 15 26 (.pointer (some ⟨q2, 0, none⟩)) rfl rfl (by kernel_rfl) (by kernel_rfl) (by kernel_rfl) (fun _ _ _ h => h) (by kernel_rfl) (by (intro w hSw; go_simp)) (by assumption) ?_
      simp only [List.set_cons_zero, List.set_cons_succ]
      refine takeW 16 27 (.pointer (some ⟨q2, 0, none⟩)) rfl rfl (by kernel_rfl) (by kernel_rfl) (by kernel_rfl) (fun _ _ _ h => h) (by kernel_rfl) (by (intro w hSw; go_simp)) (by assumption) ?_
      simp only [List.set_cons_zero, List.set_cons_succ]
      refine wpAnyH_all (rs := [13]) (by kernel_rfl) (by simp) ?_
      intro i hi; obtain rfl : i = 13 := by simpa using hi
      refine wpOp_step rfl (fun Kz hKz => ?_)
      rw [if_pos (by kernel_rfl)]
      go_simp
      go_at_call 113
      refine (countI q1 m.lg.length a1 c1 u0 (M1.below hb0 M1.lt).c0).mono ?_
      rintro e u1 ⟨rfl, kq⟩
      have hb1 : Below v.heap.size v u1 := by rw [kq]; exact hb0
      clear kq
      refine hKz _ _ ⟨hb1, ?_⟩
      clear hKz Kz hi
      refine wpAnyH_all (rs := [17]) (by kernel_rfl) (by simp) ?_
      intro i hi; obtain rfl : i = 17 := by simpa using hi
      refine wpOp_step rfl (fun Kz hKz => ?_)
      rw [if_pos (by kernel_rfl)]
      go_simp
      go_at_call 113
      refine (countI q2 0 a2 c2 u1 (N2.below hb1 N2.lt).c0).mono ?_
      rintro e u2 ⟨rfl, kq⟩
      have hb2 : Below v.heap.size v u2 := by rw [kq]; exact hb1
      clear kq
      refine hKz _ _ ⟨hb2, ?_⟩
      clear hKz Kz hi
      refine takeW 18 29 (.bool false) rfl rfl (by kernel_rfl) (by kernel_rfl) (by kernel_rfl) (fun _ _ _ h => h) (by kernel_rfl) (by (intro w hSw; go_simp)) (by assumption) ?_
      simp only [List.set_cons_zero, List.set_cons_succ]
      refine takeW 19 30 (.bool false) rfl rfl (by kernel_rfl) (by kernel_rfl) (by kernel_rfl) (fun _ _ _ h => h) (by kernel_rfl) (by (intro w hSw; go_simp)) (by assumption) ?_
      simp only [List.set_cons_zero, List.set_cons_succ]
      refine takeW 20 2 (.bool false) rfl rfl (by kernel_rfl) (by kernel_rfl) (by kernel_rfl) (fun _ _ _ h => h) (by kernel_rfl) (by (intro w hSw; go_simp)) (by assumption) ?_
      simp only [List.set_cons_zero, List.set_cons_succ]
      refine wpAnyH_done (by kernel_rfl) ?_ _
      have hN : Hid (R = false) := by unfold Hid; rw [hR.out]; unfold fallB; rw [hF.out, hG.out]; rfl
      go_wp2
      go_ret
      exact ⟨by rw [hN.out]; rfl, B0.trans ((hbv.trans (hb2.mono hbv.size)).mono B0.size)⟩
    · have dG : ((m.lg.length : Int) == 0) = true := by rw [beq_iff_eq]; have := of_decide_eq_true hG; omega
      replace hG : Hid _ := hG
      refine wp_region_held (S := fun Y => Below v.heap.size v Y) (by kernel_rfl) ?_
      change wpAnyH _ _ _ _ _ _ _ _ (World.drew _)
      have hb0 : Below v.heap.size v v.drew := (Below.refl _ _).drew
      obtain ⟨u0, hy0⟩ : ∃ y_, y_ = v.drew := ⟨_, rfl⟩
      rw [← hy0] at hb0 ⊢
      clear hy0
      refine takeW 0 11 (.pointer (some ⟨q1, 0, none⟩)) rfl rfl (by kernel_rfl) (by kernel_rfl) (by kernel_rfl) (fun _ _ _ h => h) (by kernel_rfl) (by (intro w hSw; go_simp)) (by assumption) ?_
      simp only [List.set_cons_zero, List.set_cons_succ]
      refine takeW 1 12 (.pointer (some ⟨q1, 0, none⟩)) rfl rfl (by kernel_rfl) (by kernel_rfl) (by kernel_rfl) (fun _ _ _ h => h) (by kernel_rfl) (by (intro w hSw; go_simp)) (by assumption) ?_
      simp only [List.set_cons_zero, List.set_cons_succ]
      refine takeW 2 13 (.pointer (some ⟨q1, 1, none⟩)) rfl rfl (by kernel_rfl) (by kernel_rfl) (by kernel_rfl) (fun _ _ _ h => h) (by kernel_rfl) (by (intro w hSw; go_simp)) (by assumption) ?_
      simp only [List.set_cons_zero, List.set_cons_succ]
      refine takeW 3 14 (.agg #[.bool m.up, .int .i64 m.li, .int .i64 m.ep, .int .i64 m.sd, .int .i64 m.ac, .int .i64 m.al]) rfl rfl (by kernel_rfl) (by kernel_rfl) (by kernel_rfl) (fun _ _ _ h => h) (by kernel_rfl) (by (intro Y hSw; obtain ⟨X0, X1, X2, X3, X4, X5, X6, XF⟩ := M1.below hSw M1.lt; go_simp)) (by assumption) ?_
      simp only [List.set_cons_zero, List.set_cons_succ]
      refine takeW 4 15 (.pointer (some ⟨q2, 0, none⟩)) rfl rfl (by kernel_rfl) (by kernel_rfl) (by kernel_rfl) (fun _ _ _ h => h) (by kernel_rfl) (by (intro w hSw; go_simp)) (by assumption) ?_
      simp only [List.set_cons_zero, List.set_cons_succ]
      refine takeW 5 16 (.pointer (some ⟨q2, 0, none⟩)) rfl rfl (by kernel_rfl) (by kernel_rfl) (by kernel_rfl) (fun _ _ _ h => h) (by kernel_rfl) (by (intro w hSw; go_simp)) (by assumption) ?_
      simp only [List.set_cons_zero, List.set_cons_succ]
      refine takeW 6 17 (.pointer (some ⟨q2, 1, none⟩)) rfl rfl (by kernel_rfl) (by kernel_rfl) (by kernel_rfl) (fun _ _ _ h => h) (by kernel_rfl) (by (intro w hSw; go_simp)) (by assumption) ?_
      simp only [List.set_cons_zero, List.set_cons_succ]
      refine takeW 7 18 (.agg #[.bool false, .int .i64 m.li, .int .i64 0, .int .i64 0, .int .i64 0, .int .i64 0]) rfl rfl (by kernel_rfl) (by kernel_rfl) (by kernel_rfl) (fun _ _ _ h => h) (by kernel_rfl) (by (intro Y hSw; obtain ⟨X0, X1, X2, X3, X4, X5, X6, XF⟩ := N2.below hSw N2.lt; go_simp)) (by assumption) ?_
      simp only [List.set_cons_zero, List.set_cons_succ]
      refine takeW 8 19 (.bool true) rfl rfl (by kernel_rfl) (by kernel_rfl) (by kernel_rfl) (fun _ _ _ h => h) (by kernel_rfl) (by (intro w hSw; go_simp)) (by assumption) ?_
      simp only [List.set_cons_zero, List.set_cons_succ]
      refine takeW 9 20 (.bool true) rfl rfl (by kernel_rfl) (by kernel_rfl) (by kernel_rfl) (fun _ _ _ h => h) (by kernel_rfl) (by (intro w hSw; go_simp)) (by assumption) ?_
      simp only [List.set_cons_zero, List.set_cons_succ]
      refine takeW 10 21 (.pointer (some ⟨q1, 0, none⟩)) rfl rfl (by kernel_rfl) (by kernel_rfl) (by kernel_rfl) (fun _ _ _ h => h) (by kernel_rfl) (by (intro w hSw; go_simp)) (by assumption) ?_
      simp only [List.set_cons_zero, List.set_cons_succ]
      refine takeW 11 22 (.pointer (some ⟨q1, 0, none⟩)) rfl rfl (by kernel_rfl) (by kernel_rfl) (by kernel_rfl) (fun _ _ _ h => h) (by kernel_rfl) (by (intro w hSw; go_simp)) (by assumption) ?_
      simp only [List.set_cons_zero, List.set_cons_succ]
      refine takeW 12 23 (.pointer (some ⟨q1, 0, none⟩)) rfl rfl (by kernel_rfl) (by kernel_rfl) (by kernel_rfl) (fun _ _ _ h => h) (by kernel_rfl) (by (intro w hSw; go_simp)) (by assumption) ?_
      simp only [List.set_cons_zero, List.set_cons_succ]
      refine takeW 14 25 (.pointer (some ⟨q2, 0, none⟩)) rfl rfl (by kernel_rfl) (by kernel_rfl) (by kernel_rfl) (fun _ _ _ h => h) (by kernel_rfl) (by (intro w hSw; go_simp)) (by assumption) ?_
      simp only [List.set_cons_zero, List.set_cons_succ]
      refine takeW 15 26 (.pointer (some ⟨q2, 0, none⟩)) rfl rfl (by kernel_rfl) (by kernel_rfl) (by kernel_rfl) (fun _ _ _ h => h) (by kernel_rfl) (by (intro w hSw; go_simp)) (by assumption) ?_
      simp only [List.set_cons_zero, List.set_cons_succ]
      refine takeW 16 27 (.pointer (some ⟨q2, 0, none⟩)) rfl rfl (by kernel_rfl) (by kernel_rfl) (by kernel_rfl) (fun _ _ _ h => h) (by kernel_rfl) (by (intro w hSw; go_simp)) (by assumption) ?_
      simp only [List.set_cons_zero, List.set_cons_succ]
      refine wpAnyH_all (rs := [13]) (by kernel_rfl) (by simp) ?_
      intro i hi; obtain rfl : i = 13 := by simpa using hi
      refine wpOp_step rfl (fun Kz hKz => ?_)
      rw [if_pos (by kernel_rfl)]
      go_simp
      go_at_call 113
      refine (countI q1 m.lg.length a1 c1 u0 (M1.below hb0 M1.lt).c0).mono ?_
      rintro e u1 ⟨rfl, kq⟩
      have hb1 : Below v.heap.size v u1 := by rw [kq]; exact hb0
      clear kq
      refine hKz _ _ ⟨hb1, ?_⟩
      clear hKz Kz hi
      refine wpAnyH_all (rs := [17]) (by kernel_rfl) (by simp) ?_
      intro i hi; obtain rfl : i = 17 := by simpa using hi
      refine wpOp_step rfl (fun Kz hKz => ?_)
      rw [if_pos (by kernel_rfl)]
      go_simp
      go_at_call 113
      refine (countI q2 0 a2 c2 u1 (N2.below hb1 N2.lt).c0).mono ?_
      rintro e u2 ⟨rfl, kq⟩
      have hb2 : Below v.heap.size v u2 := by rw [kq]; exact hb1
      clear kq
      refine hKz _ _ ⟨hb2, ?_⟩
      clear hKz Kz hi
      refine takeW 18 29 (.bool true) rfl rfl (by kernel_rfl) (by kernel_rfl) (by kernel_rfl) (fun _ _ _ h => h) (by kernel_rfl) (by (intro w hSw; go_simp)) (by assumption) ?_
      simp only [List.set_cons_zero, List.set_cons_succ]
      refine takeW 19 30 (.bool true) rfl rfl (by kernel_rfl) (by kernel_rfl) (by kernel_rfl) (fun _ _ _ h => h) (by kernel_rfl) (by (intro w hSw; go_simp)) (by assumption) ?_
      simp only [List.set_cons_zero, List.set_cons_succ]
      refine takeW 20 2 (.bool true) rfl rfl (by kernel_rfl) (by kernel_rfl) (by kernel_rfl) (fun _ _ _ h => h) (by kernel_rfl) (by (intro w hSw; go_simp)) (by assumption) ?_
      simp only [List.set_cons_zero, List.set_cons_succ]
      refine wpAnyH_done (by kernel_rfl) ?_ _
      have hN : Hid (R = true) := by unfold Hid; rw [hR.out]; unfold fallB; rw [hF.out, hG.out]; rfl
      go_wp2
      go_ret
      exact ⟨by rw [hN.out]; rfl, B0.trans ((hbv.trans (hb2.mono hbv.size)).mono B0.size)⟩
theorem miOk_is (m : Mi) : miOk m = (fitsM m && (m.up || fallB m)) := by
  obtain ⟨up, li, ep, L, sd, ac, al⟩ := m
  unfold miOk fitsM fallB insB
  dsimp only
  rw [Bool.eq_iff_iff]
  cases up
  · simp only [Bool.and_eq_true, Bool.or_eq_true, decide_eq_true_eq]
    constructor
    · rintro ⟨h1, h2, h3, ⟨h4, h5⟩, h6, h7, h8⟩
      rcases h8 with h8 | ⟨h8, h9, h10⟩
      · cases h8
      · exact ⟨⟨h1, h2, h3, by omega, h4, h6, h7⟩, .inr ⟨⟨trivial, h8, by omega, by omega, h10⟩, h9⟩⟩
    · rintro ⟨⟨h1, h2, h3, h4, h5, h6, h7⟩, h8⟩
      rcases h8 with h8 | ⟨⟨_, h8, h9, h10, h11⟩, h12⟩
      · cases h8
      · exact ⟨h1, h2, h3, ⟨h5, by omega⟩, h6, h7, .inr ⟨h8, h12, h11⟩⟩
  · simp only [Bool.and_eq_true, Bool.true_or, Bool.and_true, decide_eq_true_eq]
    constructor
    · rintro ⟨h1, h2, h3, ⟨h4, h5⟩, h6, h7⟩
      exact ⟨h1, h2, h3, by omega, h4, h6, h7⟩
    · rintro ⟨h1, h2, h3, h4, h5, h6, h7⟩
      exact ⟨h1, h2, h3, ⟨h5, by omega⟩, h6, h7⟩
set_option maxHeartbeats 2000000 in
theorem miOkI (m : Mi) (ad : Option Addr) (cap : Nat) (w : World) (hv : FView ikEnc w ad m.lg) (hl : m.lg.length ≤ 1048577) :
    Calls Tryz.prog 35 #[.agg #[.bool m.up, .int .i64 m.li, .int .i64 m.ep, .slice ad m.lg.length cap, .int .i64 m.sd, .int .i64 m.ac, .int .i64 m.al]] w fun e w' => e = .returned (.bool (miOk m)) ∧ Below w.heap.size w w' := by
  have hB := hv.lt ikEnc_len (by omega)
  obtain ⟨R, hR⟩ : ∃ R, R = miOk m := ⟨_, rfl⟩
  rw [← hR]
  rw [miOk_is] at hR
  replace hR : Hid _ := hR
  obtain ⟨y, hy⟩ : ∃ y, y = w.alloc (Obj.cells #[.bool m.up, .int .i64 m.li, .int .i64 m.ep, .slice ad m.lg.length cap, .int .i64 m.sd, .int .i64 m.ac, .int .i64 m.al] 28) := ⟨_, rfl⟩
  have B0 : Below w.heap.size w y := by rw [hy]; exact below_new _
  have A : MiAt y w.heap.size m (.slice ad m.lg.length cap) := by rw [hy]; exact MiAt.new w _ _ _
  have S0 := A.lt
  have hv1 := hv.below B0 hB
  clear hv
  go_enter Tryz.func35, Tryz.ntmps35
  go_wp2_with fail
  go_at_call 34
  rw [← hy]
  clear hy
  refine (mindOf m ad cap y hv1 hl).mono ?_
  rintro e u1 ⟨q, a1, c1, rfl, M1, O1, _, _, k1⟩
  have hb1 := B0.trans (k1.mono B0.size)
  have A := A.below k1 A.lt
  have hv1 := hv1.below k1 (hv1.lt ikEnc_len (by omega))
  clear k1
  go_wp2_with fail
  go_at_call 87
  refine (fitsI m q a1 c1 u1 M1 O1.view.2 hl).mono ?_
  rintro e u2 ⟨rfl, k2⟩
  have hb2 := hb1.trans (k2.mono hb1.size)
  have A := A.below k2 A.lt
  have hv1 := hv1.below k2 (hv1.lt ikEnc_len (by omega))
  clear k2 hb1 M1 O1
  cases hF : fitsM m
  · have hN : Hid (R = false) := by unfold Hid; rw [hR.out, hF]; rfl
    clear hF
    go_wp2
    go_ret
    exact ⟨by rw [hN.out]; rfl, hb2⟩
  · cases hU : m.up
    · have hN : Hid (R = fallB m) := by unfold Hid; rw [hR.out, hF, hU]; rfl
      clear hF
      have cc := A
      obtain ⟨x0, x1, x2, x3, x4, x5, x6⟩ := cc
      rw [hU] at x0
      go_wp2_with fail
      go_at_call 88
      clear x0 x1 x2 x3 x4 x5 x6
      rw [← hU]
      refine (fallenI m ad cap u2 hv1 hl).mono ?_
      rintro e u3 ⟨rfl, k3⟩
      have hb3 := hb2.trans (k3.mono hb2.size)
      rw [← hN.out]
      go_wp2
      go_ret
      exact ⟨rfl, hb3⟩
    · have hN : Hid (R = true) := by unfold Hid; rw [hR.out, hF, hU]; rfl
      clear hF
      obtain ⟨x0, x1, x2, x3, x4, x5, x6⟩ := A
      rw [hU] at x0
      go_wp2
      go_ret
      exact ⟨by rw [hN.out]; rfl, hb2⟩

end Go.Proofs.YtijhpfccjaaalaaGreat
namespace Go.Proofs.YtijhpfccjaaalaaGreat
open Go.ChangeShapes Go.WideShapes Go.ChangeAt Go.RowKit
open Go.ChangeMaps (open_string shut_string)
set_option linter.unusedVariables false
set_option maxRecDepth 100000

set_option maxHeartbeats 2000000 in
theorem regOkI (r : Rg) (w : World) : Calls Tryz.prog 17 #[.agg #[.int .i64 r.ep, .int .i64 r.ow, .int .i64 r.pa]] w fun e w' => e = .returned (.bool (rgOk r)) ∧ Below w.heap.size w w' := by
  obtain ⟨R, hR⟩ : ∃ R, R = rgOk r := ⟨_, rfl⟩
  rw [← hR]
  replace hR : Hid _ := hR
  obtain ⟨y, hy⟩ : ∃ y, y = w.alloc (Obj.cells #[.int .i64 r.ep, .int .i64 r.ow, .int .i64 r.pa] 25) := ⟨_, rfl⟩
  have B0 : Below w.heap.size w y := by rw [hy]; exact below_new _
  have A : RgAt y w.heap.size r := by rw [hy]; exact RgAt.new w _ r
  go_enter Tryz.func17, Tryz.ntmps17
  go_upto_region 1 with fail
  rw [← hy]
  clear hy
  obtain ⟨a0, a1, a2⟩ := A
  by_cases e1 : 1 ≤ r.ep
  · have d1 : decide (1 ≤ r.ep) = true := decide_eq_true e1
    by_cases e2 : r.ep ≤ 100000
    · have d2 : decide (r.ep ≤ 100000) = true := decide_eq_true e2
      by_cases e3 : r.ow = 0
      · have d3 : decide (r.ow = 0) = true := decide_eq_true e3
        have b3 : (r.ow == 0) = true := by simpa using e3
        have hN : Hid (R = numB r.pa) := by unfold Hid; rw [hR.out]; unfold rgOk; rw [decide_eq_true (⟨e1, e2⟩ : 1 ≤ r.ep ∧ r.ep ≤ 100000), decide_eq_true (show 0 ≤ r.ow ∧ r.ow ≤ 1 by omega)]; rfl
        replace e1 : Hid _ := e1
        replace e2 : Hid _ := e2
        replace e3 : Hid _ := e3
        go_wp2_with fail
        go_at_call 50
        refine (numFitsI r.pa y).mono ?_
        rintro e w' ⟨rfl, rfl⟩
        go_wp2
        go_ret
        exact ⟨by rw [hN.out]; rfl, B0⟩
      · have d3 : decide (r.ow = 0) = false := decide_eq_false e3
        have b3 : (r.ow == 0) = false := by simpa using e3
        by_cases e4 : r.ow = 1
        · have d4 : decide (r.ow = 1) = true := decide_eq_true e4
          have b4 : (r.ow == 1) = true := by simpa using e4
          have hN : Hid (R = numB r.pa) := by unfold Hid; rw [hR.out]; unfold rgOk; rw [decide_eq_true (⟨e1, e2⟩ : 1 ≤ r.ep ∧ r.ep ≤ 100000), decide_eq_true (show 0 ≤ r.ow ∧ r.ow ≤ 1 by omega)]; rfl
          replace e1 : Hid _ := e1
          replace e2 : Hid _ := e2
          replace e3 : Hid _ := e3
          replace e4 : Hid _ := e4
          go_wp2_with fail
          go_at_call 50
          refine (numFitsI r.pa y).mono ?_
          rintro e w' ⟨rfl, rfl⟩
          go_wp2
          go_ret
          exact ⟨by rw [hN.out]; rfl, B0⟩
        · have d4 : decide (r.ow = 1) = false := decide_eq_false e4
          have b4 : (r.ow == 1) = false := by simpa using e4
          have hN : Hid (R = false) := by unfold Hid; rw [hR.out]; unfold rgOk; rw [decide_eq_true (⟨e1, e2⟩ : 1 ≤ r.ep ∧ r.ep ≤ 100000), decide_eq_false (show ¬ (0 ≤ r.ow ∧ r.ow ≤ 1) by omega)]; rfl
          replace e1 : Hid _ := e1
          replace e2 : Hid _ := e2
          replace e3 : Hid _ := e3
          replace e4 : Hid _ := e4
          go_wp2
          go_ret
          exact ⟨by rw [hN.out]; rfl, B0⟩
    · have d2 : decide (r.ep ≤ 100000) = false := decide_eq_false e2
      have hN : Hid (R = false) := by unfold Hid; rw [hR.out]; unfold rgOk; rw [decide_eq_false (show ¬ (1 ≤ r.ep ∧ r.ep ≤ 100000) by omega)]; rfl
      replace e1 : Hid _ := e1
      replace e2 : Hid _ := e2
      go_wp2
      go_ret
      exact ⟨by rw [hN.out]; rfl, B0⟩
  · have d1 : decide (1 ≤ r.ep) = false := decide_eq_false e1
    have hN : Hid (R = false) := by unfold Hid; rw [hR.out]; unfold rgOk; rw [decide_eq_false (show ¬ (1 ≤ r.ep ∧ r.ep ≤ 100000) by omega)]; rfl
    replace e1 : Hid _ := e1
    go_wp2
    go_ret
    exact ⟨by rw [hN.out]; rfl, B0⟩

end Go.Proofs.YtijhpfccjaaalaaGreat
namespace Go.Proofs.YtijhpfccjaaalaaGreat
open Go.ChangeShapes Go.WideShapes Go.ChangeAt Go.RowKit
open Go.ChangeMaps (open_string shut_string)
set_option linter.unusedVariables false
set_option maxRecDepth 100000

set_option maxHeartbeats 4000000 in
theorem mindsI (r : Rg) (s : Int) (m : Mi) (ad : Option Addr) (cap : Nat) (w : World) (hv : FView ikEnc w ad m.lg) (hl : m.lg.length ≤ 1048577) :
    Calls Tryz.prog 15 #[.agg #[.int .i64 r.ep, .int .i64 r.ow, .int .i64 r.pa], .int .i64 s, .agg #[.bool m.up, .int .i64 m.li, .int .i64 m.ep, .slice ad m.lg.length cap, .int .i64 m.sd, .int .i64 m.ac, .int .i64 m.al]] w fun e w' => e = .returned (.bool (mindsB r s m)) ∧ Below w.heap.size w w' := by
  have hB := hv.lt ikEnc_len (by omega)
  obtain ⟨R, hR⟩ : ∃ R, R = mindsB r s m := ⟨_, rfl⟩
  rw [← hR]
  replace hR : Hid _ := hR
  obtain ⟨y, hy⟩ : ∃ y, y = (w.alloc (Obj.cells #[.int .i64 r.ep, .int .i64 r.ow, .int .i64 r.pa] 25)).alloc (Obj.cells #[.bool m.up, .int .i64 m.li, .int .i64 m.ep, .slice ad m.lg.length cap, .int .i64 m.sd, .int .i64 m.ac, .int .i64 m.al] 28) := ⟨_, rfl⟩
  have B0 : Below w.heap.size w y := by rw [hy]; exact ((Below.refl _ _).alloc (Nat.le_refl _) _).alloc (by simp) _
  have A : RgAt y w.heap.size r := by rw [hy]; constructor <;> simp [go_sem]
  have M : MiAt y (w.heap.size + 1) m (.slice ad m.lg.length cap) := by rw [hy]; constructor <;> simp [go_sem]
  have S0 := M.lt
  have hv1 := hv.below B0 hB
  clear hv hB
  go_enter Tryz.func15, Tryz.ntmps15
  go_upto_region 1 with fail
  rw [← hy]
  clear hy
  refine wp_region_held (S := fun Y => Below y.heap.size y Y) (by kernel_rfl) ?_
  change wpAnyH _ _ _ _ _ _ _ _ (World.drew _)
  have hb0 : Below y.heap.size y y.drew := (Below.refl _ _).drew
  obtain ⟨u0, hy0⟩ : ∃ y_, y_ = y.drew := ⟨_, rfl⟩
  rw [← hy0] at hb0 ⊢
  clear hy0
  refine takeW 0 7 (.agg #[.int .i64 r.ep, .int .i64 r.ow, .int .i64 r.pa]) rfl rfl (by kernel_rfl) (by kernel_rfl) (by kernel_rfl) (fun _ _ _ h => h) (by kernel_rfl) (by (intro Y hSw; obtain ⟨X0, X1, X2⟩ := A.below hSw A.lt; go_simp)) (by assumption) ?_
  simp only [List.set_cons_zero, List.set_cons_succ]
  refine wpAnyH_all (rs := [1]) (by kernel_rfl) (by simp) ?_
  intro i hi; obtain rfl : i = 1 := by simpa using hi
  refine wpOp_step rfl (fun Kz hKz => ?_)
  rw [if_pos (by kernel_rfl)]
  go_simp
  go_at_call 17
  refine (regOkI r u0).mono ?_
  rintro e u1 ⟨rfl, kq⟩
  have hb1 : Below y.heap.size y u1 := hb0.trans (kq.mono hb0.size)
  clear kq
  refine hKz _ _ ⟨hb1, ?_⟩
  clear hKz Kz hi
  cases h1 : (rgOk r)
  · replace h1 : Hid _ := h1
    refine takeW 2 9 (.bool false) rfl rfl (by kernel_rfl) (by kernel_rfl) (by kernel_rfl) (fun _ _ _ h => h) (by kernel_rfl) (by (intro w hSw; go_simp)) (by assumption) ?_
    simp only [List.set_cons_zero, List.set_cons_succ]
    refine takeS 3 10 rfl rfl (by kernel_rfl) (by kernel_rfl) (by kernel_rfl) (fun _ _ _ h => h) (by kernel_rfl) (by assumption) ?_
    simp only [List.set_cons_zero, List.set_cons_succ]
    refine takeS 4 11 rfl rfl (by kernel_rfl) (by kernel_rfl) (by kernel_rfl) (fun _ _ _ h => h) (by kernel_rfl) (by assumption) ?_
    simp only [List.set_cons_zero, List.set_cons_succ]
    refine takeW 5 12 (.bool false) rfl rfl (by kernel_rfl) (by kernel_rfl) (by kernel_rfl) (fun _ _ _ h => h) (by kernel_rfl) (by (intro w hSw; go_simp)) (by assumption) ?_
    simp only [List.set_cons_zero, List.set_cons_succ]
    refine takeW 6 13 (.bool false) rfl rfl (by kernel_rfl) (by kernel_rfl) (by kernel_rfl) (fun _ _ _ h => h) (by kernel_rfl) (by (intro w hSw; go_simp)) (by assumption) ?_
    simp only [List.set_cons_zero, List.set_cons_succ]
    refine takeS 7 14 rfl rfl (by kernel_rfl) (by kernel_rfl) (by kernel_rfl) (fun _ _ _ h => h) (by kernel_rfl) (by assumption) ?_
    simp only [List.set_cons_zero, List.set_cons_succ]
    refine takeS 8 15 rfl rfl (by kernel_rfl) (by kernel_rfl) (by kernel_rfl) (fun _ _ _ h => h) (by kernel_rfl) (by assumption) ?_
    simp only [List.set_cons_zero, List.set_cons_succ]
    refine takeW 9 16 (.bool false) rfl rfl (by kernel_rfl) (by kernel_rfl) (by kernel_rfl) (fun _ _ _ h => h) (by kernel_rfl) (by (intro w hSw; go_simp)) (by assumption) ?_
    simp only [List.set_cons_zero, List.set_cons_succ]
    refine takeW 10 17 (.bool false) rfl rfl (by kernel_rfl) (by kernel_rfl) (by kernel_rfl) (fun _ _ _ h => h) (by kernel_rfl) (by (intro w hSw; go_simp)) (by assumption) ?_
    simp only [List.set_cons_zero, List.set_cons_succ]
    refine takeS 11 18 rfl rfl (by kernel_rfl) (by kernel_rfl) (by kernel_rfl) (fun _ _ _ h => h) (by kernel_rfl) (by assumption) ?_
    simp only [List.set_cons_zero, List.set_cons_succ]
    refine takeS 13 20 rfl rfl (by kernel_rfl) (by kernel_rfl) (by kernel_rfl) (fun _ _ _ h => h) (by kernel_rfl) (by assumption) ?_
    simp only [List.set_cons_zero, List.set_cons_succ]
    refine takeS 14 21 rfl rfl (by kernel_rfl) (by kernel_rfl) (by kernel_rfl) (fun _ _ _ h => h) (by kernel_rfl) (by assumption) ?_
    simp only [List.set_cons_zero, List.set_cons_succ]
    refine takeS 15 22 rfl rfl (by kernel_rfl) (by kernel_rfl) (by kernel_rfl) (fun _ _ _ h => h) (by kernel_rfl) (by assumption) ?_
    simp only [List.set_cons_zero, List.set_cons_succ]
    refine takeS 12 19 rfl rfl (by kernel_rfl) (by kernel_rfl) (by kernel_rfl) (fun _ _ _ h => h) (by kernel_rfl) (by assumption) ?_
    simp only [List.set_cons_zero, List.set_cons_succ]
    refine takeS 16 23 rfl rfl (by kernel_rfl) (by kernel_rfl) (by kernel_rfl) (fun _ _ _ h => h) (by kernel_rfl) (by assumption) ?_
    simp only [List.set_cons_zero, List.set_cons_succ]
    refine takeW 17 24 (.bool false) rfl rfl (by kernel_rfl) (by kernel_rfl) (by kernel_rfl) (fun _ _ _ h => h) (by kernel_rfl) (by (intro w hSw; go_simp)) (by assumption) ?_
    simp only [List.set_cons_zero, List.set_cons_succ]
    refine takeW 18 6 (.bool false) rfl rfl (by kernel_rfl) (by kernel_rfl) (by kernel_rfl) (fun _ _ _ h => h) (by kernel_rfl) (by (intro w hSw; go_simp)) (by assumption) ?_
    simp only [List.set_cons_zero, List.set_cons_succ]
    refine wpAnyH_done (by kernel_rfl) ?_ _
    have hN : Hid (R = false) := by unfold Hid; rw [hR.out]; unfold mindsB; rw [h1.out]; rfl
    go_wp2
    go_ret
    exact ⟨by rw [hN.out]; rfl, B0.trans (hb1.mono B0.size)⟩
  · replace h1 : Hid _ := h1
    refine takeW 2 9 (.bool true) rfl rfl (by kernel_rfl) (by kernel_rfl) (by kernel_rfl) (fun _ _ _ h => h) (by kernel_rfl) (by (intro w hSw; go_simp)) (by assumption) ?_
    simp only [List.set_cons_zero, List.set_cons_succ]
    refine takeW 3 10 (.agg #[.bool m.up, .int .i64 m.li, .int .i64 m.ep, .slice ad m.lg.length cap, .int .i64 m.sd, .int .i64 m.ac, .int .i64 m.al]) rfl rfl (by kernel_rfl) (by kernel_rfl) (by kernel_rfl) (fun _ _ _ h => h) (by kernel_rfl) (by (intro Y hSw; obtain ⟨X0, X1, X2, X3, X4, X5, X6⟩ := M.below hSw M.lt; go_simp)) (by assumption) ?_
    simp only [List.set_cons_zero, List.set_cons_succ]
    refine wpAnyH_all (rs := [4]) (by kernel_rfl) (by simp) ?_
    intro i hi; obtain rfl : i = 4 := by simpa using hi
    refine wpOp_step rfl (fun Kz hKz => ?_)
    rw [if_pos (by kernel_rfl)]
    go_simp
    go_at_call 35
    refine (miOkI m ad cap u1 (hv1.below hb1 (hv1.lt ikEnc_len (by omega))) hl).mono ?_
    rintro e u2 ⟨rfl, kq⟩
    have hb2 : Below y.heap.size y u2 := hb1.trans (kq.mono hb1.size)
    clear kq
    refine hKz _ _ ⟨hb2, ?_⟩
    clear hKz Kz hi
    cases h2 : (miOk m)
    · replace h2 : Hid _ := h2
      refine takeW 5 12 (.bool false) rfl rfl (by kernel_rfl) (by kernel_rfl) (by kernel_rfl) (fun _ _ _ h => h) (by kernel_rfl) (by (intro w hSw; go_simp)) (by assumption) ?_
      simp only [List.set_cons_zero, List.set_cons_succ]
      refine takeW 6 13 (.bool false) rfl rfl (by kernel_rfl) (by kernel_rfl) (by kernel_rfl) (fun _ _ _ h => h) (by kernel_rfl) (by (intro w hSw; go_simp)) (by assumption) ?_
      simp only [List.set_cons_zero, List.set_cons_succ]
      refine takeS 7 14 rfl rfl (by kernel_rfl) (by kernel_rfl) (by kernel_rfl) (fun _ _ _ h => h) (by kernel_rfl) (by assumption) ?_
      simp only [List.set_cons_zero, List.set_cons_succ]
      refine takeS 8 15 rfl rfl (by kernel_rfl) (by kernel_rfl) (by kernel_rfl) (fun _ _ _ h => h) (by kernel_rfl) (by assumption) ?_
      simp only [List.set_cons_zero, List.set_cons_succ]
      refine takeW 9 16 (.bool false) rfl rfl (by kernel_rfl) (by kernel_rfl) (by kernel_rfl) (fun _ _ _ h => h) (by kernel_rfl) (by (intro w hSw; go_simp)) (by assumption) ?_
      simp only [List.set_cons_zero, List.set_cons_succ]
      refine takeW 10 17 (.bool false) rfl rfl (by kernel_rfl) (by kernel_rfl) (by kernel_rfl) (fun _ _ _ h => h) (by kernel_rfl) (by (intro w hSw; go_simp)) (by assumption) ?_
      simp only [List.set_cons_zero, List.set_cons_succ]
      refine takeS 11 18 rfl rfl (by kernel_rfl) (by kernel_rfl) (by kernel_rfl) (fun _ _ _ h => h) (by kernel_rfl) (by assumption) ?_
      simp only [List.set_cons_zero, List.set_cons_succ]
      refine takeS 13 20 rfl rfl (by kernel_rfl) (by kernel_rfl) (by kernel_rfl) (fun _ _ _ h => h) (by kernel_rfl) (by assumption) ?_
      simp only [List.set_cons_zero, List.set_cons_succ]
      refine takeS 14 21 rfl rfl (by kernel_rfl) (by kernel_rfl) (by kernel_rfl) (fun _ _ _ h => h) (by kernel_rfl) (by assumption) ?_
      simp only [List.set_cons_zero, List.set_cons_succ]
      refine takeS 15 22 rfl rfl (by kernel_rfl) (by kernel_rfl) (by kernel_rfl) (fun _ _ _ h => h) (by kernel_rfl) (by assumption) ?_
      simp only [List.set_cons_zero, List.set_cons_succ]
      refine takeS 12 19 rfl rfl (by kernel_rfl) (by kernel_rfl) (by kernel_rfl) (fun _ _ _ h => h) (by kernel_rfl) (by assumption) ?_
      simp only [List.set_cons_zero, List.set_cons_succ]
      refine takeS 16 23 rfl rfl (by kernel_rfl) (by kernel_rfl) (by kernel_rfl) (fun _ _ _ h => h) (by kernel_rfl) (by assumption) ?_
      simp only [List.set_cons_zero, List.set_cons_succ]
      refine takeW 17 24 (.bool false) rfl rfl (by kernel_rfl) (by kernel_rfl) (by kernel_rfl) (fun _ _ _ h => h) (by kernel_rfl) (by (intro w hSw; go_simp)) (by assumption) ?_
      simp only [List.set_cons_zero, List.set_cons_succ]
      refine takeW 18 6 (.bool false) rfl rfl (by kernel_rfl) (by kernel_rfl) (by kernel_rfl) (fun _ _ _ h => h) (by kernel_rfl) (by (intro w hSw; go_simp)) (by assumption) ?_
      simp only [List.set_cons_zero, List.set_cons_succ]
      refine wpAnyH_done (by kernel_rfl) ?_ _
      have hN : Hid (R = false) := by unfold Hid; rw [hR.out]; unfold mindsB; rw [h1.out, h2.out]; rfl
      go_wp2
      go_ret
      exact ⟨by rw [hN.out]; rfl, B0.trans (hb2.mono B0.size)⟩
    · replace h2 : Hid _ := h2
      refine takeW 5 12 (.bool true) rfl rfl (by kernel_rfl) (by kernel_rfl) (by kernel_rfl) (fun _ _ _ h => h) (by kernel_rfl) (by (intro w hSw; go_simp)) (by assumption) ?_
      simp only [List.set_cons_zero, List.set_cons_succ]
      refine takeW 6 13 (.bool true) rfl rfl (by kernel_rfl) (by kernel_rfl) (by kernel_rfl) (fun _ _ _ h => h) (by kernel_rfl) (by (intro w hSw; go_simp)) (by assumption) ?_
      simp only [List.set_cons_zero, List.set_cons_succ]
      refine takeW 7 14 (.pointer (some ⟨w.heap.size + 1, 0, none⟩)) rfl rfl (by kernel_rfl) (by kernel_rfl) (by kernel_rfl) (fun _ _ _ h => h) (by kernel_rfl) (by (intro w hSw; go_simp)) (by assumption) ?_
      simp only [List.set_cons_zero, List.set_cons_succ]
      refine takeW 8 15 (.bool (m.up)) rfl rfl (by kernel_rfl) (by kernel_rfl) (by kernel_rfl) (fun _ _ _ h => h) (by kernel_rfl) (by (intro Y hSw; obtain ⟨X0, X1, X2, X3, X4, X5, X6⟩ := M.below hSw M.lt; go_simp)) (by assumption) ?_
      simp only [List.set_cons_zero, List.set_cons_succ]
      cases h3 : (m.up)
      · replace h3 : Hid _ := h3
        refine takeW 9 16 (.bool false) rfl rfl (by kernel_rfl) (by kernel_rfl) (by kernel_rfl) (fun _ _ _ h => h) (by kernel_rfl) (by (intro w hSw; go_simp)) (by assumption) ?_
        simp only [List.set_cons_zero, List.set_cons_succ]
        refine takeW 10 17 (.bool false) rfl rfl (by kernel_rfl) (by kernel_rfl) (by kernel_rfl) (fun _ _ _ h => h) (by kernel_rfl) (by (intro w hSw; go_simp)) (by assumption) ?_
        simp only [List.set_cons_zero, List.set_cons_succ]
        refine takeS 11 18 rfl rfl (by kernel_rfl) (by kernel_rfl) (by kernel_rfl) (fun _ _ _ h => h) (by kernel_rfl) (by assumption) ?_
        simp only [List.set_cons_zero, List.set_cons_succ]
        refine takeS 13 20 rfl rfl (by kernel_rfl) (by kernel_rfl) (by kernel_rfl) (fun _ _ _ h => h) (by kernel_rfl) (by assumption) ?_
        simp only [List.set_cons_zero, List.set_cons_succ]
        refine takeS 14 21 rfl rfl (by kernel_rfl) (by kernel_rfl) (by kernel_rfl) (fun _ _ _ h => h) (by kernel_rfl) (by assumption) ?_
        simp only [List.set_cons_zero, List.set_cons_succ]
        refine takeS 15 22 rfl rfl (by kernel_rfl) (by kernel_rfl) (by kernel_rfl) (fun _ _ _ h => h) (by kernel_rfl) (by assumption) ?_
        simp only [List.set_cons_zero, List.set_cons_succ]
        refine takeS 12 19 rfl rfl (by kernel_rfl) (by kernel_rfl) (by kernel_rfl) (fun _ _ _ h => h) (by kernel_rfl) (by assumption) ?_
        simp only [List.set_cons_zero, List.set_cons_succ]
        refine takeS 16 23 rfl rfl (by kernel_rfl) (by kernel_rfl) (by kernel_rfl) (fun _ _ _ h => h) (by kernel_rfl) (by assumption) ?_
        simp only [List.set_cons_zero, List.set_cons_succ]
        refine takeW 17 24 (.bool false) rfl rfl (by kernel_rfl) (by kernel_rfl) (by kernel_rfl) (fun _ _ _ h => h) (by kernel_rfl) (by (intro w hSw; go_simp)) (by assumption) ?_
        simp only [List.set_cons_zero, List.set_cons_succ]
        refine takeW 18 6 (.bool false) rfl rfl (by kernel_rfl) (by kernel_rfl) (by kernel_rfl) (fun _ _ _ h => h) (by kernel_rfl) (by (intro w hSw; go_simp)) (by assumption) ?_
        simp only [List.set_cons_zero, List.set_cons_succ]
        refine wpAnyH_done (by kernel_rfl) ?_ _
        have hN : Hid (R = false) := by unfold Hid; rw [hR.out]; unfold mindsB; rw [h1.out, h2.out, h3.out]; rfl
        go_wp2
        go_ret
        exact ⟨by rw [hN.out]; rfl, B0.trans (hb2.mono B0.size)⟩
      · replace h3 : Hid _ := h3
        refine takeW 9 16 (.bool true) rfl rfl (by kernel_rfl) (by kernel_rfl) (by kernel_rfl) (fun _ _ _ h => h) (by kernel_rfl) (by (intro w hSw; go_simp)) (by assumption) ?_
        simp only [List.set_cons_zero, List.set_cons_succ]
        refine takeW 10 17 (.bool true) rfl rfl (by kernel_rfl) (by kernel_rfl) (by kernel_rfl) (fun _ _ _ h => h) (by kernel_rfl) (by (intro w hSw; go_simp)) (by assumption) ?_
        simp only [List.set_cons_zero, List.set_cons_succ]
        refine takeW 11 18 (.agg #[.int .i64 r.ep, .int .i64 r.ow, .int .i64 r.pa]) rfl rfl (by kernel_rfl) (by kernel_rfl) (by kernel_rfl) (fun _ _ _ h => h) (by kernel_rfl) (by (intro Y hSw; obtain ⟨X0, X1, X2⟩ := A.below hSw A.lt; go_simp)) (by assumption) ?_
        simp only [List.set_cons_zero, List.set_cons_succ]
        refine takeW 13 20 (.int .i64 s) rfl rfl (by kernel_rfl) (by kernel_rfl) (by kernel_rfl) (fun _ _ _ h => h) (by kernel_rfl) (by (intro w hSw; go_simp)) (by assumption) ?_
        simp only [List.set_cons_zero, List.set_cons_succ]
        refine takeW 14 21 (.pointer (some ⟨w.heap.size + 1, 2, none⟩)) rfl rfl (by kernel_rfl) (by kernel_rfl) (by kernel_rfl) (fun _ _ _ h => h) (by kernel_rfl) (by (intro w hSw; go_simp)) (by assumption) ?_
        simp only [List.set_cons_zero, List.set_cons_succ]
        refine takeW 15 22 (.int .i64 m.ep) rfl rfl (by kernel_rfl) (by kernel_rfl) (by kernel_rfl) (fun _ _ _ h => h) (by kernel_rfl) (by (intro Y hSw; obtain ⟨X0, X1, X2, X3, X4, X5, X6⟩ := M.below hSw M.lt; go_simp)) (by assumption) ?_
        simp only [List.set_cons_zero, List.set_cons_succ]
        refine wpAnyH_all (rs := [12]) (by kernel_rfl) (by simp) ?_
        intro i hi; obtain rfl : i = 12 := by simpa using hi
        refine wpOp_step rfl (fun Kz hKz => ?_)
        rw [if_pos (by kernel_rfl)]
        go_simp
        go_at_call 33
        refine (regOfI r u2).mono ?_
        rintro e u3 ⟨qg, rfl, G, lg, kq⟩
        have hb3 : Below y.heap.size y u3 := hb2.trans (kq.mono hb2.size)
        have lg2 : y.heap.size ≤ qg := by have := hb2.size; omega
        clear kq lg
        refine hKz _ _ ⟨hb3, ?_⟩
        clear hKz Kz hi
        refine wpAnyH_all (rs := [16]) (by kernel_rfl) (by simp) ?_
        intro i hi; obtain rfl : i = 16 := by simpa using hi
        refine wpOp_step rfl (fun Kz hKz => ?_)
        rw [if_pos (by kernel_rfl)]
        go_simp
        go_at_call 49
        refine (isOfI r s m.ep qg u3 G).mono ?_
        rintro e u4 ⟨rfl, G', tq⟩
        have hb4 : Below y.heap.size y u4 := hb3.trans (tq.below hb3.size lg2 (fun g e => by cases e))
        clear tq G'
        refine hKz _ _ ⟨hb4, ?_⟩
        clear hKz Kz hi
        refine takeW 17 24 (.bool (decide (r.ow = s) && decide (r.ep = m.ep))) rfl rfl (by kernel_rfl) (by kernel_rfl) (by kernel_rfl) (fun _ _ _ h => h) (by kernel_rfl) (by (intro w hSw; go_simp)) (by assumption) ?_
        simp only [List.set_cons_zero, List.set_cons_succ]
        refine takeW 18 6 (.bool (decide (r.ow = s) && decide (r.ep = m.ep))) rfl rfl (by kernel_rfl) (by kernel_rfl) (by kernel_rfl) (fun _ _ _ h => h) (by kernel_rfl) (by (intro w hSw; go_simp)) (by assumption) ?_
        simp only [List.set_cons_zero, List.set_cons_succ]
        refine wpAnyH_done (by kernel_rfl) ?_ _
        have hN : Hid (R = (decide (r.ow = s) && decide (r.ep = m.ep))) := by unfold Hid; rw [hR.out]; unfold mindsB; rw [h1.out, h2.out, h3.out]; simp [eq_comm]
        go_wp2
        go_ret
        exact ⟨by rw [hN.out]; rfl, B0.trans (hb4.mono B0.size)⟩
/-- What mayPair answers. -/
def mayB (m : Mi) (p : Int) : Bool := decide (p = 0) || (decide (p = m.al) && decide (m.ac = (m.lg.length : Int)))
theorem pairsB_is (r : Rg) (s : Int) (m : Mi) (p : Int) : pairsB r s m p = (mindsB r s m && mayB m p) := rfl
set_option maxHeartbeats 2000000 in
theorem mayPairI (m : Mi) (p : Int) (ad : Option Addr) (cap : Nat) (w : World) :
    Calls Tryz.prog 45 #[.agg #[.bool m.up, .int .i64 m.li, .int .i64 m.ep, .slice ad m.lg.length cap, .int .i64 m.sd, .int .i64 m.ac, .int .i64 m.al], .int .i64 p] w fun e w' => e = .returned (.bool (mayB m p)) ∧ Below w.heap.size w w' := by
  obtain ⟨R, hR⟩ : ∃ R, R = mayB m p := ⟨_, rfl⟩
  rw [← hR]
  replace hR : Hid _ := hR
  obtain ⟨y, hy⟩ : ∃ y, y = w.alloc (Obj.cells #[.bool m.up, .int .i64 m.li, .int .i64 m.ep, .slice ad m.lg.length cap, .int .i64 m.sd, .int .i64 m.ac, .int .i64 m.al] 28) := ⟨_, rfl⟩
  have B0 : Below w.heap.size w y := by rw [hy]; exact below_new _
  have M : MiAt y w.heap.size m (.slice ad m.lg.length cap) := by rw [hy]; exact MiAt.new w _ _ _
  go_enter Tryz.func45, Tryz.ntmps45
  go_upto_region 1 with fail
  rw [← hy]
  clear hy
  obtain ⟨a0, a1, a2, a3, a4, a5, a6⟩ := M
  by_cases e1 : p = 0
  · have d1 : decide (p = 0) = true := decide_eq_true e1
    have b1 : (p == 0) = true := by simpa using e1
    have hN : Hid (R = true) := by unfold Hid; rw [hR.out]; unfold mayB; rw [decide_eq_true e1]; rfl
    replace e1 : Hid _ := e1
    go_wp2
    go_ret
    exact ⟨by rw [hN.out]; rfl, B0⟩
  · have d1 : decide (p = 0) = false := decide_eq_false e1
    have b1 : (p == 0) = false := by simpa using e1
    by_cases e2 : p = m.al
    · have d2 : decide (p = m.al) = true := decide_eq_true e2
      have b2 : (p == m.al) = true := by simpa using e2
      by_cases e3 : m.ac = (m.lg.length : Int)
      · have d3 : decide (m.ac = (m.lg.length : Int)) = true := decide_eq_true e3
        have b3 : (m.ac == (m.lg.length : Int)) = true := by simpa using e3
        have hN : Hid (R = true) := by unfold Hid; rw [hR.out]; unfold mayB; rw [decide_eq_true e2, decide_eq_true e3]; simp
        replace e1 : Hid _ := e1
        replace e2 : Hid _ := e2
        replace e3 : Hid _ := e3
        go_wp2
        go_ret
        exact ⟨by rw [hN.out]; rfl, B0⟩
      · have d3 : decide (m.ac = (m.lg.length : Int)) = false := decide_eq_false e3
        have b3 : (m.ac == (m.lg.length : Int)) = false := by simpa using e3
        have hN : Hid (R = false) := by unfold Hid; rw [hR.out]; unfold mayB; rw [decide_eq_false e1, decide_eq_true e2, decide_eq_false e3]; rfl
        replace e1 : Hid _ := e1
        replace e2 : Hid _ := e2
        replace e3 : Hid _ := e3
        go_wp2
        go_ret
        exact ⟨by rw [hN.out]; rfl, B0⟩
    · have d2 : decide (p = m.al) = false := decide_eq_false e2
      have b2 : (p == m.al) = false := by simpa using e2
      have hN : Hid (R = false) := by unfold Hid; rw [hR.out]; unfold mayB; rw [decide_eq_false e1, decide_eq_false e2]; rfl
      replace e1 : Hid _ := e1
      replace e2 : Hid _ := e2
      go_wp2
      go_ret
      exact ⟨by rw [hN.out]; rfl, B0⟩

end Go.Proofs.YtijhpfccjaaalaaGreat
namespace Go.Proofs.YtijhpfccjaaalaaGreat
open Go.ChangeShapes Go.WideShapes Go.ChangeAt Go.RowKit
open Go.ChangeMaps (open_string shut_string)
set_option linter.unusedVariables false
set_option maxRecDepth 100000

set_option maxHeartbeats 4000000 in
theorem mindsAtI (x : BxD) (s : Int) (w : World) (hV : BxV w x) :
    Calls Tryz.prog 64 #[.agg #[.int .i64 x.id, .int .i64 x.po, .int .i64 x.rg.ep, .int .i64 x.rg.ow, .int .i64 x.rg.pa, .slice x.aT x.two.length x.cT, .slice x.aN x.net.length x.cN, .slice x.aG x.ga.length x.cG, .slice x.aL x.ln.length x.cL, .slice x.aS x.sd.length x.cS], .int .i64 s] w fun e w' => e = .returned (.bool (mindsX x.p s)) ∧ Below w.heap.size w w' := by
  obtain ⟨R, hR⟩ : ∃ R, R = mindsX x.p s := ⟨_, rfl⟩
  rw [← hR]
  replace hR : Hid _ := hR
  obtain ⟨y, hy⟩ : ∃ y, y = w.alloc (Obj.cells #[.int .i64 x.id, .int .i64 x.po, .int .i64 x.rg.ep, .int .i64 x.rg.ow, .int .i64 x.rg.pa, .slice x.aT x.two.length x.cT, .slice x.aN x.net.length x.cN, .slice x.aG x.ga.length x.cG, .slice x.aL x.ln.length x.cL, .slice x.aS x.sd.length x.cS] 55) := ⟨_, rfl⟩
  have B0 : Below w.heap.size w y := by rw [hy]; exact below_new _
  have A : BxAt y w.heap.size x := by rw [hy]; exact BxAt.new w _ x
  have V := hV.later B0
  go_enter Tryz.func64, Tryz.ntmps64
  go_upto_region 1 with fail
  rw [← hy]
  clear hy hV
  refine wp_region_held (S := fun Y => Below y.heap.size y Y) (by kernel_rfl) ?_
  change wpAnyH _ _ _ _ _ _ _ _ (World.drew _)
  have hb0 : Below y.heap.size y y.drew := (Below.refl _ _).drew
  obtain ⟨u0, hy0⟩ : ∃ y_, y_ = y.drew := ⟨_, rfl⟩
  rw [← hy0] at hb0 ⊢
  clear hy0
  refine takeW 0 5 (.int .i64 s) rfl rfl (by kernel_rfl) (by kernel_rfl) (by kernel_rfl) (fun _ _ _ h => h) (by kernel_rfl) (by (intro w hSw; go_simp)) (by assumption) ?_
  simp only [List.set_cons_zero, List.set_cons_succ]
  by_cases h1 : 0 ≤ s
  · have d1 : decide (0 ≤ s) = true := decide_eq_true h1
    refine takeW 1 6 (.bool true) rfl rfl (by kernel_rfl) (by kernel_rfl) (by kernel_rfl) (fun _ _ _ h => h) (by kernel_rfl) (by (intro w hSw; go_simp)) (by assumption) ?_
    simp only [List.set_cons_zero, List.set_cons_succ]
    refine takeW 2 7 (.bool true) rfl rfl (by kernel_rfl) (by kernel_rfl) (by kernel_rfl) (fun _ _ _ h => h) (by kernel_rfl) (by (intro w hSw; go_simp)) (by assumption) ?_
    simp only [List.set_cons_zero, List.set_cons_succ]
    refine takeW 3 8 (.int .i64 s) rfl rfl (by kernel_rfl) (by kernel_rfl) (by kernel_rfl) (fun _ _ _ h => h) (by kernel_rfl) (by (intro w hSw; go_simp)) (by assumption) ?_
    simp only [List.set_cons_zero, List.set_cons_succ]
    refine takeW 4 9 (.pointer (some ⟨w.heap.size, 5, none⟩)) rfl rfl (by kernel_rfl) (by kernel_rfl) (by kernel_rfl) (fun _ _ _ h => h) (by kernel_rfl) (by (intro w hSw; go_simp)) (by assumption) ?_
    simp only [List.set_cons_zero, List.set_cons_succ]
    refine takeW 5 10 (.slice x.aT x.two.length x.cT) rfl rfl (by kernel_rfl) (by kernel_rfl) (by kernel_rfl) (fun _ _ _ h => h) (by kernel_rfl) (by (intro Y hSw; obtain ⟨X0, X1, X2, X3, X4, X5, X6, X7, X8, X9⟩ := A.below hSw A.lt; go_simp)) (by assumption) ?_
    simp only [List.set_cons_zero, List.set_cons_succ]
    refine takeW 6 11 (.int .i64 (x.two.length : Int)) rfl rfl (by kernel_rfl) (by kernel_rfl) (by kernel_rfl) (fun _ _ _ h => h) (by kernel_rfl) (by (intro w hSw; go_simp)) (by assumption) ?_
    simp only [List.set_cons_zero, List.set_cons_succ]
    by_cases h2 : s < (x.two.length : Int)
    · have d2 : decide (s < (x.two.length : Int)) = true := decide_eq_true h2
      refine takeW 7 12 (.bool true) rfl rfl (by kernel_rfl) (by kernel_rfl) (by kernel_rfl) (fun _ _ _ h => h) (by kernel_rfl) (by (intro w hSw; go_simp)) (by assumption) ?_
      simp only [List.set_cons_zero, List.set_cons_succ]
      refine takeW 8 13 (.bool true) rfl rfl (by kernel_rfl) (by kernel_rfl) (by kernel_rfl) (fun _ _ _ h => h) (by kernel_rfl) (by (intro w hSw; go_simp)) (by assumption) ?_
      simp only [List.set_cons_zero, List.set_cons_succ]
      refine takeW 9 14 (.bool true) rfl rfl (by kernel_rfl) (by kernel_rfl) (by kernel_rfl) (fun _ _ _ h => h) (by kernel_rfl) (by (intro w hSw; go_simp)) (by assumption) ?_
      simp only [List.set_cons_zero, List.set_cons_succ]
      clear d1 d2
      obtain ⟨k, rfl⟩ : ∃ k : Nat, s = (k : Int) := ⟨s.toNat, by omega⟩
      have hk : k < x.two.length := by omega
      have hcap := V.ct
      obtain ⟨d, hd⟩ : ∃ d, x.two.getD k MiD.nil = d := ⟨_, rfl⟩
      have hvl := V.l k hk
      have hll := V.bl k hk
      rw [hd] at hvl hll
      have hN : Hid (R = mindsB x.rg (k : Int) d.m) := by unfold Hid; rw [hR.out]; unfold mindsX; rw [show decide (0 ≤ (k : Int) ∧ (k : Int) < ((x.p.two).length : Int)) = true from decide_eq_true (by rw [p_two_len]; omega), mOf_p, Int.toNat_natCast, hd]; rfl
      obtain ⟨b, off, hat, _⟩ := V.t (by omega)
      have hck : ∀ Y, Below y.heap.size y Y → MdAtO Y b (off + k * 7) d := fun Y hY => by have ht := (V.later hY).t; rw [hat] at ht; rw [← hd]; exact mdAtO_of (ht.at_ mdEnc_len MiD.nil hk)
      replace hd : Hid _ := hd
      clear h1 h2
      refine takeW 10 15 (.pointer (some ⟨w.heap.size, 2, none⟩)) rfl rfl (by kernel_rfl) (by kernel_rfl) (by kernel_rfl) (fun _ _ _ h => h) (by kernel_rfl) (by (intro w hSw; go_simp)) (by assumption) ?_
      simp only [List.set_cons_zero, List.set_cons_succ]
      refine takeW 11 16 (.agg #[.int .i64 x.rg.ep, .int .i64 x.rg.ow, .int .i64 x.rg.pa]) rfl rfl (by kernel_rfl) (by kernel_rfl) (by kernel_rfl) (fun _ _ _ h => h) (by kernel_rfl) (by (intro Y hSw; obtain ⟨X0, X1, X2, X3, X4, X5, X6, X7, X8, X9⟩ := A.below hSw A.lt; go_simp)) (by assumption) ?_
      simp only [List.set_cons_zero, List.set_cons_succ]
      refine takeW 12 17 (.int .i64 (k : Int)) rfl rfl (by kernel_rfl) (by kernel_rfl) (by kernel_rfl) (fun _ _ _ h => h) (by kernel_rfl) (by (intro w hSw; go_simp)) (by assumption) ?_
      simp only [List.set_cons_zero, List.set_cons_succ]
      refine takeW 13 18 (.pointer (some ⟨w.heap.size, 5, none⟩)) rfl rfl (by kernel_rfl) (by kernel_rfl) (by kernel_rfl) (fun _ _ _ h => h) (by kernel_rfl) (by (intro w hSw; go_simp)) (by assumption) ?_
      simp only [List.set_cons_zero, List.set_cons_succ]
      refine takeW 14 19 (.slice (some ⟨b, off, none⟩) x.two.length x.cT) rfl rfl (by kernel_rfl) (by kernel_rfl) (by kernel_rfl) (fun _ _ _ h => h) (by kernel_rfl) (by (intro Y hSw; obtain ⟨X0, X1, X2, X3, X4, X5, X6, X7, X8, X9⟩ := A.below hSw A.lt; rw [hat] at X5; go_simp)) (by assumption) ?_
      simp only [List.set_cons_zero, List.set_cons_succ]
      refine takeW 15 20 (.int .i64 (k : Int)) rfl rfl (by kernel_rfl) (by kernel_rfl) (by kernel_rfl) (fun _ _ _ h => h) (by kernel_rfl) (by (intro w hSw; go_simp)) (by assumption) ?_
      simp only [List.set_cons_zero, List.set_cons_succ]
      refine takeW 16 21 (.pointer (some ⟨b, off + k * 7, none⟩)) rfl rfl (by kernel_rfl) (by kernel_rfl) (by kernel_rfl) (fun _ _ _ h => h) (by kernel_rfl) (by (intro Y hSw; go_simp; try omega)) (by assumption) ?_
      simp only [List.set_cons_zero, List.set_cons_succ]
      refine takeW 17 22 (.agg #[.bool d.m.up, .int .i64 d.m.li, .int .i64 d.m.ep, .slice d.ad d.m.lg.length d.cap, .int .i64 d.m.sd, .int .i64 d.m.ac, .int .i64 d.m.al]) rfl rfl (by kernel_rfl) (by kernel_rfl) (by kernel_rfl) (fun _ _ _ h => h) (by kernel_rfl) (by (intro Y hSw; obtain ⟨X0, X1, X2, X3, X4, X5, X6⟩ := hck Y hSw; go_simp)) (by assumption) ?_
      simp only [List.set_cons_zero, List.set_cons_succ]
      refine wpAnyH_all (rs := [18]) (by kernel_rfl) (by simp) ?_
      intro i hi; obtain rfl : i = 18 := by simpa using hi
      refine wpOp_step rfl (fun Kz hKz => ?_)
      rw [if_pos (by kernel_rfl)]
      go_simp
      go_at_call 15
      refine (mindsI x.rg (k : Int) d.m d.ad d.cap u0 (hvl.below hb0 (hvl.lt ikEnc_len (by omega))) (by omega)).mono ?_
      rintro e u2 ⟨rfl, kq⟩
      rw [← hN.out]
      have hb2 : Below y.heap.size y u2 := hb0.trans (kq.mono hb0.size)
      clear kq
      refine hKz _ _ ⟨hb2, ?_⟩
      clear hKz Kz hi
      refine takeW 19 24 (.bool R) rfl rfl (by kernel_rfl) (by kernel_rfl) (by kernel_rfl) (fun _ _ _ h => h) (by kernel_rfl) (by (intro w hSw; go_simp)) (by assumption) ?_
      simp only [List.set_cons_zero, List.set_cons_succ]
      refine takeW 20 4 (.bool R) rfl rfl (by kernel_rfl) (by kernel_rfl) (by kernel_rfl) (fun _ _ _ h => h) (by kernel_rfl) (by (intro w hSw; go_simp)) (by assumption) ?_
      simp only [List.set_cons_zero, List.set_cons_succ]
      refine wpAnyH_done (by kernel_rfl) ?_ _
      go_wp2
      go_ret
      exact ⟨rfl, B0.trans (hb2.mono B0.size)⟩
    · have d2 : decide (s < (x.two.length : Int)) = false := decide_eq_false h2
      have hN : Hid (R = false) := by unfold Hid; rw [hR.out]; unfold mindsX; rw [show decide (0 ≤ s ∧ s < ((x.p.two).length : Int)) = false from decide_eq_false (by rw [p_two_len]; omega)]; rfl
      refine takeW 7 12 (.bool false) rfl rfl (by kernel_rfl) (by kernel_rfl) (by kernel_rfl) (fun _ _ _ h => h) (by kernel_rfl) (by (intro w hSw; go_simp)) (by assumption) ?_
      simp only [List.set_cons_zero, List.set_cons_succ]
      refine takeW 8 13 (.bool false) rfl rfl (by kernel_rfl) (by kernel_rfl) (by kernel_rfl) (fun _ _ _ h => h) (by kernel_rfl) (by (intro w hSw; go_simp)) (by assumption) ?_
      simp only [List.set_cons_zero, List.set_cons_succ]
      refine takeW 9 14 (.bool false) rfl rfl (by kernel_rfl) (by kernel_rfl) (by kernel_rfl) (fun _ _ _ h => h) (by kernel_rfl) (by (intro w hSw; go_simp)) (by assumption) ?_
      simp only [List.set_cons_zero, List.set_cons_succ]
      refine takeS 10 15 rfl rfl (by kernel_rfl) (by kernel_rfl) (by kernel_rfl) (fun _ _ _ h => h) (by kernel_rfl) (by assumption) ?_
      simp only [List.set_cons_zero, List.set_cons_succ]
      refine takeS 11 16 rfl rfl (by kernel_rfl) (by kernel_rfl) (by kernel_rfl) (fun _ _ _ h => h) (by kernel_rfl) (by assumption) ?_
      simp only [List.set_cons_zero, List.set_cons_succ]
      refine takeS 12 17 rfl rfl (by kernel_rfl) (by kernel_rfl) (by kernel_rfl) (fun _ _ _ h => h) (by kernel_rfl) (by assumption) ?_
      simp only [List.set_cons_zero, List.set_cons_succ]
      refine takeS 13 18 rfl rfl (by kernel_rfl) (by kernel_rfl) (by kernel_rfl) (fun _ _ _ h => h) (by kernel_rfl) (by assumption) ?_
      simp only [List.set_cons_zero, List.set_cons_succ]
      refine takeS 14 19 rfl rfl (by kernel_rfl) (by kernel_rfl) (by kernel_rfl) (fun _ _ _ h => h) (by kernel_rfl) (by assumption) ?_
      simp only [List.set_cons_zero, List.set_cons_succ]
      refine takeS 15 20 rfl rfl (by kernel_rfl) (by kernel_rfl) (by kernel_rfl) (fun _ _ _ h => h) (by kernel_rfl) (by assumption) ?_
      simp only [List.set_cons_zero, List.set_cons_succ]
      refine takeS 16 21 rfl rfl (by kernel_rfl) (by kernel_rfl) (by kernel_rfl) (fun _ _ _ h => h) (by kernel_rfl) (by assumption) ?_
      simp only [List.set_cons_zero, List.set_cons_succ]
      refine takeS 17 22 rfl rfl (by kernel_rfl) (by kernel_rfl) (by kernel_rfl) (fun _ _ _ h => h) (by kernel_rfl) (by assumption) ?_
      simp only [List.set_cons_zero, List.set_cons_succ]
      refine takeS 18 23 rfl rfl (by kernel_rfl) (by kernel_rfl) (by kernel_rfl) (fun _ _ _ h => h) (by kernel_rfl) (by assumption) ?_
      simp only [List.set_cons_zero, List.set_cons_succ]
      refine takeW 19 24 (.bool false) rfl rfl (by kernel_rfl) (by kernel_rfl) (by kernel_rfl) (fun _ _ _ h => h) (by kernel_rfl) (by (intro w hSw; go_simp)) (by assumption) ?_
      simp only [List.set_cons_zero, List.set_cons_succ]
      refine takeW 20 4 (.bool false) rfl rfl (by kernel_rfl) (by kernel_rfl) (by kernel_rfl) (fun _ _ _ h => h) (by kernel_rfl) (by (intro w hSw; go_simp)) (by assumption) ?_
      simp only [List.set_cons_zero, List.set_cons_succ]
      refine wpAnyH_done (by kernel_rfl) ?_ _
      go_wp2
      go_ret
      exact ⟨by rw [hN.out]; rfl, B0.trans (hb0.mono B0.size)⟩
  · have d1 : decide (0 ≤ s) = false := decide_eq_false h1
    have hN : Hid (R = false) := by unfold Hid; rw [hR.out]; unfold mindsX; rw [show decide (0 ≤ s ∧ s < ((x.p.two).length : Int)) = false from decide_eq_false (by omega)]; rfl
    refine takeW 1 6 (.bool false) rfl rfl (by kernel_rfl) (by kernel_rfl) (by kernel_rfl) (fun _ _ _ h => h) (by kernel_rfl) (by (intro w hSw; go_simp)) (by assumption) ?_
    simp only [List.set_cons_zero, List.set_cons_succ]
    refine takeW 2 7 (.bool false) rfl rfl (by kernel_rfl) (by kernel_rfl) (by kernel_rfl) (fun _ _ _ h => h) (by kernel_rfl) (by (intro w hSw; go_simp)) (by assumption) ?_
    simp only [List.set_cons_zero, List.set_cons_succ]
    refine takeS 3 8 rfl rfl (by kernel_rfl) (by kernel_rfl) (by kernel_rfl) (fun _ _ _ h => h) (by kernel_rfl) (by assumption) ?_
    simp only [List.set_cons_zero, List.set_cons_succ]
    refine takeS 4 9 rfl rfl (by kernel_rfl) (by kernel_rfl) (by kernel_rfl) (fun _ _ _ h => h) (by kernel_rfl) (by assumption) ?_
    simp only [List.set_cons_zero, List.set_cons_succ]
    refine takeS 5 10 rfl rfl (by kernel_rfl) (by kernel_rfl) (by kernel_rfl) (fun _ _ _ h => h) (by kernel_rfl) (by assumption) ?_
    simp only [List.set_cons_zero, List.set_cons_succ]
    refine takeS 6 11 rfl rfl (by kernel_rfl) (by kernel_rfl) (by kernel_rfl) (fun _ _ _ h => h) (by kernel_rfl) (by assumption) ?_
    simp only [List.set_cons_zero, List.set_cons_succ]
    refine takeS 7 12 rfl rfl (by kernel_rfl) (by kernel_rfl) (by kernel_rfl) (fun _ _ _ h => h) (by kernel_rfl) (by assumption) ?_
    simp only [List.set_cons_zero, List.set_cons_succ]
    refine takeW 8 13 (.bool false) rfl rfl (by kernel_rfl) (by kernel_rfl) (by kernel_rfl) (fun _ _ _ h => h) (by kernel_rfl) (by (intro w hSw; go_simp)) (by assumption) ?_
    simp only [List.set_cons_zero, List.set_cons_succ]
    refine takeW 9 14 (.bool false) rfl rfl (by kernel_rfl) (by kernel_rfl) (by kernel_rfl) (fun _ _ _ h => h) (by kernel_rfl) (by (intro w hSw; go_simp)) (by assumption) ?_
    simp only [List.set_cons_zero, List.set_cons_succ]
    refine takeS 10 15 rfl rfl (by kernel_rfl) (by kernel_rfl) (by kernel_rfl) (fun _ _ _ h => h) (by kernel_rfl) (by assumption) ?_
    simp only [List.set_cons_zero, List.set_cons_succ]
    refine takeS 11 16 rfl rfl (by kernel_rfl) (by kernel_rfl) (by kernel_rfl) (fun _ _ _ h => h) (by kernel_rfl) (by assumption) ?_
    simp only [List.set_cons_zero, List.set_cons_succ]
    refine takeS 12 17 rfl rfl (by kernel_rfl) (by kernel_rfl) (by kernel_rfl) (fun _ _ _ h => h) (by kernel_rfl) (by assumption) ?_
    simp only [List.set_cons_zero, List.set_cons_succ]
    refine takeS 13 18 rfl rfl (by kernel_rfl) (by kernel_rfl) (by kernel_rfl) (fun _ _ _ h => h) (by kernel_rfl) (by assumption) ?_
    simp only [List.set_cons_zero, List.set_cons_succ]
    refine takeS 14 19 rfl rfl (by kernel_rfl) (by kernel_rfl) (by kernel_rfl) (fun _ _ _ h => h) (by kernel_rfl) (by assumption) ?_
    simp only [List.set_cons_zero, List.set_cons_succ]
    refine takeS 15 20 rfl rfl (by kernel_rfl) (by kernel_rfl) (by kernel_rfl) (fun _ _ _ h => h) (by kernel_rfl) (by assumption) ?_
    simp only [List.set_cons_zero, List.set_cons_succ]
    refine takeS 16 21 rfl rfl (by kernel_rfl) (by kernel_rfl) (by kernel_rfl) (fun _ _ _ h => h) (by kernel_rfl) (by assumption) ?_
    simp only [List.set_cons_zero, List.set_cons_succ]
    refine takeS 17 22 rfl rfl (by kernel_rfl) (by kernel_rfl) (by kernel_rfl) (fun _ _ _ h => h) (by kernel_rfl) (by assumption) ?_
    simp only [List.set_cons_zero, List.set_cons_succ]
    refine takeS 18 23 rfl rfl (by kernel_rfl) (by kernel_rfl) (by kernel_rfl) (fun _ _ _ h => h) (by kernel_rfl) (by assumption) ?_
    simp only [List.set_cons_zero, List.set_cons_succ]
    refine takeW 19 24 (.bool false) rfl rfl (by kernel_rfl) (by kernel_rfl) (by kernel_rfl) (fun _ _ _ h => h) (by kernel_rfl) (by (intro w hSw; go_simp)) (by assumption) ?_
    simp only [List.set_cons_zero, List.set_cons_succ]
    refine takeW 20 4 (.bool false) rfl rfl (by kernel_rfl) (by kernel_rfl) (by kernel_rfl) (fun _ _ _ h => h) (by kernel_rfl) (by (intro w hSw; go_simp)) (by assumption) ?_
    simp only [List.set_cons_zero, List.set_cons_succ]
    refine wpAnyH_done (by kernel_rfl) ?_ _
    go_wp2
    go_ret
    exact ⟨by rw [hN.out]; rfl, B0.trans (hb0.mono B0.size)⟩

end Go.Proofs.YtijhpfccjaaalaaGreat
namespace Go.Proofs.YtijhpfccjaaalaaGreat
open Go.ChangeShapes Go.WideShapes Go.ChangeAt Go.RowKit
open Go.ChangeMaps (open_string shut_string)
set_option linter.unusedVariables false
set_option maxRecDepth 100000

set_option maxHeartbeats 1000000 in
theorem cloneW (ad : Option Addr) (cap : Nat) (L : List Wi) (w : World) (hv : FView wiEnc w ad L) (hl : L.length ≤ 3000000) :
    Calls Tryz.prog 99 #[.slice ad L.length cap] w fun e w' => ∃ ad' cap', e = .returned (.slice ad' L.length cap') ∧ FOwn wiEnc 12 152 w.heap.size w' (.slice ad' L.length cap') L ∧ Below w.heap.size w w' := by
  obtain ⟨i1, hj, hy0, hy1, hy2⟩ := info_parts wiInfo
  cases ad with
  | none =>
    obtain rfl := hv.none_nil
    have hEq : ∀ (y : World) (c : Nat), (binOp .eql 52 (.slice none 0 c) (.slice none 0 0)).run Tryz.prog y = .ok (.bool true) y := fun y c => Go.Lib.run_eql_slice_nil y 52 152 none 0 c 0 0 Tryz.underlying52
    simp only [List.length_nil]
    go_enter Tryz.func99, Tryz.ntmps99
    go_wp2
    go_ret
    exact ⟨_, _, rfl, FOwn.nil, Below.refl _ _⟩
  | some a =>
    have hB := hv.lt wiEnc_len (by omega)
    have B0 := below_new (w := w) (Obj.cells #[] 152)
    have hv1 : FView wiEnc (w.alloc (Obj.cells #[] 152)) (some a) L := hv.below B0 hB
    have hEq : ∀ (y : World), (binOp .eql 52 (.slice (some a) L.length cap) (.slice none 0 0)).run Tryz.prog y = .ok (.bool false) y := fun y => Go.Lib.run_eql_slice_nil y 52 152 (some a) L.length cap 0 0 Tryz.underlying52
    go_enter Tryz.func99, Tryz.ntmps99
    go_wp2_with (first | (at_builtin; refine fappL wiEnc_len wiEnc_ones rfl _ _ 52 rfl w.heap.size 152 i1 (.agg #[.int .i64 0, .bool false, .int .i64 0, .int .i64 0, .int .i64 0, .int .i64 0, .int .i64 0, .int .i64 0, .int .i64 0, .int .i64 0, .int .i64 0, .bool false]) 96 Tryz.underlying52 hj hy0 hy1 hy2 rfl (by decide) (by decide) _ ([] : List Wi) rfl (FOwn.empty w) (some a) cap L rfl (fun e => by cases e) hv1 ?z0 ?z1 ?_) | go_in)
    case z0 => simp; omega
    case z1 => simp
    intro vZ wZ hownZ hgrowZ _
    have BZ : Below w.heap.size w wZ := B0.grown hgrowZ (by simp) (fun j e => ((FOwn.empty w : FOwn wiEnc 12 152 _ _ _ _).lt j e).1)
    replace hownZ : FOwn wiEnc 12 152 w.heap.size wZ vZ L := hownZ
    obtain ⟨adZ, capZ, rfl⟩ := hownZ.open_
    clear hgrowZ B0 hv1
    go_wp2
    go_ret
    exact ⟨_, _, rfl, hownZ, BZ⟩
set_option maxHeartbeats 1000000 in
theorem cloneB (ad : Option Addr) (cap : Nat) (L : List Bool) (w : World) (hv : FView boEnc w ad L) (hl : L.length ≤ 3000000) :
    Calls Tryz.prog 100 #[.slice ad L.length cap] w fun e w' => ∃ ad' cap', e = .returned (.slice ad' L.length cap') ∧ FOwn boEnc 1 4 w.heap.size w' (.slice ad' L.length cap') L ∧ Below w.heap.size w w' := by
  obtain ⟨i1, hj, hy0, hy1, hy2⟩ := info_parts boInfo
  cases ad with
  | none =>
    obtain rfl := hv.none_nil
    have hEq : ∀ (y : World) (c : Nat), (binOp .eql 44 (.slice none 0 c) (.slice none 0 0)).run Tryz.prog y = .ok (.bool true) y := fun y c => Go.Lib.run_eql_slice_nil y 44 4 none 0 c 0 0 Tryz.underlying44
    simp only [List.length_nil]
    go_enter Tryz.func100, Tryz.ntmps100
    go_wp2
    go_ret
    exact ⟨_, _, rfl, FOwn.nil, Below.refl _ _⟩
  | some a =>
    have hB := hv.lt boEnc_len (by omega)
    have B0 := below_new (w := w) (Obj.cells #[] 4)
    have hv1 : FView boEnc (w.alloc (Obj.cells #[] 4)) (some a) L := hv.below B0 hB
    have hEq : ∀ (y : World), (binOp .eql 44 (.slice (some a) L.length cap) (.slice none 0 0)).run Tryz.prog y = .ok (.bool false) y := fun y => Go.Lib.run_eql_slice_nil y 44 4 (some a) L.length cap 0 0 Tryz.underlying44
    go_enter Tryz.func100, Tryz.ntmps100
    go_wp2_with (first | (at_builtin; refine fappL boEnc_len boEnc_ones rfl _ _ 44 rfl w.heap.size 4 i1 (.bool false) 1 Tryz.underlying44 hj hy0 hy1 hy2 rfl (by decide) (by decide) _ ([] : List Bool) rfl (FOwn.empty w) (some a) cap L rfl (fun e => by cases e) hv1 ?z0 ?z1 ?_) | go_in)
    case z0 => simp; omega
    case z1 => simp
    intro vZ wZ hownZ hgrowZ _
    have BZ : Below w.heap.size w wZ := B0.grown hgrowZ (by simp) (fun j e => ((FOwn.empty w : FOwn boEnc 1 4 _ _ _ _).lt j e).1)
    replace hownZ : FOwn boEnc 1 4 w.heap.size wZ vZ L := hownZ
    obtain ⟨adZ, capZ, rfl⟩ := hownZ.open_
    clear hgrowZ B0 hv1
    go_wp2
    go_ret
    exact ⟨_, _, rfl, hownZ, BZ⟩
set_option maxHeartbeats 1000000 in
theorem cloneO (ad : Option Addr) (cap : Nat) (L : List Ou) (w : World) (hv : FView ouEnc w ad L) (hl : L.length ≤ 3000000) :
    Calls Tryz.prog 102 #[.slice ad L.length cap] w fun e w' => ∃ ad' cap', e = .returned (.slice ad' L.length cap') ∧ FOwn ouEnc 8 95 w.heap.size w' (.slice ad' L.length cap') L ∧ Below w.heap.size w w' := by
  obtain ⟨i1, hj, hy0, hy1, hy2⟩ := info_parts ouInfo
  cases ad with
  | none =>
    obtain rfl := hv.none_nil
    have hEq : ∀ (y : World) (c : Nat), (binOp .eql 53 (.slice none 0 c) (.slice none 0 0)).run Tryz.prog y = .ok (.bool true) y := fun y c => Go.Lib.run_eql_slice_nil y 53 95 none 0 c 0 0 Tryz.underlying53
    simp only [List.length_nil]
    go_enter Tryz.func102, Tryz.ntmps102
    go_wp2
    go_ret
    exact ⟨_, _, rfl, FOwn.nil, Below.refl _ _⟩
  | some a =>
    have hB := hv.lt ouEnc_len (by omega)
    have B0 := below_new (w := w) (Obj.cells #[] 95)
    have hv1 : FView ouEnc (w.alloc (Obj.cells #[] 95)) (some a) L := hv.below B0 hB
    have hEq : ∀ (y : World), (binOp .eql 53 (.slice (some a) L.length cap) (.slice none 0 0)).run Tryz.prog y = .ok (.bool false) y := fun y => Go.Lib.run_eql_slice_nil y 53 95 (some a) L.length cap 0 0 Tryz.underlying53
    go_enter Tryz.func102, Tryz.ntmps102
    go_wp2_with (first | (at_builtin; refine fappL ouEnc_len ouEnc_ones rfl _ _ 53 rfl w.heap.size 95 i1 (.agg #[.int .i64 0, .int .i64 0, .int .i64 0, .int .i64 0, .int .i64 0, .int .i64 0, .int .i64 0, .bool false]) 64 Tryz.underlying53 hj hy0 hy1 hy2 rfl (by decide) (by decide) _ ([] : List Ou) rfl (FOwn.empty w) (some a) cap L rfl (fun e => by cases e) hv1 ?z0 ?z1 ?_) | go_in)
    case z0 => simp; omega
    case z1 => simp
    intro vZ wZ hownZ hgrowZ _
    have BZ : Below w.heap.size w wZ := B0.grown hgrowZ (by simp) (fun j e => ((FOwn.empty w : FOwn ouEnc 8 95 _ _ _ _).lt j e).1)
    replace hownZ : FOwn ouEnc 8 95 w.heap.size wZ vZ L := hownZ
    obtain ⟨adZ, capZ, rfl⟩ := hownZ.open_
    clear hgrowZ B0 hv1
    go_wp2
    go_ret
    exact ⟨_, _, rfl, hownZ, BZ⟩
/-- One more minder, put behind a list that the call owns. -/
theorem MOwn.push {lo hi lo7 : Nat} {w2 w3 : World} {v vN : Value} {T TN : List MiD} {e : MiD} (h : MOwn lo hi w2 v T) (hT : TN = T ++ [e]) (O7 : FOwn ikEnc 8 138 lo7 w2 e.v e.m.lg) (l7 : ∀ g, e.v.ownBlock = some g → hi ≤ g) (hlo : lo ≤ lo7) (oN : FOwn mdEnc 7 28 lo w3 vN TN) (gN : w2.grownBy w3 v.ownBlock) (hs : hi ≤ w2.heap.size) : MOwn lo w3.heap.size w3 vN TN := by
  have hn : ∀ j, j < TN.length → FOwn ikEnc 8 138 lo w3 (TN.getD j MiD.nil).v (TN.getD j MiD.nil).m.lg :=
    mdL T e hT (fun z => FOwn ikEnc 8 138 lo w3 z.v z.m.lg) (fun j hj => (h.nest j hj).keep (fun g e2 => gN.block g (by have := h.nhi j hj g e2; omega) (fun e3 => h.apart j hj g g e3.symm e2 rfl))) ((O7.base hlo).keep (fun g e2 => gN.block g (O7.lt g e2).2 (fun e3 => h.row.apart O7 (by decide) e3.symm e2)))
  refine ⟨oN, hn, fun g e2 => (oN.lt g e2).2, fun i hi g e2 => ((hn i hi).lt g e2).2, fun i hi g h2 e2 e3 e4 => oN.apart (hn i hi) (by decide) e2 (by rw [e4]; exact e3), ?_⟩
  intro i j hij hj g h2 e2 e3
  have hl : TN.length = T.length + 1 := by rw [hT]; simp
  have hi1 : i < T.length := by omega
  have gi : TN.getD i MiD.nil = T.getD i MiD.nil := by rw [hT]; simp [List.getD, List.getElem?_append_left hi1]
  rw [gi] at e2
  by_cases hj1 : j < T.length
  · have gj : TN.getD j MiD.nil = T.getD j MiD.nil := by rw [hT]; simp [List.getD, List.getElem?_append_left hj1]
    rw [gj] at e3
    exact h.aparts i j hij hj1 g h2 e2 e3
  · have ej : j = T.length := by omega
    have gj : TN.getD j MiD.nil = e := by rw [hT, ej]; simp [List.getD]
    rw [gj] at e3
    have := h.nhi i hi1 g e2
    have := l7 h2 e3
    omega

end Go.Proofs.YtijhpfccjaaalaaGreat
namespace Go.Proofs.YtijhpfccjaaalaaGreat
open Go.ChangeShapes Go.WideShapes Go.ChangeAt Go.RowKit
open Go.ChangeMaps (open_string shut_string)
set_option linter.unusedVariables false
set_option maxRecDepth 100000

theorem FView.oneK (w : World) (t : TypeId) (x : Ik) : FView ikEnc (w.alloc (Obj.cells #[.int .i64 x.k, .int .i64 x.q, .int .i64 x.r, .int .i64 x.c, .int .i64 x.b, .int .i64 x.p, .int .i64 x.h, .bool x.up] t)) (some ⟨w.heap.size, 0, none⟩) [x] := by
  intro _
  refine ⟨w.heap.size, 0, rfl, fun j v hv => ?_⟩
  simp only [fcells, ikEnc, List.append_nil] at hv
  have hj : j < 8 := (List.getElem?_eq_some_iff.1 hv).1
  rcases (by omega : j = 0 ∨ j = 1 ∨ j = 2 ∨ j = 3 ∨ j = 4 ∨ j = 5 ∨ j = 6 ∨ j = 7) with rfl | rfl | rfl | rfl | rfl | rfl | rfl | rfl <;> (cases hv; simp [go_sem])
theorem noteR_len {m : Mi} {x : Ik} (h : m.lg.length ≤ 1048576) : (noteR m x).lg.length ≤ 1048576 := by
  unfold noteR
  by_cases e : noteB m x = true
  · rw [if_pos e]
    have h2 : miOk (noteM m x) = true := by unfold noteB at e; rw [Bool.and_eq_true] at e; exact e.2
    unfold miOk insB at h2
    simp only [Bool.and_eq_true, decide_eq_true_eq] at h2
    omega
  · rw [if_neg e]; exact h
set_option maxHeartbeats 4000000 in
theorem noteS (m : Mi) (x : Ik) (ad : Option Addr) (cap : Nat) (w : World) (hv : FView ikEnc w ad m.lg) (hl : m.lg.length ≤ 1048576) (hn : ad = none → cap = 0) :
    Calls Tryz.prog 162 #[.agg #[.bool m.up, .int .i64 m.li, .int .i64 m.ep, .slice ad m.lg.length cap, .int .i64 m.sd, .int .i64 m.ac, .int .i64 m.al], .agg #[.int .i64 x.k, .int .i64 x.q, .int .i64 x.r, .int .i64 x.c, .int .i64 x.b, .int .i64 x.p, .int .i64 x.h, .bool x.up]] w fun e w' => ∃ a c, e = .returned (.tuple #[.agg #[.bool (noteR m x).up, .int .i64 (noteR m x).li, .int .i64 (noteR m x).ep, .slice a (noteR m x).lg.length c, .int .i64 (noteR m x).sd, .int .i64 (noteR m x).ac, .int .i64 (noteR m x).al], .bool (noteB m x)]) ∧ FOwn ikEnc 8 138 w.heap.size w' (.slice a (noteR m x).lg.length c) (noteR m x).lg ∧ Below w.heap.size w w' := by
  have hB := hv.lt ikEnc_len (by omega)
  obtain ⟨y, hy⟩ : ∃ y, y = ((w.alloc (Obj.cells #[.bool m.up, .int .i64 m.li, .int .i64 m.ep, .slice ad m.lg.length cap, .int .i64 m.sd, .int .i64 m.ac, .int .i64 m.al] 28)).alloc (Obj.cells #[.int .i64 x.k, .int .i64 x.q, .int .i64 x.r, .int .i64 x.c, .int .i64 x.b, .int .i64 x.p, .int .i64 x.h, .bool x.up] 138)).alloc (Obj.cells #[.bool false, .int .i64 0, .int .i64 0, .slice none 0 0, .int .i64 0, .int .i64 0, .int .i64 0] 28) := ⟨_, rfl⟩
  have B0 : Below w.heap.size w y := by rw [hy]; exact (((Below.refl _ _).alloc (Nat.le_refl _) _).alloc (by simp) _).alloc (by simp; omega) _
  have A0 : MiAt y w.heap.size m (.slice ad m.lg.length cap) := by rw [hy]; constructor <;> simp [go_sem]
  have X0 : InAt y (w.heap.size + 1) x := by rw [hy]; constructor <;> simp [go_sem]
  have A1 : MiBox y (w.heap.size + 1 + 1) ⟨false, 0, 0, [], 0, 0, 0⟩ (.slice none 0 0) := by rw [hy]; constructor <;> simp [go_sem]
  have S0 := A1.lt
  have hv1 := hv.below B0 hB
  clear hv hB
  obtain ⟨i1, hj, hy0, hy1, hy2⟩ := info_parts ikInfo
  have HV : ∀ a, ad = some a → 0 < m.lg.length → a.block < y.heap.size := hv1.lt ikEnc_len (by omega)
  go_enter Tryz.func162, Tryz.ntmps162
  have cc := A0
  obtain ⟨x0, x1, x2, x3, x4, x5, x6⟩ := cc
  go_wp2_with fail
  go_at_call 41
  rw [← hy]
  clear hy x0 x1 x2 x3 x4 x5 x6
  refine (miCop m ad cap y hv1 (by omega) hn).mono ?_
  rintro e u1 ⟨a1, c1, rfl, O1, k1⟩
  have B1 := B0.trans (k1.mono B0.size)
  have A0 := A0.below k1 A0.lt
  have X0 := X0.below k1 X0.lt
  have A1 := A1.below k1 A1.lt
  have hv1 := hv1.below k1 (hv1.lt ikEnc_len (by omega))
  have s1 := k1.size
  have lo1 := O1.lt
  clear k1 B0
  obtain ⟨u2, hu2⟩ : ∃ u2, u2 = u1.alloc (Obj.cells #[.bool m.up, .int .i64 m.li, .int .i64 m.ep, .slice a1 m.lg.length c1, .int .i64 m.sd, .int .i64 m.ac, .int .i64 m.al] 28) := ⟨_, rfl⟩
  have k2 : Below u1.heap.size u1 u2 := by rw [hu2]; exact below_new _
  have N : MiBox u2 u1.heap.size m (.slice a1 m.lg.length c1) := by rw [hu2]; exact MiBox.new u1 _ _ _
  have B2 := B1.trans (k2.mono B1.size)
  have A0 := A0.below k2 A0.lt
  have X0 := X0.below k2 X0.lt
  have A1 := A1.below k2 A1.lt
  have hv1 := hv1.below k2 (hv1.lt ikEnc_len (by omega))
  have O1 := O1.later k2
  have s2 := N.lt
  have s2' := k2.size
  obtain ⟨q, hq⟩ : ∃ q, q = u1.heap.size := ⟨_, rfl⟩
  go_upto_region 2 with fail
  rw [← hu2]
  clear hu2 k2 B1
  rw [← hq] at N s2 lo1 s1 s2' ⊢
  clear hq
  have V1 := FView.oneK u2 138 x
  have kx : Below u2.heap.size u2 (u2.alloc (Obj.cells #[.int .i64 x.k, .int .i64 x.q, .int .i64 x.r, .int .i64 x.c, .int .i64 x.b, .int .i64 x.p, .int .i64 x.h, .bool x.up] 138)) := below_new _
  have O4 := O1.later kx
  have N4 := N.below kx N.lt
  have X4 := X0.below kx X0.lt
  have cc := N4
  obtain ⟨n0, n1, n2, n3, n4, n5, n6, nf⟩ := cc
  have cc := X0
  obtain ⟨e0, e1, e2, e3, e4, e5, e6, e7⟩ := cc
  have cc := N
  obtain ⟨p0, p1, p2, p3, p4, p5, p6, pf⟩ := cc
  go_wp2_with (first | (at_builtin; refine fappL ikEnc_len ikEnc_ones rfl _ _ 26 rfl y.heap.size 138 i1 (.agg #[.int .i64 0, .int .i64 0, .int .i64 0, .int .i64 0, .int .i64 0, .int .i64 0, .int .i64 0, .bool false]) 64 Tryz.underlying26 hj hy0 hy1 hy2 rfl (by decide) (by decide) (.slice a1 m.lg.length c1) m.lg rfl O4 (some ⟨u2.heap.size, 0, none⟩) 1 [x] rfl (fun e => by cases e) V1 ?z0 ?z1 ?_) | go_in)
  case z0 => simp; omega
  case z1 => first | omega | (simp; omega)
  intro vZ w1 hownZ hgrowZ hob
  have hqo : ∀ g, vZ.ownBlock = some g → g ≠ q := fun g e => by
    rcases hob with h | h
    · rw [h] at e; have := lo1 g e; omega
    · rw [h] at e; have e2 := Option.some.inj e; have := kx.size; omega
  have bZ : Below y.heap.size u2 w1 := (kx.mono (by omega)).grown hgrowZ (by have := kx.size; omega) (fun j e => (O4.lt j e).1)
  have bq : ∀ k, k < u2.heap.size → (∀ g, (Value.slice a1 m.lg.length c1).ownBlock = some g → k ≠ g) → w1.heap[k]? = u2.heap[k]? := fun k hk he => (hgrowZ.block k (Nat.lt_of_lt_of_le hk kx.size) (fun e => he k e.symm rfl)).trans (kx.block k hk)
  replace hownZ : FOwn ikEnc 8 138 y.heap.size w1 vZ (noteM m x).lg := hownZ
  obtain ⟨a2, c2, rfl⟩ := hownZ.open_
  clear n0 n1 n2 n3 n4 n5 n6 nf e0 e1 e2 e3 e4 e5 e6 e7 p0 p1 p2 p3 p4 p5 p6 pf N4 X4 V1 O4 hgrowZ
  have N := N.keep (bq q N.lt (fun g e => by have := lo1 g e; omega))
  have A0 := A0.keep (bq _ A0.lt (fun g e => by have := lo1 g e; omega))
  have A1 := A1.keep (bq _ A1.lt (fun g e => by have := lo1 g e; omega))
  have hv1 := hv1.carry (fun a e p => bZ.block _ (HV a e p))
  have s3 := bZ.size
  have B3 := B2.trans (bZ.mono (by omega))
  have lo2 := hownZ.lt
  clear bq kx bZ B2 O1 hob
  have N2 := N.log (.slice a2 (noteM m x).lg.length c2)
  obtain ⟨w2, hw2⟩ : ∃ w2, w2 = w1.setCell ⟨q, 3, none⟩ (.slice a2 (noteM m x).lg.length c2) := ⟨_, rfl⟩
  have kw : ∀ k, k ≠ q → w2.heap[k]? = w1.heap[k]? := fun k hk => by rw [hw2]; exact Below.heap_setCell _ _ _ _ hk
  have A0 := A0.keep (kw _ (by omega))
  have A1 := A1.keep (kw _ (by omega))
  have hv1 := hv1.carry (fun a e p => kw _ (by have := HV a e p; omega))
  have O2 := hownZ.keep (fun g e => kw g (hqo g e))
  have B4 : Below w.heap.size w w2 := by rw [hw2]; exact B3.setCell (p := ⟨q, 3, none⟩) (by show _ ≤ q; omega) _
  have s4 : w1.heap.size ≤ w2.heap.size := by rw [hw2]; simp
  have n3 := N.c3
  have nf := N.fr 3
  go_upto_region 3 with fail
  rw [← hw2] at N2 ⊢
  clear hw2 kw n3 nf N hownZ B3
  have N3 : MiBox w2 q (noteM m x) (.slice a2 (noteM m x).lg.length c2) := N2.lg (m.lg ++ [x])
  clear N2
  cases hU : m.up
  · have hNB : Hid (noteB m x = false) := by unfold Hid noteB; rw [hU]; rfl
    have hNR : Hid (noteR m x = m) := note_not hNB.out
    have cc := A0
    obtain ⟨x0, x1, x2, x3, x4, x5, x6⟩ := cc
    rw [hU] at x0
    go_wp2_with fail
    go_at_call 41
    clear x0 x1 x2 x3 x4 x5 x6
    rw [← hU]
    replace hU : Hid _ := hU
    refine (miCop m ad cap w2 hv1 (by omega) hn).mono ?_
    rintro e w3 ⟨a3, c3, rfl, O3, k3⟩
    have B5 := B4.trans (k3.mono B4.size)
    have A1 := A1.below k3 A1.lt
    clear k3 B4
    have B9 := below_put7 (q := w.heap.size + 1 + 1) m (.slice a3 m.lg.length c3) B5 (by omega)
    have O9 := (O3.base (base' := w.heap.size) (by omega)).keep (fun g e => heap_put7 w3 (w.heap.size + 1 + 1) g m (.slice a3 m.lg.length c3) (by have := (O3.lt g e).1; omega))
    obtain ⟨z0, z1, z2, z3, z4, z5, z6, zf⟩ := A1
    have g0 := zf 0
    have g1 := zf 1
    have g2 := zf 2
    have g3 := zf 3
    have g4 := zf 4
    have g5 := zf 5
    have g6 := zf 6
    clear zf
    go_wp2
    refine bodyPost_ret (v := .tuple #[.agg #[.bool m.up, .int .i64 m.li, .int .i64 m.ep, .slice a3 m.lg.length c3, .int .i64 m.sd, .int .i64 m.ac, .int .i64 m.al], .bool false]) (by simp [results, Tryz.results162, go_sem, *]) rfl ⟨a3, c3, by rw [hNR.out, hNB.out], by rw [hNR.out]; exact O9, B9⟩
  · have hM : noteB m x = miOk (noteM m x) := by unfold noteB; rw [hU]; rfl
    replace hM : Hid _ := hM
    have cc := A0
    obtain ⟨x0, x1, x2, x3, x4, x5, x6⟩ := cc
    rw [hU] at x0
    have cc := N3
    obtain ⟨n0, n1, n2, n3, n4, n5, n6, nf⟩ := cc
    go_wp2_with fail
    go_at_call 42
    clear x0 x1 x2 x3 x4 x5 x6 n0 n1 n2 n3 n4 n5 n6 nf
    refine (miOkS (noteM m x) a2 c2 w2 O2.view.2 (by show (m.lg ++ [x]).length ≤ _; simp; omega)).mono ?_
    rintro e w3 ⟨rfl, k3⟩
    have B5 := B4.trans (k3.mono B4.size)
    have A0 := A0.below k3 A0.lt
    have A1 := A1.below k3 A1.lt
    have hv1 := hv1.below k3 (hv1.lt ikEnc_len (by omega))
    have O2 := O2.later k3
    have N3 := N3.below k3 N3.lt
    have s5 := k3.size
    clear k3 B4
    replace hU : Hid _ := hU
    cases hO : miOk (noteM m x)
    · have hNB : Hid (noteB m x = false) := by unfold Hid; rw [hM.out, hO]
      have hNR : Hid (noteR m x = m) := note_not hNB.out
      have cc := A0
      obtain ⟨x0, x1, x2, x3, x4, x5, x6⟩ := cc
      clear hO
      go_wp2_with fail
      go_at_call 41
      clear x0 x1 x2 x3 x4 x5 x6
      refine (miCop m ad cap w3 hv1 (by omega) hn).mono ?_
      rintro e w4 ⟨a3, c3, rfl, O3, k3⟩
      have B6 := B5.trans (k3.mono B5.size)
      have A1 := A1.below k3 A1.lt
      clear k3 B5
      have B9 := below_put7 (q := w.heap.size + 1 + 1) m (.slice a3 m.lg.length c3) B6 (by omega)
      have O9 := (O3.base (base' := w.heap.size) (by omega)).keep (fun g e => heap_put7 w4 (w.heap.size + 1 + 1) g m (.slice a3 m.lg.length c3) (by have := (O3.lt g e).1; omega))
      obtain ⟨z0, z1, z2, z3, z4, z5, z6, zf⟩ := A1
      have g0 := zf 0
      have g1 := zf 1
      have g2 := zf 2
      have g3 := zf 3
      have g4 := zf 4
      have g5 := zf 5
      have g6 := zf 6
      clear zf
      go_wp2
      refine bodyPost_ret (v := .tuple #[.agg #[.bool m.up, .int .i64 m.li, .int .i64 m.ep, .slice a3 m.lg.length c3, .int .i64 m.sd, .int .i64 m.ac, .int .i64 m.al], .bool false]) (by simp [results, Tryz.results162, go_sem, *]) rfl ⟨a3, c3, by rw [hNR.out, hNB.out], by rw [hNR.out]; exact O9, B9⟩
    · have hNB : Hid (noteB m x = true) := by unfold Hid; rw [hM.out, hO]
      have hNR : Hid (noteR m x = (noteM m x)) := by unfold Hid noteR; rw [if_pos hNB.out]
      clear hO
      obtain ⟨n0, n1, n2, n3, n4, n5, n6, nf⟩ := N3
      have B9 := below_put7 (q := w.heap.size + 1 + 1) (noteM m x) (.slice a2 (noteM m x).lg.length c2) B5 (by omega)
      have O9 := (O2.base (base' := w.heap.size) (by omega)).keep (fun g e => heap_put7 w3 (w.heap.size + 1 + 1) g (noteM m x) (.slice a2 (noteM m x).lg.length c2) (by have := (O2.lt g e).1; omega))
      obtain ⟨z0, z1, z2, z3, z4, z5, z6, zf⟩ := A1
      have g0 := zf 0
      have g1 := zf 1
      have g2 := zf 2
      have g3 := zf 3
      have g4 := zf 4
      have g5 := zf 5
      have g6 := zf 6
      clear zf
      go_wp2
      refine bodyPost_ret (v := .tuple #[.agg #[.bool (noteM m x).up, .int .i64 (noteM m x).li, .int .i64 (noteM m x).ep, .slice a2 (noteM m x).lg.length c2, .int .i64 (noteM m x).sd, .int .i64 (noteM m x).ac, .int .i64 (noteM m x).al], .bool true]) (by simp [results, Tryz.results162, go_sem, *]) rfl ⟨a2, c2, by rw [hNR.out, hNB.out], by rw [hNR.out]; exact O9, B9⟩

end Go.Proofs.YtijhpfccjaaalaaGreat
namespace Go.Proofs.YtijhpfccjaaalaaGreat
open Go.ChangeShapes Go.WideShapes Go.ChangeAt Go.RowKit
open Go.ChangeMaps (open_string shut_string)
set_option linter.unusedVariables false
set_option maxRecDepth 100000

set_option maxHeartbeats 4000000 in
theorem toldI12 (m : Mi) (q : Nat) (ad : Option Addr) (cap : Nat) (w : World) (M : MgBox w q m (.slice ad m.lg.length cap)) :
    Calls Tryz.prog 40 #[.pointer (some ⟨q, 0, none⟩)] w fun e w' => e = .returned (.agg #[.bool m.up, .int .i64 m.li, .int .i64 m.ep, .slice ad m.lg.length cap, .int .i64 m.sd, .int .i64 m.ac, .int .i64 m.al]) ∧ Below w.heap.size w w' := by
  obtain ⟨y, hy⟩ : ∃ y, y = w.alloc (Obj.cells #[.bool false, .int .i64 0, .int .i64 0, .slice none 0 0, .int .i64 0, .int .i64 0, .int .i64 0] 28) := ⟨_, rfl⟩
  have B0 : Below w.heap.size w y := by rw [hy]; exact below_new _
  have A1 : MiBox y w.heap.size ⟨false, 0, 0, [], 0, 0, 0⟩ (.slice none 0 0) := by rw [hy]; constructor <;> simp [go_sem]
  have S0 := A1.lt
  have lq := M.lt
  have M := M.below B0 M.lt
  go_enter Tryz.func40, Tryz.ntmps40
  go_upto_region 1 with fail
  rw [← hy]
  clear hy
  refine wp_region_held (S := fun Y => Below w.heap.size y Y) (by kernel_rfl) ?_
  change wpAnyH _ _ _ _ _ _ _ _ (World.drew _)
  have hb0 : Below y.heap.size y y.drew := (Below.refl _ _).drew
  obtain ⟨u0, hy0'⟩ : ∃ y_, y_ = y.drew := ⟨_, rfl⟩
  rw [← hy0'] at hb0 ⊢
  clear hy0'
  have hc0 : Below w.heap.size y u0 := hb0.mono (by omega)
  refine takeW 0 3 (.pointer (some ⟨q, 0, none⟩)) rfl rfl (by kernel_rfl) (by kernel_rfl) (by kernel_rfl) (fun _ _ _ h => h) (by kernel_rfl) (by (intro w hSw; go_simp)) (by assumption) ?_
  simp only [List.set_cons_zero, List.set_cons_succ]
  refine takeW 1 4 (.pointer (some ⟨q, 0, none⟩)) rfl rfl (by kernel_rfl) (by kernel_rfl) (by kernel_rfl) (fun _ _ _ h => h) (by kernel_rfl) (by (intro w hSw; go_simp)) (by assumption) ?_
  simp only [List.set_cons_zero, List.set_cons_succ]
  refine takeW 2 5 (.pointer (some ⟨q, 1, none⟩)) rfl rfl (by kernel_rfl) (by kernel_rfl) (by kernel_rfl) (fun _ _ _ h => h) (by kernel_rfl) (by (intro w hSw; go_simp)) (by assumption) ?_
  simp only [List.set_cons_zero, List.set_cons_succ]
  refine takeW 3 6 (.pointer (some ⟨q, 1, none⟩)) rfl rfl (by kernel_rfl) (by kernel_rfl) (by kernel_rfl) (fun _ _ _ h => h) (by kernel_rfl) (by (intro w hSw; go_simp)) (by assumption) ?_
  simp only [List.set_cons_zero, List.set_cons_succ]
  refine takeW 4 7 (.bool m.up) rfl rfl (by kernel_rfl) (by kernel_rfl) (by kernel_rfl) (fun _ _ _ h => h) (by kernel_rfl) (by (intro Y hSw; obtain ⟨X0, X1, X2, X3, X4, X5, X6, XF⟩ := M.below hSw lq; go_simp)) (by assumption) ?_
  simp only [List.set_cons_zero, List.set_cons_succ]
  refine takeW 5 8 (.pointer (some ⟨q, 0, none⟩)) rfl rfl (by kernel_rfl) (by kernel_rfl) (by kernel_rfl) (fun _ _ _ h => h) (by kernel_rfl) (by (intro w hSw; go_simp)) (by assumption) ?_
  simp only [List.set_cons_zero, List.set_cons_succ]
  refine takeW 6 9 (.pointer (some ⟨q, 0, none⟩)) rfl rfl (by kernel_rfl) (by kernel_rfl) (by kernel_rfl) (fun _ _ _ h => h) (by kernel_rfl) (by (intro w hSw; go_simp)) (by assumption) ?_
  simp only [List.set_cons_zero, List.set_cons_succ]
  refine takeW 7 10 (.pointer (some ⟨q, 1, none⟩)) rfl rfl (by kernel_rfl) (by kernel_rfl) (by kernel_rfl) (fun _ _ _ h => h) (by kernel_rfl) (by (intro w hSw; go_simp)) (by assumption) ?_
  simp only [List.set_cons_zero, List.set_cons_succ]
  refine takeW 8 11 (.pointer (some ⟨q, 2, none⟩)) rfl rfl (by kernel_rfl) (by kernel_rfl) (by kernel_rfl) (fun _ _ _ h => h) (by kernel_rfl) (by (intro w hSw; go_simp)) (by assumption) ?_
  simp only [List.set_cons_zero, List.set_cons_succ]
  refine takeW 9 12 (.int .i64 m.li) rfl rfl (by kernel_rfl) (by kernel_rfl) (by kernel_rfl) (fun _ _ _ h => h) (by kernel_rfl) (by (intro Y hSw; obtain ⟨X0, X1, X2, X3, X4, X5, X6, XF⟩ := M.below hSw lq; go_simp)) (by assumption) ?_
  simp only [List.set_cons_zero, List.set_cons_succ]
  refine takeW 10 13 (.pointer (some ⟨q, 0, none⟩)) rfl rfl (by kernel_rfl) (by kernel_rfl) (by kernel_rfl) (fun _ _ _ h => h) (by kernel_rfl) (by (intro w hSw; go_simp)) (by assumption) ?_
  simp only [List.set_cons_zero, List.set_cons_succ]
  refine takeW 11 14 (.pointer (some ⟨q, 0, none⟩)) rfl rfl (by kernel_rfl) (by kernel_rfl) (by kernel_rfl) (fun _ _ _ h => h) (by kernel_rfl) (by (intro w hSw; go_simp)) (by assumption) ?_
  simp only [List.set_cons_zero, List.set_cons_succ]
  refine takeW 12 15 (.pointer (some ⟨q, 1, none⟩)) rfl rfl (by kernel_rfl) (by kernel_rfl) (by kernel_rfl) (fun _ _ _ h => h) (by kernel_rfl) (by (intro w hSw; go_simp)) (by assumption) ?_
  simp only [List.set_cons_zero, List.set_cons_succ]
  refine takeW 13 16 (.pointer (some ⟨q, 3, none⟩)) rfl rfl (by kernel_rfl) (by kernel_rfl) (by kernel_rfl) (fun _ _ _ h => h) (by kernel_rfl) (by (intro w hSw; go_simp)) (by assumption) ?_
  simp only [List.set_cons_zero, List.set_cons_succ]
  refine takeW 14 17 (.int .i64 m.ep) rfl rfl (by kernel_rfl) (by kernel_rfl) (by kernel_rfl) (fun _ _ _ h => h) (by kernel_rfl) (by (intro Y hSw; obtain ⟨X0, X1, X2, X3, X4, X5, X6, XF⟩ := M.below hSw lq; go_simp)) (by assumption) ?_
  simp only [List.set_cons_zero, List.set_cons_succ]
  refine takeW 15 18 (.pointer (some ⟨q, 0, none⟩)) rfl rfl (by kernel_rfl) (by kernel_rfl) (by kernel_rfl) (fun _ _ _ h => h) (by kernel_rfl) (by (intro w hSw; go_simp)) (by assumption) ?_
  simp only [List.set_cons_zero, List.set_cons_succ]
  refine takeW 16 19 (.pointer (some ⟨q, 0, none⟩)) rfl rfl (by kernel_rfl) (by kernel_rfl) (by kernel_rfl) (fun _ _ _ h => h) (by kernel_rfl) (by (intro w hSw; go_simp)) (by assumption) ?_
  simp only [List.set_cons_zero, List.set_cons_succ]
  refine takeW 17 20 (.pointer (some ⟨q, 0, none⟩)) rfl rfl (by kernel_rfl) (by kernel_rfl) (by kernel_rfl) (fun _ _ _ h => h) (by kernel_rfl) (by (intro w hSw; go_simp)) (by assumption) ?_
  simp only [List.set_cons_zero, List.set_cons_succ]
  refine takeW 18 21 (.pointer (some ⟨q, 0, none⟩)) rfl rfl (by kernel_rfl) (by kernel_rfl) (by kernel_rfl) (fun _ _ _ h => h) (by kernel_rfl) (by (intro w hSw; go_simp)) (by assumption) ?_
  simp only [List.set_cons_zero, List.set_cons_succ]
  refine takeW 19 22 (.slice ad m.lg.length cap) rfl rfl (by kernel_rfl) (by kernel_rfl) (by kernel_rfl) (fun _ _ _ h => h) (by kernel_rfl) (by (intro Y hSw; obtain ⟨X0, X1, X2, X3, X4, X5, X6, XF⟩ := M.below hSw lq; go_simp)) (by assumption) ?_
  simp only [List.set_cons_zero, List.set_cons_succ]
  refine takeW 20 23 (.pointer (some ⟨q, 0, none⟩)) rfl rfl (by kernel_rfl) (by kernel_rfl) (by kernel_rfl) (fun _ _ _ h => h) (by kernel_rfl) (by (intro w hSw; go_simp)) (by assumption) ?_
  simp only [List.set_cons_zero, List.set_cons_succ]
  refine takeW 21 24 (.pointer (some ⟨q, 0, none⟩)) rfl rfl (by kernel_rfl) (by kernel_rfl) (by kernel_rfl) (fun _ _ _ h => h) (by kernel_rfl) (by (intro w hSw; go_simp)) (by assumption) ?_
  simp only [List.set_cons_zero, List.set_cons_succ]
  refine takeW 22 25 (.pointer (some ⟨q, 1, none⟩)) rfl rfl (by kernel_rfl) (by kernel_rfl) (by kernel_rfl) (fun _ _ _ h => h) (by kernel_rfl) (by (intro w hSw; go_simp)) (by assumption) ?_
  simp only [List.set_cons_zero, List.set_cons_succ]
  refine takeW 23 26 (.pointer (some ⟨q, 4, none⟩)) rfl rfl (by kernel_rfl) (by kernel_rfl) (by kernel_rfl) (fun _ _ _ h => h) (by kernel_rfl) (by (intro w hSw; go_simp)) (by assumption) ?_
  simp only [List.set_cons_zero, List.set_cons_succ]
  refine takeW 24 27 (.int .i64 m.sd) rfl rfl (by kernel_rfl) (by kernel_rfl) (by kernel_rfl) (fun _ _ _ h => h) (by kernel_rfl) (by (intro Y hSw; obtain ⟨X0, X1, X2, X3, X4, X5, X6, XF⟩ := M.below hSw lq; go_simp)) (by assumption) ?_
  simp only [List.set_cons_zero, List.set_cons_succ]
  refine takeW 25 28 (.pointer (some ⟨q, 0, none⟩)) rfl rfl (by kernel_rfl) (by kernel_rfl) (by kernel_rfl) (fun _ _ _ h => h) (by kernel_rfl) (by (intro w hSw; go_simp)) (by assumption) ?_
  simp only [List.set_cons_zero, List.set_cons_succ]
  refine takeW 26 29 (.pointer (some ⟨q, 0, none⟩)) rfl rfl (by kernel_rfl) (by kernel_rfl) (by kernel_rfl) (fun _ _ _ h => h) (by kernel_rfl) (by (intro w hSw; go_simp)) (by assumption) ?_
  simp only [List.set_cons_zero, List.set_cons_succ]
  refine takeW 27 30 (.pointer (some ⟨q, 1, none⟩)) rfl rfl (by kernel_rfl) (by kernel_rfl) (by kernel_rfl) (fun _ _ _ h => h) (by kernel_rfl) (by (intro w hSw; go_simp)) (by assumption) ?_
  simp only [List.set_cons_zero, List.set_cons_succ]
  refine takeW 28 31 (.pointer (some ⟨q, 5, none⟩)) rfl rfl (by kernel_rfl) (by kernel_rfl) (by kernel_rfl) (fun _ _ _ h => h) (by kernel_rfl) (by (intro w hSw; go_simp)) (by assumption) ?_
  simp only [List.set_cons_zero, List.set_cons_succ]
  refine takeW 29 32 (.int .i64 m.ac) rfl rfl (by kernel_rfl) (by kernel_rfl) (by kernel_rfl) (fun _ _ _ h => h) (by kernel_rfl) (by (intro Y hSw; obtain ⟨X0, X1, X2, X3, X4, X5, X6, XF⟩ := M.below hSw lq; go_simp)) (by assumption) ?_
  simp only [List.set_cons_zero, List.set_cons_succ]
  refine takeW 30 33 (.pointer (some ⟨q, 0, none⟩)) rfl rfl (by kernel_rfl) (by kernel_rfl) (by kernel_rfl) (fun _ _ _ h => h) (by kernel_rfl) (by (intro w hSw; go_simp)) (by assumption) ?_
  simp only [List.set_cons_zero, List.set_cons_succ]
  refine takeW 31 34 (.pointer (some ⟨q, 0, none⟩)) rfl rfl (by kernel_rfl) (by kernel_rfl) (by kernel_rfl) (fun _ _ _ h => h) (by kernel_rfl) (by (intro w hSw; go_simp)) (by assumption) ?_
  simp only [List.set_cons_zero, List.set_cons_succ]
  refine takeW 32 35 (.pointer (some ⟨q, 1, none⟩)) rfl rfl (by kernel_rfl) (by kernel_rfl) (by kernel_rfl) (fun _ _ _ h => h) (by kernel_rfl) (by (intro w hSw; go_simp)) (by assumption) ?_
  simp only [List.set_cons_zero, List.set_cons_succ]
  refine takeW 33 36 (.pointer (some ⟨q, 6, none⟩)) rfl rfl (by kernel_rfl) (by kernel_rfl) (by kernel_rfl) (fun _ _ _ h => h) (by kernel_rfl) (by (intro w hSw; go_simp)) (by assumption) ?_
  simp only [List.set_cons_zero, List.set_cons_succ]
  refine takeW 34 37 (.int .i64 m.al) rfl rfl (by kernel_rfl) (by kernel_rfl) (by kernel_rfl) (fun _ _ _ h => h) (by kernel_rfl) (by (intro Y hSw; obtain ⟨X0, X1, X2, X3, X4, X5, X6, XF⟩ := M.below hSw lq; go_simp)) (by assumption) ?_
  simp only [List.set_cons_zero, List.set_cons_succ]
  refine takeW 35 38 (.agg #[.bool m.up, .int .i64 m.li, .int .i64 m.ep, .slice ad m.lg.length cap, .int .i64 m.sd, .int .i64 m.ac, .int .i64 m.al]) rfl rfl (by kernel_rfl) (by kernel_rfl) (by kernel_rfl) (fun _ _ _ h => h) (by kernel_rfl) (by (intro w hSw; go_simp)) (by assumption) ?_
  simp only [List.set_cons_zero, List.set_cons_succ]
  refine wpAnyH_all (rs := [36]) (by kernel_rfl) (by simp) ?_
  intro i hi; obtain rfl : i = 36 := by simpa using hi
  refine wpOp_step rfl (fun Kz hKz => ?_)
  rw [if_pos (by kernel_rfl)]
  have A2 := A1.below hb0 A1.lt
  have cc := A2
  obtain ⟨z0, z1, z2, z3, z4, z5, z6, zf⟩ := cc
  have g0 := zf 0
  have g1 := zf 1
  have g2 := zf 2
  have g3 := zf 3
  have g4 := zf 4
  have g5 := zf 5
  have g6 := zf 6
  go_simp
  clear z0 z1 z2 z3 z4 z5 z6 zf g0 g1 g2 g3 g4 g5 g6
  have A3 := A2.put m (.slice ad m.lg.length cap)
  have hc1 := below_put7 (q := w.heap.size) m (.slice ad m.lg.length cap) hc0 (Nat.le_refl _)
  obtain ⟨u1, hu1⟩ : ∃ y_, y_ = (((((((u0.setCell ⟨w.heap.size, 0, none⟩ (.bool m.up)).setCell ⟨w.heap.size, 1, none⟩ (.int .i64 m.li)).setCell ⟨w.heap.size, 2, none⟩ (.int .i64 m.ep)).setCell ⟨w.heap.size, 3, none⟩ (.slice ad m.lg.length cap)).setCell ⟨w.heap.size, 4, none⟩ (.int .i64 m.sd)).setCell ⟨w.heap.size, 5, none⟩ (.int .i64 m.ac)).setCell ⟨w.heap.size, 6, none⟩ (.int .i64 m.al)) := ⟨_, rfl⟩
  rw [← hu1] at A3 hc1 ⊢
  clear hu1
  refine hKz _ _ ⟨hc1, ?_⟩
  clear hKz Kz hi
  refine wpAnyH_done (by kernel_rfl) ?_ _
  have B9 := B0.trans hc1
  obtain ⟨z0, z1, z2, z3, z4, z5, z6, zf⟩ := A3
  clear zf
  go_wp2
  refine bodyPost_ret (v := .agg #[.bool m.up, .int .i64 m.li, .int .i64 m.ep, .slice ad m.lg.length cap, .int .i64 m.sd, .int .i64 m.ac, .int .i64 m.al]) (by simp [results, Tryz.results40, go_sem, *]) rfl ⟨rfl, B9⟩


end Go.Proofs.YtijhpfccjaaalaaGreat
namespace Go.Proofs.YtijhpfccjaaalaaGreat
open Go.ChangeShapes Go.WideShapes Go.ChangeAt Go.RowKit
open Go.ChangeMaps (open_string shut_string)
set_option linter.unusedVariables false
set_option maxRecDepth 100000

theorem MOwn.nil {lo hi : Nat} {w : World} : MOwn lo hi w (.slice none 0 0) [] :=
  ⟨FOwn.nil, fun i h => absurd h (Nat.not_lt_zero i), fun g (e : none = some g) => (nomatch e), fun i h => absurd h (Nat.not_lt_zero i), fun i h => absurd h (Nat.not_lt_zero i), fun i j _ h => absurd h (Nat.not_lt_zero j)⟩
theorem BxV.later' {w w' : World} {x : BxD} (h : BxV w x) (k : ∀ g, g < w.heap.size → w'.heap[g]? = w.heap[g]?) : BxV w' x :=
  ⟨h.t.carry (fun a e p => k _ (h.t.lt mdEnc_len (by omega) a e p)), fun i hi => (h.l i hi).carry (fun a e p => k _ ((h.l i hi).lt ikEnc_len (by omega) a e p)), h.n.carry (fun a e p => k _ (h.n.lt wiEnc_len (by omega) a e p)), h.g.carry (fun a e p => k _ (h.g.lt boEnc_len (by omega) a e p)), h.i.carry (fun a e p => k _ (h.i.lt ikEnc_len (by omega) a e p)), h.s.carry (fun a e p => k _ (h.s.lt ouEnc_len (by omega) a e p)), h.bt, h.bl, h.bn, h.bg, h.bi, h.bs, h.ct⟩
set_option maxHeartbeats 16000000 in
theorem copBoxI (x : BxD) (w : World) (hV : BxV w x) :
    Calls Tryz.prog 63 #[.agg #[.int .i64 x.id, .int .i64 x.po, .int .i64 x.rg.ep, .int .i64 x.rg.ow, .int .i64 x.rg.pa, .slice x.aT x.two.length x.cT, .slice x.aN x.net.length x.cN, .slice x.aG x.ga.length x.cG, .slice x.aL x.ln.length x.cL, .slice x.aS x.sd.length x.cS]] w fun e w' => ∃ x2 : BxD, ∃ mid : Nat, e = .returned (.agg #[.int .i64 x2.id, .int .i64 x2.po, .int .i64 x2.rg.ep, .int .i64 x2.rg.ow, .int .i64 x2.rg.pa, .slice x2.aT x2.two.length x2.cT, .slice x2.aN x2.net.length x2.cN, .slice x2.aG x2.ga.length x2.cG, .slice x2.aL x2.ln.length x2.cL, .slice x2.aS x2.sd.length x2.cS]) ∧ x2.p = x.p ∧ BxN w.heap.size mid w'.heap.size w' x2 ∧ Below w.heap.size w w' := by
  have V0 := hV
  obtain ⟨i5, hi5, hz50, hz51, hz52⟩ := info_parts mdInfo
  obtain ⟨y, hy⟩ : ∃ y, y = (w.alloc (Obj.cells #[.int .i64 x.id, .int .i64 x.po, .int .i64 x.rg.ep, .int .i64 x.rg.ow, .int .i64 x.rg.pa, .slice x.aT x.two.length x.cT, .slice x.aN x.net.length x.cN, .slice x.aG x.ga.length x.cG, .slice x.aL x.ln.length x.cL, .slice x.aS x.sd.length x.cS] 55)).alloc (Obj.cells #[.int .i64 0, .int .i64 0, .int .i64 0, .int .i64 0, .int .i64 0, .slice none 0 0, .slice none 0 0, .slice none 0 0, .slice none 0 0, .slice none 0 0] 55) := ⟨_, rfl⟩
  have B0 : Below w.heap.size w y := by rw [hy]; exact ((Below.refl _ _).alloc (Nat.le_refl _) _).alloc (by simp) _
  have A : BxAt y w.heap.size x := by rw [hy]; constructor <;> simp [go_sem]
  have Z : BxB y (w.heap.size + 1) BxD.zero := by rw [hy]; refine ⟨?_, fun i => ?_⟩; constructor <;> simp [go_sem, BxD.zero]; simp [go_sem]
  have V := hV.later B0
  have zA := A.lt
  have zZ := Z.lt
  clear hV
  go_enter Tryz.func63, Tryz.ntmps63
  go_upto_region 1 with fail
  rw [← hy]
  clear hy
  have cc := A
  obtain ⟨a0, a1, a2, a3, a4, a5, a6, a7, a8, a9⟩ := cc
  go_upto_region 2 with fail
  clear a0 a1 a2 a3 a4 a5 a6 a7 a8 a9
  obtain ⟨u1, hu1⟩ : ∃ y_, y_ = y.alloc (Obj.cells #[.int .i64 x.id, .int .i64 x.po, .int .i64 x.rg.ep, .int .i64 x.rg.ow, .int .i64 x.rg.pa, .slice x.aT x.two.length x.cT, .slice x.aN x.net.length x.cN, .slice x.aG x.ga.length x.cG, .slice x.aL x.ln.length x.cL, .slice x.aS x.sd.length x.cS] 55) := ⟨_, rfl⟩
  rw [← hu1]
  have kk : Below y.heap.size y u1 := by rw [hu1]; exact below_new _
  have Q : BxB u1 y.heap.size x := by rw [hu1]; refine ⟨BxAt.new y _ x, fun i => ?_⟩; simp [go_sem]
  clear hu1
  have zq := Q.lt
  obtain ⟨q, hq⟩ : ∃ q, q = y.heap.size := ⟨_, rfl⟩
  rw [← hq] at Q zq ⊢
  have hq1 := Nat.le_of_eq hq
  replace hq := Nat.le_of_eq hq.symm
  have A1 := A.below kk A.lt
  have cc := Q
  obtain ⟨⟨a0, a1, a2, a3, a4, a5, a6, a7, a8, a9⟩, af⟩ := cc
  have f5 := af 5
  clear af
  go_upto_region 3 with fail
  clear a0 a1 a2 a3 a4 a5 a6 a7 a8 a9 f5
  obtain ⟨u2, hu2⟩ : ∃ y_, y_ = u1.setCell ⟨q, 5, none⟩ (.slice none 0 0) := ⟨_, rfl⟩
  rw [← hu2]
  have Q : BxB u2 q { x with two := [], aT := none, cT := 0 } := by rw [hu2]; exact Q.two [] none 0
  have K : Below y.heap.size y u2 := by rw [hu2]; exact kk.setCell (p := ⟨q, 5, none⟩) (by show y.heap.size ≤ q; omega) _
  have zq := Q.lt
  clear kk A1 hu2
  have A2 := A.below K A.lt
  have cc := A2
  obtain ⟨a0, a1, a2, a3, a4, a5, a6, a7, a8, a9⟩ := cc
  go_wp2
  clear a0 a1 a2 a3 a4 a5 a6 a7 a8 a9 A2
  go_loopw [11] (fun i wr => ∃ (k : Nat) (T : List MiD) (aT : Option Addr) (cT : Nat), k ≤ x.two.length ∧ i = .int .i64 (k : Int) ∧ T.length = k ∧ (∀ j, j < k → (T.getD j MiD.nil).m = (x.two.getD j MiD.nil).m) ∧ BxB wr q { x with two := T, aT := aT, cT := cT } ∧ MOwn (q + 1) wr.heap.size wr (.slice aT T.length cT) T ∧ Below y.heap.size y wr) (fun i _ => x.two.length - (intOf i).toNat)
  case atStart => exact ⟨0, [], none, 0, Nat.zero_le _, rfl, rfl, fun j hj => absurd hj (by omega), Q, MOwn.nil, K⟩
  case round =>
    clear Q K zq
    obtain ⟨k, T, aT, cT, hk, rfl, hTl, hTm, Q, M, K⟩ := hrel
    have A2 := A.below K A.lt
    have V2 := V.later K
    have bt := V.bt
    have zq := Q.lt
    have zK := K.size
    replace hTl : Hid _ := hTl
    by_cases hlt : k < x.two.length
    · obtain ⟨b, off, hat, hcell⟩ := V.t (by omega)
      have hbl : b < y.heap.size := V.t.lt mdEnc_len (by omega) _ hat (by omega)
      obtain ⟨d, hd⟩ : ∃ d, x.two.getD k MiD.nil = d := ⟨_, rfl⟩
      have hvl := V2.l k hlt
      have hll := V2.bl k hlt
      rw [hd] at hvl hll
      have hck : MdAtO wr b (off + k * 7) d := by have ht := V.t.below K (V.t.lt mdEnc_len (by omega)); rw [hat] at ht; rw [← hd]; exact mdAtO_of (ht.at_ mdEnc_len MiD.nil hlt)
      obtain ⟨v0, v1, v2, v3, v4, v5, v6⟩ := hck
      rw [hat]
      go_upto_region 6 with fail
      clear v0 v1 v2 v3 v4 v5 v6 hcell
      obtain ⟨w3, hw3⟩ : ∃ y_, y_ = wr.alloc (Obj.cells #[.bool d.m.up, .int .i64 d.m.li, .int .i64 d.m.ep, .slice d.ad d.m.lg.length d.cap, .int .i64 d.m.sd, .int .i64 d.m.ac, .int .i64 d.m.al] 28) := ⟨_, rfl⟩
      rw [← hw3]
      have kq : Below wr.heap.size wr w3 := by rw [hw3]; exact below_new _
      have N : MiAt w3 wr.heap.size d.m (.slice d.ad d.m.lg.length d.cap) := by rw [hw3]; exact MiAt.new wr _ d.m _
      clear hw3
      obtain ⟨qn, hqn⟩ : ∃ q, q = wr.heap.size := ⟨_, rfl⟩
      rw [← hqn] at N M ⊢
      have hqn1 := Nat.le_of_eq hqn
      replace hqn := Nat.le_of_eq hqn.symm
      have nq := N.lt
      have hvl := hvl.below kq (hvl.lt ikEnc_len (by omega))
      have Q := Q.below kq Q.lt
      have M := M.below kq (by omega)
      have K := K.trans (kq.mono zK)
      clear kq
      refine wp_region_held (S := fun Y => MiAt Y qn d.m (.slice d.ad d.m.lg.length d.cap)) (by kernel_rfl) ?_
      change wpAnyH _ _ _ _ _ _ _ _ (World.drew _)
      have kd : Below w3.heap.size w3 w3.drew := (Below.refl _ _).drew
      obtain ⟨u0, hu0⟩ : ∃ y_, y_ = w3.drew := ⟨_, rfl⟩
      rw [← hu0] at kd ⊢
      clear hu0
      have hvl := hvl.below kd (hvl.lt ikEnc_len (by omega))
      have Q := Q.below kd Q.lt
      have M := M.below kd (by omega)
      have N := N.below kd N.lt
      have K := K.trans (kd.mono (by omega))
      have z_u0 := kd.size
      clear kd
      refine takeW 0 15 (.pointer (some ⟨q, 5, none⟩)) rfl rfl (by kernel_rfl) (by kernel_rfl) (by kernel_rfl) (fun _ _ _ h => h) (by kernel_rfl) (by (intro w hSw; go_simp)) (by assumption) ?_
      simp only [List.set_cons_zero, List.set_cons_succ]
      refine takeW 2 17 (.agg #[.bool d.m.up, .int .i64 d.m.li, .int .i64 d.m.ep, .slice d.ad d.m.lg.length d.cap, .int .i64 d.m.sd, .int .i64 d.m.ac, .int .i64 d.m.al]) rfl rfl (by kernel_rfl) (by kernel_rfl) (by kernel_rfl) (fun _ _ _ h => h) (by kernel_rfl) (by (intro Y hSw; obtain ⟨X0, X1, X2, X3, X4, X5, X6⟩ := hSw; go_simp)) (by assumption) ?_
      simp only [List.set_cons_zero, List.set_cons_succ]
      refine wpAnyH_all (rs := [1, 3]) (by kernel_rfl) (by simp) ?_
      intro i hi; rcases (by simpa using hi : i = 1 ∨ i = 3) with rfl | rfl
      · refine wpOp_step rfl (fun Kz hKz => ?_)
        rw [if_pos (by kernel_rfl)]
        have c5 := Q.at_.c5
        go_simp
        clear c5
        refine hKz _ _ ⟨N, ?_⟩
        clear hKz Kz hi
        refine wpAnyH_all (rs := [3]) (by kernel_rfl) (by simp) ?_
        intro i hi; obtain rfl : i = 3 := by simpa using hi
        refine wpOp_step rfl (fun Kz hKz => ?_)
        rw [if_pos (by kernel_rfl)]
        go_simp
        go_at_call 34
        refine (mindOf d.m d.ad d.cap u0 hvl (by omega)).mono ?_
        rintro e u1 ⟨qm, a7, c7, rfl, Mg, O7, hqm, lqm, kq⟩
        have lo7 := O7.lt
        have Q := Q.below kq Q.lt
        have M := M.below kq (by omega)
        have N := N.below kq N.lt
        have K := K.trans (kq.mono (by omega))
        have z_u1 := kq.size
        clear kq
        refine hKz _ _ ⟨N, ?_⟩
        clear hKz Kz hi
        refine wpAnyH_all (rs := [4]) (by kernel_rfl) (by simp) ?_
        intro i hi; obtain rfl : i = 4 := by simpa using hi
        refine wpOp_step rfl (fun Kz hKz => ?_)
        rw [if_pos (by kernel_rfl)]
        go_simp
        go_at_call 40
        refine (toldI12 d.m qm a7 c7 u1 Mg).mono ?_
        rintro e u2 ⟨rfl, kq⟩
        have O7 := O7.later kq
        have Q := Q.below kq Q.lt
        have M := M.below kq (by omega)
        have N := N.below kq N.lt
        have K := K.trans (kq.mono (by omega))
        have z_u2 := kq.size
        clear kq
        refine hKz _ _ ⟨N, ?_⟩
        clear hKz Kz hi
        refine wpAnyH_all (rs := [5]) (by kernel_rfl) (by simp) ?_
        intro i hi; obtain rfl : i = 5 := by simpa using hi
        refine wpOp_step rfl (fun Kz hKz => ?_)
        rw [if_pos (by kernel_rfl)]
        go_simp
        obtain ⟨u3, hu3⟩ : ∃ y_, y_ = u2.alloc (Obj.cells #[.bool d.m.up, .int .i64 d.m.li, .int .i64 d.m.ep, .slice a7 d.m.lg.length c7, .int .i64 d.m.sd, .int .i64 d.m.ac, .int .i64 d.m.al] 28) := ⟨_, rfl⟩
        have VN : FView mdEnc u3 (some ⟨u2.heap.size, 0, none⟩) [(⟨d.m, a7, c7⟩ : MiD)] := by rw [hu3]; exact FView.oneD u2 _ ⟨d.m, a7, c7⟩
        have kq : Below u2.heap.size u2 u3 := by rw [hu3]; exact below_new _
        have O7 := O7.later kq
        rw [← hu3]
        clear hu3
        have Q := Q.below kq Q.lt
        have M := M.below kq (by omega)
        have N := N.below kq N.lt
        have K := K.trans (kq.mono (by omega))
        have z_u3 := kq.size
        clear kq
        refine hKz _ _ ⟨N, ?_⟩
        clear hKz Kz hi
        refine wpAnyH_all (rs := [6]) (by kernel_rfl) (by simp) ?_
        intro i hi; obtain rfl : i = 6 := by simpa using hi
        refine wpOp_step rfl (fun Kz hKz => ?_)
        rw [if_pos (by kernel_rfl)]
        refine fapp mdEnc_len mdEnc_ones 21 _ _ 51 rfl rfl (q + 1) 28 i5 (.agg #[.bool false, .int .i64 0, .int .i64 0, .slice none 0 0, .int .i64 0, .int .i64 0, .int .i64 0]) 72 Tryz.underlying51 hi5 hz50 hz51 hz52 rfl (by decide) (by decide) (.slice aT T.length cT) T rfl M.row (some ⟨u2.heap.size, 0, none⟩) 1 [(⟨d.m, a7, c7⟩ : MiD)] rfl (fun e => by cases e) VN (by have := hTl.out; simp; omega) (by omega) ?_
        intro vN u4 oN gN hob
        obtain ⟨TN, hTN⟩ : ∃ y_, y_ = (T ++ [(⟨d.m, a7, c7⟩ : MiD)]) := ⟨_, rfl⟩
        rw [← hTN] at oN
        have M4 := M.push hTN (e := ⟨d.m, a7, c7⟩) O7 (fun g e2 => by have := (lo7 g e2).1; omega) (by omega) oN gN (by omega)
        obtain ⟨aN, cN, rfl⟩ := oN.open_
        have Q := Q.keep (gN.block q Q.lt (fun e => by have := (M.row.lt q e.symm).1; omega))
        have N := N.keep (gN.block qn N.lt (fun e => by have := M.rhi qn e.symm; omega))
        have K := K.grown gN (by omega) (fun j e => by have := (M.row.lt j e).1; omega)
        have z4 := gN.size
        replace hTN : Hid _ := hTN
        clear gN hob VN M oN O7
        have M := M4
        clear M4
        simp only [List.set_cons_zero, List.set_cons_succ]
        refine hKz _ _ ⟨N, ?_⟩
        clear hKz Kz hi
        refine takeW 7 22 (.pointer (some ⟨q, 5, none⟩)) rfl rfl (by kernel_rfl) (by kernel_rfl) (by kernel_rfl) (fun _ _ _ h => h) (by kernel_rfl) (by (intro w hSw; go_simp)) (by assumption) ?_
        simp only [List.set_cons_zero, List.set_cons_succ]
        refine wpAnyH_all (rs := [8]) (by kernel_rfl) (by simp) ?_
        intro i hi; obtain rfl : i = 8 := by simpa using hi
        refine wpOp_step rfl (fun Kz hKz => ?_)
        rw [if_pos (by kernel_rfl)]
        have c5 := Q.at_.c5
        have f5 := Q.fr 5
        go_simp
        clear c5 f5
        obtain ⟨u5, hu5⟩ : ∃ y_, y_ = u4.setCell ⟨q, 5, none⟩ (.slice aN TN.length cN) := ⟨_, rfl⟩
        have Q5 : BxB u5 q { x with two := TN, aT := aN, cT := cN } := by rw [hu5]; exact Q.two TN aN cN
        have kp : ∀ k_, k_ ≠ q → u5.heap[k_]? = u4.heap[k_]? := fun k_ hk_ => by rw [hu5]; exact Below.heap_setCell _ _ _ _ hk_
        have K5 : Below y.heap.size y u5 := by rw [hu5]; exact K.setCell (p := ⟨q, 5, none⟩) (by show y.heap.size ≤ q; omega) _
        have z5 : u4.heap.size ≤ u5.heap.size := by rw [hu5]; simp
        have M5 : MOwn (q + 1) u5.heap.size u5 (.slice aN TN.length cN) TN := (M.keep (fun g h1 _ => kp g (by omega))).wide (Nat.le_refl _) z5
        have N := N.keep (kp qn (by omega))
        rw [← hu5]
        clear hu5 kp Q M K
        refine hKz _ _ ⟨N, ?_⟩
        clear hKz Kz hi
        refine wpAnyH_done (by kernel_rfl) ?_ _
        have hTm5 : ∀ j, j < k + 1 → (TN.getD j MiD.nil).m = (x.two.getD j MiD.nil).m := mdM hTN.out hTl.out hTm hd rfl
        have hTl5 : TN.length = k + 1 := by rw [hTN.out]; have := hTl.out; simp; omega
        replace hTl5 : Hid _ := hTl5
        go_wp2
        go_roundw
        case rel => exact ⟨k + 1, TN, aN, cN, by omega, by go_num, hTl5.out, hTm5, Q5, M5, K5⟩
        case measure => simp [intOf]; omega
      · refine wpOp_step rfl (fun Kz hKz => ?_)
        rw [if_pos (by kernel_rfl)]
        go_simp
        go_at_call 34
        refine (mindOf d.m d.ad d.cap u0 hvl (by omega)).mono ?_
        rintro e u1 ⟨qm, a7, c7, rfl, Mg, O7, hqm, lqm, kq⟩
        have lo7 := O7.lt
        have Q := Q.below kq Q.lt
        have M := M.below kq (by omega)
        have N := N.below kq N.lt
        have K := K.trans (kq.mono (by omega))
        have z_u1 := kq.size
        clear kq
        refine hKz _ _ ⟨N, ?_⟩
        clear hKz Kz hi
        refine wpAnyH_all (rs := [1, 4]) (by kernel_rfl) (by simp) ?_
        intro i hi; rcases (by simpa using hi : i = 1 ∨ i = 4) with rfl | rfl
        · refine wpOp_step rfl (fun Kz hKz => ?_)
          rw [if_pos (by kernel_rfl)]
          have c5 := Q.at_.c5
          go_simp
          clear c5
          refine hKz _ _ ⟨N, ?_⟩
          clear hKz Kz hi
          refine wpAnyH_all (rs := [4]) (by kernel_rfl) (by simp) ?_
          intro i hi; obtain rfl : i = 4 := by simpa using hi
          refine wpOp_step rfl (fun Kz hKz => ?_)
          rw [if_pos (by kernel_rfl)]
          go_simp
          go_at_call 40
          refine (toldI12 d.m qm a7 c7 u1 Mg).mono ?_
          rintro e u2 ⟨rfl, kq⟩
          have O7 := O7.later kq
          have Q := Q.below kq Q.lt
          have M := M.below kq (by omega)
          have N := N.below kq N.lt
          have K := K.trans (kq.mono (by omega))
          have z_u2 := kq.size
          clear kq
          refine hKz _ _ ⟨N, ?_⟩
          clear hKz Kz hi
          refine wpAnyH_all (rs := [5]) (by kernel_rfl) (by simp) ?_
          intro i hi; obtain rfl : i = 5 := by simpa using hi
          refine wpOp_step rfl (fun Kz hKz => ?_)
          rw [if_pos (by kernel_rfl)]
          go_simp
          obtain ⟨u3, hu3⟩ : ∃ y_, y_ = u2.alloc (Obj.cells #[.bool d.m.up, .int .i64 d.m.li, .int .i64 d.m.ep, .slice a7 d.m.lg.length c7, .int .i64 d.m.sd, .int .i64 d.m.ac, .int .i64 d.m.al] 28) := ⟨_, rfl⟩
          have VN : FView mdEnc u3 (some ⟨u2.heap.size, 0, none⟩) [(⟨d.m, a7, c7⟩ : MiD)] := by rw [hu3]; exact FView.oneD u2 _ ⟨d.m, a7, c7⟩
          have kq : Below u2.heap.size u2 u3 := by rw [hu3]; exact below_new _
          have O7 := O7.later kq
          rw [← hu3]
          clear hu3
          have Q := Q.below kq Q.lt
          have M := M.below kq (by omega)
          have N := N.below kq N.lt
          have K := K.trans (kq.mono (by omega))
          have z_u3 := kq.size
          clear kq
          refine hKz _ _ ⟨N, ?_⟩
          clear hKz Kz hi
          refine wpAnyH_all (rs := [6]) (by kernel_rfl) (by simp) ?_
          intro i hi; obtain rfl : i = 6 := by simpa using hi
          refine wpOp_step rfl (fun Kz hKz => ?_)
          rw [if_pos (by kernel_rfl)]
          refine fapp mdEnc_len mdEnc_ones 21 _ _ 51 rfl rfl (q + 1) 28 i5 (.agg #[.bool false, .int .i64 0, .int .i64 0, .slice none 0 0, .int .i64 0, .int .i64 0, .int .i64 0]) 72 Tryz.underlying51 hi5 hz50 hz51 hz52 rfl (by decide) (by decide) (.slice aT T.length cT) T rfl M.row (some ⟨u2.heap.size, 0, none⟩) 1 [(⟨d.m, a7, c7⟩ : MiD)] rfl (fun e => by cases e) VN (by have := hTl.out; simp; omega) (by omega) ?_
          intro vN u4 oN gN hob
          obtain ⟨TN, hTN⟩ : ∃ y_, y_ = (T ++ [(⟨d.m, a7, c7⟩ : MiD)]) := ⟨_, rfl⟩
          rw [← hTN] at oN
          have M4 := M.push hTN (e := ⟨d.m, a7, c7⟩) O7 (fun g e2 => by have := (lo7 g e2).1; omega) (by omega) oN gN (by omega)
          obtain ⟨aN, cN, rfl⟩ := oN.open_
          have Q := Q.keep (gN.block q Q.lt (fun e => by have := (M.row.lt q e.symm).1; omega))
          have N := N.keep (gN.block qn N.lt (fun e => by have := M.rhi qn e.symm; omega))
          have K := K.grown gN (by omega) (fun j e => by have := (M.row.lt j e).1; omega)
          have z4 := gN.size
          replace hTN : Hid _ := hTN
          clear gN hob VN M oN O7
          have M := M4
          clear M4
          simp only [List.set_cons_zero, List.set_cons_succ]
          refine hKz _ _ ⟨N, ?_⟩
          clear hKz Kz hi
          refine takeW 7 22 (.pointer (some ⟨q, 5, none⟩)) rfl rfl (by kernel_rfl) (by kernel_rfl) (by kernel_rfl) (fun _ _ _ h => h) (by kernel_rfl) (by (intro w hSw; go_simp)) (by assumption) ?_
          simp only [List.set_cons_zero, List.set_cons_succ]
          refine wpAnyH_all (rs := [8]) (by kernel_rfl) (by simp) ?_
          intro i hi; obtain rfl : i = 8 := by simpa using hi
          refine wpOp_step rfl (fun Kz hKz => ?_)
          rw [if_pos (by kernel_rfl)]
          have c5 := Q.at_.c5
          have f5 := Q.fr 5
          go_simp
          clear c5 f5
          obtain ⟨u5, hu5⟩ : ∃ y_, y_ = u4.setCell ⟨q, 5, none⟩ (.slice aN TN.length cN) := ⟨_, rfl⟩
          have Q5 : BxB u5 q { x with two := TN, aT := aN, cT := cN } := by rw [hu5]; exact Q.two TN aN cN
          have kp : ∀ k_, k_ ≠ q → u5.heap[k_]? = u4.heap[k_]? := fun k_ hk_ => by rw [hu5]; exact Below.heap_setCell _ _ _ _ hk_
          have K5 : Below y.heap.size y u5 := by rw [hu5]; exact K.setCell (p := ⟨q, 5, none⟩) (by show y.heap.size ≤ q; omega) _
          have z5 : u4.heap.size ≤ u5.heap.size := by rw [hu5]; simp
          have M5 : MOwn (q + 1) u5.heap.size u5 (.slice aN TN.length cN) TN := (M.keep (fun g h1 _ => kp g (by omega))).wide (Nat.le_refl _) z5
          have N := N.keep (kp qn (by omega))
          rw [← hu5]
          clear hu5 kp Q M K
          refine hKz _ _ ⟨N, ?_⟩
          clear hKz Kz hi
          refine wpAnyH_done (by kernel_rfl) ?_ _
          have hTm5 : ∀ j, j < k + 1 → (TN.getD j MiD.nil).m = (x.two.getD j MiD.nil).m := mdM hTN.out hTl.out hTm hd rfl
          have hTl5 : TN.length = k + 1 := by rw [hTN.out]; have := hTl.out; simp; omega
          replace hTl5 : Hid _ := hTl5
          go_wp2
          go_roundw
          case rel => exact ⟨k + 1, TN, aN, cN, by omega, by go_num, hTl5.out, hTm5, Q5, M5, K5⟩
          case measure => simp [intOf]; omega
        · refine wpOp_step rfl (fun Kz hKz => ?_)
          rw [if_pos (by kernel_rfl)]
          go_simp
          go_at_call 40
          refine (toldI12 d.m qm a7 c7 u1 Mg).mono ?_
          rintro e u2 ⟨rfl, kq⟩
          have O7 := O7.later kq
          have Q := Q.below kq Q.lt
          have M := M.below kq (by omega)
          have N := N.below kq N.lt
          have K := K.trans (kq.mono (by omega))
          have z_u2 := kq.size
          clear kq
          refine hKz _ _ ⟨N, ?_⟩
          clear hKz Kz hi
          refine wpAnyH_all (rs := [1, 5]) (by kernel_rfl) (by simp) ?_
          intro i hi; rcases (by simpa using hi : i = 1 ∨ i = 5) with rfl | rfl
          · refine wpOp_step rfl (fun Kz hKz => ?_)
            rw [if_pos (by kernel_rfl)]
            have c5 := Q.at_.c5
            go_simp
            clear c5
            refine hKz _ _ ⟨N, ?_⟩
            clear hKz Kz hi
            refine wpAnyH_all (rs := [5]) (by kernel_rfl) (by simp) ?_
            intro i hi; obtain rfl : i = 5 := by simpa using hi
            refine wpOp_step rfl (fun Kz hKz => ?_)
            rw [if_pos (by kernel_rfl)]
            go_simp
            obtain ⟨u3, hu3⟩ : ∃ y_, y_ = u2.alloc (Obj.cells #[.bool d.m.up, .int .i64 d.m.li, .int .i64 d.m.ep, .slice a7 d.m.lg.length c7, .int .i64 d.m.sd, .int .i64 d.m.ac, .int .i64 d.m.al] 28) := ⟨_, rfl⟩
            have VN : FView mdEnc u3 (some ⟨u2.heap.size, 0, none⟩) [(⟨d.m, a7, c7⟩ : MiD)] := by rw [hu3]; exact FView.oneD u2 _ ⟨d.m, a7, c7⟩
            have kq : Below u2.heap.size u2 u3 := by rw [hu3]; exact below_new _
            have O7 := O7.later kq
            rw [← hu3]
            clear hu3
            have Q := Q.below kq Q.lt
            have M := M.below kq (by omega)
            have N := N.below kq N.lt
            have K := K.trans (kq.mono (by omega))
            have z_u3 := kq.size
            clear kq
            refine hKz _ _ ⟨N, ?_⟩
            clear hKz Kz hi
            refine wpAnyH_all (rs := [6]) (by kernel_rfl) (by simp) ?_
            intro i hi; obtain rfl : i = 6 := by simpa using hi
            refine wpOp_step rfl (fun Kz hKz => ?_)
            rw [if_pos (by kernel_rfl)]
            refine fapp mdEnc_len mdEnc_ones 21 _ _ 51 rfl rfl (q + 1) 28 i5 (.agg #[.bool false, .int .i64 0, .int .i64 0, .slice none 0 0, .int .i64 0, .int .i64 0, .int .i64 0]) 72 Tryz.underlying51 hi5 hz50 hz51 hz52 rfl (by decide) (by decide) (.slice aT T.length cT) T rfl M.row (some ⟨u2.heap.size, 0, none⟩) 1 [(⟨d.m, a7, c7⟩ : MiD)] rfl (fun e => by cases e) VN (by have := hTl.out; simp; omega) (by omega) ?_
            intro vN u4 oN gN hob
            obtain ⟨TN, hTN⟩ : ∃ y_, y_ = (T ++ [(⟨d.m, a7, c7⟩ : MiD)]) := ⟨_, rfl⟩
            rw [← hTN] at oN
            have M4 := M.push hTN (e := ⟨d.m, a7, c7⟩) O7 (fun g e2 => by have := (lo7 g e2).1; omega) (by omega) oN gN (by omega)
            obtain ⟨aN, cN, rfl⟩ := oN.open_
            have Q := Q.keep (gN.block q Q.lt (fun e => by have := (M.row.lt q e.symm).1; omega))
            have N := N.keep (gN.block qn N.lt (fun e => by have := M.rhi qn e.symm; omega))
            have K := K.grown gN (by omega) (fun j e => by have := (M.row.lt j e).1; omega)
            have z4 := gN.size
            replace hTN : Hid _ := hTN
            clear gN hob VN M oN O7
            have M := M4
            clear M4
            simp only [List.set_cons_zero, List.set_cons_succ]
            refine hKz _ _ ⟨N, ?_⟩
            clear hKz Kz hi
            refine takeW 7 22 (.pointer (some ⟨q, 5, none⟩)) rfl rfl (by kernel_rfl) (by kernel_rfl) (by kernel_rfl) (fun _ _ _ h => h) (by kernel_rfl) (by (intro w hSw; go_simp)) (by assumption) ?_
            simp only [List.set_cons_zero, List.set_cons_succ]
            refine wpAnyH_all (rs := [8]) (by kernel_rfl) (by simp) ?_
            intro i hi; obtain rfl : i = 8 := by simpa using hi
            refine wpOp_step rfl (fun Kz hKz => ?_)
            rw [if_pos (by kernel_rfl)]
            have c5 := Q.at_.c5
            have f5 := Q.fr 5
            go_simp
            clear c5 f5
            obtain ⟨u5, hu5⟩ : ∃ y_, y_ = u4.setCell ⟨q, 5, none⟩ (.slice aN TN.length cN) := ⟨_, rfl⟩
            have Q5 : BxB u5 q { x with two := TN, aT := aN, cT := cN } := by rw [hu5]; exact Q.two TN aN cN
            have kp : ∀ k_, k_ ≠ q → u5.heap[k_]? = u4.heap[k_]? := fun k_ hk_ => by rw [hu5]; exact Below.heap_setCell _ _ _ _ hk_
            have K5 : Below y.heap.size y u5 := by rw [hu5]; exact K.setCell (p := ⟨q, 5, none⟩) (by show y.heap.size ≤ q; omega) _
            have z5 : u4.heap.size ≤ u5.heap.size := by rw [hu5]; simp
            have M5 : MOwn (q + 1) u5.heap.size u5 (.slice aN TN.length cN) TN := (M.keep (fun g h1 _ => kp g (by omega))).wide (Nat.le_refl _) z5
            have N := N.keep (kp qn (by omega))
            rw [← hu5]
            clear hu5 kp Q M K
            refine hKz _ _ ⟨N, ?_⟩
            clear hKz Kz hi
            refine wpAnyH_done (by kernel_rfl) ?_ _
            have hTm5 : ∀ j, j < k + 1 → (TN.getD j MiD.nil).m = (x.two.getD j MiD.nil).m := mdM hTN.out hTl.out hTm hd rfl
            have hTl5 : TN.length = k + 1 := by rw [hTN.out]; have := hTl.out; simp; omega
            replace hTl5 : Hid _ := hTl5
            go_wp2
            go_roundw
            case rel => exact ⟨k + 1, TN, aN, cN, by omega, by go_num, hTl5.out, hTm5, Q5, M5, K5⟩
            case measure => simp [intOf]; omega
          · refine wpOp_step rfl (fun Kz hKz => ?_)
            rw [if_pos (by kernel_rfl)]
            go_simp
            obtain ⟨u3, hu3⟩ : ∃ y_, y_ = u2.alloc (Obj.cells #[.bool d.m.up, .int .i64 d.m.li, .int .i64 d.m.ep, .slice a7 d.m.lg.length c7, .int .i64 d.m.sd, .int .i64 d.m.ac, .int .i64 d.m.al] 28) := ⟨_, rfl⟩
            have VN : FView mdEnc u3 (some ⟨u2.heap.size, 0, none⟩) [(⟨d.m, a7, c7⟩ : MiD)] := by rw [hu3]; exact FView.oneD u2 _ ⟨d.m, a7, c7⟩
            have kq : Below u2.heap.size u2 u3 := by rw [hu3]; exact below_new _
            have O7 := O7.later kq
            rw [← hu3]
            clear hu3
            have Q := Q.below kq Q.lt
            have M := M.below kq (by omega)
            have N := N.below kq N.lt
            have K := K.trans (kq.mono (by omega))
            have z_u3 := kq.size
            clear kq
            refine hKz _ _ ⟨N, ?_⟩
            clear hKz Kz hi
            refine wpAnyH_all (rs := [1]) (by kernel_rfl) (by simp) ?_
            intro i hi; obtain rfl : i = 1 := by simpa using hi
            refine wpOp_step rfl (fun Kz hKz => ?_)
            rw [if_pos (by kernel_rfl)]
            have c5 := Q.at_.c5
            go_simp
            clear c5
            refine hKz _ _ ⟨N, ?_⟩
            clear hKz Kz hi
            refine wpAnyH_all (rs := [6]) (by kernel_rfl) (by simp) ?_
            intro i hi; obtain rfl : i = 6 := by simpa using hi
            refine wpOp_step rfl (fun Kz hKz => ?_)
            rw [if_pos (by kernel_rfl)]
            refine fapp mdEnc_len mdEnc_ones 21 _ _ 51 rfl rfl (q + 1) 28 i5 (.agg #[.bool false, .int .i64 0, .int .i64 0, .slice none 0 0, .int .i64 0, .int .i64 0, .int .i64 0]) 72 Tryz.underlying51 hi5 hz50 hz51 hz52 rfl (by decide) (by decide) (.slice aT T.length cT) T rfl M.row (some ⟨u2.heap.size, 0, none⟩) 1 [(⟨d.m, a7, c7⟩ : MiD)] rfl (fun e => by cases e) VN (by have := hTl.out; simp; omega) (by omega) ?_
            intro vN u4 oN gN hob
            obtain ⟨TN, hTN⟩ : ∃ y_, y_ = (T ++ [(⟨d.m, a7, c7⟩ : MiD)]) := ⟨_, rfl⟩
            rw [← hTN] at oN
            have M4 := M.push hTN (e := ⟨d.m, a7, c7⟩) O7 (fun g e2 => by have := (lo7 g e2).1; omega) (by omega) oN gN (by omega)
            obtain ⟨aN, cN, rfl⟩ := oN.open_
            have Q := Q.keep (gN.block q Q.lt (fun e => by have := (M.row.lt q e.symm).1; omega))
            have N := N.keep (gN.block qn N.lt (fun e => by have := M.rhi qn e.symm; omega))
            have K := K.grown gN (by omega) (fun j e => by have := (M.row.lt j e).1; omega)
            have z4 := gN.size
            replace hTN : Hid _ := hTN
            clear gN hob VN M oN O7
            have M := M4
            clear M4
            simp only [List.set_cons_zero, List.set_cons_succ]
            refine hKz _ _ ⟨N, ?_⟩
            clear hKz Kz hi
            refine takeW 7 22 (.pointer (some ⟨q, 5, none⟩)) rfl rfl (by kernel_rfl) (by kernel_rfl) (by kernel_rfl) (fun _ _ _ h => h) (by kernel_rfl) (by (intro w hSw; go_simp)) (by assumption) ?_
            simp only [List.set_cons_zero, List.set_cons_succ]
            refine wpAnyH_all (rs := [8]) (by kernel_rfl) (by simp) ?_
            intro i hi; obtain rfl : i = 8 := by simpa using hi
            refine wpOp_step rfl (fun Kz hKz => ?_)
            rw [if_pos (by kernel_rfl)]
            have c5 := Q.at_.c5
            have f5 := Q.fr 5
            go_simp
            clear c5 f5
            obtain ⟨u5, hu5⟩ : ∃ y_, y_ = u4.setCell ⟨q, 5, none⟩ (.slice aN TN.length cN) := ⟨_, rfl⟩
            have Q5 : BxB u5 q { x with two := TN, aT := aN, cT := cN } := by rw [hu5]; exact Q.two TN aN cN
            have kp : ∀ k_, k_ ≠ q → u5.heap[k_]? = u4.heap[k_]? := fun k_ hk_ => by rw [hu5]; exact Below.heap_setCell _ _ _ _ hk_
            have K5 : Below y.heap.size y u5 := by rw [hu5]; exact K.setCell (p := ⟨q, 5, none⟩) (by show y.heap.size ≤ q; omega) _
            have z5 : u4.heap.size ≤ u5.heap.size := by rw [hu5]; simp
            have M5 : MOwn (q + 1) u5.heap.size u5 (.slice aN TN.length cN) TN := (M.keep (fun g h1 _ => kp g (by omega))).wide (Nat.le_refl _) z5
            have N := N.keep (kp qn (by omega))
            rw [← hu5]
            clear hu5 kp Q M K
            refine hKz _ _ ⟨N, ?_⟩
            clear hKz Kz hi
            refine wpAnyH_done (by kernel_rfl) ?_ _
            have hTm5 : ∀ j, j < k + 1 → (TN.getD j MiD.nil).m = (x.two.getD j MiD.nil).m := mdM hTN.out hTl.out hTm hd rfl
            have hTl5 : TN.length = k + 1 := by rw [hTN.out]; have := hTl.out; simp; omega
            replace hTl5 : Hid _ := hTl5
            go_wp2
            go_roundw
            case rel => exact ⟨k + 1, TN, aN, cN, by omega, by go_num, hTl5.out, hTm5, Q5, M5, K5⟩
            case measure => simp [intOf]; omega
    · obtain rfl : k = x.two.length := by omega
      have hTp : T.map MiD.m = x.two.map MiD.m := mdMap hTl.out hTm
      clear hTm
      replace hTp : Hid _ := hTp
      obtain ⟨hm, ehm⟩ : ∃ h, h = wr.heap.size := ⟨_, rfl⟩
      rw [← ehm] at M
      have ehm1 := Nat.le_of_eq ehm
      replace ehm := Nat.le_of_eq ehm.symm
      have B1 := B0.trans (K.mono B0.size)
      have Z := Z.below K Z.lt
      have cc := A2
      obtain ⟨a0, a1, a2, a3, a4, a5, a6, a7, a8, a9⟩ := cc
      go_wp2_with fail
      go_at_call 99
      clear a0 a1 a2 a3 a4 a5 a6 a7 a8 a9
      refine (cloneW x.aN x.cN x.net wr V2.n (by have := V2.bn; omega)).mono ?_
      rintro e p0 ⟨bN, dN, rfl, ON, kq⟩
      have loN := ON.lt
      have A2 := A2.below kq A2.lt
      have V2 := V2.later kq
      have Q := Q.below kq Q.lt
      have Z := Z.below kq Z.lt
      have M := M.below kq (by omega)
      have B1 := B1.trans (kq.mono (by omega))
      have t0 := kq.size
      clear kq
      have cc := Q
      obtain ⟨⟨a0, a1, a2, a3, a4, a5, a6, a7, a8, a9⟩, af⟩ := cc
      have ff := af 6
      clear af
      go_upto_region 9 with fail
      clear a0 a1 a2 a3 a4 a5 a6 a7 a8 a9 ff
      obtain ⟨s0, hs0⟩ : ∃ y_, y_ = p0.setCell ⟨q, 6, none⟩ (.slice bN x.net.length dN) := ⟨_, rfl⟩
      rw [← hs0]
      have kp : ∀ k_, k_ ≠ q → s0.heap[k_]? = p0.heap[k_]? := fun k_ hk_ => by rw [hs0]; exact Below.heap_setCell _ _ _ _ hk_
      have Q := Q.sN x.net bN x.net.length dN rfl
      rw [← hs0] at Q
      have A2 := A2.keep (kp _ (by omega))
      have Z := Z.keep (kp _ (by omega))
      have M := M.keep (fun g h1 _ => kp g (by omega))
      have B1 : Below w.heap.size w s0 := by rw [hs0]; exact B1.setCell (p := ⟨q, 6, none⟩) (by show w.heap.size ≤ q; omega) _
      have v0 : s0.heap.size = p0.heap.size := by rw [hs0]; simp
      have v0 := Nat.le_of_eq v0.symm
      have ON := ON.keep (fun g e => kp g (by have := (loN g e).1; omega))
      have V2 : BxV s0 x := V0.later' (fun g hg => (B1.block g hg))
      clear kp hs0
      have cc := A2
      obtain ⟨a0, a1, a2, a3, a4, a5, a6, a7, a8, a9⟩ := cc
      go_wp2_with fail
      go_at_call 100
      clear a0 a1 a2 a3 a4 a5 a6 a7 a8 a9
      refine (cloneB x.aG x.cG x.ga s0 V2.g (by have := V2.bg; omega)).mono ?_
      rintro e p1 ⟨bG, dG, rfl, OG, kq⟩
      have loG := OG.lt
      have A2 := A2.below kq A2.lt
      have V2 := V2.later kq
      have Q := Q.below kq Q.lt
      have Z := Z.below kq Z.lt
      have M := M.below kq (by omega)
      have B1 := B1.trans (kq.mono (by omega))
      have t1 := kq.size
      have ON := ON.later kq
      clear kq
      have cc := Q
      obtain ⟨⟨a0, a1, a2, a3, a4, a5, a6, a7, a8, a9⟩, af⟩ := cc
      have ff := af 7
      clear af
      go_upto_region 10 with fail
      clear a0 a1 a2 a3 a4 a5 a6 a7 a8 a9 ff
      obtain ⟨s1, hs1⟩ : ∃ y_, y_ = p1.setCell ⟨q, 7, none⟩ (.slice bG x.ga.length dG) := ⟨_, rfl⟩
      rw [← hs1]
      have kp : ∀ k_, k_ ≠ q → s1.heap[k_]? = p1.heap[k_]? := fun k_ hk_ => by rw [hs1]; exact Below.heap_setCell _ _ _ _ hk_
      have Q := Q.sG x.ga bG x.ga.length dG rfl
      rw [← hs1] at Q
      have A2 := A2.keep (kp _ (by omega))
      have Z := Z.keep (kp _ (by omega))
      have M := M.keep (fun g h1 _ => kp g (by omega))
      have B1 : Below w.heap.size w s1 := by rw [hs1]; exact B1.setCell (p := ⟨q, 7, none⟩) (by show w.heap.size ≤ q; omega) _
      have v1 : s1.heap.size = p1.heap.size := by rw [hs1]; simp
      have v1 := Nat.le_of_eq v1.symm
      have OG := OG.keep (fun g e => kp g (by have := (loG g e).1; omega))
      have ON := ON.keep (fun g e => kp g (by have := (loN g e).1; omega))
      have V2 : BxV s1 x := V0.later' (fun g hg => (B1.block g hg))
      clear kp hs1
      have cc := A2
      obtain ⟨a0, a1, a2, a3, a4, a5, a6, a7, a8, a9⟩ := cc
      go_wp2_with fail
      go_at_call 101
      clear a0 a1 a2 a3 a4 a5 a6 a7 a8 a9
      refine (cloneK x.aL x.cL x.ln s1 V2.i (by have := V2.bi; omega)).mono ?_
      rintro e p2 ⟨bL, dL, rfl, OL, kq⟩
      have loL := OL.lt
      have A2 := A2.below kq A2.lt
      have V2 := V2.later kq
      have Q := Q.below kq Q.lt
      have Z := Z.below kq Z.lt
      have M := M.below kq (by omega)
      have B1 := B1.trans (kq.mono (by omega))
      have t2 := kq.size
      have ON := ON.later kq
      have OG := OG.later kq
      clear kq
      have cc := Q
      obtain ⟨⟨a0, a1, a2, a3, a4, a5, a6, a7, a8, a9⟩, af⟩ := cc
      have ff := af 8
      clear af
      go_upto_region 11 with fail
      clear a0 a1 a2 a3 a4 a5 a6 a7 a8 a9 ff
      obtain ⟨s2, hs2⟩ : ∃ y_, y_ = p2.setCell ⟨q, 8, none⟩ (.slice bL x.ln.length dL) := ⟨_, rfl⟩
      rw [← hs2]
      have kp : ∀ k_, k_ ≠ q → s2.heap[k_]? = p2.heap[k_]? := fun k_ hk_ => by rw [hs2]; exact Below.heap_setCell _ _ _ _ hk_
      have Q := Q.sL x.ln bL x.ln.length dL rfl
      rw [← hs2] at Q
      have A2 := A2.keep (kp _ (by omega))
      have Z := Z.keep (kp _ (by omega))
      have M := M.keep (fun g h1 _ => kp g (by omega))
      have B1 : Below w.heap.size w s2 := by rw [hs2]; exact B1.setCell (p := ⟨q, 8, none⟩) (by show w.heap.size ≤ q; omega) _
      have v2 : s2.heap.size = p2.heap.size := by rw [hs2]; simp
      have v2 := Nat.le_of_eq v2.symm
      have OL := OL.keep (fun g e => kp g (by have := (loL g e).1; omega))
      have ON := ON.keep (fun g e => kp g (by have := (loN g e).1; omega))
      have OG := OG.keep (fun g e => kp g (by have := (loG g e).1; omega))
      have V2 : BxV s2 x := V0.later' (fun g hg => (B1.block g hg))
      clear kp hs2
      have cc := A2
      obtain ⟨a0, a1, a2, a3, a4, a5, a6, a7, a8, a9⟩ := cc
      go_wp2_with fail
      go_at_call 102
      clear a0 a1 a2 a3 a4 a5 a6 a7 a8 a9
      refine (cloneO x.aS x.cS x.sd s2 V2.s (by have := V2.bs; omega)).mono ?_
      rintro e p3 ⟨bS, dS, rfl, OS, kq⟩
      have loS := OS.lt
      have A2 := A2.below kq A2.lt
      have V2 := V2.later kq
      have Q := Q.below kq Q.lt
      have Z := Z.below kq Z.lt
      have M := M.below kq (by omega)
      have B1 := B1.trans (kq.mono (by omega))
      have t3 := kq.size
      have ON := ON.later kq
      have OG := OG.later kq
      have OL := OL.later kq
      clear kq
      have cc := Q
      obtain ⟨⟨a0, a1, a2, a3, a4, a5, a6, a7, a8, a9⟩, af⟩ := cc
      have ff := af 9
      clear af
      go_upto_region 12 with fail
      clear a0 a1 a2 a3 a4 a5 a6 a7 a8 a9 ff
      obtain ⟨s3, hs3⟩ : ∃ y_, y_ = p3.setCell ⟨q, 9, none⟩ (.slice bS x.sd.length dS) := ⟨_, rfl⟩
      rw [← hs3]
      have kp : ∀ k_, k_ ≠ q → s3.heap[k_]? = p3.heap[k_]? := fun k_ hk_ => by rw [hs3]; exact Below.heap_setCell _ _ _ _ hk_
      have Q := Q.sS x.sd bS x.sd.length dS rfl
      rw [← hs3] at Q
      have A2 := A2.keep (kp _ (by omega))
      have Z := Z.keep (kp _ (by omega))
      have M := M.keep (fun g h1 _ => kp g (by omega))
      have B1 : Below w.heap.size w s3 := by rw [hs3]; exact B1.setCell (p := ⟨q, 9, none⟩) (by show w.heap.size ≤ q; omega) _
      have v3 : s3.heap.size = p3.heap.size := by rw [hs3]; simp
      have v3 := Nat.le_of_eq v3.symm
      have OS := OS.keep (fun g e => kp g (by have := (loS g e).1; omega))
      have ON := ON.keep (fun g e => kp g (by have := (loN g e).1; omega))
      have OG := OG.keep (fun g e => kp g (by have := (loG g e).1; omega))
      have OL := OL.keep (fun g e => kp g (by have := (loL g e).1; omega))
      clear kp hs3
      obtain ⟨z, hz⟩ : ∃ z : BxD, z = { x with two := T, aT := aT, cT := cT, net := x.net, aN := bN, cN := dN, ga := x.ga, aG := bG, cG := dG, ln := x.ln, aL := bL, cL := dL, sd := x.sd, aS := bS, cS := dS } := ⟨_, rfl⟩
      rw [← hz] at Q
      have hP : Hid (z.p = x.p) := by unfold Hid; rw [hz]; unfold BxD.p; simp only; rw [hTp.out]
      have hN : BxN (q + 1) hm s3.heap.size s3 z := by
        rw [hz]
        exact ⟨M, ON.base (by omega), OG.base (by omega), OL.base (by omega), OS.base (by omega), fun g e => (ON.lt g e).2, fun g e => (OG.lt g e).2, fun g e => (OL.lt g e).2, fun g e => (OS.lt g e).2, by omega, by omega⟩
      clear hz hTp M ON OG OL OS
      obtain ⟨W9, hW9⟩ : ∃ y_, y_ = ((((((((((s3.setCell ⟨(w.heap.size + 1), 0, none⟩ (.int .i64 z.id)).setCell ⟨(w.heap.size + 1), 1, none⟩ (.int .i64 z.po)).setCell ⟨(w.heap.size + 1), 2, none⟩ (.int .i64 z.rg.ep)).setCell ⟨(w.heap.size + 1), 3, none⟩ (.int .i64 z.rg.ow)).setCell ⟨(w.heap.size + 1), 4, none⟩ (.int .i64 z.rg.pa)).setCell ⟨(w.heap.size + 1), 5, none⟩ (.slice z.aT z.two.length z.cT)).setCell ⟨(w.heap.size + 1), 6, none⟩ (.slice z.aN z.net.length z.cN)).setCell ⟨(w.heap.size + 1), 7, none⟩ (.slice z.aG z.ga.length z.cG)).setCell ⟨(w.heap.size + 1), 8, none⟩ (.slice z.aL z.ln.length z.cL)).setCell ⟨(w.heap.size + 1), 9, none⟩ (.slice z.aS z.sd.length z.cS)) := ⟨_, rfl⟩
      have z9 : s3.heap.size ≤ W9.heap.size := by rw [hW9]; simp
      have hN9 : BxN w.heap.size hm W9.heap.size W9 z := by
        have h := hN.keep (w' := W9) (fun g h1 h2 => by rw [hW9]; exact heap_put10 s3 (w.heap.size + 1) g z (by omega))
        exact ⟨h.t.wide (by omega) (Nat.le_refl _), h.n, h.g, h.i, h.s, fun g e => Nat.lt_of_lt_of_le (h.nh g e) z9, fun g e => Nat.lt_of_lt_of_le (h.gh g e) z9, fun g e => Nat.lt_of_lt_of_le (h.ih g e) z9, fun g e => Nat.lt_of_lt_of_le (h.sh g e) z9, by omega, Nat.le_trans h.mh z9⟩
      have B9 : Below w.heap.size w W9 := by rw [hW9]; exact below_put10 (q := w.heap.size + 1) z B1 (by omega)
      clear hN z9
      obtain ⟨⟨r0, r1, r2, r3, r4, r5, r6, r7, r8, r9⟩, rf⟩ := Z
      dsimp only [BxD.zero] at r0 r1 r2 r3 r4 r5 r6 r7 r8 r9
      have g0 := rf 0
      have g1 := rf 1
      have g2 := rf 2
      have g3 := rf 3
      have g4 := rf 4
      have g5 := rf 5
      have g6 := rf 6
      have g7 := rf 7
      have g8 := rf 8
      have g9 := rf 9
      clear rf
      have cc := Q
      obtain ⟨⟨a0, a1, a2, a3, a4, a5, a6, a7, a8, a9⟩, af⟩ := cc
      clear af
      go_wp2
      refine bodyPost_ret (v := .agg #[.int .i64 z.id, .int .i64 z.po, .int .i64 z.rg.ep, .int .i64 z.rg.ow, .int .i64 z.rg.pa, .slice z.aT z.two.length z.cT, .slice z.aN z.net.length z.cN, .slice z.aG z.ga.length z.cG, .slice z.aL z.ln.length z.cL, .slice z.aS z.sd.length z.cS]) (by simp [results, Tryz.results63, go_sem, *]) rfl ⟨z, hm, rfl, hP.out, by rw [← hW9]; exact hN9, by rw [← hW9]; exact B9⟩

end Go.Proofs.YtijhpfccjaaalaaGreat
namespace Go.Proofs.YtijhpfccjaaalaaGreat
open Go.ChangeShapes Go.WideShapes Go.ChangeAt Go.RowKit
open Go.ChangeMaps (open_string shut_string)
set_option linter.unusedVariables false
set_option maxRecDepth 100000

theorem grA {w wr : World} {row : Option Nat} (h : w.grownBy wr row) (o : Obj) : w.grownBy (wr.alloc o) row :=
  ⟨(below_new o).os.trans h.os, (below_new o).tape.trans h.tape, (below_new o).output.trans h.output, Nat.le_trans h.size (below_new o).size, fun k hk hne => ((below_new o).block k (Nat.lt_of_lt_of_le hk h.size)).trans (h.block k hk hne)⟩
set_option maxHeartbeats 8000000 in
theorem turnGI (aG : Option Addr) (cG : Nat) (G : List Bool) (aO : Option Addr) (cO : Nat) (L : List Ou) (base : Nat) (w : World) (OG : FOwn boEnc 1 4 base w (.slice aG G.length cG) G) (hL : FView ouEnc w aO L) (hLb : ∀ a, aO = some a → 0 < L.length → ∀ g, (Value.slice aG G.length cG).ownBlock = some g → g ≠ a.block) (hl : L.length ≤ 1048576) (hg : G.length ≤ 1048576) :
    Calls Tryz.prog 65 #[.slice aG G.length cG, .slice aO L.length cO] w fun e w' => e = .returned (.tuple #[]) ∧ FOwn boEnc 1 4 base w' (.slice aG G.length cG) (L.foldl gateX G) ∧ w.grownBy w' (Value.slice aG G.length cG).ownBlock := by
  rcases OG.2 with ⟨e, h0⟩ | ⟨gg, c, cur, e, _⟩
  · simp only [Value.slice.injEq] at e
    obtain ⟨rfl, hG0, rfl⟩ := e
    obtain rfl : G = [] := List.eq_nil_of_length_eq_zero hG0
    clear hG0 hg hLb
    go_enter Tryz.func65, Tryz.ntmps65
    go_wp2
    go_loopw [8] (fun i wr => ∃ (k : Nat) (H : List Bool), k ≤ L.length ∧ i = .int .i64 k ∧ Hid (H = (L.take k).foldl gateX ([] : List Bool)) ∧ FOwn boEnc 1 4 base wr (.slice none 0 0) H ∧ w.grownBy wr none) (fun i _ => L.length - (intOf i).toNat)
    case atStart => exact ⟨0, ([] : List Bool), Nat.zero_le _, rfl, by unfold Hid; rfl, OG, ⟨rfl, rfl, rfl, Nat.le_refl _, fun _ _ _ => rfl⟩⟩
    case round =>
      obtain ⟨k, H, hk_, rfl, hH, O, GR⟩ := hrel
      clear OG
      have hHl : H.length = ([] : List Bool).length := by rw [hH.out]; exact gateX_len _ _
      have hHl2 := Nat.le_of_eq hHl
      replace hHl := Nat.le_of_eq hHl.symm
      have zr := GR.size
      by_cases hlt : k < L.length
      · obtain ⟨b, off, rfl, _⟩ := hL (by omega)
        have hbl : b < w.heap.size := hL.lt ouEnc_len (by omega) _ rfl (by omega)
        obtain ⟨⟨hk, hpt, hr, hc, hb, hp, hh_, hon⟩, hh⟩ : ∃ h, L.getD k Ou.nil = h := ⟨_, rfl⟩
        have E : OuAtO wr b (off + k * 8) ⟨hk, hpt, hr, hc, hb, hp, hh_, hon⟩ := by rw [← hh]; exact ouAtO_of ((hL.carry (fun a e p => GR.block _ (hL.lt ouEnc_len (by omega) a e p) (fun e2 => by cases e2))).at_ ouEnc_len Ou.nil hlt)
        have hT : (L.take (k + 1)).foldl gateX ([] : List Bool) = gateX H (⟨hk, hpt, hr, hc, hb, hp, hh_, hon⟩ : Ou) := by rw [take_snoc hlt, hh, List.foldl_append, hH.out]; rfl
        replace hT : Hid _ := hT
        replace hh : Hid _ := hh
        obtain ⟨c0, c1, c2, c3, c4, c5, c6, c7⟩ := E
        go_upto_region 3 with fail
        clear c0 c1 c2 c3 c4 c5 c6 c7
        obtain ⟨u1, hu1⟩ : ∃ y_, y_ = wr.alloc (Obj.cells #[.int .i64 hk, .int .i64 hpt, .int .i64 hr, .int .i64 hc, .int .i64 hb, .int .i64 hp, .int .i64 hh_, .bool hon] 95) := ⟨_, rfl⟩
        rw [← hu1]
        have n0 : u1.cell? ⟨wr.heap.size, 0, none⟩ = some (.int .i64 hk) := by rw [hu1]; simp [go_sem]
        have n1 : u1.cell? ⟨wr.heap.size, 1, none⟩ = some (.int .i64 hpt) := by rw [hu1]; simp [go_sem]
        have n7 : u1.cell? ⟨wr.heap.size, 7, none⟩ = some (.bool hon) := by rw [hu1]; simp [go_sem]
        have GR : w.grownBy u1 none := by rw [hu1]; exact grA GR _
        have O := O.later (w' := u1) (by rw [hu1]; exact below_new _)
        clear hu1
        by_cases e2 : hk = 2
        · have d2 : (hk == 2) = true := by simpa using e2
          by_cases e3 : 0 ≤ hpt
          · have d3 : decide (0 ≤ hpt) = true := decide_eq_true e3
            have d4 : decide (hpt < 0) = false := decide_eq_false (by omega)
            have hg : gateX H (⟨hk, hpt, hr, hc, hb, hp, hh_, hon⟩ : Ou) = H := if_neg (fun h => by have h3 : hpt < (H.length : Int) := h.2.2; simp at hHl2; rw [hHl2] at h3; simp at h3; omega)
            replace hg : Hid _ := hg
            replace e2 : Hid _ := e2
            replace e3 : Hid _ := e3
            go_wp2
            go_roundw
            case rel => exact ⟨k + 1, H, by omega, by go_num, by { unfold Hid; rw [hT.out]; exact hg.out.symm }, O, GR⟩
            case measure => simp [intOf]; omega
          · have d3 : decide (0 ≤ hpt) = false := decide_eq_false e3
            have hg : gateX H (⟨hk, hpt, hr, hc, hb, hp, hh_, hon⟩ : Ou) = H := if_neg (fun h => e3 h.2.1)
            replace hg : Hid _ := hg
            replace e2 : Hid _ := e2
            replace e3 : Hid (¬ 0 ≤ hpt) := e3
            go_wp2
            go_roundw
            case rel => exact ⟨k + 1, H, by omega, by go_num, by { unfold Hid; rw [hT.out]; exact hg.out.symm }, O, GR⟩
            case measure => simp [intOf]; omega
        · have d2 : (hk == 2) = false := by simpa using e2
          have hg : gateX H (⟨hk, hpt, hr, hc, hb, hp, hh_, hon⟩ : Ou) = H := if_neg (fun h => e2 h.1)
          replace hg : Hid _ := hg
          replace e2 : Hid (¬ hk = 2) := e2
          go_wp2
          go_roundw
          case rel => exact ⟨k + 1, H, by omega, by go_num, by { unfold Hid; rw [hT.out]; exact hg.out.symm }, O, GR⟩
          case measure => simp [intOf]; omega
      · obtain rfl : k = L.length := by omega
        rw [List.take_length] at hH
        have hH2 := hH.out
        subst hH2
        go_wp2
        go_end0
        exact ⟨rfl, O, GR⟩
  · simp only [Value.slice.injEq] at e
    obtain ⟨rfl, _, rfl⟩ := e
    go_enter Tryz.func65, Tryz.ntmps65
    go_wp2
    go_loopw [8] (fun i wr => ∃ (k : Nat) (H : List Bool), k ≤ L.length ∧ i = .int .i64 k ∧ Hid (H = (L.take k).foldl gateX G) ∧ FOwn boEnc 1 4 base wr (.slice (some ⟨gg, 0, none⟩) G.length cG) H ∧ w.grownBy wr (some gg)) (fun i _ => L.length - (intOf i).toNat)
    case atStart => exact ⟨0, G, Nat.zero_le _, rfl, by unfold Hid; rfl, OG, ⟨rfl, rfl, rfl, Nat.le_refl _, fun _ _ _ => rfl⟩⟩
    case round =>
      obtain ⟨k, H, hk_, rfl, hH, O, GR⟩ := hrel
      clear OG
      have hHl : H.length = G.length := by rw [hH.out]; exact gateX_len _ _
      have hHl2 := Nat.le_of_eq hHl
      replace hHl := Nat.le_of_eq hHl.symm
      have zr := GR.size
      by_cases hlt : k < L.length
      · obtain ⟨b, off, rfl, _⟩ := hL (by omega)
        have hbl : b < w.heap.size := hL.lt ouEnc_len (by omega) _ rfl (by omega)
        obtain ⟨⟨hk, hpt, hr, hc, hb, hp, hh_, hon⟩, hh⟩ : ∃ h, L.getD k Ou.nil = h := ⟨_, rfl⟩
        have E : OuAtO wr b (off + k * 8) ⟨hk, hpt, hr, hc, hb, hp, hh_, hon⟩ := by rw [← hh]; exact ouAtO_of ((hL.carry (fun a e p => GR.block _ (hL.lt ouEnc_len (by omega) a e p) (fun e2 => hLb a e p _ e2.symm rfl))).at_ ouEnc_len Ou.nil hlt)
        have hT : (L.take (k + 1)).foldl gateX G = gateX H (⟨hk, hpt, hr, hc, hb, hp, hh_, hon⟩ : Ou) := by rw [take_snoc hlt, hh, List.foldl_append, hH.out]; rfl
        replace hT : Hid _ := hT
        replace hh : Hid _ := hh
        obtain ⟨c0, c1, c2, c3, c4, c5, c6, c7⟩ := E
        go_upto_region 3 with fail
        clear c0 c1 c2 c3 c4 c5 c6 c7
        obtain ⟨u1, hu1⟩ : ∃ y_, y_ = wr.alloc (Obj.cells #[.int .i64 hk, .int .i64 hpt, .int .i64 hr, .int .i64 hc, .int .i64 hb, .int .i64 hp, .int .i64 hh_, .bool hon] 95) := ⟨_, rfl⟩
        rw [← hu1]
        have n0 : u1.cell? ⟨wr.heap.size, 0, none⟩ = some (.int .i64 hk) := by rw [hu1]; simp [go_sem]
        have n1 : u1.cell? ⟨wr.heap.size, 1, none⟩ = some (.int .i64 hpt) := by rw [hu1]; simp [go_sem]
        have n7 : u1.cell? ⟨wr.heap.size, 7, none⟩ = some (.bool hon) := by rw [hu1]; simp [go_sem]
        have GR : w.grownBy u1 (some gg) := by rw [hu1]; exact grA GR _
        have O := O.later (w' := u1) (by rw [hu1]; exact below_new _)
        clear hu1
        by_cases e2 : hk = 2
        · have d2 : (hk == 2) = true := by simpa using e2
          by_cases e3 : 0 ≤ hpt
          · have d3 : decide (0 ≤ hpt) = true := decide_eq_true e3
            by_cases e4 : hpt < (G.length : Int)
            · have d4 : decide (hpt < (G.length : Int)) = true := decide_eq_true e4
              obtain ⟨j, rfl⟩ : ∃ j : Nat, hpt = (j : Int) := ⟨hpt.toNat, by omega⟩
              have hj : j < H.length := by omega
              have hjG : j < G.length := by omega
              have hg : gateX H (⟨hk, (j : Int), hr, hc, hb, hp, hh_, hon⟩ : Ou) = H.set j hon := if_pos ⟨e2, by show (0 : Int) ≤ (j : Int); omega, by show (j : Int) < (H.length : Int); omega⟩
              replace hg : Hid _ := hg
              replace e2 : Hid _ := e2
              replace e3 : Hid _ := e3
              replace e4 : Hid _ := e4
              have O' : FOwn boEnc 1 4 base u1 (.slice (some ⟨gg, 0, none⟩) H.length cG) H := by rw [show H.length = G.length by omega]; exact O
              have cj : u1.cell? ⟨gg, j, none⟩ = some (.bool (H.getD j false)) := by have h9 := O'.cell boEnc_len false hj 0 _ rfl; rw [Nat.mul_one] at h9; exact h9
              have fj := O'.frozen j
              have hgc : G.length ≤ cG := by have := O'.capM; omega
              go_upto_region 5 with fail
              clear cj fj
              obtain ⟨u2, hu2⟩ : ∃ y_, y_ = u1.setCell ⟨gg, j, none⟩ (.bool hon) := ⟨_, rfl⟩
              rw [← hu2]
              have O2 : FOwn boEnc 1 4 base u2 (.slice (some ⟨gg, 0, none⟩) G.length cG) (H.set j hon) := by have h9 := O'.set boEnc_len (by omega) hj hon; rw [Nat.mul_one, show H.length = G.length by omega] at h9; rw [hu2]; exact h9
              have GR2 : w.grownBy u2 (some gg) := by rw [hu2]; exact grown_putAll (boEnc hon) j GR
              clear O O' GR hu2
              go_wp2
              go_roundw
              case rel => exact ⟨k + 1, H.set j hon, by omega, by go_num, by { unfold Hid; rw [hT.out]; exact hg.out.symm }, O2, GR2⟩
              case measure => simp [intOf]; omega
            · have d4 : decide (hpt < (G.length : Int)) = false := decide_eq_false e4
              have hg : gateX H (⟨hk, hpt, hr, hc, hb, hp, hh_, hon⟩ : Ou) = H := if_neg (fun h => e4 (by have h3 : hpt < (H.length : Int) := h.2.2; omega))
              replace hg : Hid _ := hg
              replace e2 : Hid _ := e2
              replace e3 : Hid _ := e3
              replace e4 : Hid (¬ hpt < (G.length : Int)) := e4
              go_wp2
              go_roundw
              case rel => exact ⟨k + 1, H, by omega, by go_num, by { unfold Hid; rw [hT.out]; exact hg.out.symm }, O, GR⟩
              case measure => simp [intOf]; omega
          · have d3 : decide (0 ≤ hpt) = false := decide_eq_false e3
            have hg : gateX H (⟨hk, hpt, hr, hc, hb, hp, hh_, hon⟩ : Ou) = H := if_neg (fun h => e3 h.2.1)
            replace hg : Hid _ := hg
            replace e2 : Hid _ := e2
            replace e3 : Hid (¬ 0 ≤ hpt) := e3
            go_wp2
            go_roundw
            case rel => exact ⟨k + 1, H, by omega, by go_num, by { unfold Hid; rw [hT.out]; exact hg.out.symm }, O, GR⟩
            case measure => simp [intOf]; omega
        · have d2 : (hk == 2) = false := by simpa using e2
          have hg : gateX H (⟨hk, hpt, hr, hc, hb, hp, hh_, hon⟩ : Ou) = H := if_neg (fun h => e2 h.1)
          replace hg : Hid _ := hg
          replace e2 : Hid (¬ hk = 2) := e2
          go_wp2
          go_roundw
          case rel => exact ⟨k + 1, H, by omega, by go_num, by { unfold Hid; rw [hT.out]; exact hg.out.symm }, O, GR⟩
          case measure => simp [intOf]; omega
      · obtain rfl : k = L.length := by omega
        rw [List.take_length] at hH
        have hH2 := hH.out
        subst hH2
        go_wp2
        go_end0
        exact ⟨rfl, O, GR⟩

end Go.Proofs.YtijhpfccjaaalaaGreat
namespace Go.Proofs.YtijhpfccjaaalaaGreat
open Go.ChangeShapes Go.WideShapes Go.ChangeAt Go.RowKit
open Go.ChangeMaps (open_string shut_string)
set_option linter.unusedVariables false
set_option maxRecDepth 100000

set_option maxHeartbeats 4000000 in
theorem growO (n : Int) (w : World) (h0 : 0 ≤ n) (h1 : n ≤ 3000000) :
    Calls Tryz.prog 123 #[.slice none 0 0, .int .i64 n] w fun e w' => ∃ ad cap, e = .returned (.slice ad 0 cap) ∧ FOwn ouEnc 8 95 w.heap.size w' (.slice ad 0 cap) [] ∧ Below w.heap.size w w' := by
  obtain ⟨i0, hi, hz0, hz1, hz2⟩ := info_parts ouInfo
  have d0 : decide (n < 0) = false := decide_eq_false (by omega)
  have d1 : ¬ n < 0 := by omega
  have hw : IntKind.i64.wrap n = n := by rw [IntKind.wrap_i64]; omega
  by_cases hn : n = 0
  · subst hn
    go_enter Tryz.func123, Tryz.ntmps123
    go_wp2
    go_ret
    exact ⟨none, 0, rfl, FOwn.nil, Below.refl _ _⟩
  obtain ⟨m, rfl⟩ := Int.eq_ofNat_of_zero_le h0
  have hm : 0 < m := by omega
  have d2 : decide (0 < (m : Int)) = true := decide_eq_true (by omega)
  have d3 : 0 < (m : Int) := by omega
  have hr : ∀ ty, (Builtin.append_ #[53, 3] ty #[.slice none 0 0, .int .i64 (m : Int)]).run Tryz.prog w = _ := fun ty => Lib.run_append_nil_zeros w 53 3 ty 95 i0 (.agg #[.int .i64 0, .int .i64 0, .int .i64 0, .int .i64 0, .int .i64 0, .int .i64 0, .int .i64 0, .bool false]) .i64 .i64 Tryz.underlying53 Tryz.underlying3 hi hz0 m hm (by omega) (by omega) (by rw [hz2]; omega)
  obtain ⟨c, hc⟩ : ∃ c, grownCap w m 0 95 = c := ⟨_, rfl⟩
  have hc1 : m ≤ c := by rw [← hc]; exact grownCap_ge w m 0 _
  have hc2 : c ≤ maxLen := by rw [← hc]; exact grownCap_le_maxLen w m 0 _ (by unfold maxLen; omega)
  rw [hc] at hr
  replace hc : Hid _ := hc
  obtain ⟨w1, hw1⟩ : ∃ w1, w1 = w.drew.alloc (.cells (Builtin.zeroCells (Value.cells (.agg #[.int .i64 0, .int .i64 0, .int .i64 0, .int .i64 0, .int .i64 0, .int .i64 0, .int .i64 0, .bool false])) m ++ Builtin.zeroCells (Value.cells (.agg #[.int .i64 0, .int .i64 0, .int .i64 0, .int .i64 0, .int .i64 0, .int .i64 0, .int .i64 0, .bool false])) (c - m)) 95) := ⟨_, rfl⟩
  have B1 : Below w.heap.size w w1 := by
    rw [hw1]
    exact ((Below.refl _ _).drew).alloc (by simp) _
  have O1 : FOwn ouEnc 8 95 w.heap.size w1 (.slice (some ⟨w.heap.size, 0, none⟩) 0 c) [] := by
    refine ⟨by simp [fcells], .inr ⟨w.heap.size, c, Builtin.zeroCells (Value.cells (.agg #[.int .i64 0, .int .i64 0, .int .i64 0, .int .i64 0, .int .i64 0, .int .i64 0, .int .i64 0, .bool false])) m ++ Builtin.zeroCells (Value.cells (.agg #[.int .i64 0, .int .i64 0, .int .i64 0, .int .i64 0, .int .i64 0, .int .i64 0, .int .i64 0, .bool false])) (c - m), rfl, Nat.le_refl _, ?_, Nat.zero_le _, hc2, ?_, by simp [fcells]⟩⟩
    · rw [hw1]
      exact heap_newF w.drew _
    · simp [Builtin.zeroCells, Value.cells]
      omega
  rw [← hw1] at hr
  clear hw1
  go_enter Tryz.func123, Tryz.ntmps123
  go_wp2_with (at_builtin; refine Lib.wpList_append_run _ rfl _ _ _ _ rfl _ _ rfl rfl _ _ (hr _) ?_)
  go_wp2
  go_ret
  exact ⟨_, _, rfl, O1, B1⟩
theorem app_len2 {L M : List Ou} : (L ++ M).length = L.length + M.length := List.length_append
set_option maxHeartbeats 8000000 in
theorem concatO (q : Nat) (a1 a2 : Option Addr) (c1 c2 : Nat) (L1 L2 : List Ou) (w : World) (h1 : w.cell? ⟨q, 0, none⟩ = some (.slice a1 L1.length c1)) (h2 : w.cell? ⟨q, 1, none⟩ = some (.slice a2 L2.length c2)) (v1 : FView ouEnc w a1 L1) (v2 : FView ouEnc w a2 L2) (n1 : a1 = none → c1 = 0) (n2 : a2 = none → c2 = 0) (l1 : L1.length ≤ 1048576) (l2 : L2.length ≤ 1048576) :
    Calls Tryz.prog 103 #[.slice (some ⟨q, 0, none⟩) 2 2] w fun e w' => ∃ ad cap, e = .returned (.slice ad (L1 ++ L2).length cap) ∧ FOwn ouEnc 8 95 w.heap.size w' (.slice ad (L1 ++ L2).length cap) (L1 ++ L2) ∧ Below w.heap.size w w' := by
  obtain ⟨i0, hi, hz0, hz1, hz2⟩ := info_parts ouInfo
  have d1 : ¬ (L1.length : Int) < 0 := by omega
  have d2 : ¬ (L1.length : Int) + (L2.length : Int) < 0 := by omega
  have e1 : decide ((L1.length : Int) < 0) = false := decide_eq_false d1
  have e2 : decide ((L1.length : Int) + (L2.length : Int) < 0) = false := decide_eq_false d2
  have hql := World.block_lt_of_cell? w _ h1
  have b1 := v1.lt ouEnc_len (by omega)
  have b2 := v2.lt ouEnc_len (by omega)
  go_enter Tryz.func103, Tryz.ntmps103
  go_wp2
  refine wp_loop_rounds 3 ?_
  rw [rounds_succ]
  go_wp2_with fail
  rw [rounds_succ]
  go_wp2_with fail
  rw [rounds_succ]
  go_wp2_with fail
  go_at_call 123
  refine (growO _ w (by omega) (by omega)).mono ?_
  rintro e y ⟨ad, cap, rfl, O, ky⟩
  have h1 := (World.cell?_of_block (a := ⟨q, 0, none⟩) (ky.block q hql)).trans h1
  have h2 := (World.cell?_of_block (a := ⟨q, 1, none⟩) (ky.block q hql)).trans h2
  have v1 := v1.below ky b1
  have v2 := v2.below ky b2
  have hsz := ky.size
  go_wp2
  refine wp_loop_rounds 3 ?_
  rw [rounds_succ]
  go_wp2_with (first | (at_builtin; refine fappL ouEnc_len ouEnc_ones rfl _ _ 53 rfl w.heap.size 95 i0 (.agg #[.int .i64 0, .int .i64 0, .int .i64 0, .int .i64 0, .int .i64 0, .int .i64 0, .int .i64 0, .bool false]) 64 Tryz.underlying53 hi hz0 hz1 hz2 rfl (by decide) (by decide) (.slice ad 0 cap) [] rfl O a1 c1 L1 rfl n1 v1 ?z0 ?z1 ?_) | go_in)
  case z0 => first | omega | (simp; omega)
  case z1 => exact hsz
  intro v' z O1 g1 _
  replace O1 : FOwn ouEnc 8 95 w.heap.size z v' L1 := O1
  obtain ⟨ad', cap', rfl⟩ := O1.open_
  have ob : ∀ k, (Value.slice ad 0 cap).ownBlock = some k → w.heap.size ≤ k := fun k e => (O.lt k e).1
  have kz : Below w.heap.size w z := ky.grown g1 hsz ob
  have hq2 : z.heap[q]? = y.heap[q]? := g1.block q (by omega) (fun e => by have := ob q e.symm; omega)
  have h2 := (World.cell?_of_block (a := ⟨q, 1, none⟩) hq2).trans h2
  have h1 := (World.cell?_of_block (a := ⟨q, 0, none⟩) hq2).trans h1
  have v2 : FView ouEnc z a2 L2 := v2.carry (fun a e p => g1.block _ (by have := b2 a e p; omega) (fun e2 => by have h3 := ob _ e2.symm; have h4 := b2 a e p; omega))
  have hs2 := kz.size
  clear g1 ob hq2 O ky
  go_wp2_with fail
  rw [rounds_succ]
  go_wp2_with (first | (at_builtin; refine fappL ouEnc_len ouEnc_ones rfl _ _ 53 rfl w.heap.size 95 i0 (.agg #[.int .i64 0, .int .i64 0, .int .i64 0, .int .i64 0, .int .i64 0, .int .i64 0, .int .i64 0, .bool false]) 64 Tryz.underlying53 hi hz0 hz1 hz2 rfl (by decide) (by decide) (.slice ad' L1.length cap') L1 rfl O1 a2 c2 L2 rfl n2 v2 ?y0 ?y1 ?_) | go_in)
  case y0 => first | omega | (simp; omega)
  case y1 => exact hs2
  intro v' x O2 g2 _
  obtain ⟨ad2, cap2, rfl⟩ := O2.open_
  have ob : ∀ k, (Value.slice ad' L1.length cap').ownBlock = some k → w.heap.size ≤ k := fun k e => (O1.lt k e).1
  have kx : Below w.heap.size w x := kz.grown g2 hs2 ob
  clear g2 ob O1 kz h1 h2 v1 v2
  obtain ⟨M, hM⟩ : ∃ M, L1 ++ L2 = M := ⟨_, rfl⟩
  rw [hM] at O2 ⊢
  replace hM : Hid _ := hM
  go_wp2_with fail
  rw [rounds_succ]
  go_wp2
  go_ret
  obtain rfl := hM.out
  exact ⟨_, _, rfl, O2, kx⟩
/-- What was said, as a piece of a list that the call owns. -/
def SdO (base : Nat) (w : World) (a : Option Addr) (c : Nat) (L : List Ou) : Prop := (a = none ∧ c = 0 ∧ L = []) ∨ ∃ (g : Nat) (pre : List Ou) (cap : Nat), a = some ⟨g, pre.length * 8, none⟩ ∧ c + pre.length = cap ∧ FOwn ouEnc 8 95 base w (.slice (some ⟨g, 0, none⟩) (pre ++ L).length cap) (pre ++ L)
theorem SdO.of {base : Nat} {w : World} {a : Option Addr} {c : Nat} {L : List Ou} (h : FOwn ouEnc 8 95 base w (.slice a L.length c) L) : SdO base w a c L := by
  rcases h.2 with ⟨e, h0⟩ | ⟨g, c2, cur, e, _⟩
  · simp only [Value.slice.injEq] at e
    exact .inl ⟨e.1, e.2.2, List.eq_nil_of_length_eq_zero e.2.1⟩
  · simp only [Value.slice.injEq] at e
    obtain ⟨rfl, _, _⟩ := e
    exact .inr ⟨g, [], c, rfl, rfl, h⟩
theorem SdO.view {base : Nat} {w : World} {a : Option Addr} {c : Nat} {L : List Ou} (h : SdO base w a c L) : FView ouEnc w a L := by
  rcases h with ⟨_, _, rfl⟩ | ⟨g, pre, cap, rfl, _, O⟩
  · exact FView.nil
  · have := O.view.2.dropO (k := pre.length) (by simp)
    rwa [List.drop_left] at this
theorem SdO.nil0 {base : Nat} {w : World} {a : Option Addr} {c : Nat} {L : List Ou} (h : SdO base w a c L) (e : a = none) : c = 0 := by
  rcases h with ⟨_, h, _⟩ | ⟨g, pre, cap, e2, _⟩
  · exact h
  · rw [e] at e2; cases e2
theorem SdO.lt {base : Nat} {w : World} {a : Option Addr} {c n : Nat} {L : List Ou} (h : SdO base w a c L) : ∀ k, (Value.slice a n c).ownBlock = some k → base ≤ k ∧ k < w.heap.size := by
  intro k e
  rcases h with ⟨rfl, _, _⟩ | ⟨g, pre, cap, rfl, _, O⟩
  · cases e
  · exact O.lt k e
theorem SdO.keep {base : Nat} {w w' : World} {a : Option Addr} {c : Nat} {L : List Ou} (h : SdO base w a c L) (k : ∀ g, base ≤ g → g < w.heap.size → (∀ n, (Value.slice a n c).ownBlock = some g) → w'.heap[g]? = w.heap[g]?) : SdO base w' a c L := by
  rcases h with h | ⟨g, pre, cap, rfl, hc, O⟩
  · exact .inl h
  · exact .inr ⟨g, pre, cap, rfl, hc, O.keep (fun g2 e => k g2 (O.lt g2 e).1 (O.lt g2 e).2 (fun n => e))⟩
theorem SdO.base {b1 b2 : Nat} {w : World} {a : Option Addr} {c : Nat} {L : List Ou} (h : SdO b1 w a c L) (hb : b2 ≤ b1) : SdO b2 w a c L := by
  rcases h with h | ⟨g, pre, cap, e, hc, O⟩
  · exact .inl h
  · exact .inr ⟨g, pre, cap, e, hc, O.base hb⟩
set_option maxHeartbeats 4000000 in
theorem saidI (a1 a2 : Option Addr) (c1 c2 : Nat) (S L : List Ou) (w : World) (v1 : FView ouEnc w a1 S) (v2 : FView ouEnc w a2 L) (n1 : a1 = none → c1 = 0) (n2 : a2 = none → c2 = 0) (l1 : S.length ≤ 1048576) (l2 : L.length ≤ 1048576) :
    Calls Tryz.prog 66 #[.slice a1 S.length c1, .slice a2 L.length c2] w fun e w' => ∃ a c, e = .returned (.slice a (lastS (S ++ L)).length c) ∧ SdO w.heap.size w' a c (lastS (S ++ L)) ∧ Below w.heap.size w w' := by
  obtain ⟨Q, hQ⟩ : ∃ Q, Q = S ++ L := ⟨_, rfl⟩
  rw [← hQ]
  replace hQ : Hid _ := hQ
  obtain ⟨y, hy⟩ : ∃ y, y = w.alloc (Obj.cells #[.slice a1 S.length c1, .slice a2 L.length c2] 53) := ⟨_, rfl⟩
  have B0 : Below w.heap.size w y := by rw [hy]; exact below_new _
  have h1 : y.cell? ⟨w.heap.size, 0, none⟩ = some (.slice a1 S.length c1) := by rw [hy]; simp [go_sem]
  have h2 : y.cell? ⟨w.heap.size, 1, none⟩ = some (.slice a2 L.length c2) := by rw [hy]; simp [go_sem]
  have v1 := v1.below B0 (v1.lt ouEnc_len (by omega))
  have v2 := v2.below B0 (v2.lt ouEnc_len (by omega))
  go_enter Tryz.func66, Tryz.ntmps66
  go_wp2_with fail
  go_at_call 103
  rw [← hy]
  clear hy
  refine (concatO w.heap.size a1 a2 c1 c2 S L y h1 h2 v1 v2 n1 n2 l1 l2).mono ?_
  rintro e z ⟨ad, cap, rfl, O, kq⟩
  have B1 := B0.trans (kq.mono B0.size)
  have O := O.base B0.size
  have bl : (S ++ L).length ≤ 2097152 := by rw [List.length_append]; omega
  rw [← hQ.out] at O bl ⊢
  clear hQ kq h1 h2 v1 v2 B0
  have hcap := O.capM
  have hcm : cap ≤ maxLen := by
    rcases O.2 with ⟨e, _⟩ | ⟨g, c, cur, e, _, _, _, hm, _⟩
    · simp only [Value.slice.injEq] at e; omega
    · simp only [Value.slice.injEq] at e; omega
  by_cases h40 : Q.length ≤ 40
  · have hw : IntKind.i64.wrap ((Q.length : Int) - 40) = (Q.length : Int) - 40 := by rw [IntKind.wrap_i64]; omega
    have hm : max (0 : Int) ((Q.length : Int) - 40) = 0 := by omega
    have hX : lastS Q = Q := lastS_all h40
    cases ad with
    | none =>
      obtain rfl := O.view.2.none_nil
      obtain rfl := own_noneM O
      go_wp2
      go_ret
      exact ⟨none, 0, by rw [hX]; rfl, .inl ⟨rfl, rfl, hX⟩, B1⟩
    | some a =>
      obtain ⟨g, rfl⟩ : ∃ g, a = ⟨g, 0, none⟩ := by
        rcases O.2 with ⟨e, _⟩ | ⟨g, c, cur, e, _⟩
        · simp at e
        · simp only [Value.slice.injEq, Option.some.injEq] at e; exact ⟨g, e.1⟩
      replace hX : Hid _ := hX
      go_wp2
      go_ret
      exact ⟨_, cap, by rw [hX.out]; rfl, by rw [hX.out]; exact SdO.of O, B1⟩
  · obtain ⟨n, hn⟩ : ∃ n, Q.length = n + 40 := ⟨Q.length - 40, by omega⟩
    have hw : IntKind.i64.wrap ((Q.length : Int) - 40) = (n : Int) := by rw [IntKind.wrap_i64]; omega
    have hm : max (0 : Int) (n : Int) = (n : Int) := by omega
    obtain ⟨g, rfl⟩ : ∃ g, ad = some ⟨g, 0, none⟩ := by
      rcases O.2 with ⟨e, _⟩ | ⟨g, c, cur, e, _⟩
      · simp only [Value.slice.injEq] at e; omega
      · simp only [Value.slice.injEq] at e; exact ⟨g, e.1⟩
    have hX : lastS Q = Q.drop n := by unfold lastS; rw [show Q.length - 40 = n by omega]
    have hl : (lastS Q).length = 40 := by rw [hX, List.length_drop]; omega
    have hpre : (Q.take n).length = n := by rw [List.length_take]; omega
    have hS : SdO w.heap.size z (some ⟨g, n * 8, none⟩) (cap - n) (lastS Q) := .inr ⟨g, Q.take n, cap, by rw [hpre], by rw [hpre]; omega, by rw [hX, List.take_append_drop]; exact O⟩
    replace hX : Hid _ := hX
    replace hl : Hid _ := hl
    replace hS : Hid _ := hS
    replace hpre : Hid _ := hpre
    have hlt : n < cap := by omega
    have hq2 : n ≤ Q.length := by omega
    have hn2 : Q.length - n = 40 := by omega
    replace hn : Hid _ := hn
    clear O
    go_wp2
    go_ret
    exact ⟨_, _, by rw [hl.out]; rfl, hS.out, B1⟩

end Go.Proofs.YtijhpfccjaaalaaGreat
namespace Go.Proofs.YtijhpfccjaaalaaGreat
open Go.ChangeShapes Go.WideShapes Go.ChangeAt Go.RowKit
open Go.ChangeMaps (open_string shut_string)
set_option linter.unusedVariables false
set_option maxRecDepth 100000

theorem SdO.ap {X : Type} {e1 : X → List Value} {n1 : Nat} {T1 : TypeId} {b1 b2 : Nat} {w : World} {v1 : Value} {L1 : List X} {a : Option Addr} {c : Nat} {L : List Ou} (h1 : FOwn e1 n1 T1 b1 w v1 L1) (h2 : SdO b2 w a c L) (hT : T1 ≠ 95) {g : Nat} (e : v1.ownBlock = some g) (n : Nat) : (Value.slice a n c).ownBlock ≠ some g := by
  rcases h2 with ⟨rfl, _, _⟩ | ⟨g2, pre, cap, rfl, _, O⟩
  · intro e2; cases e2
  · intro e2
    exact h1.apart O hT e e2
/-- A box whose memory is its own, but for what was said, which is a piece of a list. -/
structure BxP (lo mid hi : Nat) (w : World) (x : BxD) : Prop where
  t : MOwn lo mid w (.slice x.aT x.two.length x.cT) x.two
  n : FOwn wiEnc 12 152 mid w (.slice x.aN x.net.length x.cN) x.net
  g : FOwn boEnc 1 4 mid w (.slice x.aG x.ga.length x.cG) x.ga
  i : FOwn ikEnc 8 138 mid w (.slice x.aL x.ln.length x.cL) x.ln
  s : SdO mid w x.aS x.cS x.sd
  nh : ∀ b, (Value.slice x.aN x.net.length x.cN).ownBlock = some b → b < hi
  gh : ∀ b, (Value.slice x.aG x.ga.length x.cG).ownBlock = some b → b < hi
  ih : ∀ b, (Value.slice x.aL x.ln.length x.cL).ownBlock = some b → b < hi
  sh : ∀ b, (Value.slice x.aS x.sd.length x.cS).ownBlock = some b → b < hi
  lm : lo ≤ mid
  mh : mid ≤ hi
theorem BxN.pc {lo mid hi : Nat} {w : World} {x : BxD} (h : BxN lo mid hi w x) : BxP lo mid hi w x := ⟨h.t, h.n, h.g, h.i, SdO.of h.s, h.nh, h.gh, h.ih, h.sh, h.lm, h.mh⟩
theorem BxP.keep {lo mid hi : Nat} {w w' : World} {x : BxD} (h : BxP lo mid hi w x) (k : ∀ g, lo ≤ g → g < hi → w'.heap[g]? = w.heap[g]?) : BxP lo mid hi w' x := by
  have h1 := h.lm
  have h2 := h.mh
  exact ⟨h.t.keep (fun g p q => k g p (by omega)), h.n.keep (fun g e => k g (by have := (h.n.lt g e).1; omega) (h.nh g e)), h.g.keep (fun g e => k g (by have := (h.g.lt g e).1; omega) (h.gh g e)), h.i.keep (fun g e => k g (by have := (h.i.lt g e).1; omega) (h.ih g e)), h.s.keep (fun g p q e => k g (by omega) (h.sh g (e _))), h.nh, h.gh, h.ih, h.sh, h1, h2⟩
theorem BxP.below {lo mid hi B : Nat} {w w' : World} {x : BxD} (h : BxP lo mid hi w x) (k : Below B w w') (hB : hi ≤ B) : BxP lo mid hi w' x := h.keep fun g _ hg => k.block _ (by omega)
theorem BxP.in_ {lo mid hi : Nat} {w : World} {x : BxD} (h : BxP lo mid hi w x) (k : BxSm x) : BxIn w x := by
  have hm : (1048576 : Nat) ≤ maxLen := by unfold maxLen; omega
  exact ⟨h.t.view.2, Nat.le_trans k.t hm, fun i hi => Nat.le_trans (k.ls i hi) hm, h.t.row.capM, fun e => own_noneM (by have := h.t.row; rw [e] at this; exact this), h.n.view.2, Nat.le_trans k.n hm, fun e => own_noneM (by have := h.n; rw [e] at this; exact this), h.g.view.2, Nat.le_trans k.g hm, fun e => own_noneM (by have := h.g; rw [e] at this; exact this), h.i.view.2, Nat.le_trans k.i hm, fun e => own_noneM (by have := h.i; rw [e] at this; exact this), h.s.view, Nat.le_trans k.s hm, fun e => h.s.nil0 e⟩
set_option maxHeartbeats 4000000 in
theorem ouMarkP (ad : Option Addr) (cap : Nat) (s : Int) (base : Nat) (L : List Ou) (w : World) (hr : SdO base w ad cap L) (hl : L.length ≤ 1048576) (s0 : 0 ≤ s) (s1 : s ≤ 1000000000000) :
    Calls Tryz.prog 28 #[.slice ad L.length cap, .int .i64 s] w fun e w' => e = .returned (.int .i64 (s + 8 * (L.length : Int))) ∧ SdO base w' ad cap ((List.range L.length).map (ouMk s)) ∧ w.grownBy w' (Value.slice ad L.length cap).ownBlock := by
  by_cases hz : L.length = 0
  · obtain rfl : L = [] := List.eq_nil_of_length_eq_zero hz
    go_enter Tryz.func28, Tryz.ntmps28
    go_wp2
    refine wp_loop_rounds 1 ?_; rw [rounds_succ]
    go_wp2
    go_ret
    exact ⟨by simp, hr, ⟨rfl, rfl, rfl, Nat.le_refl _, fun _ _ _ => rfl⟩⟩
  obtain ⟨g, pre, cp, rfl, hcp, hrO⟩ : ∃ (g : Nat) (pre : List Ou) (cp : Nat), ad = some ⟨g, pre.length * 8, none⟩ ∧ cap + pre.length = cp ∧ FOwn ouEnc 8 95 base w (.slice (some ⟨g, 0, none⟩) (pre ++ L).length cp) (pre ++ L) := by
    rcases hr with ⟨_, _, rfl⟩ | h
    · exact absurd rfl hz
    · exact h
  have M0 : FOwn ouEnc 8 95 base w (.slice (some ⟨g, 0, none⟩) (pre ++ L).length cp) (pre ++ markd (ouMk s) L 0) := by rw [markd_zero]; exact hrO
  have g0 : w.grownBy w (some g) := ⟨rfl, rfl, rfl, Nat.le_refl _, fun _ _ _ => rfl⟩
  clear hr hz hrO
  go_enter Tryz.func28, Tryz.ntmps28
  go_wp2
  go_loopw [1, 5] (fun q i wr => ∃ k : Nat, k ≤ L.length ∧ i = .int .i64 k ∧ q = .int .i64 (s + 8 * (k : Int)) ∧ FOwn ouEnc 8 95 base wr (.slice (some ⟨g, 0, none⟩) (pre ++ L).length cp) (pre ++ markd (ouMk s) L k) ∧ w.grownBy wr (some g)) (fun _ i _ => L.length - (intOf i).toNat)
  case atStart => exact ⟨0, Nat.zero_le _, rfl, by simp, M0, g0⟩
  case round =>
    obtain ⟨k, hk, rfl, rfl, M, gr⟩ := hrel
    clear M0 g0
    have hml := markd_len (mk := ouMk s) hk
    by_cases hlt : k < L.length
    · have hmp : (pre ++ markd (ouMk s) L k).length = (pre ++ L).length := by rw [List.length_append, List.length_append, hml]
      rw [← hmp] at M
      have hk2 : pre.length + k < (pre ++ markd (ouMk s) L k).length := by rw [hmp, List.length_append]; omega
      obtain ⟨h, hh⟩ : ∃ h, (pre ++ markd (ouMk s) L k).getD (pre.length + k) Ou.nil = h := ⟨_, rfl⟩
      have hck : OuAtO wr g (pre.length * 8 + k * 8) h := by
        rw [← hh]
        exact ouAtO_of (by rw [← Nat.add_mul]; exact M.cell ouEnc_len Ou.nil hk2)
      have ff := M.frozen
      have f0 := ff (pre.length * 8 + k * 8)
      have f1 := ff (pre.length * 8 + k * 8 + 1)
      have f2 := ff (pre.length * 8 + k * 8 + 2)
      have f3 := ff (pre.length * 8 + k * 8 + 3)
      have f4 := ff (pre.length * 8 + k * 8 + 4)
      have f5 := ff (pre.length * 8 + k * 8 + 5)
      have f6 := ff (pre.length * 8 + k * 8 + 6)
      have f7 := ff (pre.length * 8 + k * 8 + 7)
      have M1 := M.set ouEnc_len (by omega) hk2 (ouMk s k)
      rw [Nat.add_mul, List.set_append_right _ _ (by omega), show pre.length + k - pre.length = k by omega, markd_set hlt, ouPut, hmp] at M1
      have G1 := grown_putAll (ouEnc (ouMk s k)) (pre.length * 8 + k * 8) gr
      rw [ouPut] at G1
      unfold ouMk at M1 G1
      dsimp only at M1 G1
      clear M gr ff hh hml hk2 hmp
      obtain ⟨c0, c1, c2, c3, c4, c5, c6, c7⟩ := hck
      generalize hK : s + 8 * (k : Int) = K at M1 G1 ⊢
      have K0 : 0 ≤ K := by omega
      have K1 : K ≤ 1100000000000 := by omega
      replace hK : Hid _ := hK
      go_wp2
      go_roundw
      case rel => exact ⟨k + 1, by omega, by go_num, by have := hK.out; go_num, M1, G1⟩
      case measure => simp [intOf]; omega
    · obtain rfl : k = L.length := by omega
      rw [markd_all] at M
      have hml2 : (pre ++ (List.range L.length).map (ouMk s)).length = (pre ++ L).length := by simp
      rw [← hml2] at M
      clear hml2
      go_wp2
      go_ret
      exact ⟨rfl, .inr ⟨g, pre, cp, rfl, hcp, M⟩, gr⟩
set_option maxHeartbeats 4000000 in
theorem bxMarkP (x : BxD) (lo mid hi : Nat) (w : World) (M : BxP lo mid hi w x) (K : BxSm x) (hs : hi ≤ w.heap.size) :
    Calls Tryz.prog 27 #[.agg #[.int .i64 x.id, .int .i64 x.po, .int .i64 x.rg.ep, .int .i64 x.rg.ow, .int .i64 x.rg.pa, .slice x.aT x.two.length x.cT, .slice x.aN x.net.length x.cN, .slice x.aG x.ga.length x.cG, .slice x.aL x.ln.length x.cL, .slice x.aS x.sd.length x.cS], .int .i64 1] w fun e w' => e = .returned (.int .i64 (kE x)) ∧ BxP lo mid hi w' (bxMk x) ∧ KeptM lo hi w w' := by
  obtain ⟨y, hy⟩ : ∃ y, y = w.alloc (Obj.cells #[.int .i64 x.id, .int .i64 x.po, .int .i64 x.rg.ep, .int .i64 x.rg.ow, .int .i64 x.rg.pa, .slice x.aT x.two.length x.cT, .slice x.aN x.net.length x.cN, .slice x.aG x.ga.length x.cG, .slice x.aL x.ln.length x.cL, .slice x.aS x.sd.length x.cS] 55) := ⟨_, rfl⟩
  have B0 : Below w.heap.size w y := by rw [hy]; exact below_new _
  have A : BxAt y w.heap.size x := by rw [hy]; exact BxAt.new w _ x
  have sy := A.lt
  have M := M.below B0 hs
  have hmh := M.mh
  have hlm := M.lm
  go_enter Tryz.func27, Tryz.ntmps27
  have cc := A
  obtain ⟨a0, a1, a2, a3, a4, a5, a6, a7, a8, a9⟩ := cc
  go_wp2_with fail
  go_at_call 73
  rw [← hy]
  clear a0 a1 a2 a3 a4 a5 a6 a7 a8 a9 hy
  refine (mdMark x.aT x.cT x.two 1 lo mid y M.t (by have := M.mh; omega) K.t K.l (by decide) (by decide)).mono ?_
  rintro e u0 ⟨rfl, OT, kr⟩
  have hb : ∀ g, g < y.heap.size → (g < lo ∨ mid ≤ g) → u0.heap[g]? = y.heap[g]? := fun g h1 h2 => kr.block g h1 h2
  have sz := kr.size
  have A := A.keep (hb _ A.lt (by omega))
  have KR : KeptM lo hi y u0 := kr.wide (Nat.le_refl _) M.mh
  have ON := M.n.keep (fun g e => hb g (M.n.lt g e).2 (.inr (M.n.lt g e).1))
  have OG := M.g.keep (fun g e => hb g (M.g.lt g e).2 (.inr (M.g.lt g e).1))
  have OL := M.i.keep (fun g e => hb g (M.i.lt g e).2 (.inr (M.i.lt g e).1))
  have OS := M.s.keep (fun g p q e => hb g q (.inr p))
  clear kr hb
  have hkl := k_le K
  rw [show (1 : Int) + (kToM x.two x.two.length : Int) = kN x from rfl]
  have cc := A
  obtain ⟨a0, a1, a2, a3, a4, a5, a6, a7, a8, a9⟩ := cc
  go_wp2_with fail
  go_at_call 74
  clear a0 a1 a2 a3 a4 a5 a6 a7 a8 a9
  refine (wiMark x.aN x.cN (kN x) mid x.net u0 ON K.n (by omega) (by omega)).mono ?_
  rintro e u1 ⟨rfl, ON', gr⟩
  have lb : ∀ g, (Value.slice x.aN x.net.length x.cN).ownBlock = some g → mid ≤ g ∧ g < hi := fun g e => ⟨(ON.lt g e).1, M.nh g e⟩
  have A := A.keep (gr.block _ A.lt (fun e => by have := lb _ e.symm; omega))
  have OT := OT.keep (fun g h1 h2 => gr.block g (by omega) (fun e => by have := lb _ e.symm; omega))
  have KR := KR.trans (KeptM.of_grown gr (fun k e => by have := lb k e; omega))
  have OG := OG.keep (fun g e => gr.block g (OG.lt g e).2 (fun e2 => ON.apartN OG (by decide) e2.symm e))
  have OL := OL.keep (fun g e => gr.block g (OL.lt g e).2 (fun e2 => ON.apartN OL (by decide) e2.symm e))
  have OS := OS.keep (fun g p q e => gr.block g q (fun e2 => SdO.ap ON OS (by decide) e2.symm 0 (e 0)))
  have sz1 := gr.size
  clear gr lb ON
  have ON := ON'
  clear ON'
  rw [show kN x + 12 * (x.net.length : Int) = kG x from rfl]
  have cc := A
  obtain ⟨a0, a1, a2, a3, a4, a5, a6, a7, a8, a9⟩ := cc
  go_wp2_with fail
  go_at_call 75
  clear a0 a1 a2 a3 a4 a5 a6 a7 a8 a9
  refine (boMark x.aG x.cG (kG x) mid x.ga u1 OG K.g (by omega) (by omega)).mono ?_
  rintro e u2 ⟨rfl, OG', gr⟩
  have lb : ∀ g, (Value.slice x.aG x.ga.length x.cG).ownBlock = some g → mid ≤ g ∧ g < hi := fun g e => ⟨(OG.lt g e).1, M.gh g e⟩
  have A := A.keep (gr.block _ A.lt (fun e => by have := lb _ e.symm; omega))
  have OT := OT.keep (fun g h1 h2 => gr.block g (by omega) (fun e => by have := lb _ e.symm; omega))
  have KR := KR.trans (KeptM.of_grown gr (fun k e => by have := lb k e; omega))
  have ON := ON.keep (fun g e => gr.block g (ON.lt g e).2 (fun e2 => OG.apartN ON (by decide) e2.symm e))
  have OL := OL.keep (fun g e => gr.block g (OL.lt g e).2 (fun e2 => OG.apartN OL (by decide) e2.symm e))
  have OS := OS.keep (fun g p q e => gr.block g q (fun e2 => SdO.ap OG OS (by decide) e2.symm 0 (e 0)))
  have sz2 := gr.size
  clear gr lb OG
  have OG := OG'
  clear OG'
  rw [show kG x + (x.ga.length : Int) = kI x from rfl]
  have cc := A
  obtain ⟨a0, a1, a2, a3, a4, a5, a6, a7, a8, a9⟩ := cc
  go_wp2_with fail
  go_at_call 76
  clear a0 a1 a2 a3 a4 a5 a6 a7 a8 a9
  refine (ikMark x.aL x.cL (kI x) mid x.ln u2 OL K.i (by omega) (by omega)).mono ?_
  rintro e u3 ⟨rfl, OL', gr⟩
  have lb : ∀ g, (Value.slice x.aL x.ln.length x.cL).ownBlock = some g → mid ≤ g ∧ g < hi := fun g e => ⟨(OL.lt g e).1, M.ih g e⟩
  have A := A.keep (gr.block _ A.lt (fun e => by have := lb _ e.symm; omega))
  have OT := OT.keep (fun g h1 h2 => gr.block g (by omega) (fun e => by have := lb _ e.symm; omega))
  have KR := KR.trans (KeptM.of_grown gr (fun k e => by have := lb k e; omega))
  have ON := ON.keep (fun g e => gr.block g (ON.lt g e).2 (fun e2 => OL.apartN ON (by decide) e2.symm e))
  have OG := OG.keep (fun g e => gr.block g (OG.lt g e).2 (fun e2 => OL.apartN OG (by decide) e2.symm e))
  have OS := OS.keep (fun g p q e => gr.block g q (fun e2 => SdO.ap OL OS (by decide) e2.symm 0 (e 0)))
  have sz3 := gr.size
  clear gr lb OL
  have OL := OL'
  clear OL'
  rw [show kI x + 8 * (x.ln.length : Int) = kS x from rfl]
  have cc := A
  obtain ⟨a0, a1, a2, a3, a4, a5, a6, a7, a8, a9⟩ := cc
  go_wp2_with fail
  go_at_call 28
  clear a0 a1 a2 a3 a4 a5 a6 a7 a8 a9
  refine (ouMarkP x.aS x.cS (kS x) mid x.sd u3 OS K.s (by omega) (by omega)).mono ?_
  rintro e u4 ⟨rfl, OS', gr⟩
  have lb : ∀ g, (Value.slice x.aS x.sd.length x.cS).ownBlock = some g → mid ≤ g ∧ g < hi := fun g e => ⟨(OS.lt g e).1, M.sh g e⟩
  have A := A.keep (gr.block _ A.lt (fun e => by have := lb _ e.symm; omega))
  have OT := OT.keep (fun g h1 h2 => gr.block g (by omega) (fun e => by have := lb _ e.symm; omega))
  have KR := KR.trans (KeptM.of_grown gr (fun k e => by have := lb k e; omega))
  have ON := ON.keep (fun g e => gr.block g (ON.lt g e).2 (fun e2 => SdO.ap ON OS (by decide) e _ e2.symm))
  have OG := OG.keep (fun g e => gr.block g (OG.lt g e).2 (fun e2 => SdO.ap OG OS (by decide) e _ e2.symm))
  have OL := OL.keep (fun g e => gr.block g (OL.lt g e).2 (fun e2 => SdO.ap OL OS (by decide) e _ e2.symm))
  have sz4 := gr.size
  clear gr lb OS
  have OS := OS'
  clear OS'
  rw [show kS x + 8 * (x.sd.length : Int) = kE x from rfl]
  have hT : MOwn lo mid u4 (.slice x.aT (marksM x.two 1 x.two.length).length x.cT) (marksM x.two 1 x.two.length) := by rw [marksM_len]; exact OT
  go_wp2
  go_ret
  refine ⟨rfl, ⟨hT, by show FOwn _ _ _ _ _ (.slice _ (List.map _ _).length _) _; rw [List.length_map, List.length_range]; exact ON, by show FOwn _ _ _ _ _ (.slice _ (List.map _ _).length _) _; rw [List.length_map, List.length_range]; exact OG, by show FOwn _ _ _ _ _ (.slice _ (List.map _ _).length _) _; rw [List.length_map, List.length_range]; exact OL, OS, by show ∀ b, (Value.slice _ (List.map _ _).length _).ownBlock = some b → b < hi; rw [List.length_map, List.length_range]; exact M.nh, by show ∀ b, (Value.slice _ (List.map _ _).length _).ownBlock = some b → b < hi; rw [List.length_map, List.length_range]; exact M.gh, by show ∀ b, (Value.slice _ (List.map _ _).length _).ownBlock = some b → b < hi; rw [List.length_map, List.length_range]; exact M.ih, by show ∀ b, (Value.slice _ (List.map _ _).length _).ownBlock = some b → b < hi; rw [List.length_map, List.length_range]; exact M.sh, M.lm, M.mh⟩, ?_⟩
  exact ⟨KR.os.trans B0.os, KR.tape.trans B0.tape, KR.output.trans B0.output, Nat.le_trans B0.size KR.size, fun k hk h2 => (KR.block k (by have := B0.size; omega) h2).trans (B0.block k hk)⟩

end Go.Proofs.YtijhpfccjaaalaaGreat
namespace Go.Proofs.YtijhpfccjaaalaaGreat
open Go.ChangeShapes Go.WideShapes Go.ChangeAt Go.RowKit
open Go.ChangeMaps (open_string shut_string)
set_option linter.unusedVariables false
set_option maxRecDepth 100000

set_option maxHeartbeats 8000000 in
theorem acceptI (x : BxD) (s : Int) (aO : Option Addr) (cO : Nat) (L : List Ou) (w : World) (hV : BxV w x) (bg0 : x.ga.length ≤ 1048576) (bs0 : x.sd.length ≤ 1048576) (hL : FView ouEnc w aO L) (hn : aO = none → cO = 0) (hl : L.length ≤ 1048576) :
    Calls Tryz.prog 24 #[.agg #[.int .i64 x.id, .int .i64 x.po, .int .i64 x.rg.ep, .int .i64 x.rg.ow, .int .i64 x.rg.pa, .slice x.aT x.two.length x.cT, .slice x.aN x.net.length x.cN, .slice x.aG x.ga.length x.cG, .slice x.aL x.ln.length x.cL, .slice x.aS x.sd.length x.cS], .int .i64 s, .slice aO L.length cO] w fun e w' => ∃ x3 : BxD, ∃ mid : Nat, e = .returned (.agg #[.int .i64 x3.id, .int .i64 x3.po, .int .i64 x3.rg.ep, .int .i64 x3.rg.ow, .int .i64 x3.rg.pa, .slice x3.aT x3.two.length x3.cT, .slice x3.aN x3.net.length x3.cN, .slice x3.aG x3.ga.length x3.cG, .slice x3.aL x3.ln.length x3.cL, .slice x3.aS x3.sd.length x3.cS]) ∧ x3.p = accX x.p s L ∧ BxP w.heap.size mid w'.heap.size w' x3 ∧ Below w.heap.size w w' := by
  obtain ⟨y, hy⟩ : ∃ y, y = (w.alloc (Obj.cells #[.int .i64 x.id, .int .i64 x.po, .int .i64 x.rg.ep, .int .i64 x.rg.ow, .int .i64 x.rg.pa, .slice x.aT x.two.length x.cT, .slice x.aN x.net.length x.cN, .slice x.aG x.ga.length x.cG, .slice x.aL x.ln.length x.cL, .slice x.aS x.sd.length x.cS] 55)).alloc (Obj.cells #[.int .i64 0, .int .i64 0, .int .i64 0, .int .i64 0, .int .i64 0, .slice none 0 0, .slice none 0 0, .slice none 0 0, .slice none 0 0, .slice none 0 0] 55) := ⟨_, rfl⟩
  have B : Below w.heap.size w y := by rw [hy]; exact ((Below.refl _ _).alloc (Nat.le_refl _) _).alloc (by simp) _
  have A : BxAt y w.heap.size x := by rw [hy]; constructor <;> simp [go_sem]
  have Z : BxB y (w.heap.size + 1) BxD.zero := by rw [hy]; refine ⟨?_, fun i => ?_⟩; constructor <;> simp [go_sem, BxD.zero]; simp [go_sem]
  have V := hV.later B
  have zA := A.lt
  have zZ := Z.lt
  have hL0 := hL.lt ouEnc_len (by omega)
  clear hV
  go_enter Tryz.func24, Tryz.ntmps24
  have cc := A
  obtain ⟨a0, a1, a2, a3, a4, a5, a6, a7, a8, a9⟩ := cc
  go_wp2_with fail
  go_at_call 63
  rw [← hy]
  clear hy a0 a1 a2 a3 a4 a5 a6 a7 a8 a9
  refine (copBoxI x y V).mono ?_
  rintro e u1 ⟨x2, mid, rfl, p2, M, kq⟩
  replace p2 : Hid _ := p2
  have A := A.below kq A.lt
  have Z := Z.below kq Z.lt
  have V := V.later kq
  have B := B.trans (kq.mono B.size)
  have z1 := kq.size
  clear kq
  obtain ⟨u2, hu2⟩ : ∃ y_, y_ = u1.alloc (Obj.cells #[.int .i64 x2.id, .int .i64 x2.po, .int .i64 x2.rg.ep, .int .i64 x2.rg.ow, .int .i64 x2.rg.pa, .slice x2.aT x2.two.length x2.cT, .slice x2.aN x2.net.length x2.cN, .slice x2.aG x2.ga.length x2.cG, .slice x2.aL x2.ln.length x2.cL, .slice x2.aS x2.sd.length x2.cS] 55) := ⟨_, rfl⟩
  have kq : Below u1.heap.size u1 u2 := by rw [hu2]; exact below_new _
  have Q : BxB u2 u1.heap.size x2 := by rw [hu2]; refine ⟨BxAt.new u1 _ x2, fun i => ?_⟩; simp [go_sem]
  go_upto_region 2 with fail
  rw [← hu2]
  clear hu2
  obtain ⟨q7, hq7⟩ : ∃ q, q = u1.heap.size := ⟨_, rfl⟩
  rw [← hq7] at Q M ⊢
  have hq71 := Nat.le_of_eq hq7
  replace hq7 := Nat.le_of_eq hq7.symm
  have A := A.below kq A.lt
  have Z := Z.below kq Z.lt
  have V := V.later kq
  have M := M.below kq (by omega)
  have B := B.trans (kq.mono B.size)
  have z2 := Q.lt
  clear kq
  have cc := A
  obtain ⟨a0, a1, a2, a3, a4, a5, a6, a7, a8, a9⟩ := cc
  go_wp2_with fail
  go_at_call 64
  clear a0 a1 a2 a3 a4 a5 a6 a7 a8 a9
  refine (mindsAtI x s u2 V).mono ?_
  rintro e u3 ⟨rfl, kq⟩
  have Z := Z.below kq Z.lt
  have Q := Q.below kq Q.lt
  have M := M.below kq (by omega)
  have B := B.trans (kq.mono B.size)
  have z3 := kq.size
  clear kq A V
  have hlm := M.lm
  have hmh := M.mh
  cases hm : mindsX x.p s
  · have hX : Hid (x2.p = accX x.p s L) := by unfold Hid accX; rw [hm, p2.out]; rfl
    replace hm : Hid _ := hm
    have M := M.pc
    obtain ⟨W9, hW9⟩ : ∃ y_, y_ = ((((((((((u3.setCell ⟨(w.heap.size + 1), 0, none⟩ (.int .i64 x2.id)).setCell ⟨(w.heap.size + 1), 1, none⟩ (.int .i64 x2.po)).setCell ⟨(w.heap.size + 1), 2, none⟩ (.int .i64 x2.rg.ep)).setCell ⟨(w.heap.size + 1), 3, none⟩ (.int .i64 x2.rg.ow)).setCell ⟨(w.heap.size + 1), 4, none⟩ (.int .i64 x2.rg.pa)).setCell ⟨(w.heap.size + 1), 5, none⟩ (.slice x2.aT x2.two.length x2.cT)).setCell ⟨(w.heap.size + 1), 6, none⟩ (.slice x2.aN x2.net.length x2.cN)).setCell ⟨(w.heap.size + 1), 7, none⟩ (.slice x2.aG x2.ga.length x2.cG)).setCell ⟨(w.heap.size + 1), 8, none⟩ (.slice x2.aL x2.ln.length x2.cL)).setCell ⟨(w.heap.size + 1), 9, none⟩ (.slice x2.aS x2.sd.length x2.cS)) := ⟨_, rfl⟩
    have z9 : u3.heap.size ≤ W9.heap.size := by rw [hW9]; simp
    have hN9 : BxP w.heap.size mid W9.heap.size W9 x2 := by
      have h := M.keep (w' := W9) (fun g h1 h2 => by rw [hW9]; exact heap_put10 u3 (w.heap.size + 1) g x2 (by omega))
      exact ⟨h.t.wide (by omega) (Nat.le_refl _), h.n, h.g, h.i, h.s, fun g e => Nat.lt_of_lt_of_le (h.nh g e) (by omega), fun g e => Nat.lt_of_lt_of_le (h.gh g e) (by omega), fun g e => Nat.lt_of_lt_of_le (h.ih g e) (by omega), fun g e => Nat.lt_of_lt_of_le (h.sh g e) (by omega), by have := h.lm; omega, by have := h.mh; omega⟩
    have B9 : Below w.heap.size w W9 := by rw [hW9]; exact below_put10 (q := w.heap.size + 1) x2 B (by omega)
    clear M z9
    obtain ⟨⟨r0, r1, r2, r3, r4, r5, r6, r7, r8, r9⟩, rf⟩ := Z
    dsimp only [BxD.zero] at r0 r1 r2 r3 r4 r5 r6 r7 r8 r9
    have g0 := rf 0
    have g1 := rf 1
    have g2 := rf 2
    have g3 := rf 3
    have g4 := rf 4
    have g5 := rf 5
    have g6 := rf 6
    have g7 := rf 7
    have g8 := rf 8
    have g9 := rf 9
    clear rf
    have cc := Q
    obtain ⟨⟨a0, a1, a2, a3, a4, a5, a6, a7, a8, a9⟩, af⟩ := cc
    clear af Q
    go_wp2
    refine bodyPost_ret (v := .agg #[.int .i64 x2.id, .int .i64 x2.po, .int .i64 x2.rg.ep, .int .i64 x2.rg.ow, .int .i64 x2.rg.pa, .slice x2.aT x2.two.length x2.cT, .slice x2.aN x2.net.length x2.cN, .slice x2.aG x2.ga.length x2.cG, .slice x2.aL x2.ln.length x2.cL, .slice x2.aS x2.sd.length x2.cS]) (by simp [results, Tryz.results24, go_sem, *]) rfl ⟨x2, mid, rfl, hX.out, by rw [← hW9]; exact hN9, by rw [← hW9]; exact B9⟩
  · replace hm : Hid _ := hm
    have bg : x2.ga.length ≤ 1048576 := by have h := congrArg (fun b => b.ga.length) p2.out; have h2 : x2.ga.length = x.ga.length := h; omega
    have bs : x2.sd.length ≤ 1048576 := by have h := congrArg (fun b => b.sd.length) p2.out; have h2 : x2.sd.length = x.sd.length := h; omega
    have hL3 := hL.below B hL0
    have cc := Q
    obtain ⟨⟨a0, a1, a2, a3, a4, a5, a6, a7, a8, a9⟩, af⟩ := cc
    clear af
    go_wp2_with fail
    go_at_call 65
    clear a0 a1 a2 a3 a4 a5 a6 a7 a8 a9
    refine (turnGI x2.aG x2.cG x2.ga aO cO L mid u3 M.g hL3 (fun a e p g e2 => by have h1 := hL0 a e p; have h2 := (M.g.lt g e2).1; omega) hl bg).mono ?_
    rintro e u4 ⟨rfl, OG, gr⟩
    have lb : ∀ g, (Value.slice x2.aG x2.ga.length x2.cG).ownBlock = some g → mid ≤ g ∧ g < q7 := fun g e => ⟨(M.g.lt g e).1, M.gh g e⟩
    obtain ⟨G, hG⟩ : ∃ G, G = L.foldl gateX x2.ga := ⟨_, rfl⟩
    rw [← hG] at OG
    have hGl : G.length = x2.ga.length := by rw [hG]; exact gateX_len L x2.ga
    have Z := Z.keep (gr.block _ Z.lt (fun e => by have := lb _ e.symm; omega))
    have Q := Q.keep (gr.block _ Q.lt (fun e => by have := lb _ e.symm; omega))
    have B := B.grown gr (by have := B.size; omega) (fun k e => by have := lb k e; omega)
    have hL4 := hL.below B hL0
    have T4 := M.t.keep (fun g h1 h2 => gr.block g (by omega) (fun e => by have := lb _ e.symm; omega))
    have N4 := M.n.keep (fun g e => gr.block g (M.n.lt g e).2 (fun e2 => M.g.apartN M.n (by decide) e2.symm e))
    have I4 := M.i.keep (fun g e => gr.block g (M.i.lt g e).2 (fun e2 => M.g.apartN M.i (by decide) e2.symm e))
    have S4 := M.s.keep (fun g e => gr.block g (M.s.lt g e).2 (fun e2 => M.g.apartN M.s (by decide) e2.symm e))
    have z4 := gr.size
    replace hGl : Hid _ := hGl
    replace hG : Hid _ := hG
    have M : BxN y.heap.size mid q7 u4 { x2 with ga := G } := ⟨T4, N4, by show FOwn _ _ _ _ _ (.slice _ G.length _) _; rw [hGl.out]; exact OG, I4, S4, M.nh, fun b e => M.gh b (by rw [← hGl.out]; exact e), M.ih, M.sh, M.lm, M.mh⟩
    have Q : BxB u4 q7 { x2 with ga := G } := ⟨⟨Q.at_.c0, Q.at_.c1, Q.at_.c2, Q.at_.c3, Q.at_.c4, Q.at_.c5, Q.at_.c6, by show _ = some (Value.slice _ G.length _); rw [hGl.out]; exact Q.at_.c7, Q.at_.c8, Q.at_.c9⟩, Q.fr⟩
    clear T4 N4 I4 S4 OG gr lb hL3
    obtain ⟨x4, hx4⟩ : ∃ x4 : BxD, x4 = { x2 with ga := G } := ⟨_, rfl⟩
    rw [← hx4] at M Q
    have eS : x4.sd = x2.sd := by rw [hx4]
    have bs4 : x4.sd.length ≤ 1048576 := by rw [eS]; exact bs
    replace eS : Hid _ := eS
    have P4 : Hid (x4.p = ⟨x2.p.id, x2.p.po, x2.p.rg, x2.p.two, x2.p.net, L.foldl gateX x2.p.ga, x2.p.ln, x2.p.sd⟩) := by unfold Hid; rw [hx4, hG.out]; rfl
    clear hx4 bs bg
    have nS : x4.aS = none → x4.cS = 0 := fun e => own_noneM (by have := M.s; rw [e] at this; exact this)
    have cc := Q
    obtain ⟨⟨a0, a1, a2, a3, a4, a5, a6, a7, a8, a9⟩, af⟩ := cc
    clear af
    go_wp2_with fail
    go_at_call 66
    clear a0 a1 a2 a3 a4 a5 a6 a7 a8 a9
    refine (saidI x4.aS aO x4.cS cO x4.sd L u4 M.s.view.2 hL4 nS hn bs4 hl).mono ?_
    rintro e u5 ⟨aN, cN, rfl, SO, kq⟩
    obtain ⟨N, hN⟩ : ∃ N, N = lastS (x4.sd ++ L) := ⟨_, rfl⟩
    rw [← hN] at SO ⊢
    replace hN : Hid _ := hN
    have lo := SO.lt (n := N.length)
    have Z := Z.below kq Z.lt
    have Q := Q.below kq Q.lt
    have M := M.below kq (by omega)
    have B := B.trans (kq.mono B.size)
    have z5 := kq.size
    clear kq hL4 nS
    have cc := Q
    obtain ⟨⟨a0, a1, a2, a3, a4, a5, a6, a7, a8, a9⟩, af⟩ := cc
    have f9 := af 9
    clear af
    go_upto_region 6 with fail
    clear a0 a1 a2 a3 a4 a5 a6 a7 a8 a9 f9
    obtain ⟨u6, hu6⟩ : ∃ y_, y_ = u5.setCell ⟨q7, 9, none⟩ (.slice aN N.length cN) := ⟨_, rfl⟩
    rw [← hu6]
    have Q := Q.sS N aN N.length cN rfl
    rw [← hu6] at Q
    have kp : ∀ g, g ≠ q7 → u6.heap[g]? = u5.heap[g]? := fun g hg => by rw [hu6]; exact Below.heap_setCell _ _ _ _ hg
    have Z := Z.keep (kp _ (by omega))
    have B : Below w.heap.size w u6 := by rw [hu6]; exact B.setCell (p := ⟨q7, 9, none⟩) (by show w.heap.size ≤ q7; omega) _
    have s6 : u6.heap.size = u5.heap.size := by rw [hu6]; simp
    have s6 := Nat.le_of_eq s6.symm
    have M := M.keep (fun g _ h2 => kp g (by omega))
    have SO := SO.keep (fun g h1 _ _ => kp g (by omega))
    clear hu6 kp
    obtain ⟨z, hz⟩ : ∃ z : BxD, z = { x4 with sd := N, aS := aN, cS := cN } := ⟨_, rfl⟩
    rw [← hz] at Q
    have M : BxP y.heap.size mid u6.heap.size u6 z := by
      rw [hz]
      exact ⟨M.t, M.n, M.g, M.i, SO.base (by omega), fun b e => by have := M.nh b e; omega, fun b e => by have := M.gh b e; omega, fun b e => by have := M.ih b e; omega, fun b e => by have := (lo b e).2; omega, M.lm, by have := M.mh; omega⟩
    have hX : Hid (z.p = accX x.p s L) := by
      unfold Hid
      rw [accX_yes hm.out, ← p2.out, hz]
      show (⟨x4.p.id, x4.p.po, x4.p.rg, x4.p.two, x4.p.net, x4.p.ga, x4.p.ln, N⟩ : Bx) = _
      rw [hN.out, eS.out, P4.out]
      rfl
    clear hz SO lo hN eS P4
    obtain ⟨W9, hW9⟩ : ∃ y_, y_ = ((((((((((u6.setCell ⟨(w.heap.size + 1), 0, none⟩ (.int .i64 z.id)).setCell ⟨(w.heap.size + 1), 1, none⟩ (.int .i64 z.po)).setCell ⟨(w.heap.size + 1), 2, none⟩ (.int .i64 z.rg.ep)).setCell ⟨(w.heap.size + 1), 3, none⟩ (.int .i64 z.rg.ow)).setCell ⟨(w.heap.size + 1), 4, none⟩ (.int .i64 z.rg.pa)).setCell ⟨(w.heap.size + 1), 5, none⟩ (.slice z.aT z.two.length z.cT)).setCell ⟨(w.heap.size + 1), 6, none⟩ (.slice z.aN z.net.length z.cN)).setCell ⟨(w.heap.size + 1), 7, none⟩ (.slice z.aG z.ga.length z.cG)).setCell ⟨(w.heap.size + 1), 8, none⟩ (.slice z.aL z.ln.length z.cL)).setCell ⟨(w.heap.size + 1), 9, none⟩ (.slice z.aS z.sd.length z.cS)) := ⟨_, rfl⟩
    have z9 : u6.heap.size ≤ W9.heap.size := by rw [hW9]; simp
    have hN9 : BxP w.heap.size mid W9.heap.size W9 z := by
      have h := M.keep (w' := W9) (fun g h1 h2 => by rw [hW9]; exact heap_put10 u6 (w.heap.size + 1) g z (by omega))
      exact ⟨h.t.wide (by omega) (Nat.le_refl _), h.n, h.g, h.i, h.s, fun g e => Nat.lt_of_lt_of_le (h.nh g e) (by omega), fun g e => Nat.lt_of_lt_of_le (h.gh g e) (by omega), fun g e => Nat.lt_of_lt_of_le (h.ih g e) (by omega), fun g e => Nat.lt_of_lt_of_le (h.sh g e) (by omega), by have := h.lm; omega, by have := h.mh; omega⟩
    have B9 : Below w.heap.size w W9 := by rw [hW9]; exact below_put10 (q := w.heap.size + 1) z B (by omega)
    clear M z9
    obtain ⟨⟨r0, r1, r2, r3, r4, r5, r6, r7, r8, r9⟩, rf⟩ := Z
    dsimp only [BxD.zero] at r0 r1 r2 r3 r4 r5 r6 r7 r8 r9
    have g0 := rf 0
    have g1 := rf 1
    have g2 := rf 2
    have g3 := rf 3
    have g4 := rf 4
    have g5 := rf 5
    have g6 := rf 6
    have g7 := rf 7
    have g8 := rf 8
    have g9 := rf 9
    clear rf
    have cc := Q
    obtain ⟨⟨a0, a1, a2, a3, a4, a5, a6, a7, a8, a9⟩, af⟩ := cc
    clear af Q
    go_wp2
    refine bodyPost_ret (v := .agg #[.int .i64 z.id, .int .i64 z.po, .int .i64 z.rg.ep, .int .i64 z.rg.ow, .int .i64 z.rg.pa, .slice z.aT z.two.length z.cT, .slice z.aN z.net.length z.cN, .slice z.aG z.ga.length z.cG, .slice z.aL z.ln.length z.cL, .slice z.aS z.sd.length z.cS]) (by simp [results, Tryz.results24, go_sem, *]) rfl ⟨z, mid, rfl, hX.out, by rw [← hW9]; exact hN9, by rw [← hW9]; exact B9⟩

end Go.Proofs.YtijhpfccjaaalaaGreat
