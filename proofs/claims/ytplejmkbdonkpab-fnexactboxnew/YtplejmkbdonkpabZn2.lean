/- Lists of what is said: compared. Registers: how they come in, copied, compared. laws.eqBox, walked. Lists of In: marked. Lists of minders: marked. Lists of wires: marked. Lists of what is said: marked. laws.markBox, walked. Lists of In: held. Lists of minders: held. Lists of wires: held. laws.heldBox, walked. Boxes that are marked, of one size. Boxes that may be written. -/
import Derived.Test.YtplejmkbdonkpabZn1
import Derived.Test.YtplejmkbdonkpabRows
import Derived.WalkKit
import Derived.ProofKit
import Derived.OpenShut
import Derived.ShutString
import Derived.ChangeOld
import Derived.Below
import Derived.Deep.QuietTactic
import Derived.BigQuiet
import Derived.WalkSmall
import Derived.Laws.OwnMore
import Derived.WalkSpells
import Derived.WalkLawsBesides
import Derived.Test.YtplejmkbdonkpabRe1
import Derived.Test.YtplejmkbdonkpabTakes
import Derived.Lib.SmallJoins
import Derived.Deep.Cut
import Derived.Test.YtplejmkbdonkpabIs3
import Derived.Test.YtplejmkbdonkpabIs1
import Derived.Test.YtplejmkbdonkpabMd1
import Derived.Test.YtplejmkbdonkpabBxd1
namespace Go.Proofs.Ytplejmkbdonkpab
open Go.ChangeShapes Go.WideShapes Go.ChangeAt Go.RowKit
open Go.ChangeMaps (open_string shut_string)
set_option linter.unusedVariables false
set_option maxRecDepth 100000

theorem OuAtO.below {w w' : World} {q o n : Nat} {x : Ou} (h : OuAtO w q o x) (k : Below n w w') (hq : q < n) : OuAtO w' q o x :=
  ⟨(World.cell?_of_block (a := ⟨q, o, none⟩) (k.block q hq)).trans h.c0, (World.cell?_of_block (a := ⟨q, o + 1, none⟩) (k.block q hq)).trans h.c1, (World.cell?_of_block (a := ⟨q, o + 2, none⟩) (k.block q hq)).trans h.c2, (World.cell?_of_block (a := ⟨q, o + 3, none⟩) (k.block q hq)).trans h.c3, (World.cell?_of_block (a := ⟨q, o + 4, none⟩) (k.block q hq)).trans h.c4, (World.cell?_of_block (a := ⟨q, o + 5, none⟩) (k.block q hq)).trans h.c5, (World.cell?_of_block (a := ⟨q, o + 6, none⟩) (k.block q hq)).trans h.c6, (World.cell?_of_block (a := ⟨q, o + 7, none⟩) (k.block q hq)).trans h.c7⟩
set_option maxHeartbeats 2000000 in
theorem eqO (x : Ou) (w : World) :
    Calls Try.prog 79 #[.agg #[.int .i64 x.k, .int .i64 x.pt, .int .i64 x.r, .int .i64 x.c, .int .i64 x.b, .int .i64 x.p, .int .i64 x.h, .bool x.on], .agg #[.int .i64 x.k, .int .i64 x.pt, .int .i64 x.r, .int .i64 x.c, .int .i64 x.b, .int .i64 x.p, .int .i64 x.h, .bool x.on]] w fun e w' => e = .returned (.bool true) ∧ Below w.heap.size w w' := by
  obtain ⟨w0, hw0⟩ : ∃ w0, w0 = (w.alloc (Obj.cells #[.int .i64 x.k, .int .i64 x.pt, .int .i64 x.r, .int .i64 x.c, .int .i64 x.b, .int .i64 x.p, .int .i64 x.h, .bool x.on] 108)).alloc (Obj.cells #[.int .i64 x.k, .int .i64 x.pt, .int .i64 x.r, .int .i64 x.c, .int .i64 x.b, .int .i64 x.p, .int .i64 x.h, .bool x.on] 108) := ⟨_, rfl⟩
  have b0 : Below w.heap.size w w0 := by rw [hw0]; exact ((Below.refl _ _).alloc (Nat.le_refl _) _).alloc (by simp) _
  have P0 : OuAtO w0 w.heap.size 0 x := by rw [hw0]; constructor <;> simp [go_sem]
  have R0 : OuAtO w0 (w.heap.size + 1) 0 x := by rw [hw0]; constructor <;> simp [go_sem]
  have hle : w.heap.size + 1 < w0.heap.size := World.block_lt_of_cell? w0 _ R0.c0
  go_enter Try.func79, Try.ntmps79
  go_wp2_with fail
  go_at_call 89
  rw [← hw0]
  clear hw0
  refine (eqVs x.r x.c x.b x.p w0).mono ?_
  rintro e w1 ⟨rfl, k1⟩
  have b1 := b0.trans (k1.mono b0.size)
  obtain ⟨p0, p1, p2, p3, p4, p5, p6, p7⟩ := P0.below k1 (by omega)
  obtain ⟨r0, r1, r2, r3, r4, r5, r6, r7⟩ := R0.below k1 (by omega)
  simp only [Nat.zero_add] at p0 r0 p1 r1 p2 r2 p3 r3 p4 r4 p5 r5 p6 r6 p7 r7
  clear P0 R0 k1 b0
  go_wp2
  go_ret
  exact ⟨rfl, b1⟩
set_option maxHeartbeats 2000000 in
theorem ouEqS (ad ad' : Option Addr) (cap cap' : Nat) (L : List Ou) (w : World) (hv : FView ouEnc w ad L) (hv' : FView ouEnc w ad' L) (hl : L.length ≤ 1048576) :
    Calls Try.prog 46 #[.slice ad L.length cap, .slice ad' L.length cap'] w fun e w' => e = .returned (.bool true) ∧ Below w.heap.size w w' := by
  have hB := hv.lt ouEnc_len (by omega)
  have hB' := hv'.lt ouEnc_len (by omega)
  go_enter Try.func46, Try.ntmps46
  go_wp2
  go_loopw [5] (fun i wr => ∃ k : Nat, k ≤ L.length ∧ i = .int .i64 k ∧ Below w.heap.size w wr) (fun i _ => L.length - (intOf i).toNat)
  case atStart => exact ⟨0, Nat.zero_le _, rfl, Below.refl _ _⟩
  case round =>
    obtain ⟨k, hk, rfl, hb⟩ := hrel
    by_cases hlt : k < L.length
    · obtain ⟨b, off, rfl, _⟩ := hv (by omega)
      obtain ⟨b', off', rfl, _⟩ := hv' (by omega)
      obtain ⟨h, hh⟩ : ∃ h, L.getD k Ou.nil = h := ⟨_, rfl⟩
      have hc : ∀ Y, Below w.heap.size w Y → OuAtO Y b (off + k * 8) h := fun Y hY => by rw [← hh]; exact ouAtO_of ((hv.below hY hB).at_ ouEnc_len Ou.nil hlt)
      have hc' : ∀ Y, Below w.heap.size w Y → OuAtO Y b' (off' + k * 8) h := fun Y hY => by rw [← hh]; exact ouAtO_of ((hv'.below hY hB').at_ ouEnc_len Ou.nil hlt)
      clear hh hv hv' hB hB'
      go_wp2_with fail
      refine wp_region_held (S := fun Y => Below w.heap.size w Y) (by kernel_rfl) ?_
      change wpAnyH _ _ _ _ _ _ _ _ (World.drew _)
      have hb0 : Below w.heap.size w wr.drew := hb.drew
      refine takeW 0 17 (.slice (some ⟨b, off, none⟩) L.length cap) rfl rfl (by kernel_rfl) (by kernel_rfl) (by kernel_rfl) (fun _ _ _ h => h) (by kernel_rfl) (by (intro w hSw; go_simp)) (by assumption) ?_
      simp only [List.set_cons_zero, List.set_cons_succ]
      refine takeW 1 18 (.int .i64 k) rfl rfl (by kernel_rfl) (by kernel_rfl) (by kernel_rfl) (fun _ _ _ h => h) (by kernel_rfl) (by (intro w hSw; go_simp)) (by assumption) ?_
      simp only [List.set_cons_zero, List.set_cons_succ]
      refine takeW 2 19 (.pointer (some ⟨b, off + k * 8, none⟩)) rfl rfl (by kernel_rfl) (by kernel_rfl) (by kernel_rfl) (fun _ _ _ h => h) (by kernel_rfl) (by (intro Y hSw; go_simp; try omega)) (by assumption) ?_
      simp only [List.set_cons_zero, List.set_cons_succ]
      refine takeW 3 20 (.agg #[.int .i64 h.k, .int .i64 h.pt, .int .i64 h.r, .int .i64 h.c, .int .i64 h.b, .int .i64 h.p, .int .i64 h.h, .bool h.on]) rfl rfl (by kernel_rfl) (by kernel_rfl) (by kernel_rfl) (fun _ _ _ h => h) (by kernel_rfl) (by (intro Y hSw; obtain ⟨X0, X1, X2, X3, X4, X5, X6, X7⟩ := hc Y hSw; go_simp)) (by assumption) ?_
      simp only [List.set_cons_zero, List.set_cons_succ]
      refine takeW 4 21 (.slice (some ⟨b', off', none⟩) L.length cap') rfl rfl (by kernel_rfl) (by kernel_rfl) (by kernel_rfl) (fun _ _ _ h => h) (by kernel_rfl) (by (intro w hSw; go_simp)) (by assumption) ?_
      simp only [List.set_cons_zero, List.set_cons_succ]
      refine takeW 5 22 (.int .i64 k) rfl rfl (by kernel_rfl) (by kernel_rfl) (by kernel_rfl) (fun _ _ _ h => h) (by kernel_rfl) (by (intro w hSw; go_simp)) (by assumption) ?_
      simp only [List.set_cons_zero, List.set_cons_succ]
      refine takeW 6 23 (.pointer (some ⟨b', off' + k * 8, none⟩)) rfl rfl (by kernel_rfl) (by kernel_rfl) (by kernel_rfl) (fun _ _ _ h => h) (by kernel_rfl) (by (intro Y hSw; go_simp; try omega)) (by assumption) ?_
      simp only [List.set_cons_zero, List.set_cons_succ]
      refine takeW 7 24 (.agg #[.int .i64 h.k, .int .i64 h.pt, .int .i64 h.r, .int .i64 h.c, .int .i64 h.b, .int .i64 h.p, .int .i64 h.h, .bool h.on]) rfl rfl (by kernel_rfl) (by kernel_rfl) (by kernel_rfl) (fun _ _ _ h => h) (by kernel_rfl) (by (intro Y hSw; obtain ⟨X0, X1, X2, X3, X4, X5, X6, X7⟩ := hc' Y hSw; go_simp)) (by assumption) ?_
      simp only [List.set_cons_zero, List.set_cons_succ]
      refine wpAnyH_all (rs := [8]) (by kernel_rfl) (by simp) ?_
      intro i hi; obtain rfl : i = 8 := by simpa using hi
      refine wpOp_step rfl (fun K hK => ?_)
      rw [if_pos (by kernel_rfl)]
      go_simp
      go_at_call 79
      refine (eqO h _).mono ?_
      rintro e y1 ⟨rfl, j1⟩
      have hb1 : Below w.heap.size w y1 := hb0.trans (j1.mono hb0.size)
      refine hK _ _ ⟨hb1, ?_⟩
      clear hK K hi
      refine takeW 9 26 (.bool false) rfl rfl (by kernel_rfl) (by kernel_rfl) (by kernel_rfl) (fun _ _ _ h => h) (by kernel_rfl) (by (intro w hSw; go_simp)) (by assumption) ?_
      simp only [List.set_cons_zero, List.set_cons_succ]
      refine wpAnyH_done (by kernel_rfl) ?_ _
      go_wp2
      go_roundw
      case rel => exact ⟨k + 1, by omega, by go_num, hb1⟩
      case measure => simp [intOf]; omega
    · obtain rfl : k = L.length := by omega
      go_wp2
      go_ret
      exact ⟨rfl, hb⟩

end Go.Proofs.Ytplejmkbdonkpab
namespace Go.Proofs.Ytplejmkbdonkpab
open Go.ChangeShapes Go.WideShapes Go.ChangeAt Go.RowKit
open Go.ChangeMaps (open_string shut_string)
set_option linter.unusedVariables false
set_option maxRecDepth 100000

set_option maxRecDepth 100000 in
theorem rgIn_open {H : Type} {enc : TypeId × Value → H} {w : World} {r : Reach} {b0 : Nat} {v : Value} {d : DataW H} {p : List MemPlace} (hv : Value.okWide Try.prog w r b0 23 v) (h : DataW.Trod enc Try.prog w 0 (fun _ => true) true 23 v d p) :
    ∃ r : Rg, v = .agg #[.int .i64 r.ep, .int .i64 r.ow, .int .i64 r.pa] ∧ True := by
  obtain ⟨v0, v1, v2, y0, y1, y2, n, rfl, _, _, h0, h1, h2⟩ := Go.Joins.open_agg3 Try.underlying23 (by kernel_rfl) (by kernel_rfl) hv h
  obtain ⟨a, ha, _, wa⟩ := DataW.trod_int Try.underlying3 h0
  obtain ⟨b, hb, _, wb⟩ := DataW.trod_int Try.underlying3 h1
  obtain ⟨c, hc, _, wc⟩ := DataW.trod_int Try.underlying3 h2
  simp at ha hb hc
  subst ha hb hc
  exact ⟨⟨a, b, c⟩, rfl, trivial⟩
theorem toRg (r : Rg) (w : World) :
    Calls Try.prog 27 #[.agg #[.int .i64 r.ep, .int .i64 r.ow, .int .i64 r.pa]] w fun e w' => e = .returned (.agg #[.int .i64 r.ep, .int .i64 r.ow, .int .i64 r.pa]) ∧ Below w.heap.size w w' := by
  go_enter Try.func27, Try.ntmps27
  go_wp2
  refine bodyPost_ret (v := .agg #[.int .i64 r.ep, .int .i64 r.ow, .int .i64 r.pa]) (by simp [results, Try.results27, go_sem]) rfl ⟨rfl, ?_⟩
  exact (((Below.refl _ _).alloc (Nat.le_refl _) _).alloc (by simp) _).alloc (by simp; omega) _
set_option maxHeartbeats 1000000 in
theorem eqRg (r : Rg) (w : World) :
    Calls Try.prog 41 #[.agg #[.int .i64 r.ep, .int .i64 r.ow, .int .i64 r.pa], .agg #[.int .i64 r.ep, .int .i64 r.ow, .int .i64 r.pa]] w fun e w' => e = .returned (.bool true) ∧ Below w.heap.size w w' := by
  have d1 : (r.ep != r.ep) = false := by simp
  have d2 : (r.ow != r.ow) = false := by simp
  have d3 : (r.pa != r.pa) = false := by simp
  go_enter Try.func41, Try.ntmps41
  go_wp2
  go_ret
  exact ⟨rfl, ((Below.refl _ _).alloc (Nat.le_refl _) _).alloc (by simp) _⟩

end Go.Proofs.Ytplejmkbdonkpab
namespace Go.Proofs.Ytplejmkbdonkpab
open Go.ChangeShapes Go.WideShapes Go.ChangeAt Go.RowKit
open Go.ChangeMaps (open_string shut_string)
set_option linter.unusedVariables false
set_option maxRecDepth 100000

/-- A box's cells, of which some are another one's. -/
structure TenZ (w : World) (q : Nat) (x z : BxD) : Prop where
  c0 : w.cell? ⟨q, 0, none⟩ = some (.int .i64 x.id)
  c1 : w.cell? ⟨q, 1, none⟩ = some (.int .i64 x.po)
  c2 : w.cell? ⟨q, 2, none⟩ = some (.int .i64 x.rg.ep)
  c3 : w.cell? ⟨q, 3, none⟩ = some (.int .i64 x.rg.ow)
  c4 : w.cell? ⟨q, 4, none⟩ = some (.int .i64 x.rg.pa)
  c5 : w.cell? ⟨q, 5, none⟩ = some (.slice z.aT z.two.length z.cT)
  c6 : w.cell? ⟨q, 6, none⟩ = some (.slice z.aN x.net.length z.cN)
  c7 : w.cell? ⟨q, 7, none⟩ = some (.slice z.aG x.ga.length z.cG)
  c8 : w.cell? ⟨q, 8, none⟩ = some (.slice z.aL x.ln.length z.cL)
  c9 : w.cell? ⟨q, 9, none⟩ = some (.slice z.aS x.sd.length z.cS)
theorem TenZ.below {w w' : World} {q n : Nat} {x z : BxD} (h : TenZ w q x z) (k : Below n w w') (hq : q < n) : TenZ w' q x z :=
  ⟨(World.cell?_of_block (a := ⟨q, 0, none⟩) (k.block q hq)).trans h.c0, (World.cell?_of_block (a := ⟨q, 1, none⟩) (k.block q hq)).trans h.c1, (World.cell?_of_block (a := ⟨q, 2, none⟩) (k.block q hq)).trans h.c2, (World.cell?_of_block (a := ⟨q, 3, none⟩) (k.block q hq)).trans h.c3, (World.cell?_of_block (a := ⟨q, 4, none⟩) (k.block q hq)).trans h.c4, (World.cell?_of_block (a := ⟨q, 5, none⟩) (k.block q hq)).trans h.c5, (World.cell?_of_block (a := ⟨q, 6, none⟩) (k.block q hq)).trans h.c6, (World.cell?_of_block (a := ⟨q, 7, none⟩) (k.block q hq)).trans h.c7, (World.cell?_of_block (a := ⟨q, 8, none⟩) (k.block q hq)).trans h.c8, (World.cell?_of_block (a := ⟨q, 9, none⟩) (k.block q hq)).trans h.c9⟩
theorem TenZ.lt {w : World} {q : Nat} {x z : BxD} (h : TenZ w q x z) : q < w.heap.size := World.block_lt_of_cell? w _ h.c0
set_option maxHeartbeats 2000000 in
theorem bxEq0 (x z : BxD) (w : World) (I : BxIn w x) (J : BxIn w z) (K : BxSm x) (ht : z.two.map MiD.m = x.two.map MiD.m) (e3 : z.net = x.net) (e4 : z.ga = x.ga) (e5 : z.ln = x.ln) (e6 : z.sd = x.sd) :
    Calls Try.prog 10 #[.agg #[.int .i64 x.id, .int .i64 x.po, .int .i64 x.rg.ep, .int .i64 x.rg.ow, .int .i64 x.rg.pa, .slice x.aT x.two.length x.cT, .slice x.aN x.net.length x.cN, .slice x.aG x.ga.length x.cG, .slice x.aL x.ln.length x.cL, .slice x.aS x.sd.length x.cS], .agg #[.int .i64 x.id, .int .i64 x.po, .int .i64 x.rg.ep, .int .i64 x.rg.ow, .int .i64 x.rg.pa, .slice z.aT z.two.length z.cT, .slice z.aN x.net.length z.cN, .slice z.aG x.ga.length z.cG, .slice z.aL x.ln.length z.cL, .slice z.aS x.sd.length z.cS]] w fun e w' => e = .returned (.bool true) ∧ Below w.heap.size w w' := by
  have d0 : (x.id != x.id) = false := by simp
  have d1 : (x.po != x.po) = false := by simp
  obtain ⟨y, hy⟩ : ∃ y, y = (w.alloc (Obj.cells #[.int .i64 x.id, .int .i64 x.po, .int .i64 x.rg.ep, .int .i64 x.rg.ow, .int .i64 x.rg.pa, .slice x.aT x.two.length x.cT, .slice x.aN x.net.length x.cN, .slice x.aG x.ga.length x.cG, .slice x.aL x.ln.length x.cL, .slice x.aS x.sd.length x.cS] 39)).alloc (Obj.cells #[.int .i64 x.id, .int .i64 x.po, .int .i64 x.rg.ep, .int .i64 x.rg.ow, .int .i64 x.rg.pa, .slice z.aT z.two.length z.cT, .slice z.aN x.net.length z.cN, .slice z.aG x.ga.length z.cG, .slice z.aL x.ln.length z.cL, .slice z.aS x.sd.length z.cS] 39) := ⟨_, rfl⟩
  have B0 : Below w.heap.size w y := by rw [hy]; exact ((Below.refl _ _).alloc (Nat.le_refl _) _).alloc (by simp) _
  have A : BxAt y w.heap.size x := by rw [hy]; constructor <;> simp [go_sem]
  have C : TenZ y (w.heap.size + 1) x z := by rw [hy]; constructor <;> simp [go_sem]
  have I := I.below B0
  have Jn : FView wiEnc y z.aN x.net := by have := (J.below B0).n; rw [e3] at this; exact this
  have Jg : FView boEnc y z.aG x.ga := by have := (J.below B0).g; rw [e4] at this; exact this
  have Ji : FView ikEnc y z.aL x.ln := by have := (J.below B0).i; rw [e5] at this; exact this
  have Js : FView ouEnc y z.aS x.sd := by have := (J.below B0).s; rw [e6] at this; exact this
  have Jt := (J.below B0).t
  clear J e3 e4 e5 e6
  go_enter Try.func10, Try.ntmps10
  have cc := A
  obtain ⟨a0, a1, a2, a3, a4, a5, a6, a7, a8, a9⟩ := cc
  have cc := C
  obtain ⟨c0, c1, c2, c3, c4, c5, c6, c7, c8, c9⟩ := cc
  go_wp2_with fail
  go_at_call 41
  rw [← hy]
  clear a0 a1 a2 a3 a4 a5 a6 a7 a8 a9 c0 c1 c2 c3 c4 c5 c6 c7 c8 c9 hy
  refine (eqRg x.rg y).mono ?_
  rintro e u0 ⟨rfl, k0⟩
  have A := A.below k0 A.lt
  have C := C.below k0 C.lt
  have I := I.below k0
  have Jt := Jt.below k0 (Nat.le_refl _)
  have Jn := Jn.below k0 (Jn.lt wiEnc_len (by omega))
  have Jg := Jg.below k0 (Jg.lt boEnc_len (by omega))
  have Ji := Ji.below k0 (Ji.lt ikEnc_len (by omega))
  have Js := Js.below k0 (Js.lt ouEnc_len (by omega))
  have B0 := B0.trans (k0.mono B0.size)
  clear k0
  have cc := A
  obtain ⟨a0, a1, a2, a3, a4, a5, a6, a7, a8, a9⟩ := cc
  have cc := C
  obtain ⟨c0, c1, c2, c3, c4, c5, c6, c7, c8, c9⟩ := cc
  go_wp2_with fail
  go_at_call 42
  clear a0 a1 a2 a3 a4 a5 a6 a7 a8 a9 c0 c1 c2 c3 c4 c5 c6 c7 c8 c9
  refine (mdEq x.aT z.aT x.cT z.cT x.two z.two u0 I.t Jt ht K.t K.ls).mono ?_
  rintro e u1 ⟨rfl, k1⟩
  have A := A.below k1 A.lt
  have C := C.below k1 C.lt
  have I := I.below k1
  have Jt := Jt.below k1 (Nat.le_refl _)
  have Jn := Jn.below k1 (Jn.lt wiEnc_len (by omega))
  have Jg := Jg.below k1 (Jg.lt boEnc_len (by omega))
  have Ji := Ji.below k1 (Ji.lt ikEnc_len (by omega))
  have Js := Js.below k1 (Js.lt ouEnc_len (by omega))
  have B0 := B0.trans (k1.mono B0.size)
  clear k1
  have cc := A
  obtain ⟨a0, a1, a2, a3, a4, a5, a6, a7, a8, a9⟩ := cc
  have cc := C
  obtain ⟨c0, c1, c2, c3, c4, c5, c6, c7, c8, c9⟩ := cc
  go_wp2_with fail
  go_at_call 43
  clear a0 a1 a2 a3 a4 a5 a6 a7 a8 a9 c0 c1 c2 c3 c4 c5 c6 c7 c8 c9
  refine (wiEqS x.aN z.aN x.cN z.cN x.net u1 I.n Jn K.n).mono ?_
  rintro e u2 ⟨rfl, k2⟩
  have A := A.below k2 A.lt
  have C := C.below k2 C.lt
  have I := I.below k2
  have Jt := Jt.below k2 (Nat.le_refl _)
  have Jn := Jn.below k2 (Jn.lt wiEnc_len (by omega))
  have Jg := Jg.below k2 (Jg.lt boEnc_len (by omega))
  have Ji := Ji.below k2 (Ji.lt ikEnc_len (by omega))
  have Js := Js.below k2 (Js.lt ouEnc_len (by omega))
  have B0 := B0.trans (k2.mono B0.size)
  clear k2
  have cc := A
  obtain ⟨a0, a1, a2, a3, a4, a5, a6, a7, a8, a9⟩ := cc
  have cc := C
  obtain ⟨c0, c1, c2, c3, c4, c5, c6, c7, c8, c9⟩ := cc
  go_wp2_with fail
  go_at_call 44
  clear a0 a1 a2 a3 a4 a5 a6 a7 a8 a9 c0 c1 c2 c3 c4 c5 c6 c7 c8 c9
  refine (boEq x.aG z.aG x.cG z.cG x.ga u2 I.g Jg K.g).mono ?_
  rintro e u3 ⟨rfl, k3⟩
  have A := A.below k3 A.lt
  have C := C.below k3 C.lt
  have I := I.below k3
  have Jt := Jt.below k3 (Nat.le_refl _)
  have Jn := Jn.below k3 (Jn.lt wiEnc_len (by omega))
  have Jg := Jg.below k3 (Jg.lt boEnc_len (by omega))
  have Ji := Ji.below k3 (Ji.lt ikEnc_len (by omega))
  have Js := Js.below k3 (Js.lt ouEnc_len (by omega))
  have B0 := B0.trans (k3.mono B0.size)
  clear k3
  have cc := A
  obtain ⟨a0, a1, a2, a3, a4, a5, a6, a7, a8, a9⟩ := cc
  have cc := C
  obtain ⟨c0, c1, c2, c3, c4, c5, c6, c7, c8, c9⟩ := cc
  go_wp2_with fail
  go_at_call 45
  clear a0 a1 a2 a3 a4 a5 a6 a7 a8 a9 c0 c1 c2 c3 c4 c5 c6 c7 c8 c9
  refine (ikEqS x.aL z.aL x.cL z.cL x.ln u3 I.i Ji K.i).mono ?_
  rintro e u4 ⟨rfl, k4⟩
  have A := A.below k4 A.lt
  have C := C.below k4 C.lt
  have I := I.below k4
  have Jt := Jt.below k4 (Nat.le_refl _)
  have Jn := Jn.below k4 (Jn.lt wiEnc_len (by omega))
  have Jg := Jg.below k4 (Jg.lt boEnc_len (by omega))
  have Ji := Ji.below k4 (Ji.lt ikEnc_len (by omega))
  have Js := Js.below k4 (Js.lt ouEnc_len (by omega))
  have B0 := B0.trans (k4.mono B0.size)
  clear k4
  have cc := A
  obtain ⟨a0, a1, a2, a3, a4, a5, a6, a7, a8, a9⟩ := cc
  have cc := C
  obtain ⟨c0, c1, c2, c3, c4, c5, c6, c7, c8, c9⟩ := cc
  go_wp2_with fail
  go_at_call 46
  clear a0 a1 a2 a3 a4 a5 a6 a7 a8 a9 c0 c1 c2 c3 c4 c5 c6 c7 c8 c9
  refine (ouEqS x.aS z.aS x.cS z.cS x.sd u4 I.s Js K.s).mono ?_
  rintro e u5 ⟨rfl, k5⟩
  have A := A.below k5 A.lt
  have C := C.below k5 C.lt
  have I := I.below k5
  have Jt := Jt.below k5 (Nat.le_refl _)
  have Jn := Jn.below k5 (Jn.lt wiEnc_len (by omega))
  have Jg := Jg.below k5 (Jg.lt boEnc_len (by omega))
  have Ji := Ji.below k5 (Ji.lt ikEnc_len (by omega))
  have Js := Js.below k5 (Js.lt ouEnc_len (by omega))
  have B0 := B0.trans (k5.mono B0.size)
  clear k5
  go_wp2
  go_ret
  exact ⟨rfl, B0⟩
theorem bxEq (x z : BxD) (w : World) (I : BxIn w x) (J : BxIn w z) (K : BxSm x) (hp : z.p = x.p) :
    Calls Try.prog 10 #[.agg #[.int .i64 x.id, .int .i64 x.po, .int .i64 x.rg.ep, .int .i64 x.rg.ow, .int .i64 x.rg.pa, .slice x.aT x.two.length x.cT, .slice x.aN x.net.length x.cN, .slice x.aG x.ga.length x.cG, .slice x.aL x.ln.length x.cL, .slice x.aS x.sd.length x.cS], .agg #[.int .i64 z.id, .int .i64 z.po, .int .i64 z.rg.ep, .int .i64 z.rg.ow, .int .i64 z.rg.pa, .slice z.aT z.two.length z.cT, .slice z.aN z.net.length z.cN, .slice z.aG z.ga.length z.cG, .slice z.aL z.ln.length z.cL, .slice z.aS z.sd.length z.cS]] w fun e w' => e = .returned (.bool true) ∧ Below w.heap.size w w' := by
  obtain ⟨zid, zpo, zrg, ztwo, zaT, zcT, znet, zaN, zcN, zga, zaG, zcG, zln, zaL, zcL, zsd, zaS, zcS⟩ := z
  unfold BxD.p at hp
  simp only [Bx.mk.injEq] at hp
  obtain ⟨rfl, rfl, rfl, ht, rfl, rfl, rfl, rfl⟩ := hp
  exact bxEq0 x ⟨x.id, x.po, x.rg, ztwo, zaT, zcT, x.net, zaN, zcN, x.ga, zaG, zcG, x.ln, zaL, zcL, x.sd, zaS, zcS⟩ w I J K ht rfl rfl rfl rfl

end Go.Proofs.Ytplejmkbdonkpab
namespace Go.Proofs.Ytplejmkbdonkpab
open Go.ChangeShapes Go.WideShapes Go.ChangeAt Go.RowKit
open Go.ChangeMaps (open_string shut_string)
set_option linter.unusedVariables false
set_option maxRecDepth 100000

/-- The marks that the law lays upon one, from s on. -/
def ikMk (s : Int) (i : Nat) : Ik := ⟨(s + 8 * (i : Int)), (s + 8 * (i : Int)) + 1, (s + 8 * (i : Int)) + 1 + 1, (s + 8 * (i : Int)) + 1 + 1 + 1, (s + 8 * (i : Int)) + 1 + 1 + 1 + 1, (s + 8 * (i : Int)) + 1 + 1 + 1 + 1 + 1, (s + 8 * (i : Int)) + 1 + 1 + 1 + 1 + 1 + 1, decide (((s + 8 * (i : Int)) + 1 + 1 + 1 + 1 + 1 + 1 + 1) % 3 = 0)⟩
set_option maxHeartbeats 4000000 in
theorem ikMark (ad : Option Addr) (cap : Nat) (s : Int) (base : Nat) (L : List Ik) (w : World) (hr : FOwn ikEnc 8 74 base w (.slice ad L.length cap) L) (hl : L.length ≤ 1048576) (s0 : 0 ≤ s) (s1 : s ≤ 1000000000000) :
    Calls Try.prog 52 #[.slice ad L.length cap, .int .i64 s] w fun e w' => e = .returned (.int .i64 (s + 8 * (L.length : Int))) ∧ FOwn ikEnc 8 74 base w' (.slice ad L.length cap) ((List.range L.length).map (ikMk s)) ∧ w.grownBy w' (Value.slice ad L.length cap).ownBlock := by
  by_cases hz : L.length = 0
  · obtain rfl : L = [] := List.eq_nil_of_length_eq_zero hz
    go_enter Try.func52, Try.ntmps52
    go_wp2
    refine wp_loop_rounds 1 ?_; rw [rounds_succ]
    go_wp2
    go_ret
    exact ⟨by simp, hr, ⟨rfl, rfl, rfl, Nat.le_refl _, fun _ _ _ => rfl⟩⟩
  obtain ⟨g, rfl⟩ : ∃ g, ad = some ⟨g, 0, none⟩ := by
    rcases hr.2 with ⟨_, q⟩ | ⟨g, cap, cur, q, _⟩
    · omega
    · simp only [Value.slice.injEq] at q
      exact ⟨g, q.1⟩
  have M0 : FOwn ikEnc 8 74 base w (.slice (some ⟨g, 0, none⟩) L.length cap) (markd (ikMk s) L 0) := by rw [markd_zero]; exact hr
  have g0 : w.grownBy w (some g) := ⟨rfl, rfl, rfl, Nat.le_refl _, fun _ _ _ => rfl⟩
  clear hr hz
  go_enter Try.func52, Try.ntmps52
  go_wp2
  go_loopw [1, 5] (fun q i wr => ∃ k : Nat, k ≤ L.length ∧ i = .int .i64 k ∧ q = .int .i64 (s + 8 * (k : Int)) ∧ FOwn ikEnc 8 74 base wr (.slice (some ⟨g, 0, none⟩) L.length cap) (markd (ikMk s) L k) ∧ w.grownBy wr (some g)) (fun _ i _ => L.length - (intOf i).toNat)
  case atStart => exact ⟨0, Nat.zero_le _, rfl, by simp, M0, g0⟩
  case round =>
    obtain ⟨k, hk, rfl, rfl, M, gr⟩ := hrel
    clear M0 g0
    have hml := markd_len (mk := ikMk s) hk
    by_cases hlt : k < L.length
    · rw [← hml] at M
      have hk2 : k < (markd (ikMk s) L k).length := by rw [hml]; exact hlt
      obtain ⟨h, hh⟩ : ∃ h, (markd (ikMk s) L k).getD k Ik.nil = h := ⟨_, rfl⟩
      have hck : IkAtO wr g (k * 8) h := by
        rw [← hh]
        exact ikAtO_of (M.cell ikEnc_len Ik.nil hk2)
      have ff := M.frozen
      have f0 := ff (k * 8)
      have f1 := ff (k * 8 + 1)
      have f2 := ff (k * 8 + 2)
      have f3 := ff (k * 8 + 3)
      have f4 := ff (k * 8 + 4)
      have f5 := ff (k * 8 + 5)
      have f6 := ff (k * 8 + 6)
      have f7 := ff (k * 8 + 7)
      have M1 := M.set ikEnc_len (by omega) hk2 (ikMk s k)
      rw [markd_set hlt, ikPut, hml] at M1
      have G1 := grown_putAll (ikEnc (ikMk s k)) (k * 8) gr
      rw [ikPut] at G1
      unfold ikMk at M1 G1
      dsimp only at M1 G1
      clear M gr ff hh hml hk2
      obtain ⟨c0, c1, c2, c3, c4, c5, c6, c7⟩ := hck
      generalize hK : s + 8 * (k : Int) = K at M1 G1 ⊢
      have K0 : 0 ≤ K := by omega
      have K1 : K ≤ 1100000000000 := by omega
      replace hK : Hid _ := hK
      go_wp2
      go_roundw
      case rel => exact ⟨k + 1, by omega, by go_num, by have := hK.out; go_num, M1, G1⟩
      case measure => simp [intOf]; omega
    · obtain rfl : k = L.length := by omega
      rw [markd_all] at M
      go_wp2
      go_ret
      exact ⟨rfl, M, gr⟩

end Go.Proofs.Ytplejmkbdonkpab
namespace Go.Proofs.Ytplejmkbdonkpab
open Go.ChangeShapes Go.WideShapes Go.ChangeAt Go.RowKit
open Go.ChangeMaps (open_string shut_string)
set_option linter.unusedVariables false
set_option maxRecDepth 100000

/-- All blocks but those from lo on below hi are as they were. -/
structure KeptM (lo hi : Nat) (w w' : World) : Prop where
  os : w'.os = w.os
  tape : w'.tape = w.tape
  output : w'.output = w.output
  size : w.heap.size ≤ w'.heap.size
  block : ∀ k, k < w.heap.size → (k < lo ∨ hi ≤ k) → w'.heap[k]? = w.heap[k]?
theorem KeptM.refl (lo hi : Nat) (w : World) : KeptM lo hi w w := ⟨rfl, rfl, rfl, Nat.le_refl _, fun _ _ _ => rfl⟩
theorem KeptM.trans {lo hi : Nat} {a b c : World} (h : KeptM lo hi a b) (k : KeptM lo hi b c) : KeptM lo hi a c :=
  ⟨k.os.trans h.os, k.tape.trans h.tape, k.output.trans h.output, Nat.le_trans h.size k.size, fun j hj hn => (k.block j (Nat.lt_of_lt_of_le hj h.size) hn).trans (h.block j hj hn)⟩
theorem KeptM.below {lo hi : Nat} {a b : World} (h : KeptM lo hi a b) (hs : lo ≤ a.heap.size) : Below lo a b := ⟨h.os, h.tape, h.output, h.size, fun j hj => h.block j (by omega) (.inl hj)⟩
theorem KeptM.of_below {lo hi : Nat} {a b : World} (h : Below a.heap.size a b) : KeptM lo hi a b := ⟨h.os, h.tape, h.output, h.size, fun j hj _ => h.block j hj⟩
theorem KeptM.wide {lo hi lo' hi' : Nat} {a b : World} (h : KeptM lo hi a b) (h1 : lo' ≤ lo) (h2 : hi ≤ hi') : KeptM lo' hi' a b := ⟨h.os, h.tape, h.output, h.size, fun j hj q => h.block j hj (by omega)⟩
theorem KeptM.of_grown {lo hi : Nat} {g : Option Nat} {a b : World} (h : a.grownBy b g) (hg : ∀ k, g = some k → lo ≤ k ∧ k < hi) : KeptM lo hi a b := ⟨h.os, h.tape, h.output, h.size, fun j hj q => h.block j hj (fun e => by have := hg j e.symm; omega)⟩
theorem KeptM.set {lo hi : Nat} {a b : World} (h : KeptM lo hi a b) {g o : Nat} (hg : lo ≤ g ∧ g < hi) (v : Value) : KeptM lo hi a (b.setCell ⟨g, o, none⟩ v) :=
  ⟨h.os, h.tape, h.output, by simpa using h.size, fun j hj hn => (Below.heap_setCell _ _ _ _ (fun e => by have : j = g := e; omega)).trans (h.block j hj hn)⟩
/-- How many marks the first j take. -/
def kToM (Bs : List MiD) : Nat → Nat
  | 0 => 0
  | j + 1 => kToM Bs j + 6 + 8 * (Bs.getD j MiD.nil).m.lg.length
theorem kToM_lTo (Bs : List MiD) : ∀ j, kToM Bs j = 6 * j + 8 * lToM Bs j
  | 0 => rfl
  | j + 1 => by
    show kToM Bs j + 6 + _ = 6 * (j + 1) + 8 * (lToM Bs j + _)
    rw [kToM_lTo Bs j]
    omega
/-- One of them, marked from K on. -/
def mkOne (K : Int) (d : MiD) : MiD := ⟨⟨K % 3 == 0, K + 1, K + 1 + 1, (List.range d.m.lg.length).map (ikMk (K + 1 + 1 + 1)), K + 1 + 1 + 1 + 8 * (d.m.lg.length : Int), K + 1 + 1 + 1 + 8 * (d.m.lg.length : Int) + 1, K + 1 + 1 + 1 + 8 * (d.m.lg.length : Int) + 1 + 1⟩, d.ad, d.cap⟩
def mkm (Bs : List MiD) (k0 : Int) (j : Nat) : MiD := mkOne (k0 + (kToM Bs j : Int)) (Bs.getD j MiD.nil)
/-- The first n marked. -/
def marksM (Bs : List MiD) (k0 : Int) (n : Nat) : List MiD := (List.range Bs.length).map fun j => if j < n then mkm Bs k0 j else Bs.getD j MiD.nil
theorem marksM_len (Bs : List MiD) (k0 : Int) (n : Nat) : (marksM Bs k0 n).length = Bs.length := by simp [marksM]
theorem marksM_get (Bs : List MiD) (k0 : Int) (n : Nat) {j : Nat} (h : j < Bs.length) : (marksM Bs k0 n).getD j MiD.nil = if j < n then mkm Bs k0 j else Bs.getD j MiD.nil := by simp [marksM, List.getD, h]
theorem marksM_zero (Bs : List MiD) (k0 : Int) : marksM Bs k0 0 = Bs := by
  refine List.ext_getElem (by simp [marksM]) fun i h1 h2 => ?_
  simp [marksM, List.getD, h2]
theorem marksM_succ (Bs : List MiD) (k0 : Int) {n : Nat} (h : n < Bs.length) : (marksM Bs k0 n).set n (mkm Bs k0 n) = marksM Bs k0 (n + 1) := by
  refine List.ext_getElem (by simp [marksM]) fun i h1 h2 => ?_
  have hi : i < Bs.length := by simpa [marksM] using h2
  rw [List.getElem_set]
  simp only [marksM, List.getElem_map, List.getElem_range]
  by_cases e : n = i
  · subst e
    rw [if_pos rfl, if_pos (by omega)]
  · rw [if_neg e]
    by_cases q : i < n
    · rw [if_pos q, if_pos (by omega)]
    · rw [if_neg q, if_neg (by omega)]
theorem mkOne_v (K : Int) (d : MiD) : (mkOne K d).v = d.v := by
  unfold mkOne MiD.v
  simp
theorem mkm_v (Bs : List MiD) (k0 : Int) (j : Nat) : (mkm Bs k0 j).v = (Bs.getD j MiD.nil).v := mkOne_v _ _
theorem marksM_v (Bs : List MiD) (k0 : Int) (n : Nat) {j : Nat} (h : j < Bs.length) : ((marksM Bs k0 n).getD j MiD.nil).v = (Bs.getD j MiD.nil).v := by
  rw [marksM_get _ _ _ h]
  split
  · exact mkm_v Bs k0 j
  · rfl
theorem set_there {L : List Value} {i : Nat} {v : Value} (h : L[i]? = some v) : L.set i v = L := by
  apply List.ext_getElem?
  intro j
  by_cases q : j = i
  · subst q
    rw [List.getElem?_set_self (List.getElem?_eq_some_iff.1 h).1, h]
  · rw [List.getElem?_set_ne (Ne.symm q)]
theorem row_mark {g : Nat} {cap lo : Nat} {w w2 : World} {Ms : List MiD} {n : Nat} (hn : n < Ms.length) (h : FOwn mdEnc 7 61 lo w (.slice (some ⟨g, 0, none⟩) Ms.length cap) Ms) {x : MiD} (hv : x.v = (Ms.getD n MiD.nil).v)
    (hk : w2.heap[g]? = (((w.setCell ⟨g, n * 7, none⟩ (.bool x.m.up)).setCell ⟨g, n * 7 + 1, none⟩ (.int .i64 x.m.li)).setCell ⟨g, n * 7 + 2, none⟩ (.int .i64 x.m.ep)).heap[g]?) : FOwn mdEnc 7 61 lo (((w2.setCell ⟨g, n * 7 + 4, none⟩ (.int .i64 x.m.sd)).setCell ⟨g, n * 7 + 5, none⟩ (.int .i64 x.m.ac)).setCell ⟨g, n * 7 + 6, none⟩ (.int .i64 x.m.al)) (.slice (some ⟨g, 0, none⟩) (Ms.set n x).length cap) (Ms.set n x) := by
  have s1 := (World.ownsRow.stored (show w.ownsRow lo 61 7 _ Ms.length (fcells mdEnc Ms) from h) (n * 7) (.bool x.m.up)).1
  have s2 := (World.ownsRow.stored s1 (n * 7 + 1) (.int .i64 x.m.li)).1
  have s3 := (World.ownsRow.stored s2 (n * 7 + 2) (.int .i64 x.m.ep)).1
  have s3 : w2.ownsRow lo 61 7 (.slice (some ⟨g, 0, none⟩) Ms.length cap) Ms.length ((((fcells mdEnc Ms).set (n * 7) (.bool x.m.up)).set (n * 7 + 1) (.int .i64 x.m.li)).set (n * 7 + 2) (.int .i64 x.m.ep)) := by
    obtain ⟨q1, q2⟩ := s3
    refine ⟨q1, ?_⟩
    rcases q2 with q | ⟨g', cap', cur, e, hb, hg, r⟩
    · exact .inl q
    · refine .inr ⟨g', cap', cur, e, hb, ?_, r⟩
      obtain rfl : g = g' := by have e1 := e; simp at e1; exact e1.1
      exact hk.trans hg
  have s4 := (World.ownsRow.stored s3 (n * 7 + 4) (.int .i64 x.m.sd)).1
  have s5 := (World.ownsRow.stored s4 (n * 7 + 5) (.int .i64 x.m.ac)).1
  have s6 := (World.ownsRow.stored s5 (n * 7 + 6) (.int .i64 x.m.al)).1
  have hc : ((((fcells mdEnc Ms).set (n * 7) (.bool x.m.up)).set (n * 7 + 1) (.int .i64 x.m.li)).set (n * 7 + 2) (.int .i64 x.m.ep))[n * 7 + 3]? = some (.slice x.ad x.m.lg.length x.cap) := by
    rw [List.getElem?_set_ne (by omega), List.getElem?_set_ne (by omega), List.getElem?_set_ne (by omega), fcells_at mdEnc_len MiD.nil Ms n 3 hn (by omega)]
    show some (Ms.getD n MiD.nil).v = some x.v
    rw [hv]
  have e : (((((((fcells mdEnc Ms).set (n * 7) (.bool x.m.up)).set (n * 7 + 1) (.int .i64 x.m.li)).set (n * 7 + 2) (.int .i64 x.m.ep)).set (n * 7 + 4) (.int .i64 x.m.sd)).set (n * 7 + 5) (.int .i64 x.m.ac)).set (n * 7 + 6) (.int .i64 x.m.al)) = fcells mdEnc (Ms.set n x) := by
    rw [← setAll_cells mdEnc_len (by omega) MiD.nil Ms n hn x]
    show _ = ((((((((fcells mdEnc Ms).set (n * 7) (.bool x.m.up)).set (n * 7 + 1) (.int .i64 x.m.li)).set (n * 7 + 2) (.int .i64 x.m.ep)).set (n * 7 + 3) (.slice x.ad x.m.lg.length x.cap)).set (n * 7 + 4) (.int .i64 x.m.sd)).set (n * 7 + 5) (.int .i64 x.m.ac)).set (n * 7 + 6) (.int .i64 x.m.al))
    rw [set_there hc]
  rw [e] at s6
  unfold FOwn
  rw [List.length_set]
  exact s6
theorem MOwn.mark {lo hi : Nat} {g cap : Nat} {w w2 : World} {Ms : List MiD} {n : Nat} (h : MOwn lo hi w (.slice (some ⟨g, 0, none⟩) Ms.length cap) Ms) (hs : hi ≤ w.heap.size) (hn : n < Ms.length) {x : MiD} (hv : x.v = (Ms.getD n MiD.nil).v)
    (o2 : FOwn ikEnc 8 74 lo w2 x.v x.m.lg) (gr : (((w.setCell ⟨g, n * 7, none⟩ (.bool x.m.up)).setCell ⟨g, n * 7 + 1, none⟩ (.int .i64 x.m.li)).setCell ⟨g, n * 7 + 2, none⟩ (.int .i64 x.m.ep)).grownBy w2 x.v.ownBlock) : MOwn lo hi (((w2.setCell ⟨g, n * 7 + 4, none⟩ (.int .i64 x.m.sd)).setCell ⟨g, n * 7 + 5, none⟩ (.int .i64 x.m.ac)).setCell ⟨g, n * 7 + 6, none⟩ (.int .i64 x.m.al)) (.slice (some ⟨g, 0, none⟩) (Ms.set n x).length cap) (Ms.set n x) ∧ KeptM lo hi w (((w2.setCell ⟨g, n * 7 + 4, none⟩ (.int .i64 x.m.sd)).setCell ⟨g, n * 7 + 5, none⟩ (.int .i64 x.m.ac)).setCell ⟨g, n * 7 + 6, none⟩ (.int .i64 x.m.al)) := by
  have hgl := h.row.lt g rfl
  have hgh := h.rhi g rfl
  have hxb : ∀ k, x.v.ownBlock = some k → lo ≤ k ∧ k < hi ∧ k ≠ g := fun k e => by
    rw [hv] at e
    exact ⟨((h.nest n hn).lt k e).1, h.nhi n hn k e, fun q => h.apart n hn g k rfl e q.symm⟩
  have bl2 : ∀ k, k ≠ g → (((w2.setCell ⟨g, n * 7 + 4, none⟩ (.int .i64 x.m.sd)).setCell ⟨g, n * 7 + 5, none⟩ (.int .i64 x.m.ac)).setCell ⟨g, n * 7 + 6, none⟩ (.int .i64 x.m.al)).heap[k]? = w2.heap[k]? := fun k hk => by rw [Below.heap_setCell _ _ _ _ hk, Below.heap_setCell _ _ _ _ hk, Below.heap_setCell _ _ _ _ hk]
  have bl1 : ∀ k, k ≠ g → (((w.setCell ⟨g, n * 7, none⟩ (.bool x.m.up)).setCell ⟨g, n * 7 + 1, none⟩ (.int .i64 x.m.li)).setCell ⟨g, n * 7 + 2, none⟩ (.int .i64 x.m.ep)).heap[k]? = w.heap[k]? := fun k hk => by rw [Below.heap_setCell _ _ _ _ hk, Below.heap_setCell _ _ _ _ hk, Below.heap_setCell _ _ _ _ hk]
  have bl : ∀ k, k < w.heap.size → k ≠ g → (∀ q, x.v.ownBlock = some q → q ≠ k) → (((w2.setCell ⟨g, n * 7 + 4, none⟩ (.int .i64 x.m.sd)).setCell ⟨g, n * 7 + 5, none⟩ (.int .i64 x.m.ac)).setCell ⟨g, n * 7 + 6, none⟩ (.int .i64 x.m.al)).heap[k]? = w.heap[k]? := fun k hk h1 h2 => (bl2 k h1).trans ((gr.block k (by simpa using hk) (fun e => h2 k e.symm rfl)).trans (bl1 k h1))
  have get : ∀ j, j < (Ms.set n x).length → (j ≠ n ∧ j < Ms.length ∧ (Ms.set n x).getD j MiD.nil = Ms.getD j MiD.nil) ∨ (j = n ∧ (Ms.set n x).getD j MiD.nil = x) := fun j hj => by
    rw [List.length_set] at hj
    by_cases e : j = n
    · subst e
      exact .inr ⟨rfl, by simp [List.getD, hj]⟩
    · exact .inl ⟨e, hj, by simp [List.getD, List.getElem?_set_ne (Ne.symm e)]⟩
  have gv : ∀ j, j < (Ms.set n x).length → j < Ms.length ∧ ((Ms.set n x).getD j MiD.nil).v = (Ms.getD j MiD.nil).v := fun j hj => by
    rcases get j hj with ⟨_, q, r⟩ | ⟨q, r⟩
    · exact ⟨q, by rw [r]⟩
    · exact ⟨by rw [q]; exact hn, by rw [r, hv, q]⟩
  refine ⟨⟨?_, fun j hj => ?_, fun k e => h.rhi k e, fun j hj k e => ?_, fun j hj k k' e e' => ?_, fun i j hij hj k k' e e' => ?_⟩, ?_⟩
  · exact row_mark hn h.row hv (gr.block g (by simpa using hgl.2) (fun e => (hxb g e.symm).2.2 rfl))
  · rcases get j hj with ⟨q, q2, r⟩ | ⟨q, r⟩
    · rw [r]
      refine (h.nest j q2).keep (fun k e => bl k ((h.nest j q2).lt k e).2 (fun q3 => h.apart j q2 g k rfl e q3.symm) (fun p hp hq => ?_))
      rw [hv] at hp
      rcases Nat.lt_or_gt_of_ne q with q4 | q4
      · exact h.aparts j n q4 hn k p e hp hq.symm
      · exact h.aparts n j q4 q2 p k hp e hq
    · rw [r]
      exact o2.keep (fun k e => bl2 k (hxb k e).2.2)
  · obtain ⟨q, r⟩ := gv j hj
    rw [r] at e
    exact h.nhi j q k e
  · obtain ⟨q, r⟩ := gv j hj
    rw [r] at e'
    exact h.apart j q k k' e e'
  · obtain ⟨q, r⟩ := gv j hj
    obtain ⟨q2, r2⟩ := gv i (by omega)
    rw [r] at e'
    rw [r2] at e
    exact h.aparts i j hij q k k' e e'
  · exact (((((KeptM.refl lo hi w).set ⟨hgl.1, hgh⟩ _).set ⟨hgl.1, hgh⟩ _).set ⟨hgl.1, hgh⟩ _).trans (KeptM.of_grown gr (fun k e => ⟨(hxb k e).1, (hxb k e).2.1⟩))).set ⟨hgl.1, hgh⟩ _ |>.set ⟨hgl.1, hgh⟩ _ |>.set ⟨hgl.1, hgh⟩ _
theorem kToM_le (Bs : List MiD) (hl : Bs.length ≤ 1048576) (hll : lToM Bs Bs.length ≤ 1048576) : ∀ j, j ≤ Bs.length → kToM Bs j ≤ 20000000 := fun j hj => by
  have := lToM_mono Bs hj
  rw [kToM_lTo]
  omega
set_option maxHeartbeats 4000000 in
theorem mdMark (ad : Option Addr) (cap : Nat) (Bs : List MiD) (k0 : Int) (lo hi : Nat) (w : World) (h : MOwn lo hi w (.slice ad Bs.length cap) Bs) (hs : hi ≤ w.heap.size) (hl : Bs.length ≤ 1048576) (hll : lToM Bs Bs.length ≤ 1048576) (hk0 : 0 ≤ k0) (hk1 : k0 ≤ 100000000) :
    Calls Try.prog 49 #[.slice ad Bs.length cap, .int .i64 k0] w fun e w' => e = .returned (.int .i64 (k0 + (kToM Bs Bs.length : Int))) ∧ MOwn lo hi w' (.slice ad Bs.length cap) (marksM Bs k0 Bs.length) ∧ KeptM lo hi w w' := by
  by_cases hz : Bs.length = 0
  · obtain rfl : Bs = [] := List.eq_nil_of_length_eq_zero hz
    go_enter Try.func49, Try.ntmps49
    go_wp2
    refine wp_loop_rounds 1 ?_; rw [rounds_succ]
    go_wp2
    go_ret
    exact ⟨by simp [kToM], by first | (rw [marksM_zero]; exact h) | exact h, KeptM.refl _ _ _⟩
  obtain ⟨g, rfl⟩ : ∃ g, ad = some ⟨g, 0, none⟩ := by
    rcases h.row.2 with ⟨_, q⟩ | ⟨g, cap, cur, q, _⟩
    · omega
    · simp only [Value.slice.injEq] at q
      exact ⟨g, q.1⟩
  have hkb := kToM_le Bs hl hll
  have hls : ∀ i, i < Bs.length → (Bs.getD i MiD.nil).m.lg.length ≤ 1048576 := fun i hi => Nat.le_trans (getLM_le Bs hi) hll
  have M0 : MOwn lo hi w (.slice (some ⟨g, 0, none⟩) Bs.length cap) (marksM Bs k0 0) := by rw [marksM_zero]; exact h
  clear h hz
  go_enter Try.func49, Try.ntmps49
  go_wp2
  go_loopw [1, 5] (fun q i wr => ∃ (k : Nat) (x : Int), k ≤ Bs.length ∧ i = .int .i64 k ∧ q = .int .i64 x ∧ Hid (x = k0 + (kToM Bs k : Int)) ∧ MOwn lo hi wr (.slice (some ⟨g, 0, none⟩) Bs.length cap) (marksM Bs k0 k) ∧ KeptM lo hi w wr) (fun _ i _ => Bs.length - (intOf i).toNat)
  case atStart => exact ⟨0, k0, Nat.zero_le _, rfl, rfl, by unfold Hid; simp [kToM], M0, KeptM.refl _ _ _⟩
  case round =>
    obtain ⟨k, x, hk, rfl, rfl, hx, M, KR⟩ := hrel
    clear M0
    by_cases hlt : k < Bs.length
    · have hx0 : 0 ≤ x := by have := hx.out; omega
      have hx1 : x ≤ 120000000 := by have := hx.out; have := hkb k (by omega); omega
      have hlk := hls k hlt
      have hb3 : Hid (kToM Bs (k + 1) = kToM Bs k + 6 + 8 * (Bs.getD k MiD.nil).m.lg.length) := rfl
      have hml : Hid ((marksM Bs k0 k).length = Bs.length) := marksM_len _ _ _
      have hck := M.view.2.at_ (i := k) (by rw [hml.out]; exact hlt)
      have hnk := M.nest k (by rw [hml.out]; exact hlt)
      rw [marksM_get Bs k0 k hlt, if_neg (by omega)] at hck hnk
      have M' : MOwn lo hi wr (.slice (some ⟨g, 0, none⟩) (marksM Bs k0 k).length cap) (marksM Bs k0 k) := by rw [hml.out]; exact M
      have ff := M'.row.frozen
      have f0 := ff (k * 7)
      have f1 := ff (k * 7 + 1)
      have f2 := ff (k * 7 + 2)
      have f4 := ff (k * 7 + 4)
      have f5 := ff (k * 7 + 5)
      have f6 := ff (k * 7 + 6)
      have hsz : hi ≤ wr.heap.size := Nat.le_trans hs KR.size
      have hmv : Hid ((mkm Bs k0 k).v = ((marksM Bs k0 k).getD k MiD.nil).v) := by unfold Hid; rw [mkm_v, marksM_v _ _ _ hlt]
      have hgap := fun q => M.apart k (by rw [hml.out]; exact hlt) g q rfl
      rw [marksM_v _ _ _ hlt] at hgap
      have st := fun (w2 : World) => M'.mark (w2 := w2) (n := k) hsz (by rw [hml.out]; exact hlt) (x := mkm Bs k0 k) hmv.out
      rw [mkm_v, marksM_succ Bs k0 hlt] at st
      simp only [marksM_len] at st
      have hmm : mkm Bs k0 k = mkOne x (Bs.getD k MiD.nil) := by unfold mkm; rw [hx.out]
      rw [hmm] at st
      obtain ⟨⟨m, a1, c1⟩, hh⟩ : ∃ d, Bs.getD k MiD.nil = d := ⟨_, rfl⟩
      rw [hh] at hck hnk hlk hgap hb3
      simp only [hh] at st
      unfold MiD.v at hnk hgap st
      unfold mkOne at st
      dsimp only at hnk hlk hgap st
      obtain ⟨c0, c1_, c2, c3, c4, c5, c6⟩ := hck
      simp only [Nat.zero_add] at c0 c1_ c2 c3 c4 c5 c6
      try dsimp only at c0 c1_ c2 c3 c4 c5 c6
      obtain ⟨w1, hw1⟩ : ∃ w_, w_ = ((wr.setCell ⟨g, k * 7, none⟩ (.bool (x % 3 == 0))).setCell ⟨g, k * 7 + 1, none⟩ (.int .i64 (x + 1))).setCell ⟨g, k * 7 + 2, none⟩ (.int .i64 (x + 1 + 1)) := ⟨_, rfl⟩
      have k1 : ∀ b, b ≠ g → w1.heap[b]? = wr.heap[b]? := fun b hb => by rw [hw1, Below.heap_setCell _ _ _ _ hb, Below.heap_setCell _ _ _ _ hb, Below.heap_setCell _ _ _ _ hb]
      have hn1 : FOwn ikEnc 8 74 lo w1 (.slice a1 m.lg.length c1) m.lg := hnk.keep (fun j e => k1 j (fun q => hgap j e q.symm))
      have d3 : w1.cell? ⟨g, k * 7 + 3, none⟩ = some (.slice a1 m.lg.length c1) := by rw [hw1]; exact (pset_else (by simp)).trans ((pset_else (by simp)).trans ((pset_else (by simp)).trans c3))
      have d4 : w1.cell? ⟨g, k * 7 + 4, none⟩ = some (.int .i64 m.sd) := by rw [hw1]; exact (pset_else (by simp)).trans ((pset_else (by simp)).trans ((pset_else (by simp)).trans c4))
      have d5 : w1.cell? ⟨g, k * 7 + 5, none⟩ = some (.int .i64 m.ac) := by rw [hw1]; exact (pset_else (by simp)).trans ((pset_else (by simp)).trans ((pset_else (by simp)).trans c5))
      have d6 : w1.cell? ⟨g, k * 7 + 6, none⟩ = some (.int .i64 m.al) := by rw [hw1]; exact (pset_else (by simp)).trans ((pset_else (by simp)).trans ((pset_else (by simp)).trans c6))
      have q4 : w1.frozen? ⟨g, k * 7 + 4, none⟩ = false := by rw [hw1, World.frozen?_setCell, World.frozen?_setCell, World.frozen?_setCell]; exact f4
      have q5 : w1.frozen? ⟨g, k * 7 + 5, none⟩ = false := by rw [hw1, World.frozen?_setCell, World.frozen?_setCell, World.frozen?_setCell]; exact f5
      have q6 : w1.frozen? ⟨g, k * 7 + 6, none⟩ = false := by rw [hw1, World.frozen?_setCell, World.frozen?_setCell, World.frozen?_setCell]; exact f6
      have hgl : g < wr.heap.size := (M'.row.lt g rfl).2
      have hs1 : w1.heap.size = wr.heap.size := by rw [hw1]; simp
      have hs1 : wr.heap.size ≤ w1.heap.size := Nat.le_of_eq hs1.symm
      rw [← hw1] at st
      clear hh M M' hnk hmv hmm k1 ff
      go_wp2_with fail
      go_at_call 52
      rw [← hw1]
      clear hw1
      refine (ikMark a1 c1 (x + 1 + 1 + 1) lo m.lg w1 hn1 (by omega) (by omega) (by omega)).mono ?_
      rintro e w2 ⟨rfl, o2, gr⟩
      have gb : w2.heap[g]? = w1.heap[g]? := gr.block g (by omega) (fun e => hgap g e.symm rfl)
      have st2 := st w2 (by simpa using o2) (by simpa using gr)
      obtain ⟨M1, K1⟩ := st2
      have d4 : w2.cell? ⟨g, k * 7 + 4, none⟩ = _ := (World.cell?_of_block (a := ⟨g, k * 7 + 4, none⟩) gb).trans d4
      have q4 : w2.frozen? ⟨g, k * 7 + 4, none⟩ = false := (World.frozen?_of_block (a := ⟨g, k * 7 + 4, none⟩) gb).trans q4
      have d5 : w2.cell? ⟨g, k * 7 + 5, none⟩ = _ := (World.cell?_of_block (a := ⟨g, k * 7 + 5, none⟩) gb).trans d5
      have q5 : w2.frozen? ⟨g, k * 7 + 5, none⟩ = false := (World.frozen?_of_block (a := ⟨g, k * 7 + 5, none⟩) gb).trans q5
      have d6 : w2.cell? ⟨g, k * 7 + 6, none⟩ = _ := (World.cell?_of_block (a := ⟨g, k * 7 + 6, none⟩) gb).trans d6
      have q6 : w2.frozen? ⟨g, k * 7 + 6, none⟩ = false := (World.frozen?_of_block (a := ⟨g, k * 7 + 6, none⟩) gb).trans q6
      clear st o2 gr hn1 gb d3 c0 c1_ c2 c3 c4 c5 c6 hgap
      obtain ⟨Y, hY⟩ : ∃ Y, Y = x + 1 + 1 + 1 + 8 * (m.lg.length : Int) := ⟨_, rfl⟩
      rw [← hY] at M1 K1 ⊢
      have hY0 : 0 ≤ Y := by omega
      have hY1 : Y ≤ 200000000 := by omega
      replace hY : Hid _ := hY
      go_wp2
      go_roundw
      case rel => exact ⟨k + 1, Y + 1 + 1 + 1, by omega, by go_num, rfl, by have := hx.out; have := hb3.out; have := hY.out; unfold Hid; omega, M1, KR.trans K1⟩
      case measure => simp [intOf]; omega
    · obtain rfl : k = Bs.length := by omega
      go_wp2
      go_ret
      exact ⟨by rw [← hx.out]; rfl, M, KR⟩

end Go.Proofs.Ytplejmkbdonkpab
namespace Go.Proofs.Ytplejmkbdonkpab
open Go.ChangeShapes Go.WideShapes Go.ChangeAt Go.RowKit
open Go.ChangeMaps (open_string shut_string)
set_option linter.unusedVariables false
set_option maxRecDepth 100000

/-- The marks that the law lays upon one, from s on. -/
def wiMk (s : Int) (i : Nat) : Wi := ⟨(s + 12 * (i : Int)), decide (((s + 12 * (i : Int)) + 1) % 3 = 0), (s + 12 * (i : Int)) + 1 + 1, (s + 12 * (i : Int)) + 1 + 1 + 1, (s + 12 * (i : Int)) + 1 + 1 + 1 + 1, (s + 12 * (i : Int)) + 1 + 1 + 1 + 1 + 1, (s + 12 * (i : Int)) + 1 + 1 + 1 + 1 + 1 + 1, (s + 12 * (i : Int)) + 1 + 1 + 1 + 1 + 1 + 1 + 1, (s + 12 * (i : Int)) + 1 + 1 + 1 + 1 + 1 + 1 + 1 + 1, (s + 12 * (i : Int)) + 1 + 1 + 1 + 1 + 1 + 1 + 1 + 1 + 1, (s + 12 * (i : Int)) + 1 + 1 + 1 + 1 + 1 + 1 + 1 + 1 + 1 + 1, decide (((s + 12 * (i : Int)) + 1 + 1 + 1 + 1 + 1 + 1 + 1 + 1 + 1 + 1 + 1) % 3 = 0)⟩
set_option maxHeartbeats 4000000 in
theorem wiMark (ad : Option Addr) (cap : Nat) (s : Int) (base : Nat) (L : List Wi) (w : World) (hr : FOwn wiEnc 12 76 base w (.slice ad L.length cap) L) (hl : L.length ≤ 1048576) (s0 : 0 ≤ s) (s1 : s ≤ 1000000000000) :
    Calls Try.prog 50 #[.slice ad L.length cap, .int .i64 s] w fun e w' => e = .returned (.int .i64 (s + 12 * (L.length : Int))) ∧ FOwn wiEnc 12 76 base w' (.slice ad L.length cap) ((List.range L.length).map (wiMk s)) ∧ w.grownBy w' (Value.slice ad L.length cap).ownBlock := by
  by_cases hz : L.length = 0
  · obtain rfl : L = [] := List.eq_nil_of_length_eq_zero hz
    go_enter Try.func50, Try.ntmps50
    go_wp2
    refine wp_loop_rounds 1 ?_; rw [rounds_succ]
    go_wp2
    go_ret
    exact ⟨by simp, hr, ⟨rfl, rfl, rfl, Nat.le_refl _, fun _ _ _ => rfl⟩⟩
  obtain ⟨g, rfl⟩ : ∃ g, ad = some ⟨g, 0, none⟩ := by
    rcases hr.2 with ⟨_, q⟩ | ⟨g, cap, cur, q, _⟩
    · omega
    · simp only [Value.slice.injEq] at q
      exact ⟨g, q.1⟩
  have M0 : FOwn wiEnc 12 76 base w (.slice (some ⟨g, 0, none⟩) L.length cap) (markd (wiMk s) L 0) := by rw [markd_zero]; exact hr
  have g0 : w.grownBy w (some g) := ⟨rfl, rfl, rfl, Nat.le_refl _, fun _ _ _ => rfl⟩
  clear hr hz
  go_enter Try.func50, Try.ntmps50
  go_wp2
  go_loopw [1, 5] (fun q i wr => ∃ k : Nat, k ≤ L.length ∧ i = .int .i64 k ∧ q = .int .i64 (s + 12 * (k : Int)) ∧ FOwn wiEnc 12 76 base wr (.slice (some ⟨g, 0, none⟩) L.length cap) (markd (wiMk s) L k) ∧ w.grownBy wr (some g)) (fun _ i _ => L.length - (intOf i).toNat)
  case atStart => exact ⟨0, Nat.zero_le _, rfl, by simp, M0, g0⟩
  case round =>
    obtain ⟨k, hk, rfl, rfl, M, gr⟩ := hrel
    clear M0 g0
    have hml := markd_len (mk := wiMk s) hk
    by_cases hlt : k < L.length
    · rw [← hml] at M
      have hk2 : k < (markd (wiMk s) L k).length := by rw [hml]; exact hlt
      obtain ⟨h, hh⟩ : ∃ h, (markd (wiMk s) L k).getD k Wi.nil = h := ⟨_, rfl⟩
      have hck : WiAtO wr g (k * 12) h := by
        rw [← hh]
        exact wiAtO_of (M.cell wiEnc_len Wi.nil hk2)
      have ff := M.frozen
      have f0 := ff (k * 12)
      have f1 := ff (k * 12 + 1)
      have f2 := ff (k * 12 + 2)
      have f3 := ff (k * 12 + 3)
      have f4 := ff (k * 12 + 4)
      have f5 := ff (k * 12 + 5)
      have f6 := ff (k * 12 + 6)
      have f7 := ff (k * 12 + 7)
      have f8 := ff (k * 12 + 8)
      have f9 := ff (k * 12 + 9)
      have f10 := ff (k * 12 + 10)
      have f11 := ff (k * 12 + 11)
      have M1 := M.set wiEnc_len (by omega) hk2 (wiMk s k)
      rw [markd_set hlt, wiPut, hml] at M1
      have G1 := grown_putAll (wiEnc (wiMk s k)) (k * 12) gr
      rw [wiPut] at G1
      unfold wiMk at M1 G1
      dsimp only at M1 G1
      clear M gr ff hh hml hk2
      obtain ⟨c0, c1, c2, c3, c4, c5, c6, c7, c8, c9, c10, c11⟩ := hck
      generalize hK : s + 12 * (k : Int) = K at M1 G1 ⊢
      have K0 : 0 ≤ K := by omega
      have K1 : K ≤ 1100000000000 := by omega
      replace hK : Hid _ := hK
      go_wp2
      go_roundw
      case rel => exact ⟨k + 1, by omega, by go_num, by have := hK.out; go_num, M1, G1⟩
      case measure => simp [intOf]; omega
    · obtain rfl : k = L.length := by omega
      rw [markd_all] at M
      go_wp2
      go_ret
      exact ⟨rfl, M, gr⟩

end Go.Proofs.Ytplejmkbdonkpab
namespace Go.Proofs.Ytplejmkbdonkpab
open Go.ChangeShapes Go.WideShapes Go.ChangeAt Go.RowKit
open Go.ChangeMaps (open_string shut_string)
set_option linter.unusedVariables false
set_option maxRecDepth 100000

/-- The marks that the law lays upon one, from s on. -/
def ouMk (s : Int) (i : Nat) : Ou := ⟨(s + 8 * (i : Int)), (s + 8 * (i : Int)) + 1, (s + 8 * (i : Int)) + 1 + 1, (s + 8 * (i : Int)) + 1 + 1 + 1, (s + 8 * (i : Int)) + 1 + 1 + 1 + 1, (s + 8 * (i : Int)) + 1 + 1 + 1 + 1 + 1, (s + 8 * (i : Int)) + 1 + 1 + 1 + 1 + 1 + 1, decide (((s + 8 * (i : Int)) + 1 + 1 + 1 + 1 + 1 + 1 + 1) % 3 = 0)⟩
set_option maxHeartbeats 4000000 in
theorem ouMark (ad : Option Addr) (cap : Nat) (s : Int) (base : Nat) (L : List Ou) (w : World) (hr : FOwn ouEnc 8 108 base w (.slice ad L.length cap) L) (hl : L.length ≤ 1048576) (s0 : 0 ≤ s) (s1 : s ≤ 1000000000000) :
    Calls Try.prog 53 #[.slice ad L.length cap, .int .i64 s] w fun e w' => e = .returned (.int .i64 (s + 8 * (L.length : Int))) ∧ FOwn ouEnc 8 108 base w' (.slice ad L.length cap) ((List.range L.length).map (ouMk s)) ∧ w.grownBy w' (Value.slice ad L.length cap).ownBlock := by
  by_cases hz : L.length = 0
  · obtain rfl : L = [] := List.eq_nil_of_length_eq_zero hz
    go_enter Try.func53, Try.ntmps53
    go_wp2
    refine wp_loop_rounds 1 ?_; rw [rounds_succ]
    go_wp2
    go_ret
    exact ⟨by simp, hr, ⟨rfl, rfl, rfl, Nat.le_refl _, fun _ _ _ => rfl⟩⟩
  obtain ⟨g, rfl⟩ : ∃ g, ad = some ⟨g, 0, none⟩ := by
    rcases hr.2 with ⟨_, q⟩ | ⟨g, cap, cur, q, _⟩
    · omega
    · simp only [Value.slice.injEq] at q
      exact ⟨g, q.1⟩
  have M0 : FOwn ouEnc 8 108 base w (.slice (some ⟨g, 0, none⟩) L.length cap) (markd (ouMk s) L 0) := by rw [markd_zero]; exact hr
  have g0 : w.grownBy w (some g) := ⟨rfl, rfl, rfl, Nat.le_refl _, fun _ _ _ => rfl⟩
  clear hr hz
  go_enter Try.func53, Try.ntmps53
  go_wp2
  go_loopw [1, 5] (fun q i wr => ∃ k : Nat, k ≤ L.length ∧ i = .int .i64 k ∧ q = .int .i64 (s + 8 * (k : Int)) ∧ FOwn ouEnc 8 108 base wr (.slice (some ⟨g, 0, none⟩) L.length cap) (markd (ouMk s) L k) ∧ w.grownBy wr (some g)) (fun _ i _ => L.length - (intOf i).toNat)
  case atStart => exact ⟨0, Nat.zero_le _, rfl, by simp, M0, g0⟩
  case round =>
    obtain ⟨k, hk, rfl, rfl, M, gr⟩ := hrel
    clear M0 g0
    have hml := markd_len (mk := ouMk s) hk
    by_cases hlt : k < L.length
    · rw [← hml] at M
      have hk2 : k < (markd (ouMk s) L k).length := by rw [hml]; exact hlt
      obtain ⟨h, hh⟩ : ∃ h, (markd (ouMk s) L k).getD k Ou.nil = h := ⟨_, rfl⟩
      have hck : OuAtO wr g (k * 8) h := by
        rw [← hh]
        exact ouAtO_of (M.cell ouEnc_len Ou.nil hk2)
      have ff := M.frozen
      have f0 := ff (k * 8)
      have f1 := ff (k * 8 + 1)
      have f2 := ff (k * 8 + 2)
      have f3 := ff (k * 8 + 3)
      have f4 := ff (k * 8 + 4)
      have f5 := ff (k * 8 + 5)
      have f6 := ff (k * 8 + 6)
      have f7 := ff (k * 8 + 7)
      have M1 := M.set ouEnc_len (by omega) hk2 (ouMk s k)
      rw [markd_set hlt, ouPut, hml] at M1
      have G1 := grown_putAll (ouEnc (ouMk s k)) (k * 8) gr
      rw [ouPut] at G1
      unfold ouMk at M1 G1
      dsimp only at M1 G1
      clear M gr ff hh hml hk2
      obtain ⟨c0, c1, c2, c3, c4, c5, c6, c7⟩ := hck
      generalize hK : s + 8 * (k : Int) = K at M1 G1 ⊢
      have K0 : 0 ≤ K := by omega
      have K1 : K ≤ 1100000000000 := by omega
      replace hK : Hid _ := hK
      go_wp2
      go_roundw
      case rel => exact ⟨k + 1, by omega, by go_num, by have := hK.out; go_num, M1, G1⟩
      case measure => simp [intOf]; omega
    · obtain rfl : k = L.length := by omega
      rw [markd_all] at M
      go_wp2
      go_ret
      exact ⟨rfl, M, gr⟩
set_option maxHeartbeats 4000000 in
theorem ouHeld (ad : Option Addr) (len cap : Nat) (s : Int) (w : World) (hv : FView ouEnc w ad ((List.range len).map (ouMk s))) (hl : len ≤ 1048576) (s0 : 0 ≤ s) (s1 : s ≤ 1000000000000) :
    Calls Try.prog 58 #[.slice ad len cap, .int .i64 s] w fun e w' => e = .returned (.int .i64 (s + 8 * (len : Int))) ∧ w' = w := by
  go_enter Try.func58, Try.ntmps58
  go_wp2
  go_loop [1, 5] (fun q i => ∃ k : Nat, k ≤ len ∧ i = .int .i64 k ∧ q = .int .i64 (s + 8 * (k : Int))) (fun _ i => len - (intOf i).toNat)
  case atStart => exact ⟨0, Nat.zero_le _, rfl, by simp⟩
  case round =>
    obtain ⟨k, hk, rfl, rfl⟩ := hrel
    by_cases hlt : k < len
    · obtain ⟨b, off, rfl, _⟩ := hv (by simpa using Nat.lt_of_le_of_lt (Nat.zero_le _) hlt)
      have hck : OuAtO w b (off + k * 8) (ouMk s k) := by
        have := ouAtO_of (hv.at_ ouEnc_len Ou.nil (i := k) (by simpa using hlt))
        rwa [show ((List.range len).map (ouMk s)).getD k Ou.nil = ouMk s k by simp [List.getD, hlt]] at this
      obtain ⟨c0, c1, c2, c3, c4, c5, c6, c7⟩ := hck
      unfold ouMk at c0 c1 c2 c3 c4 c5 c6 c7
      dsimp only at c0 c1 c2 c3 c4 c5 c6 c7
      generalize hK : s + 8 * (k : Int) = K at c0 c1 c2 c3 c4 c5 c6 c7 ⊢
      have K0 : 0 ≤ K := by omega
      have K1 : K ≤ 1100000000000 := by omega
      replace hK : Hid _ := hK
      have tq : ∀ x : Int, (!decide (x % 3 = 0) == (x % 3 == 0)) = false := fun x => by by_cases q : x % 3 = 0 <;> simp [q]
      go_wp2
      go_round
      case rel => exact ⟨k + 1, by omega, by go_num, by have := hK.out; go_num⟩
      case measure => simp [intOf]; omega
    · obtain rfl : k = len := by omega
      go_wp2
      go_ret
      exact ⟨rfl, rfl⟩

end Go.Proofs.Ytplejmkbdonkpab
namespace Go.Proofs.Ytplejmkbdonkpab
open Go.ChangeShapes Go.WideShapes Go.ChangeAt Go.RowKit
open Go.ChangeMaps (open_string shut_string)
set_option linter.unusedVariables false
set_option maxRecDepth 100000

/-- A box whose memory is its own: its minders from lo on below mid, all else from mid on below hi. -/
structure BxN (lo mid hi : Nat) (w : World) (x : BxD) : Prop where
  t : MOwn lo mid w (.slice x.aT x.two.length x.cT) x.two
  n : FOwn wiEnc 12 76 mid w (.slice x.aN x.net.length x.cN) x.net
  g : FOwn boEnc 1 4 mid w (.slice x.aG x.ga.length x.cG) x.ga
  i : FOwn ikEnc 8 74 mid w (.slice x.aL x.ln.length x.cL) x.ln
  s : FOwn ouEnc 8 108 mid w (.slice x.aS x.sd.length x.cS) x.sd
  nh : ∀ b, (Value.slice x.aN x.net.length x.cN).ownBlock = some b → b < hi
  gh : ∀ b, (Value.slice x.aG x.ga.length x.cG).ownBlock = some b → b < hi
  ih : ∀ b, (Value.slice x.aL x.ln.length x.cL).ownBlock = some b → b < hi
  sh : ∀ b, (Value.slice x.aS x.sd.length x.cS).ownBlock = some b → b < hi
  lm : lo ≤ mid
  mh : mid ≤ hi
theorem BxN.m {lo mid hi : Nat} {w : World} {x : BxD} (h : BxN lo mid hi w x) : BxM lo hi w x :=
  ⟨h.t.wide (Nat.le_refl _) h.mh, h.n.base h.lm, h.g.base h.lm, h.i.base h.lm, h.s.base h.lm, h.nh, h.gh, h.ih, h.sh, fun j hj b e e2 => by
    have h1 := h.t.nhi j hj b e
    have h2 := (h.i.lt b e2).1
    omega⟩
theorem BxN.keep {lo mid hi : Nat} {w w' : World} {x : BxD} (h : BxN lo mid hi w x) (k : ∀ g, lo ≤ g → g < hi → w'.heap[g]? = w.heap[g]?) : BxN lo mid hi w' x := by
  have h1 := h.lm
  have h2 := h.mh
  exact ⟨h.t.keep (fun g p q => k g p (by omega)), h.n.keep (fun g e => k g (by have := (h.n.lt g e).1; omega) (h.nh g e)), h.g.keep (fun g e => k g (by have := (h.g.lt g e).1; omega) (h.gh g e)), h.i.keep (fun g e => k g (by have := (h.i.lt g e).1; omega) (h.ih g e)), h.s.keep (fun g e => k g (by have := (h.s.lt g e).1; omega) (h.sh g e)), h.nh, h.gh, h.ih, h.sh, h1, h2⟩
theorem BxN.below {lo mid hi B : Nat} {w w' : World} {x : BxD} (h : BxN lo mid hi w x) (k : Below B w w') (hB : hi ≤ B) : BxN lo mid hi w' x := h.keep fun g _ hg => k.block _ (by omega)
/-- Rows of different things lie in different blocks. -/
theorem FOwn.apartN {X Y : Type} {e1 : X → List Value} {e2 : Y → List Value} {n1 n2 : Nat} {T1 T2 : TypeId} {b1 b2 : Nat} {w : World} {v1 v2 : Value} {L1 : List X} {L2 : List Y} (h1 : FOwn e1 n1 T1 b1 w v1 L1) (h2 : FOwn e2 n2 T2 b2 w v2 L2) (hT : T1 ≠ T2) {g : Nat} (e : v1.ownBlock = some g) : v2.ownBlock ≠ some g := by
  intro e2'
  rcases h1.2 with ⟨q, _⟩ | ⟨g1, c1, u1, q1, _, o1, _⟩
  · rw [q] at e; cases e
  · rcases h2.2 with ⟨q, _⟩ | ⟨g2, c2, u2, q2, _, o2, _⟩
    · rw [q] at e2'; cases e2'
    · rw [q1] at e
      rw [q2] at e2'
      cases e
      cases e2'
      rw [o1] at o2
      simp only [Option.some.injEq, Obj.cells.injEq] at o2
      exact hT o2.2.1
/-- The marks of flags. -/
def boMk (s : Int) (i : Nat) : Bool := (s + (i : Int)) % 3 == 0
set_option maxHeartbeats 2000000 in
theorem boMark (ad : Option Addr) (cap : Nat) (s : Int) (base : Nat) (L : List Bool) (w : World) (hr : FOwn boEnc 1 4 base w (.slice ad L.length cap) L) (hl : L.length ≤ 1048576) (s0 : 0 ≤ s) (s1 : s ≤ 1000000000) :
    Calls Try.prog 51 #[.slice ad L.length cap, .int .i64 s] w fun e w' => e = .returned (.int .i64 (s + (L.length : Int))) ∧ FOwn boEnc 1 4 base w' (.slice ad L.length cap) ((List.range L.length).map (boMk s)) ∧ w.grownBy w' (Value.slice ad L.length cap).ownBlock := by
  by_cases hz : L.length = 0
  · obtain rfl : L = [] := List.eq_nil_of_length_eq_zero hz
    go_enter Try.func51, Try.ntmps51
    go_wp2
    refine wp_loop_rounds 1 ?_; rw [rounds_succ]
    go_wp2
    go_ret
    exact ⟨by simp, hr, ⟨rfl, rfl, rfl, Nat.le_refl _, fun _ _ _ => rfl⟩⟩
  obtain ⟨g, rfl⟩ : ∃ g, ad = some ⟨g, 0, none⟩ := by
    rcases hr.2 with ⟨_, q⟩ | ⟨g, cap, cur, q, _⟩
    · omega
    · simp only [Value.slice.injEq] at q
      exact ⟨g, q.1⟩
  have M0 : FOwn boEnc 1 4 base w (.slice (some ⟨g, 0, none⟩) L.length cap) (markd (boMk s) L 0) := by rw [markd_zero]; exact hr
  have g0 : w.grownBy w (some g) := ⟨rfl, rfl, rfl, Nat.le_refl _, fun _ _ _ => rfl⟩
  clear hr hz
  go_enter Try.func51, Try.ntmps51
  go_wp2
  go_loopw [1, 5] (fun q i wr => ∃ k : Nat, k ≤ L.length ∧ i = .int .i64 k ∧ q = .int .i64 (s + (k : Int)) ∧ FOwn boEnc 1 4 base wr (.slice (some ⟨g, 0, none⟩) L.length cap) (markd (boMk s) L k) ∧ w.grownBy wr (some g)) (fun _ i _ => L.length - (intOf i).toNat)
  case atStart => exact ⟨0, Nat.zero_le _, rfl, by simp, M0, g0⟩
  case round =>
    obtain ⟨k, hk, rfl, rfl, M, gr⟩ := hrel
    clear M0 g0
    have hml := markd_len (mk := boMk s) hk
    by_cases hlt : k < L.length
    · rw [← hml] at M
      have hk2 : k < (markd (boMk s) L k).length := by rw [hml]; exact hlt
      obtain ⟨h, hh⟩ : ∃ h, (markd (boMk s) L k).getD k false = h := ⟨_, rfl⟩
      have hck : wr.cell? ⟨g, k, none⟩ = some (.bool h) := by
        have := M.cell boEnc_len false hk2 0 _ rfl
        rw [hh, Nat.mul_one] at this
        exact this
      have f0 := M.frozen k
      have M1 := M.set boEnc_len (by omega) hk2 (boMk s k)
      rw [markd_set hlt, boPut, hml, Nat.mul_one] at M1
      have G1 := grown_putAll (boEnc (boMk s k)) k gr
      rw [boPut] at G1
      unfold boMk at M1 G1
      try dsimp only at M1 G1
      clear M gr hh hml hk2
      generalize hK : s + (k : Int) = K at M1 G1 ⊢
      have K0 : 0 ≤ K := by omega
      have K1 : K ≤ 1100000000 := by omega
      replace hK : Hid _ := hK
      go_wp2
      go_roundw
      case rel => exact ⟨k + 1, by omega, by go_num, by have := hK.out; go_num, M1, G1⟩
      case measure => simp [intOf]; omega
    · obtain rfl : k = L.length := by omega
      rw [markd_all] at M
      go_wp2
      go_ret
      exact ⟨rfl, M, gr⟩
/-- Where the marks of a box's parts begin, and a box that is marked. -/
def kN (x : BxD) : Int := 1 + (kToM x.two x.two.length : Int)
def kG (x : BxD) : Int := kN x + 12 * (x.net.length : Int)
def kI (x : BxD) : Int := kG x + (x.ga.length : Int)
def kS (x : BxD) : Int := kI x + 8 * (x.ln.length : Int)
def kE (x : BxD) : Int := kS x + 8 * (x.sd.length : Int)
def bxMk (x : BxD) : BxD := { x with two := marksM x.two 1 x.two.length, net := (List.range x.net.length).map (wiMk (kN x)), ga := (List.range x.ga.length).map (boMk (kG x)), ln := (List.range x.ln.length).map (ikMk (kI x)), sd := (List.range x.sd.length).map (ouMk (kS x)) }
theorem k_le {x : BxD} (K : BxSm x) : 1 ≤ kN x ∧ kN x ≤ 30000000 ∧ kN x ≤ kG x ∧ kG x ≤ 50000000 ∧ kG x ≤ kI x ∧ kI x ≤ 60000000 ∧ kI x ≤ kS x ∧ kS x ≤ 70000000 ∧ kS x ≤ kE x := by
  have h0 := kToM_le x.two K.t K.l x.two.length (Nat.le_refl _)
  have h1 := K.n
  have h2 := K.g
  have h3 := K.i
  have h4 := K.s
  unfold kE kS kI kG kN
  omega
set_option maxHeartbeats 4000000 in
theorem bxMark (x : BxD) (lo mid hi : Nat) (w : World) (M : BxN lo mid hi w x) (K : BxSm x) (hs : hi ≤ w.heap.size) :
    Calls Try.prog 13 #[.agg #[.int .i64 x.id, .int .i64 x.po, .int .i64 x.rg.ep, .int .i64 x.rg.ow, .int .i64 x.rg.pa, .slice x.aT x.two.length x.cT, .slice x.aN x.net.length x.cN, .slice x.aG x.ga.length x.cG, .slice x.aL x.ln.length x.cL, .slice x.aS x.sd.length x.cS], .int .i64 1] w fun e w' => e = .returned (.int .i64 (kE x)) ∧ BxN lo mid hi w' (bxMk x) ∧ KeptM lo hi w w' := by
  obtain ⟨y, hy⟩ : ∃ y, y = w.alloc (Obj.cells #[.int .i64 x.id, .int .i64 x.po, .int .i64 x.rg.ep, .int .i64 x.rg.ow, .int .i64 x.rg.pa, .slice x.aT x.two.length x.cT, .slice x.aN x.net.length x.cN, .slice x.aG x.ga.length x.cG, .slice x.aL x.ln.length x.cL, .slice x.aS x.sd.length x.cS] 39) := ⟨_, rfl⟩
  have B0 : Below w.heap.size w y := by rw [hy]; exact below_new _
  have A : BxAt y w.heap.size x := by rw [hy]; exact BxAt.new w _ x
  have sy := A.lt
  have M := M.below B0 hs
  have hmh := M.mh
  have hlm := M.lm
  go_enter Try.func13, Try.ntmps13
  have cc := A
  obtain ⟨a0, a1, a2, a3, a4, a5, a6, a7, a8, a9⟩ := cc
  go_wp2_with fail
  go_at_call 49
  rw [← hy]
  clear a0 a1 a2 a3 a4 a5 a6 a7 a8 a9 hy
  refine (mdMark x.aT x.cT x.two 1 lo mid y M.t (by have := M.mh; omega) K.t K.l (by decide) (by decide)).mono ?_
  rintro e u0 ⟨rfl, OT, kr⟩
  have hb : ∀ g, g < y.heap.size → (g < lo ∨ mid ≤ g) → u0.heap[g]? = y.heap[g]? := fun g h1 h2 => kr.block g h1 h2
  have sz := kr.size
  have A := A.keep (hb _ A.lt (by omega))
  have KR : KeptM lo hi y u0 := kr.wide (Nat.le_refl _) M.mh
  have ON := M.n.keep (fun g e => hb g (M.n.lt g e).2 (.inr (M.n.lt g e).1))
  have OG := M.g.keep (fun g e => hb g (M.g.lt g e).2 (.inr (M.g.lt g e).1))
  have OL := M.i.keep (fun g e => hb g (M.i.lt g e).2 (.inr (M.i.lt g e).1))
  have OS := M.s.keep (fun g e => hb g (M.s.lt g e).2 (.inr (M.s.lt g e).1))
  clear kr hb
  have hkl := k_le K
  rw [show (1 : Int) + (kToM x.two x.two.length : Int) = kN x from rfl]
  have cc := A
  obtain ⟨a0, a1, a2, a3, a4, a5, a6, a7, a8, a9⟩ := cc
  go_wp2_with fail
  go_at_call 50
  clear a0 a1 a2 a3 a4 a5 a6 a7 a8 a9
  refine (wiMark x.aN x.cN (kN x) mid x.net u0 ON K.n (by omega) (by omega)).mono ?_
  rintro e u1 ⟨rfl, ON', gr⟩
  have lb : ∀ g, (Value.slice x.aN x.net.length x.cN).ownBlock = some g → mid ≤ g ∧ g < hi := fun g e => ⟨(ON.lt g e).1, M.nh g e⟩
  have A := A.keep (gr.block _ A.lt (fun e => by have := lb _ e.symm; omega))
  have OT := OT.keep (fun g h1 h2 => gr.block g (by omega) (fun e => by have := lb _ e.symm; omega))
  have KR := KR.trans (KeptM.of_grown gr (fun k e => by have := lb k e; omega))
  have OG := OG.keep (fun g e => gr.block g (OG.lt g e).2 (fun e2 => ON.apartN OG (by decide) e2.symm e))
  have OL := OL.keep (fun g e => gr.block g (OL.lt g e).2 (fun e2 => ON.apartN OL (by decide) e2.symm e))
  have OS := OS.keep (fun g e => gr.block g (OS.lt g e).2 (fun e2 => ON.apartN OS (by decide) e2.symm e))
  have sz1 := gr.size
  clear gr lb ON
  have ON := ON'
  clear ON'
  rw [show kN x + 12 * (x.net.length : Int) = kG x from rfl]
  have cc := A
  obtain ⟨a0, a1, a2, a3, a4, a5, a6, a7, a8, a9⟩ := cc
  go_wp2_with fail
  go_at_call 51
  clear a0 a1 a2 a3 a4 a5 a6 a7 a8 a9
  refine (boMark x.aG x.cG (kG x) mid x.ga u1 OG K.g (by omega) (by omega)).mono ?_
  rintro e u2 ⟨rfl, OG', gr⟩
  have lb : ∀ g, (Value.slice x.aG x.ga.length x.cG).ownBlock = some g → mid ≤ g ∧ g < hi := fun g e => ⟨(OG.lt g e).1, M.gh g e⟩
  have A := A.keep (gr.block _ A.lt (fun e => by have := lb _ e.symm; omega))
  have OT := OT.keep (fun g h1 h2 => gr.block g (by omega) (fun e => by have := lb _ e.symm; omega))
  have KR := KR.trans (KeptM.of_grown gr (fun k e => by have := lb k e; omega))
  have ON := ON.keep (fun g e => gr.block g (ON.lt g e).2 (fun e2 => OG.apartN ON (by decide) e2.symm e))
  have OL := OL.keep (fun g e => gr.block g (OL.lt g e).2 (fun e2 => OG.apartN OL (by decide) e2.symm e))
  have OS := OS.keep (fun g e => gr.block g (OS.lt g e).2 (fun e2 => OG.apartN OS (by decide) e2.symm e))
  have sz2 := gr.size
  clear gr lb OG
  have OG := OG'
  clear OG'
  rw [show kG x + (x.ga.length : Int) = kI x from rfl]
  have cc := A
  obtain ⟨a0, a1, a2, a3, a4, a5, a6, a7, a8, a9⟩ := cc
  go_wp2_with fail
  go_at_call 52
  clear a0 a1 a2 a3 a4 a5 a6 a7 a8 a9
  refine (ikMark x.aL x.cL (kI x) mid x.ln u2 OL K.i (by omega) (by omega)).mono ?_
  rintro e u3 ⟨rfl, OL', gr⟩
  have lb : ∀ g, (Value.slice x.aL x.ln.length x.cL).ownBlock = some g → mid ≤ g ∧ g < hi := fun g e => ⟨(OL.lt g e).1, M.ih g e⟩
  have A := A.keep (gr.block _ A.lt (fun e => by have := lb _ e.symm; omega))
  have OT := OT.keep (fun g h1 h2 => gr.block g (by omega) (fun e => by have := lb _ e.symm; omega))
  have KR := KR.trans (KeptM.of_grown gr (fun k e => by have := lb k e; omega))
  have ON := ON.keep (fun g e => gr.block g (ON.lt g e).2 (fun e2 => OL.apartN ON (by decide) e2.symm e))
  have OG := OG.keep (fun g e => gr.block g (OG.lt g e).2 (fun e2 => OL.apartN OG (by decide) e2.symm e))
  have OS := OS.keep (fun g e => gr.block g (OS.lt g e).2 (fun e2 => OL.apartN OS (by decide) e2.symm e))
  have sz3 := gr.size
  clear gr lb OL
  have OL := OL'
  clear OL'
  rw [show kI x + 8 * (x.ln.length : Int) = kS x from rfl]
  have cc := A
  obtain ⟨a0, a1, a2, a3, a4, a5, a6, a7, a8, a9⟩ := cc
  go_wp2_with fail
  go_at_call 53
  clear a0 a1 a2 a3 a4 a5 a6 a7 a8 a9
  refine (ouMark x.aS x.cS (kS x) mid x.sd u3 OS K.s (by omega) (by omega)).mono ?_
  rintro e u4 ⟨rfl, OS', gr⟩
  have lb : ∀ g, (Value.slice x.aS x.sd.length x.cS).ownBlock = some g → mid ≤ g ∧ g < hi := fun g e => ⟨(OS.lt g e).1, M.sh g e⟩
  have A := A.keep (gr.block _ A.lt (fun e => by have := lb _ e.symm; omega))
  have OT := OT.keep (fun g h1 h2 => gr.block g (by omega) (fun e => by have := lb _ e.symm; omega))
  have KR := KR.trans (KeptM.of_grown gr (fun k e => by have := lb k e; omega))
  have ON := ON.keep (fun g e => gr.block g (ON.lt g e).2 (fun e2 => OS.apartN ON (by decide) e2.symm e))
  have OG := OG.keep (fun g e => gr.block g (OG.lt g e).2 (fun e2 => OS.apartN OG (by decide) e2.symm e))
  have OL := OL.keep (fun g e => gr.block g (OL.lt g e).2 (fun e2 => OS.apartN OL (by decide) e2.symm e))
  have sz4 := gr.size
  clear gr lb OS
  have OS := OS'
  clear OS'
  rw [show kS x + 8 * (x.sd.length : Int) = kE x from rfl]
  have hT : MOwn lo mid u4 (.slice x.aT (marksM x.two 1 x.two.length).length x.cT) (marksM x.two 1 x.two.length) := by rw [marksM_len]; exact OT
  go_wp2
  go_ret
  refine ⟨rfl, ⟨hT, by show FOwn _ _ _ _ _ (.slice _ (List.map _ _).length _) _; rw [List.length_map, List.length_range]; exact ON, by show FOwn _ _ _ _ _ (.slice _ (List.map _ _).length _) _; rw [List.length_map, List.length_range]; exact OG, by show FOwn _ _ _ _ _ (.slice _ (List.map _ _).length _) _; rw [List.length_map, List.length_range]; exact OL, by show FOwn _ _ _ _ _ (.slice _ (List.map _ _).length _) _; rw [List.length_map, List.length_range]; exact OS, by show ∀ b, (Value.slice _ (List.map _ _).length _).ownBlock = some b → b < hi; rw [List.length_map, List.length_range]; exact M.nh, by show ∀ b, (Value.slice _ (List.map _ _).length _).ownBlock = some b → b < hi; rw [List.length_map, List.length_range]; exact M.gh, by show ∀ b, (Value.slice _ (List.map _ _).length _).ownBlock = some b → b < hi; rw [List.length_map, List.length_range]; exact M.ih, by show ∀ b, (Value.slice _ (List.map _ _).length _).ownBlock = some b → b < hi; rw [List.length_map, List.length_range]; exact M.sh, M.lm, M.mh⟩, ?_⟩
  exact ⟨KR.os.trans B0.os, KR.tape.trans B0.tape, KR.output.trans B0.output, Nat.le_trans B0.size KR.size, fun k hk h2 => (KR.block k (by have := B0.size; omega) h2).trans (B0.block k hk)⟩

end Go.Proofs.Ytplejmkbdonkpab
namespace Go.Proofs.Ytplejmkbdonkpab
open Go.ChangeShapes Go.WideShapes Go.ChangeAt Go.RowKit
open Go.ChangeMaps (open_string shut_string)
set_option linter.unusedVariables false
set_option maxRecDepth 100000

set_option maxHeartbeats 4000000 in
theorem ikHeld (ad : Option Addr) (len cap : Nat) (s : Int) (w : World) (hv : FView ikEnc w ad ((List.range len).map (ikMk s))) (hl : len ≤ 1048576) (s0 : 0 ≤ s) (s1 : s ≤ 1000000000000) :
    Calls Try.prog 57 #[.slice ad len cap, .int .i64 s] w fun e w' => e = .returned (.int .i64 (s + 8 * (len : Int))) ∧ w' = w := by
  go_enter Try.func57, Try.ntmps57
  go_wp2
  go_loop [1, 5] (fun q i => ∃ k : Nat, k ≤ len ∧ i = .int .i64 k ∧ q = .int .i64 (s + 8 * (k : Int))) (fun _ i => len - (intOf i).toNat)
  case atStart => exact ⟨0, Nat.zero_le _, rfl, by simp⟩
  case round =>
    obtain ⟨k, hk, rfl, rfl⟩ := hrel
    by_cases hlt : k < len
    · obtain ⟨b, off, rfl, _⟩ := hv (by simpa using Nat.lt_of_le_of_lt (Nat.zero_le _) hlt)
      have hck : IkAtO w b (off + k * 8) (ikMk s k) := by
        have := ikAtO_of (hv.at_ ikEnc_len Ik.nil (i := k) (by simpa using hlt))
        rwa [show ((List.range len).map (ikMk s)).getD k Ik.nil = ikMk s k by simp [List.getD, hlt]] at this
      obtain ⟨c0, c1, c2, c3, c4, c5, c6, c7⟩ := hck
      unfold ikMk at c0 c1 c2 c3 c4 c5 c6 c7
      dsimp only at c0 c1 c2 c3 c4 c5 c6 c7
      generalize hK : s + 8 * (k : Int) = K at c0 c1 c2 c3 c4 c5 c6 c7 ⊢
      have K0 : 0 ≤ K := by omega
      have K1 : K ≤ 1100000000000 := by omega
      replace hK : Hid _ := hK
      have tq : ∀ x : Int, (!decide (x % 3 = 0) == (x % 3 == 0)) = false := fun x => by by_cases q : x % 3 = 0 <;> simp [q]
      go_wp2
      go_round
      case rel => exact ⟨k + 1, by omega, by go_num, by have := hK.out; go_num⟩
      case measure => simp [intOf]; omega
    · obtain rfl : k = len := by omega
      go_wp2
      go_ret
      exact ⟨rfl, rfl⟩

end Go.Proofs.Ytplejmkbdonkpab
namespace Go.Proofs.Ytplejmkbdonkpab
open Go.ChangeShapes Go.WideShapes Go.ChangeAt Go.RowKit
open Go.ChangeMaps (open_string shut_string)
set_option linter.unusedVariables false
set_option maxRecDepth 100000

set_option maxHeartbeats 4000000 in
theorem mdHeld (ad : Option Addr) (cap : Nat) (Bs : List MiD) (k0 : Int) (w : World) (hv : MV w ad (marksM Bs k0 Bs.length)) (hl : Bs.length ≤ 1048576) (hll : lToM Bs Bs.length ≤ 1048576) (hk0 : 0 ≤ k0) (hk1 : k0 ≤ 100000000) :
    Calls Try.prog 54 #[.slice ad Bs.length cap, .int .i64 k0] w fun e w' => e = .returned (.int .i64 (k0 + (kToM Bs Bs.length : Int))) ∧ w' = w := by
  have hkb := kToM_le Bs hl hll
  have hls : ∀ i, i < Bs.length → (Bs.getD i MiD.nil).m.lg.length ≤ 1048576 := fun i hi => Nat.le_trans (getLM_le Bs hi) hll
  go_enter Try.func54, Try.ntmps54
  go_wp2
  go_loop [1, 5] (fun q i => ∃ (k : Nat) (x : Int), k ≤ Bs.length ∧ i = .int .i64 k ∧ q = .int .i64 x ∧ Hid (x = k0 + (kToM Bs k : Int))) (fun _ i => Bs.length - (intOf i).toNat)
  case atStart => exact ⟨0, k0, Nat.zero_le _, rfl, rfl, by unfold Hid; simp [kToM]⟩
  case round =>
    obtain ⟨k, x, hk, rfl, rfl, hx⟩ := hrel
    by_cases hlt : k < Bs.length
    · have hx0 : 0 ≤ x := by have := hx.out; omega
      have hx1 : x ≤ 120000000 := by have := hx.out; have := hkb k (by omega); omega
      have hlk := hls k hlt
      have hb3 : Hid (kToM Bs (k + 1) = kToM Bs k + 6 + 8 * (Bs.getD k MiD.nil).m.lg.length) := rfl
      obtain ⟨b, off, rfl⟩ := hv.ad_ (by rw [marksM_len]; omega)
      have hck := hv.at_ (i := k) (by rw [marksM_len]; exact hlt)
      have hnk := hv.nest k (by rw [marksM_len]; exact hlt)
      rw [marksM_get Bs k0 Bs.length hlt, if_pos hlt] at hck hnk
      unfold mkm at hck hnk
      rw [← hx.out] at hck hnk
      unfold mkOne at hck hnk
      obtain ⟨⟨m, a1, c1⟩, hh⟩ : ∃ d, Bs.getD k MiD.nil = d := ⟨_, rfl⟩
      rw [hh] at hck hnk hlk hb3
      dsimp only at hnk hlk
      obtain ⟨c0, c1_, c2, c3, c4, c5, c6⟩ := hck
      dsimp only at c0 c1_ c2 c3 c4 c5 c6
      rw [List.length_map, List.length_range] at c3
      obtain ⟨Y, hY⟩ : ∃ Y, Y = x + 1 + 1 + 1 + 8 * (m.lg.length : Int) := ⟨_, rfl⟩
      rw [← hY] at c4 c5 c6
      have hY0 : 0 ≤ Y := by omega
      have hY1 : Y ≤ 200000000 := by omega
      have hneg : ¬ Y < 0 := by omega
      have tq : ((x % 3 == 0) != (x % 3 == 0)) = false := by simp
      clear hh hv
      go_wp2_with fail
      go_at_call 57
      refine (ikHeld a1 m.lg.length c1 (x + 1 + 1 + 1) w hnk (by omega) (by omega) (by omega)).mono ?_
      rintro e w2 ⟨rfl, rfl⟩
      rw [← hY]
      replace hY : Hid _ := hY
      go_wp2
      go_round
      case rel => exact ⟨k + 1, Y + 1 + 1 + 1, by omega, by go_num, rfl, by have := hx.out; have := hb3.out; have := hY.out; unfold Hid; omega⟩
      case measure => simp [intOf]; omega
    · obtain rfl : k = Bs.length := by omega
      go_wp2
      go_ret
      exact ⟨by rw [← hx.out]; rfl, rfl⟩

end Go.Proofs.Ytplejmkbdonkpab
namespace Go.Proofs.Ytplejmkbdonkpab
open Go.ChangeShapes Go.WideShapes Go.ChangeAt Go.RowKit
open Go.ChangeMaps (open_string shut_string)
set_option linter.unusedVariables false
set_option maxRecDepth 100000

set_option maxHeartbeats 4000000 in
theorem wiHeld (ad : Option Addr) (len cap : Nat) (s : Int) (w : World) (hv : FView wiEnc w ad ((List.range len).map (wiMk s))) (hl : len ≤ 1048576) (s0 : 0 ≤ s) (s1 : s ≤ 1000000000000) :
    Calls Try.prog 55 #[.slice ad len cap, .int .i64 s] w fun e w' => e = .returned (.int .i64 (s + 12 * (len : Int))) ∧ w' = w := by
  go_enter Try.func55, Try.ntmps55
  go_wp2
  go_loop [1, 5] (fun q i => ∃ k : Nat, k ≤ len ∧ i = .int .i64 k ∧ q = .int .i64 (s + 12 * (k : Int))) (fun _ i => len - (intOf i).toNat)
  case atStart => exact ⟨0, Nat.zero_le _, rfl, by simp⟩
  case round =>
    obtain ⟨k, hk, rfl, rfl⟩ := hrel
    by_cases hlt : k < len
    · obtain ⟨b, off, rfl, _⟩ := hv (by simpa using Nat.lt_of_le_of_lt (Nat.zero_le _) hlt)
      have hck : WiAtO w b (off + k * 12) (wiMk s k) := by
        have := wiAtO_of (hv.at_ wiEnc_len Wi.nil (i := k) (by simpa using hlt))
        rwa [show ((List.range len).map (wiMk s)).getD k Wi.nil = wiMk s k by simp [List.getD, hlt]] at this
      obtain ⟨c0, c1, c2, c3, c4, c5, c6, c7, c8, c9, c10, c11⟩ := hck
      unfold wiMk at c0 c1 c2 c3 c4 c5 c6 c7 c8 c9 c10 c11
      dsimp only at c0 c1 c2 c3 c4 c5 c6 c7 c8 c9 c10 c11
      generalize hK : s + 12 * (k : Int) = K at c0 c1 c2 c3 c4 c5 c6 c7 c8 c9 c10 c11 ⊢
      have K0 : 0 ≤ K := by omega
      have K1 : K ≤ 1100000000000 := by omega
      replace hK : Hid _ := hK
      have tq : ∀ x : Int, (!decide (x % 3 = 0) == (x % 3 == 0)) = false := fun x => by by_cases q : x % 3 = 0 <;> simp [q]
      go_wp2
      go_round
      case rel => exact ⟨k + 1, by omega, by go_num, by have := hK.out; go_num⟩
      case measure => simp [intOf]; omega
    · obtain rfl : k = len := by omega
      go_wp2
      go_ret
      exact ⟨rfl, rfl⟩

end Go.Proofs.Ytplejmkbdonkpab
namespace Go.Proofs.Ytplejmkbdonkpab
open Go.ChangeShapes Go.WideShapes Go.ChangeAt Go.RowKit
open Go.ChangeMaps (open_string shut_string)
set_option linter.unusedVariables false
set_option maxRecDepth 100000

set_option maxHeartbeats 2000000 in
theorem bxHeld (x : BxD) (w : World) (J : BxIn w (bxMk x)) (K : BxSm x) :
    Calls Try.prog 14 #[.agg #[.int .i64 x.id, .int .i64 x.po, .int .i64 x.rg.ep, .int .i64 x.rg.ow, .int .i64 x.rg.pa, .slice x.aT x.two.length x.cT, .slice x.aN x.net.length x.cN, .slice x.aG x.ga.length x.cG, .slice x.aL x.ln.length x.cL, .slice x.aS x.sd.length x.cS], .int .i64 1] w fun e w' => e = .returned (.int .i64 (kE x)) ∧ Below w.heap.size w w' := by
  obtain ⟨y, hy⟩ : ∃ y, y = w.alloc (Obj.cells #[.int .i64 x.id, .int .i64 x.po, .int .i64 x.rg.ep, .int .i64 x.rg.ow, .int .i64 x.rg.pa, .slice x.aT x.two.length x.cT, .slice x.aN x.net.length x.cN, .slice x.aG x.ga.length x.cG, .slice x.aL x.ln.length x.cL, .slice x.aS x.sd.length x.cS] 39) := ⟨_, rfl⟩
  have B0 : Below w.heap.size w y := by rw [hy]; exact below_new _
  have A : BxAt y w.heap.size x := by rw [hy]; exact BxAt.new w _ x
  have J := J.below B0
  have hkl := k_le K
  have hB : ViewB y x.aG x.ga.length (fun i => mkB (kG x + i)) := by
    have h1 := J.g.toB
    have hl : (bxMk x).ga.length = x.ga.length := by show ((List.range x.ga.length).map _).length = _; simp
    rw [hl] at h1
    refine ViewB.congr h1 (fun i hi => ?_)
    show ((List.range x.ga.length).map (boMk (kG x))).getD i false = _
    simp [List.getD, hi, boMk, mkB]
  go_enter Try.func14, Try.ntmps14
  have cc := A
  obtain ⟨a0, a1, a2, a3, a4, a5, a6, a7, a8, a9⟩ := cc
  go_wp2_with fail
  go_at_call 54
  rw [← hy]
  clear a0 a1 a2 a3 a4 a5 a6 a7 a8 a9 hy
  refine (mdHeld x.aT x.cT x.two 1 y J.t K.t K.l (by decide) (by decide)).mono ?_
  rintro e u0 ⟨rfl, hw_⟩
  rw [hw_]
  clear hw_
  rw [show (1 : Int) + (kToM x.two x.two.length : Int) = kN x from rfl]
  have n0 : ¬ kN x < 0 := by omega
  have cc := A
  obtain ⟨a0, a1, a2, a3, a4, a5, a6, a7, a8, a9⟩ := cc
  go_wp2_with fail
  go_at_call 55
  clear a0 a1 a2 a3 a4 a5 a6 a7 a8 a9
  refine (wiHeld x.aN x.net.length x.cN (kN x) y J.n K.n (by omega) (by omega)).mono ?_
  rintro e u1 ⟨rfl, hw_⟩
  rw [hw_]
  clear hw_
  rw [show kN x + 12 * (x.net.length : Int) = kG x from rfl]
  have n1 : ¬ kG x < 0 := by omega
  have cc := A
  obtain ⟨a0, a1, a2, a3, a4, a5, a6, a7, a8, a9⟩ := cc
  go_wp2_with fail
  go_at_call 56
  clear a0 a1 a2 a3 a4 a5 a6 a7 a8 a9
  refine (heldBools x.aG x.ga.length x.cG (kG x) y hB K.g (by omega) (by omega)).mono ?_
  rintro e u2 ⟨rfl, hw_⟩
  rw [hw_]
  clear hw_
  rw [show kG x + (x.ga.length : Int) = kI x from rfl]
  have n2 : ¬ kI x < 0 := by omega
  have cc := A
  obtain ⟨a0, a1, a2, a3, a4, a5, a6, a7, a8, a9⟩ := cc
  go_wp2_with fail
  go_at_call 57
  clear a0 a1 a2 a3 a4 a5 a6 a7 a8 a9
  refine (ikHeld x.aL x.ln.length x.cL (kI x) y J.i K.i (by omega) (by omega)).mono ?_
  rintro e u3 ⟨rfl, hw_⟩
  rw [hw_]
  clear hw_
  rw [show kI x + 8 * (x.ln.length : Int) = kS x from rfl]
  have n3 : ¬ kS x < 0 := by omega
  have cc := A
  obtain ⟨a0, a1, a2, a3, a4, a5, a6, a7, a8, a9⟩ := cc
  go_wp2_with fail
  go_at_call 58
  clear a0 a1 a2 a3 a4 a5 a6 a7 a8 a9
  refine (ouHeld x.aS x.sd.length x.cS (kS x) y J.s K.s (by omega) (by omega)).mono ?_
  rintro e u4 ⟨rfl, hw_⟩
  rw [hw_]
  clear hw_
  rw [show kS x + 8 * (x.sd.length : Int) = kE x from rfl]
  have n4 : ¬ kE x < 0 := by omega
  go_wp2
  go_ret
  exact ⟨rfl, B0⟩

end Go.Proofs.Ytplejmkbdonkpab
namespace Go.Proofs.Ytplejmkbdonkpab
open Go.ChangeShapes Go.WideShapes Go.ChangeAt Go.RowKit
open Go.ChangeMaps (open_string shut_string)
set_option linter.unusedVariables false
set_option maxRecDepth 100000

theorem lToM_marks (Bs : List MiD) (k0 : Int) (m : Nat) : ∀ n, n ≤ Bs.length → lToM (marksM Bs k0 m) n = lToM Bs n
  | 0, _ => rfl
  | n + 1, h => by
    show lToM (marksM Bs k0 m) n + _ = lToM Bs n + _
    rw [lToM_marks Bs k0 m n (by omega), marksM_get Bs k0 m (by omega : n < Bs.length)]
    split
    · unfold mkm mkOne
      simp
    · rfl
theorem BxSm.mk_ {x : BxD} (k : BxSm x) : BxSm (bxMk x) := by
  refine ⟨?_, ?_, ?_, ?_, ?_, ?_⟩
  · show (marksM x.two 1 x.two.length).length ≤ _; rw [marksM_len]; exact k.t
  · show lToM (marksM x.two 1 x.two.length) (marksM x.two 1 x.two.length).length ≤ _; rw [marksM_len, lToM_marks x.two 1 x.two.length _ (Nat.le_refl _)]; exact k.l
  · show ((List.range x.net.length).map _).length ≤ _; rw [List.length_map, List.length_range]; exact k.n
  · show ((List.range x.ga.length).map _).length ≤ _; rw [List.length_map, List.length_range]; exact k.g
  · show ((List.range x.ln.length).map _).length ≤ _; rw [List.length_map, List.length_range]; exact k.i
  · show ((List.range x.sd.length).map _).length ≤ _; rw [List.length_map, List.length_range]; exact k.s

end Go.Proofs.Ytplejmkbdonkpab
namespace Go.Proofs.Ytplejmkbdonkpab
open Go.ChangeShapes Go.WideShapes Go.ChangeAt Go.RowKit
open Go.ChangeMaps (open_string shut_string)
set_option linter.unusedVariables false
set_option maxRecDepth 100000

/-- A box's box that may be written. -/
structure BxB (w : World) (q : Nat) (x : BxD) : Prop where
  at_ : BxAt w q x
  fr : ∀ i, w.frozen? ⟨q, i, none⟩ = false
theorem BxB.keep {w w' : World} {q : Nat} {x : BxD} (h : BxB w q x) (k : w'.heap[q]? = w.heap[q]?) : BxB w' q x :=
  ⟨h.at_.keep k, fun i => (World.frozen?_of_block (a := ⟨q, i, none⟩) k).trans (h.fr i)⟩
theorem BxB.below {w w' : World} {q n : Nat} {x : BxD} (h : BxB w q x) (k : Below n w w') (hq : q < n) : BxB w' q x := h.keep (k.block q hq)
theorem BxB.lt {w : World} {q : Nat} {x : BxD} (h : BxB w q x) : q < w.heap.size := h.at_.lt
def BxD.zero : BxD := ⟨0, 0, ⟨0, 0, 0⟩, [], none, 0, [], none, 0, [], none, 0, [], none, 0, [], none, 0⟩
theorem BxB.put {w : World} {q : Nat} {x0 : BxD} (h : BxB w q x0) (x : BxD) : BxB ((((((((((w.setCell ⟨q, 0, none⟩ (.int .i64 x.id)).setCell ⟨q, 1, none⟩ (.int .i64 x.po)).setCell ⟨q, 2, none⟩ (.int .i64 x.rg.ep)).setCell ⟨q, 3, none⟩ (.int .i64 x.rg.ow)).setCell ⟨q, 4, none⟩ (.int .i64 x.rg.pa)).setCell ⟨q, 5, none⟩ (.slice x.aT x.two.length x.cT)).setCell ⟨q, 6, none⟩ (.slice x.aN x.net.length x.cN)).setCell ⟨q, 7, none⟩ (.slice x.aG x.ga.length x.cG)).setCell ⟨q, 8, none⟩ (.slice x.aL x.ln.length x.cL)).setCell ⟨q, 9, none⟩ (.slice x.aS x.sd.length x.cS)) q x := by
  obtain ⟨⟨h0, h1, h2, h3, h4, h5, h6, h7, h8, h9⟩, hf⟩ := h
  have h0 : (w.setCell ⟨q, 0, none⟩ (.int .i64 x.id)).cell? ⟨q, 0, none⟩ = some (.int .i64 x.id) := pset_same h0
  have h1 : (w.setCell ⟨q, 0, none⟩ (.int .i64 x.id)).cell? ⟨q, 1, none⟩ = _ := (pset_else (by decide)).trans h1
  have h2 : (w.setCell ⟨q, 0, none⟩ (.int .i64 x.id)).cell? ⟨q, 2, none⟩ = _ := (pset_else (by decide)).trans h2
  have h3 : (w.setCell ⟨q, 0, none⟩ (.int .i64 x.id)).cell? ⟨q, 3, none⟩ = _ := (pset_else (by decide)).trans h3
  have h4 : (w.setCell ⟨q, 0, none⟩ (.int .i64 x.id)).cell? ⟨q, 4, none⟩ = _ := (pset_else (by decide)).trans h4
  have h5 : (w.setCell ⟨q, 0, none⟩ (.int .i64 x.id)).cell? ⟨q, 5, none⟩ = _ := (pset_else (by decide)).trans h5
  have h6 : (w.setCell ⟨q, 0, none⟩ (.int .i64 x.id)).cell? ⟨q, 6, none⟩ = _ := (pset_else (by decide)).trans h6
  have h7 : (w.setCell ⟨q, 0, none⟩ (.int .i64 x.id)).cell? ⟨q, 7, none⟩ = _ := (pset_else (by decide)).trans h7
  have h8 : (w.setCell ⟨q, 0, none⟩ (.int .i64 x.id)).cell? ⟨q, 8, none⟩ = _ := (pset_else (by decide)).trans h8
  have h9 : (w.setCell ⟨q, 0, none⟩ (.int .i64 x.id)).cell? ⟨q, 9, none⟩ = _ := (pset_else (by decide)).trans h9
  have h0 : ((w.setCell ⟨q, 0, none⟩ (.int .i64 x.id)).setCell ⟨q, 1, none⟩ (.int .i64 x.po)).cell? ⟨q, 0, none⟩ = _ := (pset_else (by decide)).trans h0
  have h1 : ((w.setCell ⟨q, 0, none⟩ (.int .i64 x.id)).setCell ⟨q, 1, none⟩ (.int .i64 x.po)).cell? ⟨q, 1, none⟩ = some (.int .i64 x.po) := pset_same h1
  have h2 : ((w.setCell ⟨q, 0, none⟩ (.int .i64 x.id)).setCell ⟨q, 1, none⟩ (.int .i64 x.po)).cell? ⟨q, 2, none⟩ = _ := (pset_else (by decide)).trans h2
  have h3 : ((w.setCell ⟨q, 0, none⟩ (.int .i64 x.id)).setCell ⟨q, 1, none⟩ (.int .i64 x.po)).cell? ⟨q, 3, none⟩ = _ := (pset_else (by decide)).trans h3
  have h4 : ((w.setCell ⟨q, 0, none⟩ (.int .i64 x.id)).setCell ⟨q, 1, none⟩ (.int .i64 x.po)).cell? ⟨q, 4, none⟩ = _ := (pset_else (by decide)).trans h4
  have h5 : ((w.setCell ⟨q, 0, none⟩ (.int .i64 x.id)).setCell ⟨q, 1, none⟩ (.int .i64 x.po)).cell? ⟨q, 5, none⟩ = _ := (pset_else (by decide)).trans h5
  have h6 : ((w.setCell ⟨q, 0, none⟩ (.int .i64 x.id)).setCell ⟨q, 1, none⟩ (.int .i64 x.po)).cell? ⟨q, 6, none⟩ = _ := (pset_else (by decide)).trans h6
  have h7 : ((w.setCell ⟨q, 0, none⟩ (.int .i64 x.id)).setCell ⟨q, 1, none⟩ (.int .i64 x.po)).cell? ⟨q, 7, none⟩ = _ := (pset_else (by decide)).trans h7
  have h8 : ((w.setCell ⟨q, 0, none⟩ (.int .i64 x.id)).setCell ⟨q, 1, none⟩ (.int .i64 x.po)).cell? ⟨q, 8, none⟩ = _ := (pset_else (by decide)).trans h8
  have h9 : ((w.setCell ⟨q, 0, none⟩ (.int .i64 x.id)).setCell ⟨q, 1, none⟩ (.int .i64 x.po)).cell? ⟨q, 9, none⟩ = _ := (pset_else (by decide)).trans h9
  have h0 : (((w.setCell ⟨q, 0, none⟩ (.int .i64 x.id)).setCell ⟨q, 1, none⟩ (.int .i64 x.po)).setCell ⟨q, 2, none⟩ (.int .i64 x.rg.ep)).cell? ⟨q, 0, none⟩ = _ := (pset_else (by decide)).trans h0
  have h1 : (((w.setCell ⟨q, 0, none⟩ (.int .i64 x.id)).setCell ⟨q, 1, none⟩ (.int .i64 x.po)).setCell ⟨q, 2, none⟩ (.int .i64 x.rg.ep)).cell? ⟨q, 1, none⟩ = _ := (pset_else (by decide)).trans h1
  have h2 : (((w.setCell ⟨q, 0, none⟩ (.int .i64 x.id)).setCell ⟨q, 1, none⟩ (.int .i64 x.po)).setCell ⟨q, 2, none⟩ (.int .i64 x.rg.ep)).cell? ⟨q, 2, none⟩ = some (.int .i64 x.rg.ep) := pset_same h2
  have h3 : (((w.setCell ⟨q, 0, none⟩ (.int .i64 x.id)).setCell ⟨q, 1, none⟩ (.int .i64 x.po)).setCell ⟨q, 2, none⟩ (.int .i64 x.rg.ep)).cell? ⟨q, 3, none⟩ = _ := (pset_else (by decide)).trans h3
  have h4 : (((w.setCell ⟨q, 0, none⟩ (.int .i64 x.id)).setCell ⟨q, 1, none⟩ (.int .i64 x.po)).setCell ⟨q, 2, none⟩ (.int .i64 x.rg.ep)).cell? ⟨q, 4, none⟩ = _ := (pset_else (by decide)).trans h4
  have h5 : (((w.setCell ⟨q, 0, none⟩ (.int .i64 x.id)).setCell ⟨q, 1, none⟩ (.int .i64 x.po)).setCell ⟨q, 2, none⟩ (.int .i64 x.rg.ep)).cell? ⟨q, 5, none⟩ = _ := (pset_else (by decide)).trans h5
  have h6 : (((w.setCell ⟨q, 0, none⟩ (.int .i64 x.id)).setCell ⟨q, 1, none⟩ (.int .i64 x.po)).setCell ⟨q, 2, none⟩ (.int .i64 x.rg.ep)).cell? ⟨q, 6, none⟩ = _ := (pset_else (by decide)).trans h6
  have h7 : (((w.setCell ⟨q, 0, none⟩ (.int .i64 x.id)).setCell ⟨q, 1, none⟩ (.int .i64 x.po)).setCell ⟨q, 2, none⟩ (.int .i64 x.rg.ep)).cell? ⟨q, 7, none⟩ = _ := (pset_else (by decide)).trans h7
  have h8 : (((w.setCell ⟨q, 0, none⟩ (.int .i64 x.id)).setCell ⟨q, 1, none⟩ (.int .i64 x.po)).setCell ⟨q, 2, none⟩ (.int .i64 x.rg.ep)).cell? ⟨q, 8, none⟩ = _ := (pset_else (by decide)).trans h8
  have h9 : (((w.setCell ⟨q, 0, none⟩ (.int .i64 x.id)).setCell ⟨q, 1, none⟩ (.int .i64 x.po)).setCell ⟨q, 2, none⟩ (.int .i64 x.rg.ep)).cell? ⟨q, 9, none⟩ = _ := (pset_else (by decide)).trans h9
  have h0 : ((((w.setCell ⟨q, 0, none⟩ (.int .i64 x.id)).setCell ⟨q, 1, none⟩ (.int .i64 x.po)).setCell ⟨q, 2, none⟩ (.int .i64 x.rg.ep)).setCell ⟨q, 3, none⟩ (.int .i64 x.rg.ow)).cell? ⟨q, 0, none⟩ = _ := (pset_else (by decide)).trans h0
  have h1 : ((((w.setCell ⟨q, 0, none⟩ (.int .i64 x.id)).setCell ⟨q, 1, none⟩ (.int .i64 x.po)).setCell ⟨q, 2, none⟩ (.int .i64 x.rg.ep)).setCell ⟨q, 3, none⟩ (.int .i64 x.rg.ow)).cell? ⟨q, 1, none⟩ = _ := (pset_else (by decide)).trans h1
  have h2 : ((((w.setCell ⟨q, 0, none⟩ (.int .i64 x.id)).setCell ⟨q, 1, none⟩ (.int .i64 x.po)).setCell ⟨q, 2, none⟩ (.int .i64 x.rg.ep)).setCell ⟨q, 3, none⟩ (.int .i64 x.rg.ow)).cell? ⟨q, 2, none⟩ = _ := (pset_else (by decide)).trans h2
  have h3 : ((((w.setCell ⟨q, 0, none⟩ (.int .i64 x.id)).setCell ⟨q, 1, none⟩ (.int .i64 x.po)).setCell ⟨q, 2, none⟩ (.int .i64 x.rg.ep)).setCell ⟨q, 3, none⟩ (.int .i64 x.rg.ow)).cell? ⟨q, 3, none⟩ = some (.int .i64 x.rg.ow) := pset_same h3
  have h4 : ((((w.setCell ⟨q, 0, none⟩ (.int .i64 x.id)).setCell ⟨q, 1, none⟩ (.int .i64 x.po)).setCell ⟨q, 2, none⟩ (.int .i64 x.rg.ep)).setCell ⟨q, 3, none⟩ (.int .i64 x.rg.ow)).cell? ⟨q, 4, none⟩ = _ := (pset_else (by decide)).trans h4
  have h5 : ((((w.setCell ⟨q, 0, none⟩ (.int .i64 x.id)).setCell ⟨q, 1, none⟩ (.int .i64 x.po)).setCell ⟨q, 2, none⟩ (.int .i64 x.rg.ep)).setCell ⟨q, 3, none⟩ (.int .i64 x.rg.ow)).cell? ⟨q, 5, none⟩ = _ := (pset_else (by decide)).trans h5
  have h6 : ((((w.setCell ⟨q, 0, none⟩ (.int .i64 x.id)).setCell ⟨q, 1, none⟩ (.int .i64 x.po)).setCell ⟨q, 2, none⟩ (.int .i64 x.rg.ep)).setCell ⟨q, 3, none⟩ (.int .i64 x.rg.ow)).cell? ⟨q, 6, none⟩ = _ := (pset_else (by decide)).trans h6
  have h7 : ((((w.setCell ⟨q, 0, none⟩ (.int .i64 x.id)).setCell ⟨q, 1, none⟩ (.int .i64 x.po)).setCell ⟨q, 2, none⟩ (.int .i64 x.rg.ep)).setCell ⟨q, 3, none⟩ (.int .i64 x.rg.ow)).cell? ⟨q, 7, none⟩ = _ := (pset_else (by decide)).trans h7
  have h8 : ((((w.setCell ⟨q, 0, none⟩ (.int .i64 x.id)).setCell ⟨q, 1, none⟩ (.int .i64 x.po)).setCell ⟨q, 2, none⟩ (.int .i64 x.rg.ep)).setCell ⟨q, 3, none⟩ (.int .i64 x.rg.ow)).cell? ⟨q, 8, none⟩ = _ := (pset_else (by decide)).trans h8
  have h9 : ((((w.setCell ⟨q, 0, none⟩ (.int .i64 x.id)).setCell ⟨q, 1, none⟩ (.int .i64 x.po)).setCell ⟨q, 2, none⟩ (.int .i64 x.rg.ep)).setCell ⟨q, 3, none⟩ (.int .i64 x.rg.ow)).cell? ⟨q, 9, none⟩ = _ := (pset_else (by decide)).trans h9
  have h0 : (((((w.setCell ⟨q, 0, none⟩ (.int .i64 x.id)).setCell ⟨q, 1, none⟩ (.int .i64 x.po)).setCell ⟨q, 2, none⟩ (.int .i64 x.rg.ep)).setCell ⟨q, 3, none⟩ (.int .i64 x.rg.ow)).setCell ⟨q, 4, none⟩ (.int .i64 x.rg.pa)).cell? ⟨q, 0, none⟩ = _ := (pset_else (by decide)).trans h0
  have h1 : (((((w.setCell ⟨q, 0, none⟩ (.int .i64 x.id)).setCell ⟨q, 1, none⟩ (.int .i64 x.po)).setCell ⟨q, 2, none⟩ (.int .i64 x.rg.ep)).setCell ⟨q, 3, none⟩ (.int .i64 x.rg.ow)).setCell ⟨q, 4, none⟩ (.int .i64 x.rg.pa)).cell? ⟨q, 1, none⟩ = _ := (pset_else (by decide)).trans h1
  have h2 : (((((w.setCell ⟨q, 0, none⟩ (.int .i64 x.id)).setCell ⟨q, 1, none⟩ (.int .i64 x.po)).setCell ⟨q, 2, none⟩ (.int .i64 x.rg.ep)).setCell ⟨q, 3, none⟩ (.int .i64 x.rg.ow)).setCell ⟨q, 4, none⟩ (.int .i64 x.rg.pa)).cell? ⟨q, 2, none⟩ = _ := (pset_else (by decide)).trans h2
  have h3 : (((((w.setCell ⟨q, 0, none⟩ (.int .i64 x.id)).setCell ⟨q, 1, none⟩ (.int .i64 x.po)).setCell ⟨q, 2, none⟩ (.int .i64 x.rg.ep)).setCell ⟨q, 3, none⟩ (.int .i64 x.rg.ow)).setCell ⟨q, 4, none⟩ (.int .i64 x.rg.pa)).cell? ⟨q, 3, none⟩ = _ := (pset_else (by decide)).trans h3
  have h4 : (((((w.setCell ⟨q, 0, none⟩ (.int .i64 x.id)).setCell ⟨q, 1, none⟩ (.int .i64 x.po)).setCell ⟨q, 2, none⟩ (.int .i64 x.rg.ep)).setCell ⟨q, 3, none⟩ (.int .i64 x.rg.ow)).setCell ⟨q, 4, none⟩ (.int .i64 x.rg.pa)).cell? ⟨q, 4, none⟩ = some (.int .i64 x.rg.pa) := pset_same h4
  have h5 : (((((w.setCell ⟨q, 0, none⟩ (.int .i64 x.id)).setCell ⟨q, 1, none⟩ (.int .i64 x.po)).setCell ⟨q, 2, none⟩ (.int .i64 x.rg.ep)).setCell ⟨q, 3, none⟩ (.int .i64 x.rg.ow)).setCell ⟨q, 4, none⟩ (.int .i64 x.rg.pa)).cell? ⟨q, 5, none⟩ = _ := (pset_else (by decide)).trans h5
  have h6 : (((((w.setCell ⟨q, 0, none⟩ (.int .i64 x.id)).setCell ⟨q, 1, none⟩ (.int .i64 x.po)).setCell ⟨q, 2, none⟩ (.int .i64 x.rg.ep)).setCell ⟨q, 3, none⟩ (.int .i64 x.rg.ow)).setCell ⟨q, 4, none⟩ (.int .i64 x.rg.pa)).cell? ⟨q, 6, none⟩ = _ := (pset_else (by decide)).trans h6
  have h7 : (((((w.setCell ⟨q, 0, none⟩ (.int .i64 x.id)).setCell ⟨q, 1, none⟩ (.int .i64 x.po)).setCell ⟨q, 2, none⟩ (.int .i64 x.rg.ep)).setCell ⟨q, 3, none⟩ (.int .i64 x.rg.ow)).setCell ⟨q, 4, none⟩ (.int .i64 x.rg.pa)).cell? ⟨q, 7, none⟩ = _ := (pset_else (by decide)).trans h7
  have h8 : (((((w.setCell ⟨q, 0, none⟩ (.int .i64 x.id)).setCell ⟨q, 1, none⟩ (.int .i64 x.po)).setCell ⟨q, 2, none⟩ (.int .i64 x.rg.ep)).setCell ⟨q, 3, none⟩ (.int .i64 x.rg.ow)).setCell ⟨q, 4, none⟩ (.int .i64 x.rg.pa)).cell? ⟨q, 8, none⟩ = _ := (pset_else (by decide)).trans h8
  have h9 : (((((w.setCell ⟨q, 0, none⟩ (.int .i64 x.id)).setCell ⟨q, 1, none⟩ (.int .i64 x.po)).setCell ⟨q, 2, none⟩ (.int .i64 x.rg.ep)).setCell ⟨q, 3, none⟩ (.int .i64 x.rg.ow)).setCell ⟨q, 4, none⟩ (.int .i64 x.rg.pa)).cell? ⟨q, 9, none⟩ = _ := (pset_else (by decide)).trans h9
  have h0 : ((((((w.setCell ⟨q, 0, none⟩ (.int .i64 x.id)).setCell ⟨q, 1, none⟩ (.int .i64 x.po)).setCell ⟨q, 2, none⟩ (.int .i64 x.rg.ep)).setCell ⟨q, 3, none⟩ (.int .i64 x.rg.ow)).setCell ⟨q, 4, none⟩ (.int .i64 x.rg.pa)).setCell ⟨q, 5, none⟩ (.slice x.aT x.two.length x.cT)).cell? ⟨q, 0, none⟩ = _ := (pset_else (by decide)).trans h0
  have h1 : ((((((w.setCell ⟨q, 0, none⟩ (.int .i64 x.id)).setCell ⟨q, 1, none⟩ (.int .i64 x.po)).setCell ⟨q, 2, none⟩ (.int .i64 x.rg.ep)).setCell ⟨q, 3, none⟩ (.int .i64 x.rg.ow)).setCell ⟨q, 4, none⟩ (.int .i64 x.rg.pa)).setCell ⟨q, 5, none⟩ (.slice x.aT x.two.length x.cT)).cell? ⟨q, 1, none⟩ = _ := (pset_else (by decide)).trans h1
  have h2 : ((((((w.setCell ⟨q, 0, none⟩ (.int .i64 x.id)).setCell ⟨q, 1, none⟩ (.int .i64 x.po)).setCell ⟨q, 2, none⟩ (.int .i64 x.rg.ep)).setCell ⟨q, 3, none⟩ (.int .i64 x.rg.ow)).setCell ⟨q, 4, none⟩ (.int .i64 x.rg.pa)).setCell ⟨q, 5, none⟩ (.slice x.aT x.two.length x.cT)).cell? ⟨q, 2, none⟩ = _ := (pset_else (by decide)).trans h2
  have h3 : ((((((w.setCell ⟨q, 0, none⟩ (.int .i64 x.id)).setCell ⟨q, 1, none⟩ (.int .i64 x.po)).setCell ⟨q, 2, none⟩ (.int .i64 x.rg.ep)).setCell ⟨q, 3, none⟩ (.int .i64 x.rg.ow)).setCell ⟨q, 4, none⟩ (.int .i64 x.rg.pa)).setCell ⟨q, 5, none⟩ (.slice x.aT x.two.length x.cT)).cell? ⟨q, 3, none⟩ = _ := (pset_else (by decide)).trans h3
  have h4 : ((((((w.setCell ⟨q, 0, none⟩ (.int .i64 x.id)).setCell ⟨q, 1, none⟩ (.int .i64 x.po)).setCell ⟨q, 2, none⟩ (.int .i64 x.rg.ep)).setCell ⟨q, 3, none⟩ (.int .i64 x.rg.ow)).setCell ⟨q, 4, none⟩ (.int .i64 x.rg.pa)).setCell ⟨q, 5, none⟩ (.slice x.aT x.two.length x.cT)).cell? ⟨q, 4, none⟩ = _ := (pset_else (by decide)).trans h4
  have h5 : ((((((w.setCell ⟨q, 0, none⟩ (.int .i64 x.id)).setCell ⟨q, 1, none⟩ (.int .i64 x.po)).setCell ⟨q, 2, none⟩ (.int .i64 x.rg.ep)).setCell ⟨q, 3, none⟩ (.int .i64 x.rg.ow)).setCell ⟨q, 4, none⟩ (.int .i64 x.rg.pa)).setCell ⟨q, 5, none⟩ (.slice x.aT x.two.length x.cT)).cell? ⟨q, 5, none⟩ = some (.slice x.aT x.two.length x.cT) := pset_same h5
  have h6 : ((((((w.setCell ⟨q, 0, none⟩ (.int .i64 x.id)).setCell ⟨q, 1, none⟩ (.int .i64 x.po)).setCell ⟨q, 2, none⟩ (.int .i64 x.rg.ep)).setCell ⟨q, 3, none⟩ (.int .i64 x.rg.ow)).setCell ⟨q, 4, none⟩ (.int .i64 x.rg.pa)).setCell ⟨q, 5, none⟩ (.slice x.aT x.two.length x.cT)).cell? ⟨q, 6, none⟩ = _ := (pset_else (by decide)).trans h6
  have h7 : ((((((w.setCell ⟨q, 0, none⟩ (.int .i64 x.id)).setCell ⟨q, 1, none⟩ (.int .i64 x.po)).setCell ⟨q, 2, none⟩ (.int .i64 x.rg.ep)).setCell ⟨q, 3, none⟩ (.int .i64 x.rg.ow)).setCell ⟨q, 4, none⟩ (.int .i64 x.rg.pa)).setCell ⟨q, 5, none⟩ (.slice x.aT x.two.length x.cT)).cell? ⟨q, 7, none⟩ = _ := (pset_else (by decide)).trans h7
  have h8 : ((((((w.setCell ⟨q, 0, none⟩ (.int .i64 x.id)).setCell ⟨q, 1, none⟩ (.int .i64 x.po)).setCell ⟨q, 2, none⟩ (.int .i64 x.rg.ep)).setCell ⟨q, 3, none⟩ (.int .i64 x.rg.ow)).setCell ⟨q, 4, none⟩ (.int .i64 x.rg.pa)).setCell ⟨q, 5, none⟩ (.slice x.aT x.two.length x.cT)).cell? ⟨q, 8, none⟩ = _ := (pset_else (by decide)).trans h8
  have h9 : ((((((w.setCell ⟨q, 0, none⟩ (.int .i64 x.id)).setCell ⟨q, 1, none⟩ (.int .i64 x.po)).setCell ⟨q, 2, none⟩ (.int .i64 x.rg.ep)).setCell ⟨q, 3, none⟩ (.int .i64 x.rg.ow)).setCell ⟨q, 4, none⟩ (.int .i64 x.rg.pa)).setCell ⟨q, 5, none⟩ (.slice x.aT x.two.length x.cT)).cell? ⟨q, 9, none⟩ = _ := (pset_else (by decide)).trans h9
  have h0 : (((((((w.setCell ⟨q, 0, none⟩ (.int .i64 x.id)).setCell ⟨q, 1, none⟩ (.int .i64 x.po)).setCell ⟨q, 2, none⟩ (.int .i64 x.rg.ep)).setCell ⟨q, 3, none⟩ (.int .i64 x.rg.ow)).setCell ⟨q, 4, none⟩ (.int .i64 x.rg.pa)).setCell ⟨q, 5, none⟩ (.slice x.aT x.two.length x.cT)).setCell ⟨q, 6, none⟩ (.slice x.aN x.net.length x.cN)).cell? ⟨q, 0, none⟩ = _ := (pset_else (by decide)).trans h0
  have h1 : (((((((w.setCell ⟨q, 0, none⟩ (.int .i64 x.id)).setCell ⟨q, 1, none⟩ (.int .i64 x.po)).setCell ⟨q, 2, none⟩ (.int .i64 x.rg.ep)).setCell ⟨q, 3, none⟩ (.int .i64 x.rg.ow)).setCell ⟨q, 4, none⟩ (.int .i64 x.rg.pa)).setCell ⟨q, 5, none⟩ (.slice x.aT x.two.length x.cT)).setCell ⟨q, 6, none⟩ (.slice x.aN x.net.length x.cN)).cell? ⟨q, 1, none⟩ = _ := (pset_else (by decide)).trans h1
  have h2 : (((((((w.setCell ⟨q, 0, none⟩ (.int .i64 x.id)).setCell ⟨q, 1, none⟩ (.int .i64 x.po)).setCell ⟨q, 2, none⟩ (.int .i64 x.rg.ep)).setCell ⟨q, 3, none⟩ (.int .i64 x.rg.ow)).setCell ⟨q, 4, none⟩ (.int .i64 x.rg.pa)).setCell ⟨q, 5, none⟩ (.slice x.aT x.two.length x.cT)).setCell ⟨q, 6, none⟩ (.slice x.aN x.net.length x.cN)).cell? ⟨q, 2, none⟩ = _ := (pset_else (by decide)).trans h2
  have h3 : (((((((w.setCell ⟨q, 0, none⟩ (.int .i64 x.id)).setCell ⟨q, 1, none⟩ (.int .i64 x.po)).setCell ⟨q, 2, none⟩ (.int .i64 x.rg.ep)).setCell ⟨q, 3, none⟩ (.int .i64 x.rg.ow)).setCell ⟨q, 4, none⟩ (.int .i64 x.rg.pa)).setCell ⟨q, 5, none⟩ (.slice x.aT x.two.length x.cT)).setCell ⟨q, 6, none⟩ (.slice x.aN x.net.length x.cN)).cell? ⟨q, 3, none⟩ = _ := (pset_else (by decide)).trans h3
  have h4 : (((((((w.setCell ⟨q, 0, none⟩ (.int .i64 x.id)).setCell ⟨q, 1, none⟩ (.int .i64 x.po)).setCell ⟨q, 2, none⟩ (.int .i64 x.rg.ep)).setCell ⟨q, 3, none⟩ (.int .i64 x.rg.ow)).setCell ⟨q, 4, none⟩ (.int .i64 x.rg.pa)).setCell ⟨q, 5, none⟩ (.slice x.aT x.two.length x.cT)).setCell ⟨q, 6, none⟩ (.slice x.aN x.net.length x.cN)).cell? ⟨q, 4, none⟩ = _ := (pset_else (by decide)).trans h4
  have h5 : (((((((w.setCell ⟨q, 0, none⟩ (.int .i64 x.id)).setCell ⟨q, 1, none⟩ (.int .i64 x.po)).setCell ⟨q, 2, none⟩ (.int .i64 x.rg.ep)).setCell ⟨q, 3, none⟩ (.int .i64 x.rg.ow)).setCell ⟨q, 4, none⟩ (.int .i64 x.rg.pa)).setCell ⟨q, 5, none⟩ (.slice x.aT x.two.length x.cT)).setCell ⟨q, 6, none⟩ (.slice x.aN x.net.length x.cN)).cell? ⟨q, 5, none⟩ = _ := (pset_else (by decide)).trans h5
  have h6 : (((((((w.setCell ⟨q, 0, none⟩ (.int .i64 x.id)).setCell ⟨q, 1, none⟩ (.int .i64 x.po)).setCell ⟨q, 2, none⟩ (.int .i64 x.rg.ep)).setCell ⟨q, 3, none⟩ (.int .i64 x.rg.ow)).setCell ⟨q, 4, none⟩ (.int .i64 x.rg.pa)).setCell ⟨q, 5, none⟩ (.slice x.aT x.two.length x.cT)).setCell ⟨q, 6, none⟩ (.slice x.aN x.net.length x.cN)).cell? ⟨q, 6, none⟩ = some (.slice x.aN x.net.length x.cN) := pset_same h6
  have h7 : (((((((w.setCell ⟨q, 0, none⟩ (.int .i64 x.id)).setCell ⟨q, 1, none⟩ (.int .i64 x.po)).setCell ⟨q, 2, none⟩ (.int .i64 x.rg.ep)).setCell ⟨q, 3, none⟩ (.int .i64 x.rg.ow)).setCell ⟨q, 4, none⟩ (.int .i64 x.rg.pa)).setCell ⟨q, 5, none⟩ (.slice x.aT x.two.length x.cT)).setCell ⟨q, 6, none⟩ (.slice x.aN x.net.length x.cN)).cell? ⟨q, 7, none⟩ = _ := (pset_else (by decide)).trans h7
  have h8 : (((((((w.setCell ⟨q, 0, none⟩ (.int .i64 x.id)).setCell ⟨q, 1, none⟩ (.int .i64 x.po)).setCell ⟨q, 2, none⟩ (.int .i64 x.rg.ep)).setCell ⟨q, 3, none⟩ (.int .i64 x.rg.ow)).setCell ⟨q, 4, none⟩ (.int .i64 x.rg.pa)).setCell ⟨q, 5, none⟩ (.slice x.aT x.two.length x.cT)).setCell ⟨q, 6, none⟩ (.slice x.aN x.net.length x.cN)).cell? ⟨q, 8, none⟩ = _ := (pset_else (by decide)).trans h8
  have h9 : (((((((w.setCell ⟨q, 0, none⟩ (.int .i64 x.id)).setCell ⟨q, 1, none⟩ (.int .i64 x.po)).setCell ⟨q, 2, none⟩ (.int .i64 x.rg.ep)).setCell ⟨q, 3, none⟩ (.int .i64 x.rg.ow)).setCell ⟨q, 4, none⟩ (.int .i64 x.rg.pa)).setCell ⟨q, 5, none⟩ (.slice x.aT x.two.length x.cT)).setCell ⟨q, 6, none⟩ (.slice x.aN x.net.length x.cN)).cell? ⟨q, 9, none⟩ = _ := (pset_else (by decide)).trans h9
  have h0 : ((((((((w.setCell ⟨q, 0, none⟩ (.int .i64 x.id)).setCell ⟨q, 1, none⟩ (.int .i64 x.po)).setCell ⟨q, 2, none⟩ (.int .i64 x.rg.ep)).setCell ⟨q, 3, none⟩ (.int .i64 x.rg.ow)).setCell ⟨q, 4, none⟩ (.int .i64 x.rg.pa)).setCell ⟨q, 5, none⟩ (.slice x.aT x.two.length x.cT)).setCell ⟨q, 6, none⟩ (.slice x.aN x.net.length x.cN)).setCell ⟨q, 7, none⟩ (.slice x.aG x.ga.length x.cG)).cell? ⟨q, 0, none⟩ = _ := (pset_else (by decide)).trans h0
  have h1 : ((((((((w.setCell ⟨q, 0, none⟩ (.int .i64 x.id)).setCell ⟨q, 1, none⟩ (.int .i64 x.po)).setCell ⟨q, 2, none⟩ (.int .i64 x.rg.ep)).setCell ⟨q, 3, none⟩ (.int .i64 x.rg.ow)).setCell ⟨q, 4, none⟩ (.int .i64 x.rg.pa)).setCell ⟨q, 5, none⟩ (.slice x.aT x.two.length x.cT)).setCell ⟨q, 6, none⟩ (.slice x.aN x.net.length x.cN)).setCell ⟨q, 7, none⟩ (.slice x.aG x.ga.length x.cG)).cell? ⟨q, 1, none⟩ = _ := (pset_else (by decide)).trans h1
  have h2 : ((((((((w.setCell ⟨q, 0, none⟩ (.int .i64 x.id)).setCell ⟨q, 1, none⟩ (.int .i64 x.po)).setCell ⟨q, 2, none⟩ (.int .i64 x.rg.ep)).setCell ⟨q, 3, none⟩ (.int .i64 x.rg.ow)).setCell ⟨q, 4, none⟩ (.int .i64 x.rg.pa)).setCell ⟨q, 5, none⟩ (.slice x.aT x.two.length x.cT)).setCell ⟨q, 6, none⟩ (.slice x.aN x.net.length x.cN)).setCell ⟨q, 7, none⟩ (.slice x.aG x.ga.length x.cG)).cell? ⟨q, 2, none⟩ = _ := (pset_else (by decide)).trans h2
  have h3 : ((((((((w.setCell ⟨q, 0, none⟩ (.int .i64 x.id)).setCell ⟨q, 1, none⟩ (.int .i64 x.po)).setCell ⟨q, 2, none⟩ (.int .i64 x.rg.ep)).setCell ⟨q, 3, none⟩ (.int .i64 x.rg.ow)).setCell ⟨q, 4, none⟩ (.int .i64 x.rg.pa)).setCell ⟨q, 5, none⟩ (.slice x.aT x.two.length x.cT)).setCell ⟨q, 6, none⟩ (.slice x.aN x.net.length x.cN)).setCell ⟨q, 7, none⟩ (.slice x.aG x.ga.length x.cG)).cell? ⟨q, 3, none⟩ = _ := (pset_else (by decide)).trans h3
  have h4 : ((((((((w.setCell ⟨q, 0, none⟩ (.int .i64 x.id)).setCell ⟨q, 1, none⟩ (.int .i64 x.po)).setCell ⟨q, 2, none⟩ (.int .i64 x.rg.ep)).setCell ⟨q, 3, none⟩ (.int .i64 x.rg.ow)).setCell ⟨q, 4, none⟩ (.int .i64 x.rg.pa)).setCell ⟨q, 5, none⟩ (.slice x.aT x.two.length x.cT)).setCell ⟨q, 6, none⟩ (.slice x.aN x.net.length x.cN)).setCell ⟨q, 7, none⟩ (.slice x.aG x.ga.length x.cG)).cell? ⟨q, 4, none⟩ = _ := (pset_else (by decide)).trans h4
  have h5 : ((((((((w.setCell ⟨q, 0, none⟩ (.int .i64 x.id)).setCell ⟨q, 1, none⟩ (.int .i64 x.po)).setCell ⟨q, 2, none⟩ (.int .i64 x.rg.ep)).setCell ⟨q, 3, none⟩ (.int .i64 x.rg.ow)).setCell ⟨q, 4, none⟩ (.int .i64 x.rg.pa)).setCell ⟨q, 5, none⟩ (.slice x.aT x.two.length x.cT)).setCell ⟨q, 6, none⟩ (.slice x.aN x.net.length x.cN)).setCell ⟨q, 7, none⟩ (.slice x.aG x.ga.length x.cG)).cell? ⟨q, 5, none⟩ = _ := (pset_else (by decide)).trans h5
  have h6 : ((((((((w.setCell ⟨q, 0, none⟩ (.int .i64 x.id)).setCell ⟨q, 1, none⟩ (.int .i64 x.po)).setCell ⟨q, 2, none⟩ (.int .i64 x.rg.ep)).setCell ⟨q, 3, none⟩ (.int .i64 x.rg.ow)).setCell ⟨q, 4, none⟩ (.int .i64 x.rg.pa)).setCell ⟨q, 5, none⟩ (.slice x.aT x.two.length x.cT)).setCell ⟨q, 6, none⟩ (.slice x.aN x.net.length x.cN)).setCell ⟨q, 7, none⟩ (.slice x.aG x.ga.length x.cG)).cell? ⟨q, 6, none⟩ = _ := (pset_else (by decide)).trans h6
  have h7 : ((((((((w.setCell ⟨q, 0, none⟩ (.int .i64 x.id)).setCell ⟨q, 1, none⟩ (.int .i64 x.po)).setCell ⟨q, 2, none⟩ (.int .i64 x.rg.ep)).setCell ⟨q, 3, none⟩ (.int .i64 x.rg.ow)).setCell ⟨q, 4, none⟩ (.int .i64 x.rg.pa)).setCell ⟨q, 5, none⟩ (.slice x.aT x.two.length x.cT)).setCell ⟨q, 6, none⟩ (.slice x.aN x.net.length x.cN)).setCell ⟨q, 7, none⟩ (.slice x.aG x.ga.length x.cG)).cell? ⟨q, 7, none⟩ = some (.slice x.aG x.ga.length x.cG) := pset_same h7
  have h8 : ((((((((w.setCell ⟨q, 0, none⟩ (.int .i64 x.id)).setCell ⟨q, 1, none⟩ (.int .i64 x.po)).setCell ⟨q, 2, none⟩ (.int .i64 x.rg.ep)).setCell ⟨q, 3, none⟩ (.int .i64 x.rg.ow)).setCell ⟨q, 4, none⟩ (.int .i64 x.rg.pa)).setCell ⟨q, 5, none⟩ (.slice x.aT x.two.length x.cT)).setCell ⟨q, 6, none⟩ (.slice x.aN x.net.length x.cN)).setCell ⟨q, 7, none⟩ (.slice x.aG x.ga.length x.cG)).cell? ⟨q, 8, none⟩ = _ := (pset_else (by decide)).trans h8
  have h9 : ((((((((w.setCell ⟨q, 0, none⟩ (.int .i64 x.id)).setCell ⟨q, 1, none⟩ (.int .i64 x.po)).setCell ⟨q, 2, none⟩ (.int .i64 x.rg.ep)).setCell ⟨q, 3, none⟩ (.int .i64 x.rg.ow)).setCell ⟨q, 4, none⟩ (.int .i64 x.rg.pa)).setCell ⟨q, 5, none⟩ (.slice x.aT x.two.length x.cT)).setCell ⟨q, 6, none⟩ (.slice x.aN x.net.length x.cN)).setCell ⟨q, 7, none⟩ (.slice x.aG x.ga.length x.cG)).cell? ⟨q, 9, none⟩ = _ := (pset_else (by decide)).trans h9
  have h0 : (((((((((w.setCell ⟨q, 0, none⟩ (.int .i64 x.id)).setCell ⟨q, 1, none⟩ (.int .i64 x.po)).setCell ⟨q, 2, none⟩ (.int .i64 x.rg.ep)).setCell ⟨q, 3, none⟩ (.int .i64 x.rg.ow)).setCell ⟨q, 4, none⟩ (.int .i64 x.rg.pa)).setCell ⟨q, 5, none⟩ (.slice x.aT x.two.length x.cT)).setCell ⟨q, 6, none⟩ (.slice x.aN x.net.length x.cN)).setCell ⟨q, 7, none⟩ (.slice x.aG x.ga.length x.cG)).setCell ⟨q, 8, none⟩ (.slice x.aL x.ln.length x.cL)).cell? ⟨q, 0, none⟩ = _ := (pset_else (by decide)).trans h0
  have h1 : (((((((((w.setCell ⟨q, 0, none⟩ (.int .i64 x.id)).setCell ⟨q, 1, none⟩ (.int .i64 x.po)).setCell ⟨q, 2, none⟩ (.int .i64 x.rg.ep)).setCell ⟨q, 3, none⟩ (.int .i64 x.rg.ow)).setCell ⟨q, 4, none⟩ (.int .i64 x.rg.pa)).setCell ⟨q, 5, none⟩ (.slice x.aT x.two.length x.cT)).setCell ⟨q, 6, none⟩ (.slice x.aN x.net.length x.cN)).setCell ⟨q, 7, none⟩ (.slice x.aG x.ga.length x.cG)).setCell ⟨q, 8, none⟩ (.slice x.aL x.ln.length x.cL)).cell? ⟨q, 1, none⟩ = _ := (pset_else (by decide)).trans h1
  have h2 : (((((((((w.setCell ⟨q, 0, none⟩ (.int .i64 x.id)).setCell ⟨q, 1, none⟩ (.int .i64 x.po)).setCell ⟨q, 2, none⟩ (.int .i64 x.rg.ep)).setCell ⟨q, 3, none⟩ (.int .i64 x.rg.ow)).setCell ⟨q, 4, none⟩ (.int .i64 x.rg.pa)).setCell ⟨q, 5, none⟩ (.slice x.aT x.two.length x.cT)).setCell ⟨q, 6, none⟩ (.slice x.aN x.net.length x.cN)).setCell ⟨q, 7, none⟩ (.slice x.aG x.ga.length x.cG)).setCell ⟨q, 8, none⟩ (.slice x.aL x.ln.length x.cL)).cell? ⟨q, 2, none⟩ = _ := (pset_else (by decide)).trans h2
  have h3 : (((((((((w.setCell ⟨q, 0, none⟩ (.int .i64 x.id)).setCell ⟨q, 1, none⟩ (.int .i64 x.po)).setCell ⟨q, 2, none⟩ (.int .i64 x.rg.ep)).setCell ⟨q, 3, none⟩ (.int .i64 x.rg.ow)).setCell ⟨q, 4, none⟩ (.int .i64 x.rg.pa)).setCell ⟨q, 5, none⟩ (.slice x.aT x.two.length x.cT)).setCell ⟨q, 6, none⟩ (.slice x.aN x.net.length x.cN)).setCell ⟨q, 7, none⟩ (.slice x.aG x.ga.length x.cG)).setCell ⟨q, 8, none⟩ (.slice x.aL x.ln.length x.cL)).cell? ⟨q, 3, none⟩ = _ := (pset_else (by decide)).trans h3
  have h4 : (((((((((w.setCell ⟨q, 0, none⟩ (.int .i64 x.id)).setCell ⟨q, 1, none⟩ (.int .i64 x.po)).setCell ⟨q, 2, none⟩ (.int .i64 x.rg.ep)).setCell ⟨q, 3, none⟩ (.int .i64 x.rg.ow)).setCell ⟨q, 4, none⟩ (.int .i64 x.rg.pa)).setCell ⟨q, 5, none⟩ (.slice x.aT x.two.length x.cT)).setCell ⟨q, 6, none⟩ (.slice x.aN x.net.length x.cN)).setCell ⟨q, 7, none⟩ (.slice x.aG x.ga.length x.cG)).setCell ⟨q, 8, none⟩ (.slice x.aL x.ln.length x.cL)).cell? ⟨q, 4, none⟩ = _ := (pset_else (by decide)).trans h4
  have h5 : (((((((((w.setCell ⟨q, 0, none⟩ (.int .i64 x.id)).setCell ⟨q, 1, none⟩ (.int .i64 x.po)).setCell ⟨q, 2, none⟩ (.int .i64 x.rg.ep)).setCell ⟨q, 3, none⟩ (.int .i64 x.rg.ow)).setCell ⟨q, 4, none⟩ (.int .i64 x.rg.pa)).setCell ⟨q, 5, none⟩ (.slice x.aT x.two.length x.cT)).setCell ⟨q, 6, none⟩ (.slice x.aN x.net.length x.cN)).setCell ⟨q, 7, none⟩ (.slice x.aG x.ga.length x.cG)).setCell ⟨q, 8, none⟩ (.slice x.aL x.ln.length x.cL)).cell? ⟨q, 5, none⟩ = _ := (pset_else (by decide)).trans h5
  have h6 : (((((((((w.setCell ⟨q, 0, none⟩ (.int .i64 x.id)).setCell ⟨q, 1, none⟩ (.int .i64 x.po)).setCell ⟨q, 2, none⟩ (.int .i64 x.rg.ep)).setCell ⟨q, 3, none⟩ (.int .i64 x.rg.ow)).setCell ⟨q, 4, none⟩ (.int .i64 x.rg.pa)).setCell ⟨q, 5, none⟩ (.slice x.aT x.two.length x.cT)).setCell ⟨q, 6, none⟩ (.slice x.aN x.net.length x.cN)).setCell ⟨q, 7, none⟩ (.slice x.aG x.ga.length x.cG)).setCell ⟨q, 8, none⟩ (.slice x.aL x.ln.length x.cL)).cell? ⟨q, 6, none⟩ = _ := (pset_else (by decide)).trans h6
  have h7 : (((((((((w.setCell ⟨q, 0, none⟩ (.int .i64 x.id)).setCell ⟨q, 1, none⟩ (.int .i64 x.po)).setCell ⟨q, 2, none⟩ (.int .i64 x.rg.ep)).setCell ⟨q, 3, none⟩ (.int .i64 x.rg.ow)).setCell ⟨q, 4, none⟩ (.int .i64 x.rg.pa)).setCell ⟨q, 5, none⟩ (.slice x.aT x.two.length x.cT)).setCell ⟨q, 6, none⟩ (.slice x.aN x.net.length x.cN)).setCell ⟨q, 7, none⟩ (.slice x.aG x.ga.length x.cG)).setCell ⟨q, 8, none⟩ (.slice x.aL x.ln.length x.cL)).cell? ⟨q, 7, none⟩ = _ := (pset_else (by decide)).trans h7
  have h8 : (((((((((w.setCell ⟨q, 0, none⟩ (.int .i64 x.id)).setCell ⟨q, 1, none⟩ (.int .i64 x.po)).setCell ⟨q, 2, none⟩ (.int .i64 x.rg.ep)).setCell ⟨q, 3, none⟩ (.int .i64 x.rg.ow)).setCell ⟨q, 4, none⟩ (.int .i64 x.rg.pa)).setCell ⟨q, 5, none⟩ (.slice x.aT x.two.length x.cT)).setCell ⟨q, 6, none⟩ (.slice x.aN x.net.length x.cN)).setCell ⟨q, 7, none⟩ (.slice x.aG x.ga.length x.cG)).setCell ⟨q, 8, none⟩ (.slice x.aL x.ln.length x.cL)).cell? ⟨q, 8, none⟩ = some (.slice x.aL x.ln.length x.cL) := pset_same h8
  have h9 : (((((((((w.setCell ⟨q, 0, none⟩ (.int .i64 x.id)).setCell ⟨q, 1, none⟩ (.int .i64 x.po)).setCell ⟨q, 2, none⟩ (.int .i64 x.rg.ep)).setCell ⟨q, 3, none⟩ (.int .i64 x.rg.ow)).setCell ⟨q, 4, none⟩ (.int .i64 x.rg.pa)).setCell ⟨q, 5, none⟩ (.slice x.aT x.two.length x.cT)).setCell ⟨q, 6, none⟩ (.slice x.aN x.net.length x.cN)).setCell ⟨q, 7, none⟩ (.slice x.aG x.ga.length x.cG)).setCell ⟨q, 8, none⟩ (.slice x.aL x.ln.length x.cL)).cell? ⟨q, 9, none⟩ = _ := (pset_else (by decide)).trans h9
  have h0 : ((((((((((w.setCell ⟨q, 0, none⟩ (.int .i64 x.id)).setCell ⟨q, 1, none⟩ (.int .i64 x.po)).setCell ⟨q, 2, none⟩ (.int .i64 x.rg.ep)).setCell ⟨q, 3, none⟩ (.int .i64 x.rg.ow)).setCell ⟨q, 4, none⟩ (.int .i64 x.rg.pa)).setCell ⟨q, 5, none⟩ (.slice x.aT x.two.length x.cT)).setCell ⟨q, 6, none⟩ (.slice x.aN x.net.length x.cN)).setCell ⟨q, 7, none⟩ (.slice x.aG x.ga.length x.cG)).setCell ⟨q, 8, none⟩ (.slice x.aL x.ln.length x.cL)).setCell ⟨q, 9, none⟩ (.slice x.aS x.sd.length x.cS)).cell? ⟨q, 0, none⟩ = _ := (pset_else (by decide)).trans h0
  have h1 : ((((((((((w.setCell ⟨q, 0, none⟩ (.int .i64 x.id)).setCell ⟨q, 1, none⟩ (.int .i64 x.po)).setCell ⟨q, 2, none⟩ (.int .i64 x.rg.ep)).setCell ⟨q, 3, none⟩ (.int .i64 x.rg.ow)).setCell ⟨q, 4, none⟩ (.int .i64 x.rg.pa)).setCell ⟨q, 5, none⟩ (.slice x.aT x.two.length x.cT)).setCell ⟨q, 6, none⟩ (.slice x.aN x.net.length x.cN)).setCell ⟨q, 7, none⟩ (.slice x.aG x.ga.length x.cG)).setCell ⟨q, 8, none⟩ (.slice x.aL x.ln.length x.cL)).setCell ⟨q, 9, none⟩ (.slice x.aS x.sd.length x.cS)).cell? ⟨q, 1, none⟩ = _ := (pset_else (by decide)).trans h1
  have h2 : ((((((((((w.setCell ⟨q, 0, none⟩ (.int .i64 x.id)).setCell ⟨q, 1, none⟩ (.int .i64 x.po)).setCell ⟨q, 2, none⟩ (.int .i64 x.rg.ep)).setCell ⟨q, 3, none⟩ (.int .i64 x.rg.ow)).setCell ⟨q, 4, none⟩ (.int .i64 x.rg.pa)).setCell ⟨q, 5, none⟩ (.slice x.aT x.two.length x.cT)).setCell ⟨q, 6, none⟩ (.slice x.aN x.net.length x.cN)).setCell ⟨q, 7, none⟩ (.slice x.aG x.ga.length x.cG)).setCell ⟨q, 8, none⟩ (.slice x.aL x.ln.length x.cL)).setCell ⟨q, 9, none⟩ (.slice x.aS x.sd.length x.cS)).cell? ⟨q, 2, none⟩ = _ := (pset_else (by decide)).trans h2
  have h3 : ((((((((((w.setCell ⟨q, 0, none⟩ (.int .i64 x.id)).setCell ⟨q, 1, none⟩ (.int .i64 x.po)).setCell ⟨q, 2, none⟩ (.int .i64 x.rg.ep)).setCell ⟨q, 3, none⟩ (.int .i64 x.rg.ow)).setCell ⟨q, 4, none⟩ (.int .i64 x.rg.pa)).setCell ⟨q, 5, none⟩ (.slice x.aT x.two.length x.cT)).setCell ⟨q, 6, none⟩ (.slice x.aN x.net.length x.cN)).setCell ⟨q, 7, none⟩ (.slice x.aG x.ga.length x.cG)).setCell ⟨q, 8, none⟩ (.slice x.aL x.ln.length x.cL)).setCell ⟨q, 9, none⟩ (.slice x.aS x.sd.length x.cS)).cell? ⟨q, 3, none⟩ = _ := (pset_else (by decide)).trans h3
  have h4 : ((((((((((w.setCell ⟨q, 0, none⟩ (.int .i64 x.id)).setCell ⟨q, 1, none⟩ (.int .i64 x.po)).setCell ⟨q, 2, none⟩ (.int .i64 x.rg.ep)).setCell ⟨q, 3, none⟩ (.int .i64 x.rg.ow)).setCell ⟨q, 4, none⟩ (.int .i64 x.rg.pa)).setCell ⟨q, 5, none⟩ (.slice x.aT x.two.length x.cT)).setCell ⟨q, 6, none⟩ (.slice x.aN x.net.length x.cN)).setCell ⟨q, 7, none⟩ (.slice x.aG x.ga.length x.cG)).setCell ⟨q, 8, none⟩ (.slice x.aL x.ln.length x.cL)).setCell ⟨q, 9, none⟩ (.slice x.aS x.sd.length x.cS)).cell? ⟨q, 4, none⟩ = _ := (pset_else (by decide)).trans h4
  have h5 : ((((((((((w.setCell ⟨q, 0, none⟩ (.int .i64 x.id)).setCell ⟨q, 1, none⟩ (.int .i64 x.po)).setCell ⟨q, 2, none⟩ (.int .i64 x.rg.ep)).setCell ⟨q, 3, none⟩ (.int .i64 x.rg.ow)).setCell ⟨q, 4, none⟩ (.int .i64 x.rg.pa)).setCell ⟨q, 5, none⟩ (.slice x.aT x.two.length x.cT)).setCell ⟨q, 6, none⟩ (.slice x.aN x.net.length x.cN)).setCell ⟨q, 7, none⟩ (.slice x.aG x.ga.length x.cG)).setCell ⟨q, 8, none⟩ (.slice x.aL x.ln.length x.cL)).setCell ⟨q, 9, none⟩ (.slice x.aS x.sd.length x.cS)).cell? ⟨q, 5, none⟩ = _ := (pset_else (by decide)).trans h5
  have h6 : ((((((((((w.setCell ⟨q, 0, none⟩ (.int .i64 x.id)).setCell ⟨q, 1, none⟩ (.int .i64 x.po)).setCell ⟨q, 2, none⟩ (.int .i64 x.rg.ep)).setCell ⟨q, 3, none⟩ (.int .i64 x.rg.ow)).setCell ⟨q, 4, none⟩ (.int .i64 x.rg.pa)).setCell ⟨q, 5, none⟩ (.slice x.aT x.two.length x.cT)).setCell ⟨q, 6, none⟩ (.slice x.aN x.net.length x.cN)).setCell ⟨q, 7, none⟩ (.slice x.aG x.ga.length x.cG)).setCell ⟨q, 8, none⟩ (.slice x.aL x.ln.length x.cL)).setCell ⟨q, 9, none⟩ (.slice x.aS x.sd.length x.cS)).cell? ⟨q, 6, none⟩ = _ := (pset_else (by decide)).trans h6
  have h7 : ((((((((((w.setCell ⟨q, 0, none⟩ (.int .i64 x.id)).setCell ⟨q, 1, none⟩ (.int .i64 x.po)).setCell ⟨q, 2, none⟩ (.int .i64 x.rg.ep)).setCell ⟨q, 3, none⟩ (.int .i64 x.rg.ow)).setCell ⟨q, 4, none⟩ (.int .i64 x.rg.pa)).setCell ⟨q, 5, none⟩ (.slice x.aT x.two.length x.cT)).setCell ⟨q, 6, none⟩ (.slice x.aN x.net.length x.cN)).setCell ⟨q, 7, none⟩ (.slice x.aG x.ga.length x.cG)).setCell ⟨q, 8, none⟩ (.slice x.aL x.ln.length x.cL)).setCell ⟨q, 9, none⟩ (.slice x.aS x.sd.length x.cS)).cell? ⟨q, 7, none⟩ = _ := (pset_else (by decide)).trans h7
  have h8 : ((((((((((w.setCell ⟨q, 0, none⟩ (.int .i64 x.id)).setCell ⟨q, 1, none⟩ (.int .i64 x.po)).setCell ⟨q, 2, none⟩ (.int .i64 x.rg.ep)).setCell ⟨q, 3, none⟩ (.int .i64 x.rg.ow)).setCell ⟨q, 4, none⟩ (.int .i64 x.rg.pa)).setCell ⟨q, 5, none⟩ (.slice x.aT x.two.length x.cT)).setCell ⟨q, 6, none⟩ (.slice x.aN x.net.length x.cN)).setCell ⟨q, 7, none⟩ (.slice x.aG x.ga.length x.cG)).setCell ⟨q, 8, none⟩ (.slice x.aL x.ln.length x.cL)).setCell ⟨q, 9, none⟩ (.slice x.aS x.sd.length x.cS)).cell? ⟨q, 8, none⟩ = _ := (pset_else (by decide)).trans h8
  have h9 : ((((((((((w.setCell ⟨q, 0, none⟩ (.int .i64 x.id)).setCell ⟨q, 1, none⟩ (.int .i64 x.po)).setCell ⟨q, 2, none⟩ (.int .i64 x.rg.ep)).setCell ⟨q, 3, none⟩ (.int .i64 x.rg.ow)).setCell ⟨q, 4, none⟩ (.int .i64 x.rg.pa)).setCell ⟨q, 5, none⟩ (.slice x.aT x.two.length x.cT)).setCell ⟨q, 6, none⟩ (.slice x.aN x.net.length x.cN)).setCell ⟨q, 7, none⟩ (.slice x.aG x.ga.length x.cG)).setCell ⟨q, 8, none⟩ (.slice x.aL x.ln.length x.cL)).setCell ⟨q, 9, none⟩ (.slice x.aS x.sd.length x.cS)).cell? ⟨q, 9, none⟩ = some (.slice x.aS x.sd.length x.cS) := pset_same h9
  refine ⟨⟨h0, h1, h2, h3, h4, h5, h6, h7, h8, h9⟩, fun i => ?_⟩
  rw [World.frozen?_setCell, World.frozen?_setCell, World.frozen?_setCell, World.frozen?_setCell, World.frozen?_setCell, World.frozen?_setCell, World.frozen?_setCell, World.frozen?_setCell, World.frozen?_setCell, World.frozen?_setCell]
  exact hf i

end Go.Proofs.Ytplejmkbdonkpab
