/- Lists of what is said: compared. laws.eqBox, walked. spec.RootPort, walked. spec.Own, spec.Hops, walked. spec.Turn, walked. spec.Decide, walked. spec.Claim, walked. spec.l8In: a claim, walked. spec.l8Tick, walked. spec.l8In: a tick, walked. spec.l8In: a link, walked. -/
import Derived.Test.YtnpiljegdiconaaGreatZv1
import Derived.Test.YtnpiljegdiconaaGreatRows
import Derived.WalkKit
import Derived.ProofKit
import Derived.OpenShut
import Derived.ShutString
import Derived.ChangeOld
import Derived.Below
import Derived.Deep.QuietTactic
import Derived.BigQuiet
import Derived.WalkSmall
import Derived.Laws.OwnMore
import Derived.WalkSpells
import Derived.WalkLawsBesides
import Derived.Test.YtnpiljegdiconaaGreatRe1
import Derived.Test.YtnpiljegdiconaaGreatTakes
import Derived.Deep.Cut
import Derived.Test.YtnpiljegdiconaaGreatIs3
import Derived.Test.YtnpiljegdiconaaGreatBr5
import Derived.Test.YtnpiljegdiconaaGreatBr6
import Derived.Test.YtnpiljegdiconaaGreatPort6
import Derived.Test.YtnpiljegdiconaaGreatBr7
import Derived.Test.YtnpiljegdiconaaGreatPort4
import Derived.Test.YtnpiljegdiconaaGreatRe2
import Derived.Test.YtnpiljegdiconaaGreatIn3
namespace Go.Proofs.YtnpiljegdiconaaGreat
open Go.ChangeShapes Go.WideShapes Go.ChangeAt Go.RowKit
open Go.ChangeMaps (open_string shut_string)
set_option linter.unusedVariables false
set_option maxRecDepth 100000

theorem OuAtO.below {w w' : World} {q o n : Nat} {x : Ou} (h : OuAtO w q o x) (k : Below n w w') (hq : q < n) : OuAtO w' q o x :=
  ⟨(World.cell?_of_block (a := ⟨q, o, none⟩) (k.block q hq)).trans h.c0, (World.cell?_of_block (a := ⟨q, o + 1, none⟩) (k.block q hq)).trans h.c1, (World.cell?_of_block (a := ⟨q, o + 2, none⟩) (k.block q hq)).trans h.c2, (World.cell?_of_block (a := ⟨q, o + 3, none⟩) (k.block q hq)).trans h.c3, (World.cell?_of_block (a := ⟨q, o + 4, none⟩) (k.block q hq)).trans h.c4, (World.cell?_of_block (a := ⟨q, o + 5, none⟩) (k.block q hq)).trans h.c5, (World.cell?_of_block (a := ⟨q, o + 6, none⟩) (k.block q hq)).trans h.c6, (World.cell?_of_block (a := ⟨q, o + 7, none⟩) (k.block q hq)).trans h.c7⟩
set_option maxHeartbeats 2000000 in
theorem eqO (x : Ou) (w : World) :
    Calls Tryz.prog 168 #[.agg #[.int .i64 x.k, .int .i64 x.pt, .int .i64 x.r, .int .i64 x.c, .int .i64 x.b, .int .i64 x.p, .int .i64 x.h, .bool x.on], .agg #[.int .i64 x.k, .int .i64 x.pt, .int .i64 x.r, .int .i64 x.c, .int .i64 x.b, .int .i64 x.p, .int .i64 x.h, .bool x.on]] w fun e w' => e = .returned (.bool true) ∧ Below w.heap.size w w' := by
  obtain ⟨w0, hw0⟩ : ∃ w0, w0 = (w.alloc (Obj.cells #[.int .i64 x.k, .int .i64 x.pt, .int .i64 x.r, .int .i64 x.c, .int .i64 x.b, .int .i64 x.p, .int .i64 x.h, .bool x.on] 114)).alloc (Obj.cells #[.int .i64 x.k, .int .i64 x.pt, .int .i64 x.r, .int .i64 x.c, .int .i64 x.b, .int .i64 x.p, .int .i64 x.h, .bool x.on] 114) := ⟨_, rfl⟩
  have b0 : Below w.heap.size w w0 := by rw [hw0]; exact ((Below.refl _ _).alloc (Nat.le_refl _) _).alloc (by simp) _
  have P0 : OuAtO w0 w.heap.size 0 x := by rw [hw0]; constructor <;> simp [go_sem]
  have R0 : OuAtO w0 (w.heap.size + 1) 0 x := by rw [hw0]; constructor <;> simp [go_sem]
  have hle : w.heap.size + 1 < w0.heap.size := World.block_lt_of_cell? w0 _ R0.c0
  go_enter Tryz.func168, Tryz.ntmps168
  go_wp2_with fail
  go_at_call 198
  rw [← hw0]
  clear hw0
  refine (eqVs x.r x.c x.b x.p w0).mono ?_
  rintro e w1 ⟨rfl, k1⟩
  have b1 := b0.trans (k1.mono b0.size)
  obtain ⟨p0, p1, p2, p3, p4, p5, p6, p7⟩ := P0.below k1 (by omega)
  obtain ⟨r0, r1, r2, r3, r4, r5, r6, r7⟩ := R0.below k1 (by omega)
  simp only [Nat.zero_add] at p0 r0 p1 r1 p2 r2 p3 r3 p4 r4 p5 r5 p6 r6 p7 r7
  clear P0 R0 k1 b0
  go_wp2
  go_ret
  exact ⟨rfl, b1⟩
set_option maxHeartbeats 2000000 in
theorem ouEqS (ad ad' : Option Addr) (cap cap' : Nat) (L : List Ou) (w : World) (hv : FView ouEnc w ad L) (hv' : FView ouEnc w ad' L) (hl : L.length ≤ 1048576) :
    Calls Tryz.prog 121 #[.slice ad L.length cap, .slice ad' L.length cap'] w fun e w' => e = .returned (.bool true) ∧ Below w.heap.size w w' := by
  have hB := hv.lt ouEnc_len (by omega)
  have hB' := hv'.lt ouEnc_len (by omega)
  go_enter Tryz.func121, Tryz.ntmps121
  go_wp2
  go_loopw [5] (fun i wr => ∃ k : Nat, k ≤ L.length ∧ i = .int .i64 k ∧ Below w.heap.size w wr) (fun i _ => L.length - (intOf i).toNat)
  case atStart => exact ⟨0, Nat.zero_le _, rfl, Below.refl _ _⟩
  case round =>
    obtain ⟨k, hk, rfl, hb⟩ := hrel
    by_cases hlt : k < L.length
    · obtain ⟨b, off, rfl, _⟩ := hv (by omega)
      obtain ⟨b', off', rfl, _⟩ := hv' (by omega)
      obtain ⟨h, hh⟩ : ∃ h, L.getD k Ou.nil = h := ⟨_, rfl⟩
      have hc : ∀ Y, Below w.heap.size w Y → OuAtO Y b (off + k * 8) h := fun Y hY => by rw [← hh]; exact ouAtO_of ((hv.below hY hB).at_ ouEnc_len Ou.nil hlt)
      have hc' : ∀ Y, Below w.heap.size w Y → OuAtO Y b' (off' + k * 8) h := fun Y hY => by rw [← hh]; exact ouAtO_of ((hv'.below hY hB').at_ ouEnc_len Ou.nil hlt)
      clear hh hv hv' hB hB'
      go_wp2_with fail
      refine wp_region_held (S := fun Y => Below w.heap.size w Y) (by kernel_rfl) ?_
      change wpAnyH _ _ _ _ _ _ _ _ (World.drew _)
      have hb0 : Below w.heap.size w wr.drew := hb.drew
      refine takeW 0 17 (.slice (some ⟨b, off, none⟩) L.length cap) rfl rfl (by kernel_rfl) (by kernel_rfl) (by kernel_rfl) (fun _ _ _ h => h) (by kernel_rfl) (by (intro w hSw; go_simp)) (by assumption) ?_
      simp only [List.set_cons_zero, List.set_cons_succ]
      refine takeW 1 18 (.int .i64 k) rfl rfl (by kernel_rfl) (by kernel_rfl) (by kernel_rfl) (fun _ _ _ h => h) (by kernel_rfl) (by (intro w hSw; go_simp)) (by assumption) ?_
      simp only [List.set_cons_zero, List.set_cons_succ]
      refine takeW 2 19 (.pointer (some ⟨b, off + k * 8, none⟩)) rfl rfl (by kernel_rfl) (by kernel_rfl) (by kernel_rfl) (fun _ _ _ h => h) (by kernel_rfl) (by (intro Y hSw; go_simp; try omega)) (by assumption) ?_
      simp only [List.set_cons_zero, List.set_cons_succ]
      refine takeW 3 20 (.agg #[.int .i64 h.k, .int .i64 h.pt, .int .i64 h.r, .int .i64 h.c, .int .i64 h.b, .int .i64 h.p, .int .i64 h.h, .bool h.on]) rfl rfl (by kernel_rfl) (by kernel_rfl) (by kernel_rfl) (fun _ _ _ h => h) (by kernel_rfl) (by (intro Y hSw; obtain ⟨X0, X1, X2, X3, X4, X5, X6, X7⟩ := hc Y hSw; go_simp)) (by assumption) ?_
      simp only [List.set_cons_zero, List.set_cons_succ]
      refine takeW 4 21 (.slice (some ⟨b', off', none⟩) L.length cap') rfl rfl (by kernel_rfl) (by kernel_rfl) (by kernel_rfl) (fun _ _ _ h => h) (by kernel_rfl) (by (intro w hSw; go_simp)) (by assumption) ?_
      simp only [List.set_cons_zero, List.set_cons_succ]
      refine takeW 5 22 (.int .i64 k) rfl rfl (by kernel_rfl) (by kernel_rfl) (by kernel_rfl) (fun _ _ _ h => h) (by kernel_rfl) (by (intro w hSw; go_simp)) (by assumption) ?_
      simp only [List.set_cons_zero, List.set_cons_succ]
      refine takeW 6 23 (.pointer (some ⟨b', off' + k * 8, none⟩)) rfl rfl (by kernel_rfl) (by kernel_rfl) (by kernel_rfl) (fun _ _ _ h => h) (by kernel_rfl) (by (intro Y hSw; go_simp; try omega)) (by assumption) ?_
      simp only [List.set_cons_zero, List.set_cons_succ]
      refine takeW 7 24 (.agg #[.int .i64 h.k, .int .i64 h.pt, .int .i64 h.r, .int .i64 h.c, .int .i64 h.b, .int .i64 h.p, .int .i64 h.h, .bool h.on]) rfl rfl (by kernel_rfl) (by kernel_rfl) (by kernel_rfl) (fun _ _ _ h => h) (by kernel_rfl) (by (intro Y hSw; obtain ⟨X0, X1, X2, X3, X4, X5, X6, X7⟩ := hc' Y hSw; go_simp)) (by assumption) ?_
      simp only [List.set_cons_zero, List.set_cons_succ]
      refine wpAnyH_all (rs := [8]) (by kernel_rfl) (by simp) ?_
      intro i hi; obtain rfl : i = 8 := by simpa using hi
      refine wpOp_step rfl (fun K hK => ?_)
      rw [if_pos (by kernel_rfl)]
      go_simp
      go_at_call 168
      refine (eqO h _).mono ?_
      rintro e y1 ⟨rfl, j1⟩
      have hb1 : Below w.heap.size w y1 := hb0.trans (j1.mono hb0.size)
      refine hK _ _ ⟨hb1, ?_⟩
      clear hK K hi
      refine takeW 9 26 (.bool false) rfl rfl (by kernel_rfl) (by kernel_rfl) (by kernel_rfl) (fun _ _ _ h => h) (by kernel_rfl) (by (intro w hSw; go_simp)) (by assumption) ?_
      simp only [List.set_cons_zero, List.set_cons_succ]
      refine wpAnyH_done (by kernel_rfl) ?_ _
      go_wp2
      go_roundw
      case rel => exact ⟨k + 1, by omega, by go_num, hb1⟩
      case measure => simp [intOf]; omega
    · obtain rfl : k = L.length := by omega
      go_wp2
      go_ret
      exact ⟨rfl, hb⟩

end Go.Proofs.YtnpiljegdiconaaGreat
namespace Go.Proofs.YtnpiljegdiconaaGreat
open Go.ChangeShapes Go.WideShapes Go.ChangeAt Go.RowKit
open Go.ChangeMaps (open_string shut_string)
set_option linter.unusedVariables false
set_option maxRecDepth 100000

/-- A box's cells, of which some are another one's. -/
structure TenZ (w : World) (q : Nat) (x z : BxD) : Prop where
  c0 : w.cell? ⟨q, 0, none⟩ = some (.int .i64 x.id)
  c1 : w.cell? ⟨q, 1, none⟩ = some (.int .i64 x.po)
  c2 : w.cell? ⟨q, 2, none⟩ = some (.int .i64 x.rg.ep)
  c3 : w.cell? ⟨q, 3, none⟩ = some (.int .i64 x.rg.ow)
  c4 : w.cell? ⟨q, 4, none⟩ = some (.int .i64 x.rg.pa)
  c5 : w.cell? ⟨q, 5, none⟩ = some (.slice z.aT z.two.length z.cT)
  c6 : w.cell? ⟨q, 6, none⟩ = some (.slice z.aN x.net.length z.cN)
  c7 : w.cell? ⟨q, 7, none⟩ = some (.slice z.aG x.ga.length z.cG)
  c8 : w.cell? ⟨q, 8, none⟩ = some (.slice z.aL x.ln.length z.cL)
  c9 : w.cell? ⟨q, 9, none⟩ = some (.slice z.aS x.sd.length z.cS)
theorem TenZ.below {w w' : World} {q n : Nat} {x z : BxD} (h : TenZ w q x z) (k : Below n w w') (hq : q < n) : TenZ w' q x z :=
  ⟨(World.cell?_of_block (a := ⟨q, 0, none⟩) (k.block q hq)).trans h.c0, (World.cell?_of_block (a := ⟨q, 1, none⟩) (k.block q hq)).trans h.c1, (World.cell?_of_block (a := ⟨q, 2, none⟩) (k.block q hq)).trans h.c2, (World.cell?_of_block (a := ⟨q, 3, none⟩) (k.block q hq)).trans h.c3, (World.cell?_of_block (a := ⟨q, 4, none⟩) (k.block q hq)).trans h.c4, (World.cell?_of_block (a := ⟨q, 5, none⟩) (k.block q hq)).trans h.c5, (World.cell?_of_block (a := ⟨q, 6, none⟩) (k.block q hq)).trans h.c6, (World.cell?_of_block (a := ⟨q, 7, none⟩) (k.block q hq)).trans h.c7, (World.cell?_of_block (a := ⟨q, 8, none⟩) (k.block q hq)).trans h.c8, (World.cell?_of_block (a := ⟨q, 9, none⟩) (k.block q hq)).trans h.c9⟩
theorem TenZ.lt {w : World} {q : Nat} {x z : BxD} (h : TenZ w q x z) : q < w.heap.size := World.block_lt_of_cell? w _ h.c0
set_option maxHeartbeats 2000000 in
theorem bxEq0 (x z : BxD) (w : World) (I : BxIn w x) (J : BxIn w z) (K : BxSm x) (ht : z.two.map MiD.m = x.two.map MiD.m) (e3 : z.net = x.net) (e4 : z.ga = x.ga) (e5 : z.ln = x.ln) (e6 : z.sd = x.sd) :
    Calls Tryz.prog 51 #[.agg #[.int .i64 x.id, .int .i64 x.po, .int .i64 x.rg.ep, .int .i64 x.rg.ow, .int .i64 x.rg.pa, .slice x.aT x.two.length x.cT, .slice x.aN x.net.length x.cN, .slice x.aG x.ga.length x.cG, .slice x.aL x.ln.length x.cL, .slice x.aS x.sd.length x.cS], .agg #[.int .i64 x.id, .int .i64 x.po, .int .i64 x.rg.ep, .int .i64 x.rg.ow, .int .i64 x.rg.pa, .slice z.aT z.two.length z.cT, .slice z.aN x.net.length z.cN, .slice z.aG x.ga.length z.cG, .slice z.aL x.ln.length z.cL, .slice z.aS x.sd.length z.cS]] w fun e w' => e = .returned (.bool true) ∧ Below w.heap.size w w' := by
  have d0 : (x.id != x.id) = false := by simp
  have d1 : (x.po != x.po) = false := by simp
  obtain ⟨y, hy⟩ : ∃ y, y = (w.alloc (Obj.cells #[.int .i64 x.id, .int .i64 x.po, .int .i64 x.rg.ep, .int .i64 x.rg.ow, .int .i64 x.rg.pa, .slice x.aT x.two.length x.cT, .slice x.aN x.net.length x.cN, .slice x.aG x.ga.length x.cG, .slice x.aL x.ln.length x.cL, .slice x.aS x.sd.length x.cS] 48)).alloc (Obj.cells #[.int .i64 x.id, .int .i64 x.po, .int .i64 x.rg.ep, .int .i64 x.rg.ow, .int .i64 x.rg.pa, .slice z.aT z.two.length z.cT, .slice z.aN x.net.length z.cN, .slice z.aG x.ga.length z.cG, .slice z.aL x.ln.length z.cL, .slice z.aS x.sd.length z.cS] 48) := ⟨_, rfl⟩
  have B0 : Below w.heap.size w y := by rw [hy]; exact ((Below.refl _ _).alloc (Nat.le_refl _) _).alloc (by simp) _
  have A : BxAt y w.heap.size x := by rw [hy]; constructor <;> simp [go_sem]
  have C : TenZ y (w.heap.size + 1) x z := by rw [hy]; constructor <;> simp [go_sem]
  have I := I.below B0
  have Jn : FView wiEnc y z.aN x.net := by have := (J.below B0).n; rw [e3] at this; exact this
  have Jg : FView boEnc y z.aG x.ga := by have := (J.below B0).g; rw [e4] at this; exact this
  have Ji : FView ikEnc y z.aL x.ln := by have := (J.below B0).i; rw [e5] at this; exact this
  have Js : FView ouEnc y z.aS x.sd := by have := (J.below B0).s; rw [e6] at this; exact this
  have Jt := (J.below B0).t
  clear J e3 e4 e5 e6
  go_enter Tryz.func51, Tryz.ntmps51
  have cc := A
  obtain ⟨a0, a1, a2, a3, a4, a5, a6, a7, a8, a9⟩ := cc
  have cc := C
  obtain ⟨c0, c1, c2, c3, c4, c5, c6, c7, c8, c9⟩ := cc
  go_wp2_with fail
  go_at_call 116
  rw [← hy]
  clear a0 a1 a2 a3 a4 a5 a6 a7 a8 a9 c0 c1 c2 c3 c4 c5 c6 c7 c8 c9 hy
  refine (eqRg x.rg y).mono ?_
  rintro e u0 ⟨rfl, k0⟩
  have A := A.below k0 A.lt
  have C := C.below k0 C.lt
  have I := I.below k0
  have Jt := Jt.below k0 (Nat.le_refl _)
  have Jn := Jn.below k0 (Jn.lt wiEnc_len (by omega))
  have Jg := Jg.below k0 (Jg.lt boEnc_len (by omega))
  have Ji := Ji.below k0 (Ji.lt ikEnc_len (by omega))
  have Js := Js.below k0 (Js.lt ouEnc_len (by omega))
  have B0 := B0.trans (k0.mono B0.size)
  clear k0
  have cc := A
  obtain ⟨a0, a1, a2, a3, a4, a5, a6, a7, a8, a9⟩ := cc
  have cc := C
  obtain ⟨c0, c1, c2, c3, c4, c5, c6, c7, c8, c9⟩ := cc
  go_wp2_with fail
  go_at_call 117
  clear a0 a1 a2 a3 a4 a5 a6 a7 a8 a9 c0 c1 c2 c3 c4 c5 c6 c7 c8 c9
  refine (mdEq x.aT z.aT x.cT z.cT x.two z.two u0 I.t Jt ht K.t K.ls).mono ?_
  rintro e u1 ⟨rfl, k1⟩
  have A := A.below k1 A.lt
  have C := C.below k1 C.lt
  have I := I.below k1
  have Jt := Jt.below k1 (Nat.le_refl _)
  have Jn := Jn.below k1 (Jn.lt wiEnc_len (by omega))
  have Jg := Jg.below k1 (Jg.lt boEnc_len (by omega))
  have Ji := Ji.below k1 (Ji.lt ikEnc_len (by omega))
  have Js := Js.below k1 (Js.lt ouEnc_len (by omega))
  have B0 := B0.trans (k1.mono B0.size)
  clear k1
  have cc := A
  obtain ⟨a0, a1, a2, a3, a4, a5, a6, a7, a8, a9⟩ := cc
  have cc := C
  obtain ⟨c0, c1, c2, c3, c4, c5, c6, c7, c8, c9⟩ := cc
  go_wp2_with fail
  go_at_call 118
  clear a0 a1 a2 a3 a4 a5 a6 a7 a8 a9 c0 c1 c2 c3 c4 c5 c6 c7 c8 c9
  refine (wiEqS x.aN z.aN x.cN z.cN x.net u1 I.n Jn K.n).mono ?_
  rintro e u2 ⟨rfl, k2⟩
  have A := A.below k2 A.lt
  have C := C.below k2 C.lt
  have I := I.below k2
  have Jt := Jt.below k2 (Nat.le_refl _)
  have Jn := Jn.below k2 (Jn.lt wiEnc_len (by omega))
  have Jg := Jg.below k2 (Jg.lt boEnc_len (by omega))
  have Ji := Ji.below k2 (Ji.lt ikEnc_len (by omega))
  have Js := Js.below k2 (Js.lt ouEnc_len (by omega))
  have B0 := B0.trans (k2.mono B0.size)
  clear k2
  have cc := A
  obtain ⟨a0, a1, a2, a3, a4, a5, a6, a7, a8, a9⟩ := cc
  have cc := C
  obtain ⟨c0, c1, c2, c3, c4, c5, c6, c7, c8, c9⟩ := cc
  go_wp2_with fail
  go_at_call 119
  clear a0 a1 a2 a3 a4 a5 a6 a7 a8 a9 c0 c1 c2 c3 c4 c5 c6 c7 c8 c9
  refine (boEq x.aG z.aG x.cG z.cG x.ga u2 I.g Jg K.g).mono ?_
  rintro e u3 ⟨rfl, k3⟩
  have A := A.below k3 A.lt
  have C := C.below k3 C.lt
  have I := I.below k3
  have Jt := Jt.below k3 (Nat.le_refl _)
  have Jn := Jn.below k3 (Jn.lt wiEnc_len (by omega))
  have Jg := Jg.below k3 (Jg.lt boEnc_len (by omega))
  have Ji := Ji.below k3 (Ji.lt ikEnc_len (by omega))
  have Js := Js.below k3 (Js.lt ouEnc_len (by omega))
  have B0 := B0.trans (k3.mono B0.size)
  clear k3
  have cc := A
  obtain ⟨a0, a1, a2, a3, a4, a5, a6, a7, a8, a9⟩ := cc
  have cc := C
  obtain ⟨c0, c1, c2, c3, c4, c5, c6, c7, c8, c9⟩ := cc
  go_wp2_with fail
  go_at_call 120
  clear a0 a1 a2 a3 a4 a5 a6 a7 a8 a9 c0 c1 c2 c3 c4 c5 c6 c7 c8 c9
  refine (ikEqS x.aL z.aL x.cL z.cL x.ln u3 I.i Ji K.i).mono ?_
  rintro e u4 ⟨rfl, k4⟩
  have A := A.below k4 A.lt
  have C := C.below k4 C.lt
  have I := I.below k4
  have Jt := Jt.below k4 (Nat.le_refl _)
  have Jn := Jn.below k4 (Jn.lt wiEnc_len (by omega))
  have Jg := Jg.below k4 (Jg.lt boEnc_len (by omega))
  have Ji := Ji.below k4 (Ji.lt ikEnc_len (by omega))
  have Js := Js.below k4 (Js.lt ouEnc_len (by omega))
  have B0 := B0.trans (k4.mono B0.size)
  clear k4
  have cc := A
  obtain ⟨a0, a1, a2, a3, a4, a5, a6, a7, a8, a9⟩ := cc
  have cc := C
  obtain ⟨c0, c1, c2, c3, c4, c5, c6, c7, c8, c9⟩ := cc
  go_wp2_with fail
  go_at_call 121
  clear a0 a1 a2 a3 a4 a5 a6 a7 a8 a9 c0 c1 c2 c3 c4 c5 c6 c7 c8 c9
  refine (ouEqS x.aS z.aS x.cS z.cS x.sd u4 I.s Js K.s).mono ?_
  rintro e u5 ⟨rfl, k5⟩
  have A := A.below k5 A.lt
  have C := C.below k5 C.lt
  have I := I.below k5
  have Jt := Jt.below k5 (Nat.le_refl _)
  have Jn := Jn.below k5 (Jn.lt wiEnc_len (by omega))
  have Jg := Jg.below k5 (Jg.lt boEnc_len (by omega))
  have Ji := Ji.below k5 (Ji.lt ikEnc_len (by omega))
  have Js := Js.below k5 (Js.lt ouEnc_len (by omega))
  have B0 := B0.trans (k5.mono B0.size)
  clear k5
  go_wp2
  go_ret
  exact ⟨rfl, B0⟩
theorem bxEq (x z : BxD) (w : World) (I : BxIn w x) (J : BxIn w z) (K : BxSm x) (hp : z.p = x.p) :
    Calls Tryz.prog 51 #[.agg #[.int .i64 x.id, .int .i64 x.po, .int .i64 x.rg.ep, .int .i64 x.rg.ow, .int .i64 x.rg.pa, .slice x.aT x.two.length x.cT, .slice x.aN x.net.length x.cN, .slice x.aG x.ga.length x.cG, .slice x.aL x.ln.length x.cL, .slice x.aS x.sd.length x.cS], .agg #[.int .i64 z.id, .int .i64 z.po, .int .i64 z.rg.ep, .int .i64 z.rg.ow, .int .i64 z.rg.pa, .slice z.aT z.two.length z.cT, .slice z.aN z.net.length z.cN, .slice z.aG z.ga.length z.cG, .slice z.aL z.ln.length z.cL, .slice z.aS z.sd.length z.cS]] w fun e w' => e = .returned (.bool true) ∧ Below w.heap.size w w' := by
  obtain ⟨zid, zpo, zrg, ztwo, zaT, zcT, znet, zaN, zcN, zga, zaG, zcG, zln, zaL, zcL, zsd, zaS, zcS⟩ := z
  unfold BxD.p at hp
  simp only [Bx.mk.injEq] at hp
  obtain ⟨rfl, rfl, rfl, ht, rfl, rfl, rfl, rfl⟩ := hp
  exact bxEq0 x ⟨x.id, x.po, x.rg, ztwo, zaT, zcT, x.net, zaN, zcN, x.ga, zaG, zcG, x.ln, zaL, zcL, x.sd, zaS, zcS⟩ w I J K ht rfl rfl rfl rfl

end Go.Proofs.YtnpiljegdiconaaGreat
namespace Go.Proofs.YtnpiljegdiconaaGreat
open Go.ChangeShapes Go.WideShapes Go.ChangeAt Go.RowKit
open Go.ChangeMaps (open_string shut_string)
set_option linter.unusedVariables false
set_option maxRecDepth 100000

set_option maxHeartbeats 8000000 in
theorem rootPS (id : Int) (ad : Option Addr) (cap : Nat) (L : List Pt) (w : World) (hv : FView ptEnc w ad L) (hl : L.length ≤ 1048576) :
    Calls Tryz.prog 185 #[.agg #[.int .i64 id, .slice ad L.length cap]] w fun e w' => e = .returned (.tuple #[.int .i64 (oI (rootO id L)), .bool (rootO id L).isSome]) ∧ Below w.heap.size w w' := by
  have hB := hv.lt ptEnc_len (by omega)
  obtain ⟨y, hy⟩ : ∃ y, y = w.alloc (Obj.cells #[.int .i64 id, .slice ad L.length cap] 56) := ⟨_, rfl⟩
  have B0 : Below w.heap.size w y := by rw [hy]; exact below_new _
  have A0 : BrAt y w.heap.size id (.slice ad L.length cap) := by rw [hy]; exact BrAt.new w _ _ _
  have S0 := A0.lt
  have hv2 := hv.below B0 hB
  have hB2 := hv2.lt ptEnc_len (by omega)
  clear hv hB
  obtain ⟨O, hO⟩ : ∃ O, O = rootO id L := ⟨_, rfl⟩
  rw [← hO]
  replace hO : Hid _ := hO
  cases hb : bOk id L with
  | false =>
    have hN : Hid (O = none) := by unfold Hid; rw [hO.out]; unfold rootO; rw [hb]; rfl
    clear hO
    go_enter Tryz.func185, Tryz.ntmps185
    go_wp2
    rw [← hy]
    clear hy
    obtain ⟨a0, a1⟩ := A0
    refine wp_loop_rounds 1 ?_; rw [rounds_succ]
    by_cases h0 : L.length = 0
    · obtain rfl : L = [] := List.eq_nil_of_length_eq_zero h0
      go_wp2
      refine bodyPost_ret (by simp [results, Tryz.results185, go_sem]; rfl) rfl ⟨by rw [hN.out]; rfl, B0⟩
    · have d0 : decide ((0 : Int) < (L.length : Int)) = true := decide_eq_true (by omega)
      have d0' : decide (0 < L.length) = true := decide_eq_true (by omega)
      go_wp2_with fail
      go_at_call 81
      refine (bOkS id ad cap L y hv2 hl).mono ?_
      rintro e w1 ⟨rfl, k1⟩
      have B1 := B0.trans (k1.mono B0.size)
      rw [hb]
      go_wp2
      refine bodyPost_ret (by simp [results, Tryz.results185, go_sem]; rfl) rfl ⟨by rw [hN.out]; rfl, B1⟩
  | true =>
    have hlen := (bOk_all hb).2.1
    have hall : Hid (∀ i, pOk (L.getD i Pt.nil) = true) := (bOk_all hb).2.2
    have hN : Hid (O = bestTo id L L.length) := by unfold Hid; rw [hO.out]; unfold rootO; rw [hb]; rfl
    replace hb : Hid _ := hb
    clear hO
    go_enter Tryz.func185, Tryz.ntmps185
    go_wp2
    rw [← hy]
    clear hy
    have A1 := A0
    obtain ⟨w1, hw1⟩ : ∃ w1, w1 = y := ⟨_, rfl⟩
    rw [← hw1] at A1 B0 S0 hv2 hB2 ⊢
    have B1 := B0
    have S1 := S0
    clear A0 hw1 S0
    go_loopw [4, 5] (fun q i wr => ∃ k : Nat, k ≤ L.length ∧ i = .int .i64 (k : Int) ∧ q = .int .i64 (oI (bestTo id L k)) ∧ Below w1.heap.size w1 wr) (fun _ i _ => L.length - (intOf i).toNat)
    case atStart => exact ⟨0, Nat.zero_le _, rfl, rfl, Below.refl _ _⟩
    case round =>
      obtain ⟨k, hk, rfl, rfl, hbr⟩ := hrel
      have A2 := A1.below hbr (by omega)
      obtain ⟨a0, a1⟩ := A2
      by_cases hlt : k < L.length
      · obtain ⟨bk, off, rfl, _⟩ := hv2 (by omega)
        obtain ⟨h, hh⟩ : ∃ h, L.getD k Pt.nil = h := ⟨_, rfl⟩
        have hv3 := hv2.below hbr hB2
        have hck : PtAtO wr bk (off + k * 11) h := by
          rw [← hh]
          exact ptAtO_of (hv3.at_ ptEnc_len Pt.nil hlt)
        have hok : pOk h = true := by rw [← hh]; exact hall.out k
        have hcu : Hid ((h.up && cand id h) = cand id h) := cand_up (id := id) hok
        replace hh : Hid _ := hh
        obtain ⟨q, hq⟩ : ∃ q, q = oI (bestTo id L k) := ⟨_, rfl⟩
        rw [← hq]
        replace hq : Hid _ := hq
        go_wp2_with fail
        go_at_call 81
        refine (bOkS id (some ⟨bk, off, none⟩) cap L wr hv3 hl).mono ?_
        rintro e wr2 ⟨rfl, kr⟩
        rw [hb.out]
        have hbr2 : Below w1.heap.size w1 wr2 := hbr.trans (kr.mono hbr.size)
        have hv4 := hv3.below kr (hv3.lt ptEnc_len (by omega))
        obtain ⟨c0, c1, c2, c3, c4, c5, c6, c7, c8, c9, c10⟩ : PtAtO wr2 bk (off + k * 11) h := by rw [← hh.out]; exact ptAtO_of (hv4.at_ ptEnc_len Pt.nil hlt)
        clear a0 a1 hck
        obtain ⟨a0, a1⟩ := A1.below hbr2 (by omega)
        obtain ⟨y3, hy3⟩ : ∃ y_, y_ = wr2.alloc (Obj.cells #[.bool h.up, .bool h.has, .int .i64 h.r, .int .i64 h.c, .int .i64 h.b, .int .i64 h.p, .int .i64 h.h, .int .i64 h.l, .int .i64 h.ro, .int .i64 h.wa, .bool h.op] 109) := ⟨_, rfl⟩
        have P3 : PtAt y3 wr2.heap.size h := by rw [hy3]; exact ptAt_box wr2 _ _
        have A3 : BrAt y3 w.heap.size id (.slice (some ⟨bk, off, none⟩) L.length cap) := by rw [hy3]; exact BrAt.alloc ⟨a0, a1⟩ _
        have kn : Below wr2.heap.size wr2 y3 := by rw [hy3]; exact below_new _
        have Bb : Below w1.heap.size w1 y3 := hbr2.trans (kn.mono hbr2.size)
        have hv3 := hv4.below kn (hv4.lt ptEnc_len (by omega))
        have S3 : wr2.heap.size < y3.heap.size := P3.lt
        have S4 := hbr2.size
        go_upto_region 6 with fail
        rw [← hy3]
        clear hy3 a0 a1 c0 c1 c2 c3 c4 c5 c6 c7 c8 c9 c10 kr hbr hv4
        generalize wr2.heap.size = Q at P3 S3 S4 kn ⊢
        clear kn
        obtain ⟨e0, e1, e2, e3, e4, e5, e6, e7, e8, e9, e10⟩ := (P3 : PtAt y3 Q h)
        obtain ⟨a0, a1⟩ := (A3 : BrAt y3 w.heap.size id _)
        have P3 : PtAt y3 Q h := ⟨e0, e1, e2, e3, e4, e5, e6, e7, e8, e9, e10⟩
        have A3 : BrAt y3 w.heap.size id (.slice (some ⟨bk, off, none⟩) L.length cap) := ⟨a0, a1⟩
        cases hhas : h.has with
        | false =>
          rw [hhas] at e1
          have hc : Hid (cand id h = false) := by unfold Hid cand; rw [hhas]; rfl
          go_wp2
          go_roundw
          case rel => exact ⟨k + 1, by omega, by go_num, by rw [hq.out, best_no hh.out hc.out], Bb⟩
          case measure => simp [intOf]; omega
        | true =>
          rw [hhas] at e1
          by_cases h1 : h.b = id
          · have d1 : (h.b == id) = true := by simpa using h1
            replace h1 : Hid _ := h1
            have hc : Hid (cand id h = false) := by unfold Hid cand; rw [d1]; simp
            go_wp2
            go_roundw
            case rel => exact ⟨k + 1, by omega, by go_num, by rw [hq.out, best_no hh.out hc.out], Bb⟩
            case measure => simp [intOf]; omega
          have d1 : (h.b == id) = false := by simpa using h1
          replace h1 : Hid _ := h1
          by_cases h2 : id ≤ h.r
          · have d2 : decide (id ≤ h.r) = true := decide_eq_true h2
            have d2' : decide (h.r < id) = false := decide_eq_false (by omega)
            clear h2
            have hc : Hid (cand id h = false) := by unfold Hid cand; rw [d2']; simp
            go_wp2
            go_roundw
            case rel => exact ⟨k + 1, by omega, by go_num, by rw [hq.out, best_no hh.out hc.out], Bb⟩
            case measure => simp [intOf]; omega
          have d2 : decide (id ≤ h.r) = false := decide_eq_false h2
          have d2' : Hid (decide (h.r < id) = true) := decide_eq_true (by omega)
          clear h2
          by_cases h3 : 20 ≤ h.c
          · have d3 : decide (20 ≤ h.c) = true := decide_eq_true h3
            have d3' : decide (h.c < 20) = false := decide_eq_false (by omega)
            clear h3
            have hc : Hid (cand id h = false) := by unfold Hid cand; rw [d3']; simp
            go_wp2
            go_roundw
            case rel => exact ⟨k + 1, by omega, by go_num, by rw [hq.out, best_no hh.out hc.out], Bb⟩
            case measure => simp [intOf]; omega
          have d3 : decide (20 ≤ h.c) = false := decide_eq_false h3
          have d3' : Hid (decide (h.c < 20) = true) := decide_eq_true (by omega)
          clear h3
          by_cases h4 : 8 ≤ h.h
          · have d4 : decide (8 ≤ h.h) = true := decide_eq_true h4
            have d4' : decide (h.h < 8) = false := decide_eq_false (by omega)
            clear h4
            have hc : Hid (cand id h = false) := by unfold Hid cand; rw [d4']; simp
            go_wp2
            go_roundw
            case rel => exact ⟨k + 1, by omega, by go_num, by rw [hq.out, best_no hh.out hc.out], Bb⟩
            case measure => simp [intOf]; omega
          have d4 : decide (8 ≤ h.h) = false := decide_eq_false h4
          have d4' : Hid (decide (h.h < 8) = true) := decide_eq_true (by omega)
          clear h4
          have hc : Hid (cand id h = true) := by unfold Hid cand; rw [hhas, d1, d2'.out, d3'.out, d4'.out]; rfl
          go_upto_region 7 with fail
          clear a0 a1 e0 e1 e2 e3 e4 e5 e6 e7 e8 e9 e10 d1 d2 d2' d3 d3' d4 d4' hhas
          cases hbt : bestTo id L k with
          | none =>
            obtain rfl : q = -1 := by rw [hq.out, hbt]; rfl
            replace hbt : Hid _ := hbt
            clear hq
            refine wp_region_held (S := fun Y => Below y3.heap.size y3 Y) (by kernel_rfl) ?_
            change wpAnyH _ _ _ _ _ _ _ _ (World.drew _)
            have hb0 : Below y3.heap.size y3 y3.drew := (Below.refl _ _).drew
            obtain ⟨u0, hy0⟩ : ∃ y_, y_ = y3.drew := ⟨_, rfl⟩
            rw [← hy0] at hb0 ⊢
            clear hy0
            refine takeW 0 53 (.int .i64 (-1)) rfl rfl (by kernel_rfl) (by kernel_rfl) (by kernel_rfl) (fun _ _ _ h => h) (by kernel_rfl) (by (intro w hSw; go_simp)) (by assumption) ?_
            simp only [List.set_cons_zero, List.set_cons_succ]
            refine takeW 1 54 (.bool true) rfl rfl (by kernel_rfl) (by kernel_rfl) (by kernel_rfl) (fun _ _ _ h => h) (by kernel_rfl) (by (intro Y hSw; go_simp)) (by assumption) ?_
            simp only [List.set_cons_zero, List.set_cons_succ]
            refine takeW 2 55 (.bool true) rfl rfl (by kernel_rfl) (by kernel_rfl) (by kernel_rfl) (fun _ _ _ h => h) (by kernel_rfl) (by (intro w hSw; go_simp)) (by assumption) ?_
            simp only [List.set_cons_zero, List.set_cons_succ]
            refine takeS 3 56 rfl rfl (by kernel_rfl) (by kernel_rfl) (by kernel_rfl) (fun _ _ _ h => h) (by kernel_rfl) (by assumption) ?_
            simp only [List.set_cons_zero, List.set_cons_succ]
            refine takeS 4 57 rfl rfl (by kernel_rfl) (by kernel_rfl) (by kernel_rfl) (fun _ _ _ h => h) (by kernel_rfl) (by assumption) ?_
            simp only [List.set_cons_zero, List.set_cons_succ]
            refine takeS 5 58 rfl rfl (by kernel_rfl) (by kernel_rfl) (by kernel_rfl) (fun _ _ _ h => h) (by kernel_rfl) (by assumption) ?_
            simp only [List.set_cons_zero, List.set_cons_succ]
            refine takeS 6 59 rfl rfl (by kernel_rfl) (by kernel_rfl) (by kernel_rfl) (fun _ _ _ h => h) (by kernel_rfl) (by assumption) ?_
            simp only [List.set_cons_zero, List.set_cons_succ]
            refine takeS 7 60 rfl rfl (by kernel_rfl) (by kernel_rfl) (by kernel_rfl) (fun _ _ _ h => h) (by kernel_rfl) (by assumption) ?_
            simp only [List.set_cons_zero, List.set_cons_succ]
            refine takeS 8 61 rfl rfl (by kernel_rfl) (by kernel_rfl) (by kernel_rfl) (fun _ _ _ h => h) (by kernel_rfl) (by assumption) ?_
            simp only [List.set_cons_zero, List.set_cons_succ]
            refine takeS 9 62 rfl rfl (by kernel_rfl) (by kernel_rfl) (by kernel_rfl) (fun _ _ _ h => h) (by kernel_rfl) (by assumption) ?_
            simp only [List.set_cons_zero, List.set_cons_succ]
            refine takeS 10 63 rfl rfl (by kernel_rfl) (by kernel_rfl) (by kernel_rfl) (fun _ _ _ h => h) (by kernel_rfl) (by assumption) ?_
            simp only [List.set_cons_zero, List.set_cons_succ]
            refine takeS 11 64 rfl rfl (by kernel_rfl) (by kernel_rfl) (by kernel_rfl) (fun _ _ _ h => h) (by kernel_rfl) (by assumption) ?_
            simp only [List.set_cons_zero, List.set_cons_succ]
            refine takeW 12 65 (.bool true) rfl rfl (by kernel_rfl) (by kernel_rfl) (by kernel_rfl) (fun _ _ _ h => h) (by kernel_rfl) (by (intro w hSw; go_simp)) (by assumption) ?_
            simp only [List.set_cons_zero, List.set_cons_succ]
            refine wpAnyH_done (by kernel_rfl) ?_ _
            go_wp2
            go_roundw
            case rel => exact ⟨k + 1, by omega, by go_num, by rw [best_none hbt.out hh.out hc.out]; rfl, Bb.trans (hb0.mono Bb.size)⟩
            case measure => simp [intOf]; omega
          | some j =>
            obtain rfl : q = (j : Int) := by rw [hq.out, hbt]; rfl
            have hj := (bestTo_some hbt).1
            replace hbt : Hid _ := hbt
            clear hq
            have dj : decide ((j : Int) < 0) = false := decide_eq_false (by omega)
            have hjl : j < L.length := by omega
            obtain ⟨g, hgg⟩ : ∃ g, L.getD j Pt.nil = g := ⟨_, rfl⟩
            have hg : ∀ Y, Below y3.heap.size y3 Y → PtAtO Y bk (off + j * 11) g := fun Y hY => by rw [← hgg]; exact ptAtO_of ((hv3.below hY (hv3.lt ptEnc_len (by omega))).at_ ptEnc_len Pt.nil hjl)
            replace hgg : Hid _ := hgg
            obtain ⟨t, ht⟩ : ∃ t, vBetter h g = t := ⟨_, rfl⟩
            have ht' : vLt h.r h.c h.b h.p g.r g.c g.b g.p = t := ht
            replace ht : Hid _ := ht
            replace ht' : Hid _ := ht'
            cases t
            · refine wp_region_held (S := fun Y => Below y3.heap.size y3 Y) (by kernel_rfl) ?_
              change wpAnyH _ _ _ _ _ _ _ _ (World.drew _)
              have hb0 : Below y3.heap.size y3 y3.drew := (Below.refl _ _).drew
              obtain ⟨u0, hy0⟩ : ∃ y_, y_ = y3.drew := ⟨_, rfl⟩
              rw [← hy0] at hb0 ⊢
              clear hy0
              refine takeW 0 53 (.int .i64 (j : Int)) rfl rfl (by kernel_rfl) (by kernel_rfl) (by kernel_rfl) (fun _ _ _ h => h) (by kernel_rfl) (by (intro w hSw; go_simp)) (by assumption) ?_
              simp only [List.set_cons_zero, List.set_cons_succ]
              refine takeW 1 54 (.bool false) rfl rfl (by kernel_rfl) (by kernel_rfl) (by kernel_rfl) (fun _ _ _ h => h) (by kernel_rfl) (by (intro Y hSw; go_simp)) (by assumption) ?_
              simp only [List.set_cons_zero, List.set_cons_succ]
              refine takeW 2 55 (.bool false) rfl rfl (by kernel_rfl) (by kernel_rfl) (by kernel_rfl) (fun _ _ _ h => h) (by kernel_rfl) (by (intro w hSw; go_simp)) (by assumption) ?_
              simp only [List.set_cons_zero, List.set_cons_succ]
              refine takeW 3 56 (.pointer (some ⟨Q, 2, none⟩)) rfl rfl (by kernel_rfl) (by kernel_rfl) (by kernel_rfl) (fun _ _ _ h => h) (by kernel_rfl) (by (intro w hSw; go_simp)) (by assumption) ?_
              simp only [List.set_cons_zero, List.set_cons_succ]
              refine takeW 4 57 (.agg #[.int .i64 h.r, .int .i64 h.c, .int .i64 h.b, .int .i64 h.p]) rfl rfl (by kernel_rfl) (by kernel_rfl) (by kernel_rfl) (fun _ _ _ h => h) (by kernel_rfl) (by (intro Y hSw; obtain ⟨X0, X1, X2, X3, X4, X5, X6, X7, X8, X9, X10⟩ := P3.below hSw (by omega); go_simp)) (by assumption) ?_
              simp only [List.set_cons_zero, List.set_cons_succ]
              refine takeW 5 58 (.pointer (some ⟨w.heap.size, 1, none⟩)) rfl rfl (by kernel_rfl) (by kernel_rfl) (by kernel_rfl) (fun _ _ _ h => h) (by kernel_rfl) (by (intro w hSw; go_simp)) (by assumption) ?_
              simp only [List.set_cons_zero, List.set_cons_succ]
              refine takeW 6 59 (.slice (some ⟨bk, off, none⟩) L.length cap) rfl rfl (by kernel_rfl) (by kernel_rfl) (by kernel_rfl) (fun _ _ _ h => h) (by kernel_rfl) (by (intro Y hSw; obtain ⟨X0, X1⟩ := A3.below hSw (by omega); go_simp)) (by assumption) ?_
              simp only [List.set_cons_zero, List.set_cons_succ]
              refine takeW 7 60 (.int .i64 (j : Int)) rfl rfl (by kernel_rfl) (by kernel_rfl) (by kernel_rfl) (fun _ _ _ h => h) (by kernel_rfl) (by (intro w hSw; go_simp)) (by assumption) ?_
              simp only [List.set_cons_zero, List.set_cons_succ]
              refine takeW 8 61 (.pointer (some ⟨bk, off + j * 11, none⟩)) rfl rfl (by kernel_rfl) (by kernel_rfl) (by kernel_rfl) (fun _ _ _ h => h) (by kernel_rfl) (by (intro Y hSw; go_simp; try omega)) (by assumption) ?_
              simp only [List.set_cons_zero, List.set_cons_succ]
              refine takeW 9 62 (.pointer (some ⟨bk, off + j * 11 + 2, none⟩)) rfl rfl (by kernel_rfl) (by kernel_rfl) (by kernel_rfl) (fun _ _ _ h => h) (by kernel_rfl) (by (intro w hSw; go_simp)) (by assumption) ?_
              simp only [List.set_cons_zero, List.set_cons_succ]
              refine takeW 10 63 (.agg #[.int .i64 g.r, .int .i64 g.c, .int .i64 g.b, .int .i64 g.p]) rfl rfl (by kernel_rfl) (by kernel_rfl) (by kernel_rfl) (fun _ _ _ h => h) (by kernel_rfl) (by (intro Y hSw; obtain ⟨X0, X1, X2, X3, X4, X5, X6, X7, X8, X9, X10⟩ := hg Y hSw; go_simp)) (by assumption) ?_
              simp only [List.set_cons_zero, List.set_cons_succ]
              refine wpAnyH_all (rs := [11]) (by kernel_rfl) (by simp) ?_
              intro i hi; obtain rfl : i = 11 := by simpa using hi
              refine wpOp_step rfl (fun K hK => ?_)
              rw [if_pos (by kernel_rfl)]
              go_simp
              go_at_call 210
              refine (betterS h.r h.c h.b h.p g.r g.c g.b g.p u0).mono ?_
              rintro e u1 ⟨rfl, kq⟩
              have hb1 : Below y3.heap.size y3 u1 := hb0.trans (kq.mono hb0.size)
              clear kq
              rw [ht'.out]
              refine hK _ _ ⟨hb1, ?_⟩
              clear hK K hi
              refine takeW 12 65 (.bool false) rfl rfl (by kernel_rfl) (by kernel_rfl) (by kernel_rfl) (fun _ _ _ h => h) (by kernel_rfl) (by (intro w hSw; go_simp)) (by assumption) ?_
              simp only [List.set_cons_zero, List.set_cons_succ]
              refine wpAnyH_done (by kernel_rfl) ?_ _
              go_wp2
              go_roundw
              case rel => exact ⟨k + 1, by omega, by go_num, by rw [best_some hbt.out hh.out hgg.out hc.out ht.out]; rfl, Bb.trans (hb1.mono Bb.size)⟩
              case measure => simp [intOf]; omega
            · refine wp_region_held (S := fun Y => Below y3.heap.size y3 Y) (by kernel_rfl) ?_
              change wpAnyH _ _ _ _ _ _ _ _ (World.drew _)
              have hb0 : Below y3.heap.size y3 y3.drew := (Below.refl _ _).drew
              obtain ⟨u0, hy0⟩ : ∃ y_, y_ = y3.drew := ⟨_, rfl⟩
              rw [← hy0] at hb0 ⊢
              clear hy0
              refine takeW 0 53 (.int .i64 (j : Int)) rfl rfl (by kernel_rfl) (by kernel_rfl) (by kernel_rfl) (fun _ _ _ h => h) (by kernel_rfl) (by (intro w hSw; go_simp)) (by assumption) ?_
              simp only [List.set_cons_zero, List.set_cons_succ]
              refine takeW 1 54 (.bool false) rfl rfl (by kernel_rfl) (by kernel_rfl) (by kernel_rfl) (fun _ _ _ h => h) (by kernel_rfl) (by (intro Y hSw; go_simp)) (by assumption) ?_
              simp only [List.set_cons_zero, List.set_cons_succ]
              refine takeW 2 55 (.bool false) rfl rfl (by kernel_rfl) (by kernel_rfl) (by kernel_rfl) (fun _ _ _ h => h) (by kernel_rfl) (by (intro w hSw; go_simp)) (by assumption) ?_
              simp only [List.set_cons_zero, List.set_cons_succ]
              refine takeW 3 56 (.pointer (some ⟨Q, 2, none⟩)) rfl rfl (by kernel_rfl) (by kernel_rfl) (by kernel_rfl) (fun _ _ _ h => h) (by kernel_rfl) (by (intro w hSw; go_simp)) (by assumption) ?_
              simp only [List.set_cons_zero, List.set_cons_succ]
              refine takeW 4 57 (.agg #[.int .i64 h.r, .int .i64 h.c, .int .i64 h.b, .int .i64 h.p]) rfl rfl (by kernel_rfl) (by kernel_rfl) (by kernel_rfl) (fun _ _ _ h => h) (by kernel_rfl) (by (intro Y hSw; obtain ⟨X0, X1, X2, X3, X4, X5, X6, X7, X8, X9, X10⟩ := P3.below hSw (by omega); go_simp)) (by assumption) ?_
              simp only [List.set_cons_zero, List.set_cons_succ]
              refine takeW 5 58 (.pointer (some ⟨w.heap.size, 1, none⟩)) rfl rfl (by kernel_rfl) (by kernel_rfl) (by kernel_rfl) (fun _ _ _ h => h) (by kernel_rfl) (by (intro w hSw; go_simp)) (by assumption) ?_
              simp only [List.set_cons_zero, List.set_cons_succ]
              refine takeW 6 59 (.slice (some ⟨bk, off, none⟩) L.length cap) rfl rfl (by kernel_rfl) (by kernel_rfl) (by kernel_rfl) (fun _ _ _ h => h) (by kernel_rfl) (by (intro Y hSw; obtain ⟨X0, X1⟩ := A3.below hSw (by omega); go_simp)) (by assumption) ?_
              simp only [List.set_cons_zero, List.set_cons_succ]
              refine takeW 7 60 (.int .i64 (j : Int)) rfl rfl (by kernel_rfl) (by kernel_rfl) (by kernel_rfl) (fun _ _ _ h => h) (by kernel_rfl) (by (intro w hSw; go_simp)) (by assumption) ?_
              simp only [List.set_cons_zero, List.set_cons_succ]
              refine takeW 8 61 (.pointer (some ⟨bk, off + j * 11, none⟩)) rfl rfl (by kernel_rfl) (by kernel_rfl) (by kernel_rfl) (fun _ _ _ h => h) (by kernel_rfl) (by (intro Y hSw; go_simp; try omega)) (by assumption) ?_
              simp only [List.set_cons_zero, List.set_cons_succ]
              refine takeW 9 62 (.pointer (some ⟨bk, off + j * 11 + 2, none⟩)) rfl rfl (by kernel_rfl) (by kernel_rfl) (by kernel_rfl) (fun _ _ _ h => h) (by kernel_rfl) (by (intro w hSw; go_simp)) (by assumption) ?_
              simp only [List.set_cons_zero, List.set_cons_succ]
              refine takeW 10 63 (.agg #[.int .i64 g.r, .int .i64 g.c, .int .i64 g.b, .int .i64 g.p]) rfl rfl (by kernel_rfl) (by kernel_rfl) (by kernel_rfl) (fun _ _ _ h => h) (by kernel_rfl) (by (intro Y hSw; obtain ⟨X0, X1, X2, X3, X4, X5, X6, X7, X8, X9, X10⟩ := hg Y hSw; go_simp)) (by assumption) ?_
              simp only [List.set_cons_zero, List.set_cons_succ]
              refine wpAnyH_all (rs := [11]) (by kernel_rfl) (by simp) ?_
              intro i hi; obtain rfl : i = 11 := by simpa using hi
              refine wpOp_step rfl (fun K hK => ?_)
              rw [if_pos (by kernel_rfl)]
              go_simp
              go_at_call 210
              refine (betterS h.r h.c h.b h.p g.r g.c g.b g.p u0).mono ?_
              rintro e u1 ⟨rfl, kq⟩
              have hb1 : Below y3.heap.size y3 u1 := hb0.trans (kq.mono hb0.size)
              clear kq
              rw [ht'.out]
              refine hK _ _ ⟨hb1, ?_⟩
              clear hK K hi
              refine takeW 12 65 (.bool true) rfl rfl (by kernel_rfl) (by kernel_rfl) (by kernel_rfl) (fun _ _ _ h => h) (by kernel_rfl) (by (intro w hSw; go_simp)) (by assumption) ?_
              simp only [List.set_cons_zero, List.set_cons_succ]
              refine wpAnyH_done (by kernel_rfl) ?_ _
              go_wp2
              go_roundw
              case rel => exact ⟨k + 1, by omega, by go_num, by rw [best_some hbt.out hh.out hgg.out hc.out ht.out]; rfl, Bb.trans (hb1.mono Bb.size)⟩
              case measure => simp [intOf]; omega
      · obtain rfl : k = L.length := by omega
        have BF := B1.trans (hbr.mono B1.size)
        cases hbt : bestTo id L L.length with
        | none =>
          have hN2 : Hid (O = none) := by unfold Hid; rw [hN.out, hbt]
          simp only [oI]
          clear hN hbt
          go_wp2
          refine bodyPost_ret (by simp [results, Tryz.results185, go_sem]; rfl) rfl ⟨by rw [hN2.out]; rfl, BF⟩
        | some j =>
          have hN2 : Hid (O = some j) := by unfold Hid; rw [hN.out, hbt]
          have dj : decide (0 ≤ (j : Int)) = true := decide_eq_true (by omega)
          simp only [oI]
          clear hN hbt
          go_wp2
          refine bodyPost_ret (by simp [results, Tryz.results185, go_sem]; rfl) rfl ⟨by rw [hN2.out]; rfl, BF⟩

end Go.Proofs.YtnpiljegdiconaaGreat
namespace Go.Proofs.YtnpiljegdiconaaGreat
open Go.ChangeShapes Go.WideShapes Go.ChangeAt Go.RowKit
open Go.ChangeMaps (open_string shut_string)
set_option linter.unusedVariables false
set_option maxRecDepth 100000

set_option maxHeartbeats 4000000 in
theorem ownS (id : Int) (ad : Option Addr) (cap : Nat) (L : List Pt) (port : Int) (w : World) (hv : FView ptEnc w ad L) (hl : L.length ≤ 1048576) :
    Calls Tryz.prog 137 #[.agg #[.int .i64 id, .slice ad L.length cap], .int .i64 port] w fun e w' => e = .returned (.agg #[.int .i64 (ownR id L port).1, .int .i64 (ownR id L port).2.1, .int .i64 (ownR id L port).2.2.1, .int .i64 (ownR id L port).2.2.2]) ∧ Below w.heap.size w w' := by
  have hB := hv.lt ptEnc_len (by omega)
  obtain ⟨y, hy⟩ : ∃ y, y = (w.alloc (Obj.cells #[.int .i64 id, .slice ad L.length cap] 56)).alloc (Obj.cells #[.int .i64 0, .int .i64 0, .int .i64 0, .int .i64 0] 103) := ⟨_, rfl⟩
  have B0 : Below w.heap.size w y := by rw [hy]; exact ((Below.refl _ _).alloc (Nat.le_refl _) _).alloc (by simp) _
  have A0 : BrAt y w.heap.size id (.slice ad L.length cap) := by rw [hy]; constructor <;> simp [go_sem]
  have V0 : VBox y (w.heap.size + 1) 0 0 0 0 := by rw [hy]; refine ⟨?_, fun i => ?_⟩; (refine ⟨?_, ?_, ?_, ?_⟩ <;> simp [go_sem]); simp [go_sem]
  have S0 : w.heap.size + 1 < y.heap.size := V0.lt
  have hv1 := hv.below B0 hB
  have hB1 := hv1.lt ptEnc_len (by omega)
  obtain ⟨Y, hY⟩ : ∃ Y, Y = ownR id L port := ⟨_, rfl⟩
  rw [← hY]
  replace hY : Hid _ := hY
  go_enter Tryz.func137, Tryz.ntmps137
  go_wp2_with fail
  go_at_call 81
  rw [← hy]
  clear hy hv hB
  refine (bOkS id ad cap L y hv1 hl).mono ?_
  rintro e w1 ⟨rfl, k1⟩
  have B1 : Below w.heap.size w w1 := B0.trans (k1.mono B0.size)
  have A1 := A0.below k1 (by omega)
  have V1 := V0.below k1 (by omega)
  have S1 : w.heap.size + 1 < w1.heap.size := V1.lt
  have hv2 := hv1.below k1 hB1
  have hB2 := hv2.lt ptEnc_len (by omega)
  clear A0 V0 hv1 hB1 k1 B0 S0
  cases hb : bOk id L with
  | false =>
    have hN : Hid (Y = (0, 0, 0, 0)) := by unfold Hid; rw [hY.out]; unfold ownR; rw [hb]; rfl
    clear hY
    obtain ⟨⟨t0, t1, t2, t3⟩, tf⟩ := V1
    have BZ := B1.setCell (p := ⟨w.heap.size + 1, 0, none⟩) (by show _ ≤ w.heap.size + 1; omega) (.int .i64 0)
    have BZ := BZ.setCell (p := ⟨w.heap.size + 1, 1, none⟩) (by show _ ≤ w.heap.size + 1; omega) (.int .i64 0)
    have BZ := BZ.setCell (p := ⟨w.heap.size + 1, 2, none⟩) (by show _ ≤ w.heap.size + 1; omega) (.int .i64 0)
    have BZ := BZ.setCell (p := ⟨w.heap.size + 1, 3, none⟩) (by show _ ≤ w.heap.size + 1; omega) (.int .i64 0)
    go_wp2
    refine bodyPost_ret (v := .agg #[.int .i64 0, .int .i64 0, .int .i64 0, .int .i64 0]) (by simp [results, Tryz.results137, go_sem, *]) rfl ⟨by rw [hN.out], BZ⟩
  | true =>
    have hlen := (bOk_all hb).2.1
    by_cases hp : 0 ≤ port ∧ port < (L.length : Int)
    rotate_left
    · have hN : Hid (Y = (0, 0, 0, 0)) := by unfold Hid; rw [hY.out]; unfold ownR; rw [hb, decide_eq_false hp]; rfl
      have dp : decide (0 ≤ port ∧ port < (L.length : Int)) = false := decide_eq_false hp
      clear hY
      obtain ⟨a0, a1⟩ := A1
      replace hp : Hid _ := hp
      have es : decide (0 ≤ port ∧ port ≤ (L.length : Int) - 1) = decide (0 ≤ port ∧ port < (L.length : Int)) := decide_eq_decide.2 (by omega)
      go_wp2_with fail
      go_at_call 65
      refine (inB port 0 ((L.length : Int) - 1) w1).mono ?_
      rintro e w2 ⟨rfl, hw2⟩
      have kp : Below w1.heap.size w1 w2 := by rw [hw2]; exact Below.refl _ _
      rw [es]
      clear es hw2
      rw [dp]
      have B2 := B1.trans (kp.mono B1.size)
      have V2 := V1.below kp S1
      clear dp
      obtain ⟨⟨t0, t1, t2, t3⟩, tf⟩ := V2
      have BZ := B2.setCell (p := ⟨w.heap.size + 1, 0, none⟩) (by show _ ≤ w.heap.size + 1; omega) (.int .i64 0)
      have BZ := BZ.setCell (p := ⟨w.heap.size + 1, 1, none⟩) (by show _ ≤ w.heap.size + 1; omega) (.int .i64 0)
      have BZ := BZ.setCell (p := ⟨w.heap.size + 1, 2, none⟩) (by show _ ≤ w.heap.size + 1; omega) (.int .i64 0)
      have BZ := BZ.setCell (p := ⟨w.heap.size + 1, 3, none⟩) (by show _ ≤ w.heap.size + 1; omega) (.int .i64 0)
      go_wp2
      refine bodyPost_ret (v := .agg #[.int .i64 0, .int .i64 0, .int .i64 0, .int .i64 0]) (by simp [results, Tryz.results137, go_sem, *]) rfl ⟨by rw [hN.out], BZ⟩
    have dp : decide (0 ≤ port ∧ port < (L.length : Int)) = true := decide_eq_true hp
    have hN : Hid (Y = match rootO id L with
      | none => (id, 0, id, port)
      | some k => ((L.getD k Pt.nil).r, (L.getD k Pt.nil).c + 1, id, port)) := by unfold Hid; rw [hY.out]; unfold ownR; rw [hb, dp]; rfl
    clear hY
    replace hp : Hid _ := hp
    obtain ⟨a0, a1⟩ := A1
    have es : decide (0 ≤ port ∧ port ≤ (L.length : Int) - 1) = decide (0 ≤ port ∧ port < (L.length : Int)) := decide_eq_decide.2 (by omega)
    go_wp2_with fail
    go_at_call 65
    refine (inB port 0 ((L.length : Int) - 1) w1).mono ?_
    rintro e w2 ⟨rfl, hw2⟩
    have kp : Below w1.heap.size w1 w2 := by rw [hw2]; exact Below.refl _ _
    rw [es]
    clear es hw2
    rw [dp]
    have B2 := B1.trans (kp.mono B1.size)
    have A2 := BrAt.below ⟨a0, a1⟩ kp (by omega)
    have V2 := V1.below kp S1
    have S2 : w.heap.size + 1 < w2.heap.size := V2.lt
    have hv3 := hv2.below kp hB2
    have hB3 := hv3.lt ptEnc_len (by omega)
    clear dp a0 a1 kp V1 hv2 hB2 B1
    obtain ⟨a0, a1⟩ := A2
    go_wp2_with fail
    go_at_call 185
    refine (rootPS id ad cap L w2 hv3 hl).mono ?_
    rintro e w3 ⟨rfl, k3⟩
    have B3 := B2.trans (k3.mono B2.size)
    have A3 := BrAt.below ⟨a0, a1⟩ k3 (by omega)
    have V3 := V2.below k3 S2
    have S3 : w.heap.size + 1 < w3.heap.size := V3.lt
    have hv4 := hv3.below k3 hB3
    clear a0 a1 k3 V2 hv3 hB3 B2
    obtain ⟨a0, a1⟩ := A3
    obtain ⟨⟨t0, t1, t2, t3⟩, tf⟩ := V3
    cases hr : rootO id L with
    | none =>
      have hN2 : Hid (Y = (id, 0, id, port)) := by unfold Hid; rw [hN.out, hr]
      clear hN
      have BZ := B3.setCell (p := ⟨w.heap.size + 1, 0, none⟩) (by show _ ≤ w.heap.size + 1; omega) (.int .i64 id)
      have BZ := BZ.setCell (p := ⟨w.heap.size + 1, 1, none⟩) (by show _ ≤ w.heap.size + 1; omega) (.int .i64 0)
      have BZ := BZ.setCell (p := ⟨w.heap.size + 1, 2, none⟩) (by show _ ≤ w.heap.size + 1; omega) (.int .i64 id)
      have BZ := BZ.setCell (p := ⟨w.heap.size + 1, 3, none⟩) (by show _ ≤ w.heap.size + 1; omega) (.int .i64 port)
      simp only [oI, Option.isSome]
      go_wp2
      refine bodyPost_ret (v := .agg #[.int .i64 id, .int .i64 0, .int .i64 id, .int .i64 port]) (by simp [results, Tryz.results137, go_sem, *]) rfl ⟨by rw [hN2.out], BZ⟩
    | some k =>
      obtain ⟨_, hk, hcd⟩ := rootO_some hr
      obtain ⟨g, hg⟩ : ∃ g, L.getD k Pt.nil = g := ⟨_, rfl⟩
      have hN2 : Hid (Y = (g.r, g.c + 1, id, port)) := by unfold Hid; rw [hN.out, hr, ← hg]
      have hc20 : g.c < 20 := by
        rw [hg] at hcd
        simp only [cand, Bool.and_eq_true, decide_eq_true_eq] at hcd
        exact hcd.2.2.2.1
      have hc0 : 0 ≤ g.c := by
        rw [hg] at hcd
        simp only [cand, Bool.and_eq_true, decide_eq_true_eq] at hcd
        have h1 := (bOk_all hb).2.2 k
        rw [hg] at h1
        have h2 := (pOk_has h1 hcd.1).2.1
        simp only [vOk, decide_eq_true_eq] at h2
        omega
      obtain ⟨bk, off, rfl, _⟩ := hv4 (by omega)
      obtain ⟨c0, c1, c2, c3, c4, c5, c6, c7, c8, c9, c10⟩ : PtAtO w3 bk (off + k * 11) g := by rw [← hg]; exact ptAtO_of (hv4.at_ ptEnc_len Pt.nil hk)
      clear hN hg hcd hr hv4
      obtain ⟨y4, hy4⟩ : ∃ y_, y_ = w3.alloc (Obj.cells #[.int .i64 g.r, .int .i64 g.c, .int .i64 g.b, .int .i64 g.p] 103) := ⟨_, rfl⟩
      have kn : Below w3.heap.size w3 y4 := by rw [hy4]; exact below_new _
      have G4 : VecAt y4 w3.heap.size g.r g.c g.b g.p := by rw [hy4]; exact vecAt_box w3 _ _ _ _ _
      have A4 := BrAt.below ⟨a0, a1⟩ kn (by omega)
      have V4 := VBox.below ⟨⟨t0, t1, t2, t3⟩, tf⟩ kn (by omega)
      have B4 := B3.trans (kn.mono B3.size)
      simp only [oI, Option.isSome]
      go_upto_region 7 with fail
      rw [← hy4]
      clear hy4 a0 a1 t0 t1 t2 t3 tf kn c0 c1 c2 c3 c4 c5 c6 c7 c8 c9 c10
      generalize w3.heap.size = Q at S3 G4 ⊢
      obtain ⟨a0, a1⟩ := A4
      obtain ⟨⟨t0, t1, t2, t3⟩, tf⟩ := V4
      obtain ⟨g0, g1, g2, g3⟩ := G4
      have BZ := B4.setCell (p := ⟨w.heap.size + 1, 0, none⟩) (by show _ ≤ w.heap.size + 1; omega) (.int .i64 g.r)
      have BZ := BZ.setCell (p := ⟨w.heap.size + 1, 1, none⟩) (by show _ ≤ w.heap.size + 1; omega) (.int .i64 (g.c + 1))
      have BZ := BZ.setCell (p := ⟨w.heap.size + 1, 2, none⟩) (by show _ ≤ w.heap.size + 1; omega) (.int .i64 id)
      have BZ := BZ.setCell (p := ⟨w.heap.size + 1, 3, none⟩) (by show _ ≤ w.heap.size + 1; omega) (.int .i64 port)
      go_wp2
      refine bodyPost_ret (v := .agg #[.int .i64 g.r, .int .i64 (g.c + 1), .int .i64 id, .int .i64 port]) (by simp [results, Tryz.results137, go_sem, *]) rfl ⟨by rw [hN2.out], BZ⟩
set_option maxHeartbeats 2000000 in
theorem hopsS (id : Int) (ad : Option Addr) (cap : Nat) (L : List Pt) (w : World) (hv : FView ptEnc w ad L) (hl : L.length ≤ 1048576) :
    Calls Tryz.prog 138 #[.agg #[.int .i64 id, .slice ad L.length cap]] w fun e w' => e = .returned (.int .i64 (hopsR id L)) ∧ Below w.heap.size w w' := by
  have hB := hv.lt ptEnc_len (by omega)
  obtain ⟨y, hy⟩ : ∃ y, y = w.alloc (Obj.cells #[.int .i64 id, .slice ad L.length cap] 56) := ⟨_, rfl⟩
  have B0 : Below w.heap.size w y := by rw [hy]; exact below_new _
  have A0 : BrAt y w.heap.size id (.slice ad L.length cap) := by rw [hy]; exact BrAt.new w _ _ _
  have S0 := A0.lt
  have hv1 := hv.below B0 hB
  have hB1 := hv1.lt ptEnc_len (by omega)
  obtain ⟨Y, hY⟩ : ∃ Y, Y = hopsR id L := ⟨_, rfl⟩
  rw [← hY]
  replace hY : Hid _ := hY
  go_enter Tryz.func138, Tryz.ntmps138
  go_wp2_with fail
  go_at_call 185
  rw [← hy]
  clear hy hv hB
  refine (rootPS id ad cap L y hv1 hl).mono ?_
  rintro e w3 ⟨rfl, k3⟩
  have B3 := B0.trans (k3.mono B0.size)
  obtain ⟨a0, a1⟩ := A0.below k3 (by omega)
  have hv4 := hv1.below k3 hB1
  clear k3 hv1 hB1 A0
  cases hr : rootO id L with
  | none =>
    have hN2 : Hid (Y = 0) := by unfold Hid; rw [hY.out]; unfold hopsR; rw [hr]
    simp only [oI, Option.isSome]
    go_wp2
    go_ret
    exact ⟨by rw [hN2.out]; rfl, B3⟩
  | some k =>
    obtain ⟨hb, hk, hcd⟩ := rootO_some hr
    obtain ⟨g, hg⟩ : ∃ g, L.getD k Pt.nil = g := ⟨_, rfl⟩
    have hN2 : Hid (Y = g.h + 1) := by unfold Hid; rw [hY.out]; unfold hopsR; rw [hr, ← hg]
    have hlen := (bOk_all hb).2.1
    have hh8 : 0 ≤ g.h ∧ g.h < 8 := by
      rw [hg] at hcd
      simp only [cand, Bool.and_eq_true, decide_eq_true_eq] at hcd
      have h1 := (bOk_all hb).2.2 k
      rw [hg] at h1
      exact ⟨(pOk_has h1 hcd.1).2.2.1, hcd.2.2.2.2⟩
    obtain ⟨h0, h8⟩ := hh8
    obtain ⟨bk, off, rfl, _⟩ := hv4 (by omega)
    obtain ⟨c0, c1, c2, c3, c4, c5, c6, c7, c8, c9, c10⟩ : PtAtO w3 bk (off + k * 11) g := by rw [← hg]; exact ptAtO_of (hv4.at_ ptEnc_len Pt.nil hk)
    clear hY hg hcd hr hv4 hb
    simp only [oI, Option.isSome]
    go_wp2
    go_ret
    exact ⟨by rw [hN2.out]; rfl, B3⟩

end Go.Proofs.YtnpiljegdiconaaGreat
namespace Go.Proofs.YtnpiljegdiconaaGreat
open Go.ChangeShapes Go.WideShapes Go.ChangeAt Go.RowKit
open Go.ChangeMaps (open_string shut_string)
set_option linter.unusedVariables false
set_option maxRecDepth 100000

set_option maxHeartbeats 4000000 in
theorem turnS (x : Pt) (role : Int) (w : World) : Calls Tryz.prog 213 #[.agg #[.bool x.up, .bool x.has, .int .i64 x.r, .int .i64 x.c, .int .i64 x.b, .int .i64 x.p, .int .i64 x.h, .int .i64 x.l, .int .i64 x.ro, .int .i64 x.wa, .bool x.op], .int .i64 role] w fun e w' => e = .returned (.agg #[.bool (turnR x role).up, .bool (turnR x role).has, .int .i64 (turnR x role).r, .int .i64 (turnR x role).c, .int .i64 (turnR x role).b, .int .i64 (turnR x role).p, .int .i64 (turnR x role).h, .int .i64 (turnR x role).l, .int .i64 (turnR x role).ro, .int .i64 (turnR x role).wa, .bool (turnR x role).op]) ∧ Below w.heap.size w w' := by
  obtain ⟨up, has, r, c, b, p, h, l, ro, wa, op⟩ := x
  dsimp only
  have hY : Hid (turnR ⟨up, has, r, c, b, p, h, l, ro, wa, op⟩ role = if pOk ⟨up, has, r, c, b, p, h, l, ro, wa, op⟩ && (up && raUp role) then ⟨up, has, r, c, b, p, h, l, role, (waitR ro wa role), (raOp role (waitR ro wa role))⟩ else ⟨up, has, r, c, b, p, h, l, ro, wa, op⟩) := rfl
  generalize turnR ⟨up, has, r, c, b, p, h, l, ro, wa, op⟩ role = Y at hY ⊢
  obtain ⟨y, hy⟩ : ∃ y, y = (w.alloc (Obj.cells #[.bool up, .bool has, .int .i64 r, .int .i64 c, .int .i64 b, .int .i64 p, .int .i64 h, .int .i64 l, .int .i64 ro, .int .i64 wa, .bool op] 109)).alloc (Obj.cells #[.bool false, .bool false, .int .i64 0, .int .i64 0, .int .i64 0, .int .i64 0, .int .i64 0, .int .i64 0, .int .i64 0, .int .i64 0, .bool false] 109) := ⟨_, rfl⟩
  have P0 : PBox y w.heap.size ⟨up, has, r, c, b, p, h, l, ro, wa, op⟩ := by rw [hy]; refine ⟨?_, fun i => by simp [go_sem]⟩; constructor <;> simp [go_sem]
  have Q0 : PBox y (w.heap.size + 1) ⟨false, false, 0, 0, 0, 0, 0, 0, 0, 0, false⟩ := by rw [hy]; refine ⟨?_, fun i => by simp [go_sem]⟩; constructor <;> simp [go_sem]
  have B0 : Below w.heap.size w y := by rw [hy]; exact ((Below.refl _ _).alloc (Nat.le_refl _) _).alloc (by simp) _
  have S0 : w.heap.size + 1 < y.heap.size := Q0.lt
  go_enter Tryz.func213, Tryz.ntmps213
  go_wp2_with fail
  go_at_call 142
  rw [← hy]
  clear hy
  refine (pOkS ⟨up, has, r, c, b, p, h, l, ro, wa, op⟩ y).mono ?_
  rintro e w1 ⟨rfl, k1⟩
  have B1 := B0.trans (k1.mono B0.size)
  have S1 := Nat.lt_of_lt_of_le S0 k1.size
  replace P0 := P0.below k1 (by omega)
  have P1 := P0
  replace Q0 := Q0.below k1 (by omega)
  have Q1 := Q0
  clear P0 Q0 B0 S0 k1
  generalize pOk ⟨up, has, r, c, b, p, h, l, ro, wa, op⟩ = ok at hY ⊢
  cases ok
  · obtain ⟨cp0, cp1, cp2, cp3, cp4, cp5, cp6, cp7, cp8, cp9, cp10⟩ := P1.at_
    obtain ⟨⟨cq0, cq1, cq2, cq3, cq4, cq5, cq6, cq7, cq8, cq9, cq10⟩, cqf⟩ := Q1
    replace hY : Hid (Y = ⟨up, has, r, c, b, p, h, l, ro, wa, op⟩) := hY.out
    go_wp2
    refine bodyPost_ret (v := .agg #[.bool up, .bool has, .int .i64 r, .int .i64 c, .int .i64 b, .int .i64 p, .int .i64 h, .int .i64 l, .int .i64 ro, .int .i64 wa, .bool op]) (by simp [results, Tryz.results213, go_sem, *]) rfl ⟨by rw [hY.out], ?_⟩
    repeat' (first | with_reducible exact B1 | with_reducible refine Below.setCell ?_ (by simp <;> omega) _ | with_reducible refine Below.drew ?_)
  cases up
  · obtain ⟨cp0, cp1, cp2, cp3, cp4, cp5, cp6, cp7, cp8, cp9, cp10⟩ := P1.at_
    obtain ⟨⟨cq0, cq1, cq2, cq3, cq4, cq5, cq6, cq7, cq8, cq9, cq10⟩, cqf⟩ := Q1
    replace hY : Hid (Y = ⟨false, has, r, c, b, p, h, l, ro, wa, op⟩) := hY.out
    go_wp2
    refine bodyPost_ret (v := .agg #[.bool false, .bool has, .int .i64 r, .int .i64 c, .int .i64 b, .int .i64 p, .int .i64 h, .int .i64 l, .int .i64 ro, .int .i64 wa, .bool op]) (by simp [results, Tryz.results213, go_sem, *]) rfl ⟨by rw [hY.out], ?_⟩
    repeat' (first | with_reducible exact B1 | with_reducible refine Below.setCell ?_ (by simp <;> omega) _ | with_reducible refine Below.drew ?_)
  obtain ⟨cp0, cp1, cp2, cp3, cp4, cp5, cp6, cp7, cp8, cp9, cp10⟩ := P1.at_
  go_wp2_with fail
  go_at_call 65
  refine (inB role 1 3 _).mono ?_
  rintro e w1 ⟨rfl, rfl⟩
  clear cp0 cp1 cp2 cp3 cp4 cp5 cp6 cp7 cp8 cp9 cp10
  replace hY : Hid (Y = if decide (1 ≤ role ∧ role ≤ 3) then ⟨true, has, r, c, b, p, h, l, role, (waitR ro wa role), (raOp role (waitR ro wa role))⟩ else ⟨true, has, r, c, b, p, h, l, ro, wa, op⟩) := hY.out
  generalize decide (1 ≤ role ∧ role ≤ 3) = ok at hY ⊢
  cases ok
  · obtain ⟨cp0, cp1, cp2, cp3, cp4, cp5, cp6, cp7, cp8, cp9, cp10⟩ := P1.at_
    obtain ⟨⟨cq0, cq1, cq2, cq3, cq4, cq5, cq6, cq7, cq8, cq9, cq10⟩, cqf⟩ := Q1
    replace hY : Hid (Y = ⟨true, has, r, c, b, p, h, l, ro, wa, op⟩) := hY.out
    go_wp2
    refine bodyPost_ret (v := .agg #[.bool true, .bool has, .int .i64 r, .int .i64 c, .int .i64 b, .int .i64 p, .int .i64 h, .int .i64 l, .int .i64 ro, .int .i64 wa, .bool op]) (by simp [results, Tryz.results213, go_sem, *]) rfl ⟨by rw [hY.out], ?_⟩
    repeat' (first | with_reducible exact B1 | with_reducible refine Below.setCell ?_ (by simp <;> omega) _ | with_reducible refine Below.drew ?_)
  replace hY : Hid (Y = ⟨true, has, r, c, b, p, h, l, role, (waitR ro wa role), (raOp role (waitR ro wa role))⟩) := hY.out
  by_cases h3 : role = 3
  · subst h3
    by_cases g3 : ro = 3
    · have f2b : (ro == 3) = true := by simp [g3]
      have f2n : (ro != 3) = false := by simp [g3]
      replace hY : Hid (Y = ⟨true, has, r, c, b, p, h, l, 3, 0, (raOp 3 0)⟩) := hY.out.trans (by rw [show waitR ro wa 3 = 0 by simp [waitR]])
      clear g3
      have P1' := P1
      have Q1' := Q1
      obtain ⟨⟨cp0, cp1, cp2, cp3, cp4, cp5, cp6, cp7, cp8, cp9, cp10⟩, cpf⟩ := P1
      obtain ⟨⟨cq0, cq1, cq2, cq3, cq4, cq5, cq6, cq7, cq8, cq9, cq10⟩, cqf⟩ := Q1
      go_wp2_with fail
      go_at_call 212
      obtain ⟨z, hz⟩ : ∃ z, z = ((w1.setCell ⟨w.heap.size, 9, none⟩ (.int .i64 0)).setCell ⟨w.heap.size, 8, none⟩ (.int .i64 3)) := ⟨_, rfl⟩
      have P2 := ((P1'.set9 0).set8 3)
      have Q2 : PBox ((w1.setCell ⟨w.heap.size, 9, none⟩ (.int .i64 0)).setCell ⟨w.heap.size, 8, none⟩ (.int .i64 3)) (w.heap.size + 1) ⟨false, false, 0, 0, 0, 0, 0, 0, 0, 0, false⟩ := ((Q1'.other (by omega)).other (by omega))
      have B2 : Below w.heap.size w z := by rw [hz]; exact ((B1.setCell (Nat.le_refl _) _).setCell (Nat.le_refl _) _)
      have S2 : w.heap.size + 1 < z.heap.size := by rw [hz]; simpa using S1
      rw [← hz] at P2 Q2 ⊢
      clear hz P1' Q1' B1 S1 cp0 cp1 cp2 cp3 cp4 cp5 cp6 cp7 cp8 cp9 cp10 cq0 cq1 cq2 cq3 cq4 cq5 cq6 cq7 cq8 cq9 cq10 cpf cqf
      refine (openS ⟨true, has, r, c, b, p, h, l, 3, 0, op⟩ z).mono ?_
      rintro e w3 ⟨rfl, k3⟩
      dsimp only
      have B3 := B2.trans (k3.mono B2.size)
      have S3 := Nat.lt_of_lt_of_le S2 k3.size
      replace P2 := P2.below k3 (by omega)
      have P3 := P2
      replace Q2 := Q2.below k3 (by omega)
      have Q3 := Q2
      clear P2 Q2 B2 S2 k3
      skip
      obtain ⟨⟨cq0, cq1, cq2, cq3, cq4, cq5, cq6, cq7, cq8, cq9, cq10⟩, cqf⟩ := Q3
      generalize raOp 3 0 = rop at hY ⊢
      go_wp2
      refine bodyPost_ret (v := .agg #[.bool true, .bool has, .int .i64 r, .int .i64 c, .int .i64 b, .int .i64 p, .int .i64 h, .int .i64 l, .int .i64 3, .int .i64 0, .bool rop]) (by simp [results, Tryz.results213, go_sem, *]) rfl ⟨by rw [hY.out], ?_⟩
      repeat' (first | with_reducible exact B3 | with_reducible refine Below.setCell ?_ (by simp <;> omega) _ | with_reducible refine Below.drew ?_)
    · have f2b : (ro == 3) = false := by simp [g3]
      have f2n : (ro != 3) = true := by simp [g3]
      replace hY : Hid (Y = ⟨true, has, r, c, b, p, h, l, 3, 0, (raOp 3 0)⟩) := hY.out.trans (by rw [show waitR ro wa 3 = 0 by simp [waitR]])
      clear g3
      have P1' := P1
      have Q1' := Q1
      obtain ⟨⟨cp0, cp1, cp2, cp3, cp4, cp5, cp6, cp7, cp8, cp9, cp10⟩, cpf⟩ := P1
      obtain ⟨⟨cq0, cq1, cq2, cq3, cq4, cq5, cq6, cq7, cq8, cq9, cq10⟩, cqf⟩ := Q1
      go_wp2_with fail
      go_at_call 212
      obtain ⟨z, hz⟩ : ∃ z, z = ((w1.setCell ⟨w.heap.size, 9, none⟩ (.int .i64 0)).setCell ⟨w.heap.size, 8, none⟩ (.int .i64 3)) := ⟨_, rfl⟩
      have P2 := ((P1'.set9 0).set8 3)
      have Q2 : PBox ((w1.setCell ⟨w.heap.size, 9, none⟩ (.int .i64 0)).setCell ⟨w.heap.size, 8, none⟩ (.int .i64 3)) (w.heap.size + 1) ⟨false, false, 0, 0, 0, 0, 0, 0, 0, 0, false⟩ := ((Q1'.other (by omega)).other (by omega))
      have B2 : Below w.heap.size w z := by rw [hz]; exact ((B1.setCell (Nat.le_refl _) _).setCell (Nat.le_refl _) _)
      have S2 : w.heap.size + 1 < z.heap.size := by rw [hz]; simpa using S1
      rw [← hz] at P2 Q2 ⊢
      clear hz P1' Q1' B1 S1 cp0 cp1 cp2 cp3 cp4 cp5 cp6 cp7 cp8 cp9 cp10 cq0 cq1 cq2 cq3 cq4 cq5 cq6 cq7 cq8 cq9 cq10 cpf cqf
      refine (openS ⟨true, has, r, c, b, p, h, l, 3, 0, op⟩ z).mono ?_
      rintro e w3 ⟨rfl, k3⟩
      dsimp only
      have B3 := B2.trans (k3.mono B2.size)
      have S3 := Nat.lt_of_lt_of_le S2 k3.size
      replace P2 := P2.below k3 (by omega)
      have P3 := P2
      replace Q2 := Q2.below k3 (by omega)
      have Q3 := Q2
      clear P2 Q2 B2 S2 k3
      skip
      obtain ⟨⟨cq0, cq1, cq2, cq3, cq4, cq5, cq6, cq7, cq8, cq9, cq10⟩, cqf⟩ := Q3
      generalize raOp 3 0 = rop at hY ⊢
      go_wp2
      refine bodyPost_ret (v := .agg #[.bool true, .bool has, .int .i64 r, .int .i64 c, .int .i64 b, .int .i64 p, .int .i64 h, .int .i64 l, .int .i64 3, .int .i64 0, .bool rop]) (by simp [results, Tryz.results213, go_sem, *]) rfl ⟨by rw [hY.out], ?_⟩
      repeat' (first | with_reducible exact B3 | with_reducible refine Below.setCell ?_ (by simp <;> omega) _ | with_reducible refine Below.drew ?_)
  · by_cases g3 : ro = 3
    · have f1b : (role == 3) = false := by simp [h3]
      have f1n : (role != 3) = true := by simp [h3]
      have f2b : (ro == 3) = true := by simp [g3]
      have f2n : (ro != 3) = false := by simp [g3]
      replace hY : Hid (Y = ⟨true, has, r, c, b, p, h, l, role, 4, (raOp role 4)⟩) := hY.out.trans (by rw [show waitR ro wa role = 4 by simp [waitR, h3, g3]])
      clear h3 g3
      have P1' := P1
      have Q1' := Q1
      obtain ⟨⟨cp0, cp1, cp2, cp3, cp4, cp5, cp6, cp7, cp8, cp9, cp10⟩, cpf⟩ := P1
      obtain ⟨⟨cq0, cq1, cq2, cq3, cq4, cq5, cq6, cq7, cq8, cq9, cq10⟩, cqf⟩ := Q1
      go_wp2_with fail
      go_at_call 212
      obtain ⟨z, hz⟩ : ∃ z, z = ((w1.setCell ⟨w.heap.size, 9, none⟩ (.int .i64 4)).setCell ⟨w.heap.size, 8, none⟩ (.int .i64 role)) := ⟨_, rfl⟩
      have P2 := ((P1'.set9 4).set8 role)
      have Q2 : PBox ((w1.setCell ⟨w.heap.size, 9, none⟩ (.int .i64 4)).setCell ⟨w.heap.size, 8, none⟩ (.int .i64 role)) (w.heap.size + 1) ⟨false, false, 0, 0, 0, 0, 0, 0, 0, 0, false⟩ := ((Q1'.other (by omega)).other (by omega))
      have B2 : Below w.heap.size w z := by rw [hz]; exact ((B1.setCell (Nat.le_refl _) _).setCell (Nat.le_refl _) _)
      have S2 : w.heap.size + 1 < z.heap.size := by rw [hz]; simpa using S1
      rw [← hz] at P2 Q2 ⊢
      clear hz P1' Q1' B1 S1 cp0 cp1 cp2 cp3 cp4 cp5 cp6 cp7 cp8 cp9 cp10 cq0 cq1 cq2 cq3 cq4 cq5 cq6 cq7 cq8 cq9 cq10 cpf cqf
      refine (openS ⟨true, has, r, c, b, p, h, l, role, 4, op⟩ z).mono ?_
      rintro e w3 ⟨rfl, k3⟩
      dsimp only
      have B3 := B2.trans (k3.mono B2.size)
      have S3 := Nat.lt_of_lt_of_le S2 k3.size
      replace P2 := P2.below k3 (by omega)
      have P3 := P2
      replace Q2 := Q2.below k3 (by omega)
      have Q3 := Q2
      clear P2 Q2 B2 S2 k3
      skip
      obtain ⟨⟨cq0, cq1, cq2, cq3, cq4, cq5, cq6, cq7, cq8, cq9, cq10⟩, cqf⟩ := Q3
      generalize raOp role 4 = rop at hY ⊢
      go_wp2
      refine bodyPost_ret (v := .agg #[.bool true, .bool has, .int .i64 r, .int .i64 c, .int .i64 b, .int .i64 p, .int .i64 h, .int .i64 l, .int .i64 role, .int .i64 4, .bool rop]) (by simp [results, Tryz.results213, go_sem, *]) rfl ⟨by rw [hY.out], ?_⟩
      repeat' (first | with_reducible exact B3 | with_reducible refine Below.setCell ?_ (by simp <;> omega) _ | with_reducible refine Below.drew ?_)
    · have f1b : (role == 3) = false := by simp [h3]
      have f1n : (role != 3) = true := by simp [h3]
      have f2b : (ro == 3) = false := by simp [g3]
      have f2n : (ro != 3) = true := by simp [g3]
      replace hY : Hid (Y = ⟨true, has, r, c, b, p, h, l, role, wa, (raOp role wa)⟩) := hY.out.trans (by rw [show waitR ro wa role = wa by simp [waitR, h3, g3]])
      clear h3 g3
      have P1' := P1
      have Q1' := Q1
      obtain ⟨⟨cp0, cp1, cp2, cp3, cp4, cp5, cp6, cp7, cp8, cp9, cp10⟩, cpf⟩ := P1
      obtain ⟨⟨cq0, cq1, cq2, cq3, cq4, cq5, cq6, cq7, cq8, cq9, cq10⟩, cqf⟩ := Q1
      go_wp2_with fail
      go_at_call 212
      obtain ⟨z, hz⟩ : ∃ z, z = (w1.setCell ⟨w.heap.size, 8, none⟩ (.int .i64 role)) := ⟨_, rfl⟩
      have P2 := (P1'.set8 role)
      have Q2 : PBox (w1.setCell ⟨w.heap.size, 8, none⟩ (.int .i64 role)) (w.heap.size + 1) ⟨false, false, 0, 0, 0, 0, 0, 0, 0, 0, false⟩ := (Q1'.other (by omega))
      have B2 : Below w.heap.size w z := by rw [hz]; exact (B1.setCell (Nat.le_refl _) _)
      have S2 : w.heap.size + 1 < z.heap.size := by rw [hz]; simpa using S1
      rw [← hz] at P2 Q2 ⊢
      clear hz P1' Q1' B1 S1 cp0 cp1 cp2 cp3 cp4 cp5 cp6 cp7 cp8 cp9 cp10 cq0 cq1 cq2 cq3 cq4 cq5 cq6 cq7 cq8 cq9 cq10 cpf cqf
      refine (openS ⟨true, has, r, c, b, p, h, l, role, wa, op⟩ z).mono ?_
      rintro e w3 ⟨rfl, k3⟩
      dsimp only
      have B3 := B2.trans (k3.mono B2.size)
      have S3 := Nat.lt_of_lt_of_le S2 k3.size
      replace P2 := P2.below k3 (by omega)
      have P3 := P2
      replace Q2 := Q2.below k3 (by omega)
      have Q3 := Q2
      clear P2 Q2 B2 S2 k3
      skip
      obtain ⟨⟨cq0, cq1, cq2, cq3, cq4, cq5, cq6, cq7, cq8, cq9, cq10⟩, cqf⟩ := Q3
      generalize raOp role wa = rop at hY ⊢
      go_wp2
      refine bodyPost_ret (v := .agg #[.bool true, .bool has, .int .i64 r, .int .i64 c, .int .i64 b, .int .i64 p, .int .i64 h, .int .i64 l, .int .i64 role, .int .i64 wa, .bool rop]) (by simp [results, Tryz.results213, go_sem, *]) rfl ⟨by rw [hY.out], ?_⟩
      repeat' (first | with_reducible exact B3 | with_reducible refine Below.setCell ?_ (by simp <;> omega) _ | with_reducible refine Below.drew ?_)

end Go.Proofs.YtnpiljegdiconaaGreat
namespace Go.Proofs.YtnpiljegdiconaaGreat
open Go.ChangeShapes Go.WideShapes Go.ChangeAt Go.RowKit
open Go.ChangeMaps (open_string shut_string)
set_option linter.unusedVariables false
set_option maxRecDepth 100000

theorem markd_same {X : Type} {mk : Nat → X} {L : List X} {k : Nat} (d : X) (h : k < L.length) (e : mk k = L.getD k d) : markd mk L (k + 1) = markd mk L k := by
  unfold markd
  rw [List.range_succ, List.map_append, List.drop_eq_getElem_cons h]
  simp [e, List.getD, h]
theorem pOk_down {x : Pt} (h : pOk x = true) (hu : x.up = false) : x.has = false := by
  cases hh : x.has
  · rfl
  · rw [(pOk_has h hh).1] at hu; cases hu
theorem root_has {id : Int} {L : List Pt} {k : Nat} {h : Pt} (hr : rootO id L = some k) (hh : L.getD k Pt.nil = h) : h.has = true := by
  have := (rootO_some hr).2.2
  rw [hh] at this
  simp only [cand, Bool.and_eq_true] at this
  exact this.1
set_option maxHeartbeats 8000000 in
theorem decideS (id : Int) (ad : Option Addr) (cap : Nat) (L : List Pt) (w : World) (hv : FView ptEnc w ad L) (hl : L.length ≤ 1048576) (hn : ad = none → cap = 0) :
    Calls Tryz.prog 184 #[.agg #[.int .i64 id, .slice ad L.length cap]] w fun e w' => ∃ ad' cap', e = .returned (.agg #[.int .i64 id, .slice ad' (decideR id L).length cap']) ∧ FOwn ptEnc 11 109 w.heap.size w' (.slice ad' (decideR id L).length cap') (decideR id L) ∧ Below w.heap.size w w' := by
  have hB := hv.lt ptEnc_len (by omega)
  obtain ⟨y, hy⟩ : ∃ y, y = (w.alloc (Obj.cells #[.int .i64 id, .slice ad L.length cap] 56)).alloc (Obj.cells #[.int .i64 0, .slice none 0 0] 56) := ⟨_, rfl⟩
  have B0 : Below w.heap.size w y := by rw [hy]; exact ((Below.refl _ _).alloc (Nat.le_refl _) _).alloc (by simp) _
  have A0 : BrAt y w.heap.size id (.slice ad L.length cap) := by rw [hy]; constructor <;> simp [go_sem]
  have R0 : BBox y (w.heap.size + 1) 0 (.slice none 0 0) := by rw [hy]; refine ⟨?_, fun i => ?_⟩; constructor <;> simp [go_sem]; simp [go_sem]
  have S0 := R0.lt
  have hv1 := hv.below B0 hB
  have hB1 := hv1.lt ptEnc_len (by omega)
  obtain ⟨D, hD⟩ : ∃ D, D = decideR id L := ⟨_, rfl⟩
  rw [← hD]
  replace hD : Hid _ := hD
  go_enter Tryz.func184, Tryz.ntmps184
  go_wp2_with fail
  go_at_call 135
  rw [← hy]
  clear hy hv hB
  refine (copS id ad cap L y hv1 hl hn).mono ?_
  rintro e w1 ⟨adN, capN, rfl, oN, k1⟩
  have B1 := B0.trans (k1.mono B0.size)
  have A1 := A0.below k1 (by omega)
  have R1 := R0.below k1 (by omega)
  have S1 : w.heap.size + 1 < w1.heap.size := R1.lt
  have hv2 := hv1.below k1 hB1
  have hB2 := hv2.lt ptEnc_len (by omega)
  have bt : ∀ a, ad = some a → 0 < L.length → a.block < y.heap.size := hB1
  clear A0 R0 hv1 hB1
  obtain ⟨y2, hy2⟩ : ∃ y_, y_ = w1.alloc (Obj.cells #[.int .i64 id, .slice adN L.length capN] 56) := ⟨_, rfl⟩
  have kn : Below w1.heap.size w1 y2 := by rw [hy2]; exact below_new _
  have N2 : BBox y2 w1.heap.size id (.slice adN L.length capN) := by rw [hy2]; exact BBox.new w1 _ _ _
  have A2 := A1.below kn (by omega)
  have R2 := R1.below kn (by omega)
  have B2 := B1.trans (kn.mono B1.size)
  have K2 : Below y.heap.size y y2 := k1.trans (kn.mono k1.size)
  have hv3 := hv2.below kn hB2
  have hB3 := hv3.lt ptEnc_len (by omega)
  have o2 := oN.later kn
  have S2 := N2.lt
  have og : ∀ g, (Value.slice adN L.length capN).ownBlock = some g → y.heap.size ≤ g ∧ g < w1.heap.size := fun g e => oN.lt g e
  clear oN k1 hv2 hB2 B1
  go_upto_region 2 with fail
  rw [← hy2]
  clear hy2 A1 kn
  generalize w1.heap.size = N at S1 N2 S2 og ⊢
  obtain ⟨a0, a1⟩ := A2
  have A2 : BrAt y2 w.heap.size id (.slice ad L.length cap) := ⟨a0, a1⟩
  go_wp2_with fail
  go_at_call 81
  clear a0 a1
  refine (bOkS id ad cap L y2 hv3 hl).mono ?_
  rintro e w3 ⟨rfl, k3⟩
  have B3 := B2.trans (k3.mono B2.size)
  have K3 := K2.trans (k3.mono K2.size)
  have A3 := A2.below k3 (by omega)
  have R3 := R2.below k3 (by omega)
  have N3 := N2.below k3 S2
  have hv4 := hv3.below k3 hB3
  have o3 := o2.later k3
  have S3 := N3.lt
  clear k3 A2 R2 N2 hv3 hB3 o2 B2 K2
  cases hb : bOk id L with
  | false =>
    have hN : Hid (D = L) := by unfold Hid; rw [hD.out]; unfold decideR; rw [hb]; rfl
    clear hD
    have RP := R3.put id (.slice adN L.length capN)
    obtain ⟨⟨r0, r1⟩, rf⟩ := R3
    obtain ⟨⟨n0, n1⟩, nf⟩ := N3
    have BZ : Below w.heap.size w ((w3.setCell ⟨w.heap.size + 1, 0, none⟩ (.int .i64 id)).setCell ⟨w.heap.size + 1, 1, none⟩ (.slice adN L.length capN)) := (B3.setCell (by show _ ≤ w.heap.size + 1; omega) _).setCell (by show _ ≤ w.heap.size + 1; omega) _
    have OZ : FOwn ptEnc 11 109 w.heap.size ((w3.setCell ⟨w.heap.size + 1, 0, none⟩ (.int .i64 id)).setCell ⟨w.heap.size + 1, 1, none⟩ (.slice adN L.length capN)) (.slice adN L.length capN) L := (o3.base (by omega)).keep fun g e => by
      have := og g e
      rw [Below.heap_setCell _ _ _ _ (by show g ≠ w.heap.size + 1; omega), Below.heap_setCell _ _ _ _ (by show g ≠ w.heap.size + 1; omega)]
    obtain ⟨⟨p0, p1⟩, _⟩ := RP
    clear og bt
    go_wp2
    refine bodyPost_ret (v := .agg #[.int .i64 id, .slice adN L.length capN]) (by simp [results, Tryz.results184, go_sem, *]) rfl ⟨adN, capN, by rw [hN.out], by rw [hN.out]; exact OZ, BZ⟩
  | true =>
    have hlen := (bOk_all hb).2.1
    obtain ⟨g, rfl, hg1, hg2⟩ := o3.row (by omega)
    have hg3 : g < N := (og g rfl).2
    have hD2 : Hid (D = (List.range L.length).map fun i => turnUp (L.getD i Pt.nil) (roleR id L i)) := by unfold Hid; rw [hD.out]; unfold decideR; rw [hb]; rfl
    replace hb : Hid _ := hb
    obtain ⟨f, hf⟩ : ∃ f : Nat → Pt, f = fun i => turnUp (L.getD i Pt.nil) (roleR id L i) := ⟨_, rfl⟩
    rw [← hf] at hD2
    replace hD2 : Hid _ := hD2
    have hfk : ∀ i, turnUp (L.getD i Pt.nil) (roleR id L i) = f i := fun i => by rw [hf]
    clear hf hD og
    replace hfk : Hid _ := hfk
    have M0 : FOwn ptEnc 11 109 y.heap.size w3 (.slice (some ⟨g, 0, none⟩) L.length capN) (markd f L 0) := by rw [markd_zero]; exact o3
    clear o3
    obtain ⟨a0, a1⟩ := A3
    have A3 : BrAt w3 w.heap.size id (.slice ad L.length cap) := ⟨a0, a1⟩
    go_wp2_with fail
    go_at_call 185
    refine (rootPS id ad cap L w3 hv4 hl).mono ?_
    rintro e w4 ⟨rfl, k4⟩
    have A3 := A3.below k4 (by omega)
    have N3 := N3.below k4 S3
    have M0 := M0.later k4
    have K3 := K3.trans (k4.mono K3.size)
    have R3 := R3.below k4 (by omega)
    have hv4 := hv4.below k4 (hv4.lt ptEnc_len (by omega))
    have S3 := N3.lt
    clear a0 a1 k4 B3
    obtain ⟨q, hq⟩ : ∃ q, q = oI (rootO id L) := ⟨_, rfl⟩
    rw [← hq]
    replace hq : Hid _ := hq
    obtain ⟨iss, hiss⟩ : ∃ iss, iss = (rootO id L).isSome := ⟨_, rfl⟩
    rw [← hiss]
    clear hiss
    have AY : BrAt y w.heap.size id (.slice ad L.length cap) := A3.keep (K3.block _ (by omega)).symm
    have RY : BBox y (w.heap.size + 1) 0 (.slice none 0 0) := R3.keep (K3.block _ S0).symm
    have hvy : FView ptEnc y ad L := hv4.carry fun a e p => (K3.block _ (bt a e p)).symm
    go_wp2
    clear A3 R3 hv4
    go_loopw [6] (fun i wr => ∃ k : Nat, k ≤ L.length ∧ i = .int .i64 (k : Int) ∧ FOwn ptEnc 11 109 y.heap.size wr (.slice (some ⟨g, 0, none⟩) L.length capN) (markd f L k) ∧ BBox wr N id (.slice (some ⟨g, 0, none⟩) L.length capN) ∧ Below y.heap.size y wr) (fun i _ => L.length - (intOf i).toNat)
    case atStart => exact ⟨0, Nat.zero_le _, rfl, M0, N3, K3⟩
    case round =>
      obtain ⟨k, hk, rfl, M, N4, K4⟩ := hrel
      have A4 := AY.below K4 (by omega)
      have R4 := RY.below K4 S0
      have B4 := B0.trans (K4.mono B0.size)
      have S4 := N4.lt
      obtain ⟨a0, a1⟩ := A4
      by_cases hlt : k < L.length
      · have hv5 := hvy.below K4 bt
        obtain ⟨bk, off, rfl, _⟩ := hv5 (by omega)
        obtain ⟨h, hh⟩ : ∃ h, L.getD k Pt.nil = h := ⟨_, rfl⟩
        obtain ⟨c0, c1, c2, c3, c4, c5, c6, c7, c8, c9, c10⟩ : PtAtO wr bk (off + k * 11) h := by rw [← hh]; exact ptAtO_of (hv5.at_ ptEnc_len Pt.nil hlt)
        have hok : Hid (pOk h = true) := by unfold Hid; rw [← hh]; exact (bOk_all hb.out).2.2 k
        obtain ⟨z, hz⟩ : ∃ z, z = f k := ⟨_, rfl⟩
        have hz2 : Hid (turnUp h (roleR id L k) = z) := by unfold Hid; rw [hz, ← hh]; exact hfk.out k
        replace hz : Hid _ := hz
        replace hh : Hid _ := hh
        obtain ⟨y5, hy5⟩ : ∃ y_, y_ = wr.alloc (Obj.cells #[.bool h.up, .bool h.has, .int .i64 h.r, .int .i64 h.c, .int .i64 h.b, .int .i64 h.p, .int .i64 h.h, .int .i64 h.l, .int .i64 h.ro, .int .i64 h.wa, .bool h.op] 109) := ⟨_, rfl⟩
        have P5 : PtAt y5 wr.heap.size h := by rw [hy5]; exact ptAt_box wr _ _
        have kn : Below wr.heap.size wr y5 := by rw [hy5]; exact below_new _
        have A5 := BrAt.below ⟨a0, a1⟩ kn (by omega)
        have N5 := N4.below kn S4
        have M5 := M.later kn
        have hv6 := hv5.below kn (hv5.lt ptEnc_len (by omega))
        have hB6 := hv6.lt ptEnc_len (by omega)
        have K5 := K4.trans (kn.mono K4.size)
        have S5 := P5.lt
        have hgw : g < wr.heap.size := (M.lt g rfl).2
        go_upto_region 10 with fail
        rw [← hy5]
        clear hy5 a0 a1 c0 c1 c2 c3 c4 c5 c6 c7 c8 c9 c10 kn M N4 hv5
        generalize wr.heap.size = Q at P5 S4 S5 hgw ⊢
        have hdk : ∀ b : Bool, decide (rootO id L = some k) = b → ((k : Int) == q) = b := by
          intro b hb'
          rw [hq.out, ← hb']
          cases ho : rootO id L with
          | none =>
            rw [decide_eq_false (by simp)]
            simp only [oI, beq_eq_false_iff_ne, ne_eq]; omega
          | some j =>
            by_cases e : j = k
            · subst e
              simp [oI]
            · rw [decide_eq_false (by simpa using e)]
              simp only [oI, beq_eq_false_iff_ne, ne_eq]; omega
        replace hdk : Hid _ := hdk
        obtain ⟨e0, e1, e2, e3, e4, e5, e6, e7, e8, e9, e10⟩ := P5
        have P5 : PtAt y5 Q h := ⟨e0, e1, e2, e3, e4, e5, e6, e7, e8, e9, e10⟩
        cases hu : h.up with
        | false =>
          have hhas : h.has = false := pOk_down hok.out hu
          have dk : ((k : Int) == q) = false := hdk.out false (decide_eq_false (fun e => by have := root_has e hh.out; rw [hhas] at this; cases this))
          rw [hu] at e0
          have MN : FOwn ptEnc 11 109 y.heap.size y5 (.slice (some ⟨g, 0, none⟩) L.length capN) (markd f L (k + 1)) := by
            rw [markd_same Pt.nil hlt (by rw [← hz.out, ← hz2.out, hh.out]; unfold turnUp; rw [hu]; rfl)]
            exact M5
          replace MN : Hid _ := MN
          go_upto_region 12 with fail
          refine wp_region_held (S := fun Y => Below y5.heap.size y5 Y) (by kernel_rfl) ?_
          change wpAnyH _ _ _ _ _ _ _ _ (World.drew _)
          have hb0 : Below y5.heap.size y5 y5.drew := (Below.refl _ _).drew
          obtain ⟨u0, hy0⟩ : ∃ y_, y_ = y5.drew := ⟨_, rfl⟩
          rw [← hy0] at hb0 ⊢
          clear hy0
          refine takeW 0 35 (.pointer (some ⟨Q, 1, none⟩)) rfl rfl (by kernel_rfl) (by kernel_rfl) (by kernel_rfl) (fun _ _ _ h => h) (by kernel_rfl) (by (intro w hSw; go_simp)) (by assumption) ?_
          simp only [List.set_cons_zero, List.set_cons_succ]
          refine takeW 1 36 (.bool false) rfl rfl (by kernel_rfl) (by kernel_rfl) (by kernel_rfl) (fun _ _ _ h => h) (by kernel_rfl) (by (intro Y hSw; obtain ⟨X0, X1, X2, X3, X4, X5, X6, X7, X8, X9, X10⟩ := P5.below hSw (by omega); go_simp)) (by assumption) ?_
          simp only [List.set_cons_zero, List.set_cons_succ]
          refine takeW 2 37 (.bool false) rfl rfl (by kernel_rfl) (by kernel_rfl) (by kernel_rfl) (fun _ _ _ h => h) (by kernel_rfl) (by (intro w hSw; go_simp)) (by assumption) ?_
          simp only [List.set_cons_zero, List.set_cons_succ]
          refine takeS 3 38 rfl rfl (by kernel_rfl) (by kernel_rfl) (by kernel_rfl) (fun _ _ _ h => h) (by kernel_rfl) (by assumption) ?_
          simp only [List.set_cons_zero, List.set_cons_succ]
          refine takeS 4 39 rfl rfl (by kernel_rfl) (by kernel_rfl) (by kernel_rfl) (fun _ _ _ h => h) (by kernel_rfl) (by assumption) ?_
          simp only [List.set_cons_zero, List.set_cons_succ]
          refine takeS 5 40 rfl rfl (by kernel_rfl) (by kernel_rfl) (by kernel_rfl) (fun _ _ _ h => h) (by kernel_rfl) (by assumption) ?_
          simp only [List.set_cons_zero, List.set_cons_succ]
          refine takeS 6 41 rfl rfl (by kernel_rfl) (by kernel_rfl) (by kernel_rfl) (fun _ _ _ h => h) (by kernel_rfl) (by assumption) ?_
          simp only [List.set_cons_zero, List.set_cons_succ]
          refine takeS 7 42 rfl rfl (by kernel_rfl) (by kernel_rfl) (by kernel_rfl) (fun _ _ _ h => h) (by kernel_rfl) (by assumption) ?_
          simp only [List.set_cons_zero, List.set_cons_succ]
          refine takeS 8 43 rfl rfl (by kernel_rfl) (by kernel_rfl) (by kernel_rfl) (fun _ _ _ h => h) (by kernel_rfl) (by assumption) ?_
          simp only [List.set_cons_zero, List.set_cons_succ]
          refine takeW 9 44 (.bool false) rfl rfl (by kernel_rfl) (by kernel_rfl) (by kernel_rfl) (fun _ _ _ h => h) (by kernel_rfl) (by (intro w hSw; go_simp)) (by assumption) ?_
          simp only [List.set_cons_zero, List.set_cons_succ]
          refine wpAnyH_done (by kernel_rfl) ?_ _
          obtain ⟨x0, x1, x2, x3, x4, x5, x6, x7, x8, x9, x10⟩ := P5.below hb0 (by omega)
          rw [hu] at x0
          go_wp2
          go_roundw
          case rel => exact ⟨k + 1, by omega, by go_num, FOwn.below MN.out hb0 (fun g' e => by obtain rfl : g = g' := (by simpa [Value.ownBlock] using e); omega), N5.below hb0 (by omega), K5.trans (hb0.mono K5.size)⟩
          case measure => simp [intOf]; omega
        | true =>
          rw [hu] at e0
          replace hu : Hid _ := hu
          by_cases hr : rootO id L = some k
          · have dk : ((k : Int) == q) = true := hdk.out true (decide_eq_true hr)
            have hro : Hid (roleR id L k = 1) := by unfold Hid roleR; rw [if_pos hr]
            have hz3 : Hid (turnR h 1 = z) := by unfold Hid; rw [turnR_up, ← hz2.out, hro.out]
            go_upto_region 15 with fail
            clear e0 e1 e2 e3 e4 e5 e6 e7 e8 e9 e10
            refine wp_region_held (S := fun Y => Bar g y5.heap.size y5 Y) (by kernel_rfl) ?_
            change wpAnyH _ _ _ _ _ _ _ _ (World.drew _)
            have hb0 : Below y5.heap.size y5 y5.drew := (Below.refl _ _).drew
            obtain ⟨u0, hy0⟩ : ∃ y_, y_ = y5.drew := ⟨_, rfl⟩
            rw [← hy0] at hb0 ⊢
            clear hy0
            have hS0 : Bar g y5.heap.size y5 u0 := Bar.of hb0
            refine takeW 0 47 (.pointer (some ⟨N, 1, none⟩)) rfl rfl (by kernel_rfl) (by kernel_rfl) (by kernel_rfl) (fun _ _ _ h => h) (by kernel_rfl) (by (intro w hSw; go_simp)) (by assumption) ?_
            simp only [List.set_cons_zero, List.set_cons_succ]
            refine takeW 1 48 (.slice (some ⟨g, 0, none⟩) L.length capN) rfl rfl (by kernel_rfl) (by kernel_rfl) (by kernel_rfl) (fun _ _ _ h => h) (by kernel_rfl) (by (intro Y hSw; obtain ⟨X0, X1⟩ := N5.at_.bar hSw (by omega) (by omega); go_simp)) (by assumption) ?_
            simp only [List.set_cons_zero, List.set_cons_succ]
            refine takeW 2 49 (.int .i64 (k : Int)) rfl rfl (by kernel_rfl) (by kernel_rfl) (by kernel_rfl) (fun _ _ _ h => h) (by kernel_rfl) (by (intro w hSw; go_simp)) (by assumption) ?_
            simp only [List.set_cons_zero, List.set_cons_succ]
            refine takeW 3 50 (.agg #[.bool h.up, .bool h.has, .int .i64 h.r, .int .i64 h.c, .int .i64 h.b, .int .i64 h.p, .int .i64 h.h, .int .i64 h.l, .int .i64 h.ro, .int .i64 h.wa, .bool h.op]) rfl rfl (by kernel_rfl) (by kernel_rfl) (by kernel_rfl) (fun _ _ _ h => h) (by kernel_rfl) (by (intro Y hSw; obtain ⟨X0, X1, X2, X3, X4, X5, X6, X7, X8, X9, X10⟩ := P5.bar hSw (by omega) (by omega); go_simp)) (by assumption) ?_
            simp only [List.set_cons_zero, List.set_cons_succ]
            refine takeW 4 51 (.int .i64 1) rfl rfl (by kernel_rfl) (by kernel_rfl) (by kernel_rfl) (fun _ _ _ h => h) (by kernel_rfl) (by (intro w hSw; go_simp)) (by assumption) ?_
            simp only [List.set_cons_zero, List.set_cons_succ]
            refine wpAnyH_all (rs := [5]) (by kernel_rfl) (by simp) ?_
            intro i hi; obtain rfl : i = 5 := by simpa using hi
            refine wpOp_step rfl (fun K hK => ?_)
            rw [if_pos (by kernel_rfl)]
            go_simp
            go_at_call 213
            refine (turnS h 1 u0).mono ?_
            rintro e u1 ⟨rfl, kq⟩
            have hb1 : Below y5.heap.size y5 u1 := hb0.trans (kq.mono hb0.size)
            clear kq
            rw [hz3.out]
            have hS1 : Bar g y5.heap.size y5 u1 := Bar.of hb1
            refine hK _ _ ⟨Bar.of hb1, ?_⟩
            clear hK K hi
            refine takeW 6 53 (.pointer (some ⟨g, k * 11, none⟩)) rfl rfl (by kernel_rfl) (by kernel_rfl) (by kernel_rfl) (fun _ _ _ h => h) (by kernel_rfl) (by (intro Y hSw; go_simp; try omega)) (by assumption) ?_
            simp only [List.set_cons_zero, List.set_cons_succ]
            refine wpAnyH_all (rs := [7]) (by kernel_rfl) (by simp) ?_
            intro i hi; obtain rfl : i = 7 := by simpa using hi
            refine wpOp_step rfl (fun K hK => ?_)
            rw [if_pos (by kernel_rfl)]
            have MU : FOwn ptEnc 11 109 y.heap.size u1 (.slice (some ⟨g, 0, none⟩) L.length capN) (markd f L k) := M5.below hb1 (fun g' e => by obtain rfl : g = g' := (by simpa [Value.ownBlock] using e); omega)
            have hml : (markd f L k).length = L.length := markd_len hk
            rw [← hml] at MU
            obtain ⟨t0, t1, t2, t3, t4, t5, t6, t7, t8, t9, t10⟩ : PtAtO u1 g (k * 11) ((markd f L k).getD k Pt.nil) := ptAtO_of (MU.cell ptEnc_len Pt.nil (by rw [hml]; exact hlt))
            have ff := MU.frozen
            have f0 := ff (k * 11)
            have f1 := ff (k * 11 + 1)
            have f2 := ff (k * 11 + 2)
            have f3 := ff (k * 11 + 3)
            have f4 := ff (k * 11 + 4)
            have f5 := ff (k * 11 + 5)
            have f6 := ff (k * 11 + 6)
            have f7 := ff (k * 11 + 7)
            have f8 := ff (k * 11 + 8)
            have f9 := ff (k * 11 + 9)
            have f10 := ff (k * 11 + 10)
            have MS := MU.set ptEnc_len (by omega) (i := k) (by rw [hml]; exact hlt) z
            rw [hz.out, markd_set hlt, ptPut, hml, ← hz.out] at MS
            have SB := Bar.putAll (o := k * 11) (ptEnc z) (Bar.of (g := g) hb1)
            rw [ptPut] at SB
            have BB := below_putAll (B := y.heap.size) hg1 (ptEnc z) (k * 11) (K5.trans (hb1.mono K5.size))
            rw [ptPut] at BB
            clear hml ff MU
            obtain ⟨uf, huf⟩ : ∃ y_, y_ = (((((((((((u1.setCell ⟨g, k * 11, none⟩ (.bool z.up)).setCell ⟨g, k * 11 + 1, none⟩ (.bool z.has)).setCell ⟨g, k * 11 + 2, none⟩ (.int .i64 z.r)).setCell ⟨g, k * 11 + 3, none⟩ (.int .i64 z.c)).setCell ⟨g, k * 11 + 4, none⟩ (.int .i64 z.b)).setCell ⟨g, k * 11 + 5, none⟩ (.int .i64 z.p)).setCell ⟨g, k * 11 + 6, none⟩ (.int .i64 z.h)).setCell ⟨g, k * 11 + 7, none⟩ (.int .i64 z.l)).setCell ⟨g, k * 11 + 8, none⟩ (.int .i64 z.ro)).setCell ⟨g, k * 11 + 9, none⟩ (.int .i64 z.wa)).setCell ⟨g, k * 11 + 10, none⟩ (.bool z.op)) := ⟨_, rfl⟩
            rw [← huf] at MS SB BB
            go_simp
            rw [← huf]
            have NF := N5.at_.bar SB (by omega) (by omega)
            have NFF : BBox uf N id (.slice (some ⟨g, 0, none⟩) L.length capN) := N5.keep (SB.block N (by omega) (by omega))
            clear huf t0 f0 t1 f1 t2 f2 t3 f3 t4 f4 t5 f5 t6 f6 t7 f7 t8 f8 t9 f9 t10 f10 NF
            refine hK _ _ ⟨SB, ?_⟩
            clear hK K hi
            refine wpAnyH_done (by kernel_rfl) ?_ _
            go_wp2
            go_roundw
            case rel => exact ⟨k + 1, by omega, by go_num, MS, NFF, BB⟩
            case measure => simp [intOf]; omega
          have dk : ((k : Int) == q) = false := hdk.out false (decide_eq_false hr)
          have hρ2 : Hid (roleR id L k = if h.has && vLt h.r h.c h.b h.p (ownR id L k).1 (ownR id L k).2.1 (ownR id L k).2.2.1 (ownR id L k).2.2.2 then 3 else 2) := by unfold Hid; unfold roleR; rw [if_neg hr, hh.out]
          replace hr : Hid _ := hr
          go_upto_region 12 with fail
          clear e0 e1 e2 e3 e4 e5 e6 e7 e8 e9 e10
          cases hhas : h.has with
          | false =>
            have hro : Hid (roleR id L k = 2) := by unfold Hid; rw [hρ2.out, hhas]; rfl
            have hz3 : Hid (turnR h 2 = z) := by unfold Hid; rw [turnR_up, ← hz2.out, hro.out]
            refine wp_region_held (S := fun Y => Below y5.heap.size y5 Y) (by kernel_rfl) ?_
            change wpAnyH _ _ _ _ _ _ _ _ (World.drew _)
            have hb0 : Below y5.heap.size y5 y5.drew := (Below.refl _ _).drew
            obtain ⟨u0, hy0⟩ : ∃ y_, y_ = y5.drew := ⟨_, rfl⟩
            rw [← hy0] at hb0 ⊢
            clear hy0
            refine takeW 0 35 (.pointer (some ⟨Q, 1, none⟩)) rfl rfl (by kernel_rfl) (by kernel_rfl) (by kernel_rfl) (fun _ _ _ h => h) (by kernel_rfl) (by (intro w hSw; go_simp)) (by assumption) ?_
            simp only [List.set_cons_zero, List.set_cons_succ]
            refine takeW 1 36 (.bool false) rfl rfl (by kernel_rfl) (by kernel_rfl) (by kernel_rfl) (fun _ _ _ h => h) (by kernel_rfl) (by (intro Y hSw; obtain ⟨X0, X1, X2, X3, X4, X5, X6, X7, X8, X9, X10⟩ := P5.below hSw (by omega); go_simp)) (by assumption) ?_
            simp only [List.set_cons_zero, List.set_cons_succ]
            refine takeW 2 37 (.bool false) rfl rfl (by kernel_rfl) (by kernel_rfl) (by kernel_rfl) (fun _ _ _ h => h) (by kernel_rfl) (by (intro w hSw; go_simp)) (by assumption) ?_
            simp only [List.set_cons_zero, List.set_cons_succ]
            refine takeS 3 38 rfl rfl (by kernel_rfl) (by kernel_rfl) (by kernel_rfl) (fun _ _ _ h => h) (by kernel_rfl) (by assumption) ?_
            simp only [List.set_cons_zero, List.set_cons_succ]
            refine takeS 4 39 rfl rfl (by kernel_rfl) (by kernel_rfl) (by kernel_rfl) (fun _ _ _ h => h) (by kernel_rfl) (by assumption) ?_
            simp only [List.set_cons_zero, List.set_cons_succ]
            refine takeS 5 40 rfl rfl (by kernel_rfl) (by kernel_rfl) (by kernel_rfl) (fun _ _ _ h => h) (by kernel_rfl) (by assumption) ?_
            simp only [List.set_cons_zero, List.set_cons_succ]
            refine takeS 6 41 rfl rfl (by kernel_rfl) (by kernel_rfl) (by kernel_rfl) (fun _ _ _ h => h) (by kernel_rfl) (by assumption) ?_
            simp only [List.set_cons_zero, List.set_cons_succ]
            refine takeS 7 42 rfl rfl (by kernel_rfl) (by kernel_rfl) (by kernel_rfl) (fun _ _ _ h => h) (by kernel_rfl) (by assumption) ?_
            simp only [List.set_cons_zero, List.set_cons_succ]
            refine takeS 8 43 rfl rfl (by kernel_rfl) (by kernel_rfl) (by kernel_rfl) (fun _ _ _ h => h) (by kernel_rfl) (by assumption) ?_
            simp only [List.set_cons_zero, List.set_cons_succ]
            refine takeW 9 44 (.bool false) rfl rfl (by kernel_rfl) (by kernel_rfl) (by kernel_rfl) (fun _ _ _ h => h) (by kernel_rfl) (by (intro w hSw; go_simp)) (by assumption) ?_
            simp only [List.set_cons_zero, List.set_cons_succ]
            refine wpAnyH_done (by kernel_rfl) ?_ _
            obtain ⟨y6, hy6⟩ : ∃ y_, y_ = u0 := ⟨_, rfl⟩
            rw [← hy6] at hb0 ⊢
            clear hy6
            have P5 := P5.below hb0 (by omega)
            have A5 := A5.below hb0 (by omega)
            have N5 := N5.below hb0 (by omega)
            have K5 := K5.trans (hb0.mono K5.size)
            have M5 := M5.below hb0 (fun g' e => by obtain rfl : g = g' := (by simpa [Value.ownBlock] using e); omega)
            have S5 := P5.lt
            have S6 := N5.lt
            obtain ⟨x0, x1, x2, x3, x4, x5, x6, x7, x8, x9, x10⟩ := P5
            have P5 : PtAt y6 Q h := ⟨x0, x1, x2, x3, x4, x5, x6, x7, x8, x9, x10⟩
            rw [hu.out] at x0
            replace hhas : Hid _ := hhas
            go_upto_region 15 with fail
            clear x0 x1 x2 x3 x4 x5 x6 x7 x8 x9 x10 hb0
            refine wp_region_held (S := fun Y => Bar g y6.heap.size y6 Y) (by kernel_rfl) ?_
            change wpAnyH _ _ _ _ _ _ _ _ (World.drew _)
            have hb0 : Below y6.heap.size y6 y6.drew := (Below.refl _ _).drew
            obtain ⟨u0, hy0⟩ : ∃ y_, y_ = y6.drew := ⟨_, rfl⟩
            rw [← hy0] at hb0 ⊢
            clear hy0
            have hS0 : Bar g y6.heap.size y6 u0 := Bar.of hb0
            refine takeW 0 47 (.pointer (some ⟨N, 1, none⟩)) rfl rfl (by kernel_rfl) (by kernel_rfl) (by kernel_rfl) (fun _ _ _ h => h) (by kernel_rfl) (by (intro w hSw; go_simp)) (by assumption) ?_
            simp only [List.set_cons_zero, List.set_cons_succ]
            refine takeW 1 48 (.slice (some ⟨g, 0, none⟩) L.length capN) rfl rfl (by kernel_rfl) (by kernel_rfl) (by kernel_rfl) (fun _ _ _ h => h) (by kernel_rfl) (by (intro Y hSw; obtain ⟨X0, X1⟩ := N5.at_.bar hSw (by omega) (by omega); go_simp)) (by assumption) ?_
            simp only [List.set_cons_zero, List.set_cons_succ]
            refine takeW 2 49 (.int .i64 (k : Int)) rfl rfl (by kernel_rfl) (by kernel_rfl) (by kernel_rfl) (fun _ _ _ h => h) (by kernel_rfl) (by (intro w hSw; go_simp)) (by assumption) ?_
            simp only [List.set_cons_zero, List.set_cons_succ]
            refine takeW 3 50 (.agg #[.bool h.up, .bool h.has, .int .i64 h.r, .int .i64 h.c, .int .i64 h.b, .int .i64 h.p, .int .i64 h.h, .int .i64 h.l, .int .i64 h.ro, .int .i64 h.wa, .bool h.op]) rfl rfl (by kernel_rfl) (by kernel_rfl) (by kernel_rfl) (fun _ _ _ h => h) (by kernel_rfl) (by (intro Y hSw; obtain ⟨X0, X1, X2, X3, X4, X5, X6, X7, X8, X9, X10⟩ := P5.bar hSw (by omega) (by omega); go_simp)) (by assumption) ?_
            simp only [List.set_cons_zero, List.set_cons_succ]
            refine takeW 4 51 (.int .i64 2) rfl rfl (by kernel_rfl) (by kernel_rfl) (by kernel_rfl) (fun _ _ _ h => h) (by kernel_rfl) (by (intro w hSw; go_simp)) (by assumption) ?_
            simp only [List.set_cons_zero, List.set_cons_succ]
            refine wpAnyH_all (rs := [5]) (by kernel_rfl) (by simp) ?_
            intro i hi; obtain rfl : i = 5 := by simpa using hi
            refine wpOp_step rfl (fun K hK => ?_)
            rw [if_pos (by kernel_rfl)]
            go_simp
            go_at_call 213
            refine (turnS h 2 u0).mono ?_
            rintro e u1 ⟨rfl, kq⟩
            have hb1 : Below y6.heap.size y6 u1 := hb0.trans (kq.mono hb0.size)
            clear kq
            rw [hz3.out]
            have hS1 : Bar g y6.heap.size y6 u1 := Bar.of hb1
            refine hK _ _ ⟨Bar.of hb1, ?_⟩
            clear hK K hi
            refine takeW 6 53 (.pointer (some ⟨g, k * 11, none⟩)) rfl rfl (by kernel_rfl) (by kernel_rfl) (by kernel_rfl) (fun _ _ _ h => h) (by kernel_rfl) (by (intro Y hSw; go_simp; try omega)) (by assumption) ?_
            simp only [List.set_cons_zero, List.set_cons_succ]
            refine wpAnyH_all (rs := [7]) (by kernel_rfl) (by simp) ?_
            intro i hi; obtain rfl : i = 7 := by simpa using hi
            refine wpOp_step rfl (fun K hK => ?_)
            rw [if_pos (by kernel_rfl)]
            have MU : FOwn ptEnc 11 109 y.heap.size u1 (.slice (some ⟨g, 0, none⟩) L.length capN) (markd f L k) := M5.below hb1 (fun g' e => by obtain rfl : g = g' := (by simpa [Value.ownBlock] using e); omega)
            have hml : (markd f L k).length = L.length := markd_len hk
            rw [← hml] at MU
            obtain ⟨t0, t1, t2, t3, t4, t5, t6, t7, t8, t9, t10⟩ : PtAtO u1 g (k * 11) ((markd f L k).getD k Pt.nil) := ptAtO_of (MU.cell ptEnc_len Pt.nil (by rw [hml]; exact hlt))
            have ff := MU.frozen
            have f0 := ff (k * 11)
            have f1 := ff (k * 11 + 1)
            have f2 := ff (k * 11 + 2)
            have f3 := ff (k * 11 + 3)
            have f4 := ff (k * 11 + 4)
            have f5 := ff (k * 11 + 5)
            have f6 := ff (k * 11 + 6)
            have f7 := ff (k * 11 + 7)
            have f8 := ff (k * 11 + 8)
            have f9 := ff (k * 11 + 9)
            have f10 := ff (k * 11 + 10)
            have MS := MU.set ptEnc_len (by omega) (i := k) (by rw [hml]; exact hlt) z
            rw [hz.out, markd_set hlt, ptPut, hml, ← hz.out] at MS
            have SB := Bar.putAll (o := k * 11) (ptEnc z) (Bar.of (g := g) hb1)
            rw [ptPut] at SB
            have BB := below_putAll (B := y.heap.size) hg1 (ptEnc z) (k * 11) (K5.trans (hb1.mono K5.size))
            rw [ptPut] at BB
            clear hml ff MU
            obtain ⟨uf, huf⟩ : ∃ y_, y_ = (((((((((((u1.setCell ⟨g, k * 11, none⟩ (.bool z.up)).setCell ⟨g, k * 11 + 1, none⟩ (.bool z.has)).setCell ⟨g, k * 11 + 2, none⟩ (.int .i64 z.r)).setCell ⟨g, k * 11 + 3, none⟩ (.int .i64 z.c)).setCell ⟨g, k * 11 + 4, none⟩ (.int .i64 z.b)).setCell ⟨g, k * 11 + 5, none⟩ (.int .i64 z.p)).setCell ⟨g, k * 11 + 6, none⟩ (.int .i64 z.h)).setCell ⟨g, k * 11 + 7, none⟩ (.int .i64 z.l)).setCell ⟨g, k * 11 + 8, none⟩ (.int .i64 z.ro)).setCell ⟨g, k * 11 + 9, none⟩ (.int .i64 z.wa)).setCell ⟨g, k * 11 + 10, none⟩ (.bool z.op)) := ⟨_, rfl⟩
            rw [← huf] at MS SB BB
            go_simp
            rw [← huf]
            have NF := N5.at_.bar SB (by omega) (by omega)
            have NFF : BBox uf N id (.slice (some ⟨g, 0, none⟩) L.length capN) := N5.keep (SB.block N (by omega) (by omega))
            clear huf t0 f0 t1 f1 t2 f2 t3 f3 t4 f4 t5 f5 t6 f6 t7 f7 t8 f8 t9 f9 t10 f10 NF
            refine hK _ _ ⟨SB, ?_⟩
            clear hK K hi
            refine wpAnyH_done (by kernel_rfl) ?_ _
            go_wp2
            go_roundw
            case rel => exact ⟨k + 1, by omega, by go_num, MS, NFF, BB⟩
            case measure => simp [intOf]; omega
          | true =>
            obtain ⟨⟨v1, v2, v3, v4⟩, hov⟩ : ∃ v, ownR id L k = v := ⟨_, rfl⟩
            have hρ3 : Hid (roleR id L k = if vLt h.r h.c h.b h.p v1 v2 v3 v4 then 3 else 2) := by unfold Hid; rw [hρ2.out, hhas, hov]; rfl
            replace hov : Hid _ := hov
            obtain ⟨t, ht⟩ : ∃ t, vLt h.r h.c h.b h.p v1 v2 v3 v4 = t := ⟨_, rfl⟩
            replace ht : Hid _ := ht
            cases t
            · have hro : Hid (roleR id L k = 2) := by unfold Hid; rw [hρ3.out, ht.out]; rfl
              have hz3 : Hid (turnR h 2 = z) := by unfold Hid; rw [turnR_up, ← hz2.out, hro.out]
              refine wp_region_held (S := fun Y => Below y5.heap.size y5 Y) (by kernel_rfl) ?_
              change wpAnyH _ _ _ _ _ _ _ _ (World.drew _)
              have hb0 : Below y5.heap.size y5 y5.drew := (Below.refl _ _).drew
              obtain ⟨u0, hy0⟩ : ∃ y_, y_ = y5.drew := ⟨_, rfl⟩
              rw [← hy0] at hb0 ⊢
              clear hy0
              refine takeW 0 35 (.pointer (some ⟨Q, 1, none⟩)) rfl rfl (by kernel_rfl) (by kernel_rfl) (by kernel_rfl) (fun _ _ _ h => h) (by kernel_rfl) (by (intro w hSw; go_simp)) (by assumption) ?_
              simp only [List.set_cons_zero, List.set_cons_succ]
              refine takeW 1 36 (.bool true) rfl rfl (by kernel_rfl) (by kernel_rfl) (by kernel_rfl) (fun _ _ _ h => h) (by kernel_rfl) (by (intro Y hSw; obtain ⟨X0, X1, X2, X3, X4, X5, X6, X7, X8, X9, X10⟩ := P5.below hSw (by omega); go_simp)) (by assumption) ?_
              simp only [List.set_cons_zero, List.set_cons_succ]
              refine takeW 2 37 (.bool true) rfl rfl (by kernel_rfl) (by kernel_rfl) (by kernel_rfl) (fun _ _ _ h => h) (by kernel_rfl) (by (intro w hSw; go_simp)) (by assumption) ?_
              simp only [List.set_cons_zero, List.set_cons_succ]
              refine takeW 3 38 (.pointer (some ⟨Q, 2, none⟩)) rfl rfl (by kernel_rfl) (by kernel_rfl) (by kernel_rfl) (fun _ _ _ h => h) (by kernel_rfl) (by (intro w hSw; go_simp)) (by assumption) ?_
              simp only [List.set_cons_zero, List.set_cons_succ]
              refine takeW 4 39 (.agg #[.int .i64 h.r, .int .i64 h.c, .int .i64 h.b, .int .i64 h.p]) rfl rfl (by kernel_rfl) (by kernel_rfl) (by kernel_rfl) (fun _ _ _ h => h) (by kernel_rfl) (by (intro Y hSw; obtain ⟨X0, X1, X2, X3, X4, X5, X6, X7, X8, X9, X10⟩ := P5.below hSw (by omega); go_simp)) (by assumption) ?_
              simp only [List.set_cons_zero, List.set_cons_succ]
              refine takeW 5 40 (.agg #[.int .i64 id, .slice (some ⟨bk, off, none⟩) L.length cap]) rfl rfl (by kernel_rfl) (by kernel_rfl) (by kernel_rfl) (fun _ _ _ h => h) (by kernel_rfl) (by (intro Y hSw; obtain ⟨X0, X1⟩ := A5.below hSw (by omega); go_simp)) (by assumption) ?_
              simp only [List.set_cons_zero, List.set_cons_succ]
              refine takeW 6 41 (.int .i64 (k : Int)) rfl rfl (by kernel_rfl) (by kernel_rfl) (by kernel_rfl) (fun _ _ _ h => h) (by kernel_rfl) (by (intro w hSw; go_simp)) (by assumption) ?_
              simp only [List.set_cons_zero, List.set_cons_succ]
              refine wpAnyH_all (rs := [7]) (by kernel_rfl) (by simp) ?_
              intro i hi; obtain rfl : i = 7 := by simpa using hi
              refine wpOp_step rfl (fun K hK => ?_)
              rw [if_pos (by kernel_rfl)]
              go_simp
              go_at_call 137
              refine (ownS id (some ⟨bk, off, none⟩) cap L (k : Int) u0 (hv6.below hb0 hB6) hl).mono ?_
              rintro e u1 ⟨rfl, kq⟩
              have hb1 : Below y5.heap.size y5 u1 := hb0.trans (kq.mono hb0.size)
              clear kq
              rw [hov.out]
              refine hK _ _ ⟨hb1, ?_⟩
              clear hK K hi
              refine wpAnyH_all (rs := [8]) (by kernel_rfl) (by simp) ?_
              intro i hi; obtain rfl : i = 8 := by simpa using hi
              refine wpOp_step rfl (fun K hK => ?_)
              rw [if_pos (by kernel_rfl)]
              go_simp
              go_at_call 210
              refine (betterS h.r h.c h.b h.p v1 v2 v3 v4 u1).mono ?_
              rintro e u2 ⟨rfl, kq⟩
              have hb2 : Below y5.heap.size y5 u2 := hb1.trans (kq.mono hb1.size)
              clear kq
              rw [ht.out]
              refine hK _ _ ⟨hb2, ?_⟩
              clear hK K hi
              refine takeW 9 44 (.bool false) rfl rfl (by kernel_rfl) (by kernel_rfl) (by kernel_rfl) (fun _ _ _ h => h) (by kernel_rfl) (by (intro w hSw; go_simp)) (by assumption) ?_
              simp only [List.set_cons_zero, List.set_cons_succ]
              refine wpAnyH_done (by kernel_rfl) ?_ _
              obtain ⟨y6, hy6⟩ : ∃ y_, y_ = u2 := ⟨_, rfl⟩
              rw [← hy6] at hb2 ⊢
              clear hy6
              have P5 := P5.below hb2 (by omega)
              have A5 := A5.below hb2 (by omega)
              have N5 := N5.below hb2 (by omega)
              have K5 := K5.trans (hb2.mono K5.size)
              have M5 := M5.below hb2 (fun g' e => by obtain rfl : g = g' := (by simpa [Value.ownBlock] using e); omega)
              have S5 := P5.lt
              have S6 := N5.lt
              obtain ⟨x0, x1, x2, x3, x4, x5, x6, x7, x8, x9, x10⟩ := P5
              have P5 : PtAt y6 Q h := ⟨x0, x1, x2, x3, x4, x5, x6, x7, x8, x9, x10⟩
              rw [hu.out] at x0
              replace hhas : Hid _ := hhas
              go_upto_region 15 with fail
              clear x0 x1 x2 x3 x4 x5 x6 x7 x8 x9 x10 hb2
              refine wp_region_held (S := fun Y => Bar g y6.heap.size y6 Y) (by kernel_rfl) ?_
              change wpAnyH _ _ _ _ _ _ _ _ (World.drew _)
              have hb0 : Below y6.heap.size y6 y6.drew := (Below.refl _ _).drew
              obtain ⟨u0, hy0⟩ : ∃ y_, y_ = y6.drew := ⟨_, rfl⟩
              rw [← hy0] at hb0 ⊢
              clear hy0
              have hS0 : Bar g y6.heap.size y6 u0 := Bar.of hb0
              refine takeW 0 47 (.pointer (some ⟨N, 1, none⟩)) rfl rfl (by kernel_rfl) (by kernel_rfl) (by kernel_rfl) (fun _ _ _ h => h) (by kernel_rfl) (by (intro w hSw; go_simp)) (by assumption) ?_
              simp only [List.set_cons_zero, List.set_cons_succ]
              refine takeW 1 48 (.slice (some ⟨g, 0, none⟩) L.length capN) rfl rfl (by kernel_rfl) (by kernel_rfl) (by kernel_rfl) (fun _ _ _ h => h) (by kernel_rfl) (by (intro Y hSw; obtain ⟨X0, X1⟩ := N5.at_.bar hSw (by omega) (by omega); go_simp)) (by assumption) ?_
              simp only [List.set_cons_zero, List.set_cons_succ]
              refine takeW 2 49 (.int .i64 (k : Int)) rfl rfl (by kernel_rfl) (by kernel_rfl) (by kernel_rfl) (fun _ _ _ h => h) (by kernel_rfl) (by (intro w hSw; go_simp)) (by assumption) ?_
              simp only [List.set_cons_zero, List.set_cons_succ]
              refine takeW 3 50 (.agg #[.bool h.up, .bool h.has, .int .i64 h.r, .int .i64 h.c, .int .i64 h.b, .int .i64 h.p, .int .i64 h.h, .int .i64 h.l, .int .i64 h.ro, .int .i64 h.wa, .bool h.op]) rfl rfl (by kernel_rfl) (by kernel_rfl) (by kernel_rfl) (fun _ _ _ h => h) (by kernel_rfl) (by (intro Y hSw; obtain ⟨X0, X1, X2, X3, X4, X5, X6, X7, X8, X9, X10⟩ := P5.bar hSw (by omega) (by omega); go_simp)) (by assumption) ?_
              simp only [List.set_cons_zero, List.set_cons_succ]
              refine takeW 4 51 (.int .i64 2) rfl rfl (by kernel_rfl) (by kernel_rfl) (by kernel_rfl) (fun _ _ _ h => h) (by kernel_rfl) (by (intro w hSw; go_simp)) (by assumption) ?_
              simp only [List.set_cons_zero, List.set_cons_succ]
              refine wpAnyH_all (rs := [5]) (by kernel_rfl) (by simp) ?_
              intro i hi; obtain rfl : i = 5 := by simpa using hi
              refine wpOp_step rfl (fun K hK => ?_)
              rw [if_pos (by kernel_rfl)]
              go_simp
              go_at_call 213
              refine (turnS h 2 u0).mono ?_
              rintro e u1 ⟨rfl, kq⟩
              have hb1 : Below y6.heap.size y6 u1 := hb0.trans (kq.mono hb0.size)
              clear kq
              rw [hz3.out]
              have hS1 : Bar g y6.heap.size y6 u1 := Bar.of hb1
              refine hK _ _ ⟨Bar.of hb1, ?_⟩
              clear hK K hi
              refine takeW 6 53 (.pointer (some ⟨g, k * 11, none⟩)) rfl rfl (by kernel_rfl) (by kernel_rfl) (by kernel_rfl) (fun _ _ _ h => h) (by kernel_rfl) (by (intro Y hSw; go_simp; try omega)) (by assumption) ?_
              simp only [List.set_cons_zero, List.set_cons_succ]
              refine wpAnyH_all (rs := [7]) (by kernel_rfl) (by simp) ?_
              intro i hi; obtain rfl : i = 7 := by simpa using hi
              refine wpOp_step rfl (fun K hK => ?_)
              rw [if_pos (by kernel_rfl)]
              have MU : FOwn ptEnc 11 109 y.heap.size u1 (.slice (some ⟨g, 0, none⟩) L.length capN) (markd f L k) := M5.below hb1 (fun g' e => by obtain rfl : g = g' := (by simpa [Value.ownBlock] using e); omega)
              have hml : (markd f L k).length = L.length := markd_len hk
              rw [← hml] at MU
              obtain ⟨t0, t1, t2, t3, t4, t5, t6, t7, t8, t9, t10⟩ : PtAtO u1 g (k * 11) ((markd f L k).getD k Pt.nil) := ptAtO_of (MU.cell ptEnc_len Pt.nil (by rw [hml]; exact hlt))
              have ff := MU.frozen
              have f0 := ff (k * 11)
              have f1 := ff (k * 11 + 1)
              have f2 := ff (k * 11 + 2)
              have f3 := ff (k * 11 + 3)
              have f4 := ff (k * 11 + 4)
              have f5 := ff (k * 11 + 5)
              have f6 := ff (k * 11 + 6)
              have f7 := ff (k * 11 + 7)
              have f8 := ff (k * 11 + 8)
              have f9 := ff (k * 11 + 9)
              have f10 := ff (k * 11 + 10)
              have MS := MU.set ptEnc_len (by omega) (i := k) (by rw [hml]; exact hlt) z
              rw [hz.out, markd_set hlt, ptPut, hml, ← hz.out] at MS
              have SB := Bar.putAll (o := k * 11) (ptEnc z) (Bar.of (g := g) hb1)
              rw [ptPut] at SB
              have BB := below_putAll (B := y.heap.size) hg1 (ptEnc z) (k * 11) (K5.trans (hb1.mono K5.size))
              rw [ptPut] at BB
              clear hml ff MU
              obtain ⟨uf, huf⟩ : ∃ y_, y_ = (((((((((((u1.setCell ⟨g, k * 11, none⟩ (.bool z.up)).setCell ⟨g, k * 11 + 1, none⟩ (.bool z.has)).setCell ⟨g, k * 11 + 2, none⟩ (.int .i64 z.r)).setCell ⟨g, k * 11 + 3, none⟩ (.int .i64 z.c)).setCell ⟨g, k * 11 + 4, none⟩ (.int .i64 z.b)).setCell ⟨g, k * 11 + 5, none⟩ (.int .i64 z.p)).setCell ⟨g, k * 11 + 6, none⟩ (.int .i64 z.h)).setCell ⟨g, k * 11 + 7, none⟩ (.int .i64 z.l)).setCell ⟨g, k * 11 + 8, none⟩ (.int .i64 z.ro)).setCell ⟨g, k * 11 + 9, none⟩ (.int .i64 z.wa)).setCell ⟨g, k * 11 + 10, none⟩ (.bool z.op)) := ⟨_, rfl⟩
              rw [← huf] at MS SB BB
              go_simp
              rw [← huf]
              have NF := N5.at_.bar SB (by omega) (by omega)
              have NFF : BBox uf N id (.slice (some ⟨g, 0, none⟩) L.length capN) := N5.keep (SB.block N (by omega) (by omega))
              clear huf t0 f0 t1 f1 t2 f2 t3 f3 t4 f4 t5 f5 t6 f6 t7 f7 t8 f8 t9 f9 t10 f10 NF
              refine hK _ _ ⟨SB, ?_⟩
              clear hK K hi
              refine wpAnyH_done (by kernel_rfl) ?_ _
              go_wp2
              go_roundw
              case rel => exact ⟨k + 1, by omega, by go_num, MS, NFF, BB⟩
              case measure => simp [intOf]; omega
            · have hro : Hid (roleR id L k = 3) := by unfold Hid; rw [hρ3.out, ht.out]; rfl
              have hz3 : Hid (turnR h 3 = z) := by unfold Hid; rw [turnR_up, ← hz2.out, hro.out]
              refine wp_region_held (S := fun Y => Below y5.heap.size y5 Y) (by kernel_rfl) ?_
              change wpAnyH _ _ _ _ _ _ _ _ (World.drew _)
              have hb0 : Below y5.heap.size y5 y5.drew := (Below.refl _ _).drew
              obtain ⟨u0, hy0⟩ : ∃ y_, y_ = y5.drew := ⟨_, rfl⟩
              rw [← hy0] at hb0 ⊢
              clear hy0
              refine takeW 0 35 (.pointer (some ⟨Q, 1, none⟩)) rfl rfl (by kernel_rfl) (by kernel_rfl) (by kernel_rfl) (fun _ _ _ h => h) (by kernel_rfl) (by (intro w hSw; go_simp)) (by assumption) ?_
              simp only [List.set_cons_zero, List.set_cons_succ]
              refine takeW 1 36 (.bool true) rfl rfl (by kernel_rfl) (by kernel_rfl) (by kernel_rfl) (fun _ _ _ h => h) (by kernel_rfl) (by (intro Y hSw; obtain ⟨X0, X1, X2, X3, X4, X5, X6, X7, X8, X9, X10⟩ := P5.below hSw (by omega); go_simp)) (by assumption) ?_
              simp only [List.set_cons_zero, List.set_cons_succ]
              refine takeW 2 37 (.bool true) rfl rfl (by kernel_rfl) (by kernel_rfl) (by kernel_rfl) (fun _ _ _ h => h) (by kernel_rfl) (by (intro w hSw; go_simp)) (by assumption) ?_
              simp only [List.set_cons_zero, List.set_cons_succ]
              refine takeW 3 38 (.pointer (some ⟨Q, 2, none⟩)) rfl rfl (by kernel_rfl) (by kernel_rfl) (by kernel_rfl) (fun _ _ _ h => h) (by kernel_rfl) (by (intro w hSw; go_simp)) (by assumption) ?_
              simp only [List.set_cons_zero, List.set_cons_succ]
              refine takeW 4 39 (.agg #[.int .i64 h.r, .int .i64 h.c, .int .i64 h.b, .int .i64 h.p]) rfl rfl (by kernel_rfl) (by kernel_rfl) (by kernel_rfl) (fun _ _ _ h => h) (by kernel_rfl) (by (intro Y hSw; obtain ⟨X0, X1, X2, X3, X4, X5, X6, X7, X8, X9, X10⟩ := P5.below hSw (by omega); go_simp)) (by assumption) ?_
              simp only [List.set_cons_zero, List.set_cons_succ]
              refine takeW 5 40 (.agg #[.int .i64 id, .slice (some ⟨bk, off, none⟩) L.length cap]) rfl rfl (by kernel_rfl) (by kernel_rfl) (by kernel_rfl) (fun _ _ _ h => h) (by kernel_rfl) (by (intro Y hSw; obtain ⟨X0, X1⟩ := A5.below hSw (by omega); go_simp)) (by assumption) ?_
              simp only [List.set_cons_zero, List.set_cons_succ]
              refine takeW 6 41 (.int .i64 (k : Int)) rfl rfl (by kernel_rfl) (by kernel_rfl) (by kernel_rfl) (fun _ _ _ h => h) (by kernel_rfl) (by (intro w hSw; go_simp)) (by assumption) ?_
              simp only [List.set_cons_zero, List.set_cons_succ]
              refine wpAnyH_all (rs := [7]) (by kernel_rfl) (by simp) ?_
              intro i hi; obtain rfl : i = 7 := by simpa using hi
              refine wpOp_step rfl (fun K hK => ?_)
              rw [if_pos (by kernel_rfl)]
              go_simp
              go_at_call 137
              refine (ownS id (some ⟨bk, off, none⟩) cap L (k : Int) u0 (hv6.below hb0 hB6) hl).mono ?_
              rintro e u1 ⟨rfl, kq⟩
              have hb1 : Below y5.heap.size y5 u1 := hb0.trans (kq.mono hb0.size)
              clear kq
              rw [hov.out]
              refine hK _ _ ⟨hb1, ?_⟩
              clear hK K hi
              refine wpAnyH_all (rs := [8]) (by kernel_rfl) (by simp) ?_
              intro i hi; obtain rfl : i = 8 := by simpa using hi
              refine wpOp_step rfl (fun K hK => ?_)
              rw [if_pos (by kernel_rfl)]
              go_simp
              go_at_call 210
              refine (betterS h.r h.c h.b h.p v1 v2 v3 v4 u1).mono ?_
              rintro e u2 ⟨rfl, kq⟩
              have hb2 : Below y5.heap.size y5 u2 := hb1.trans (kq.mono hb1.size)
              clear kq
              rw [ht.out]
              refine hK _ _ ⟨hb2, ?_⟩
              clear hK K hi
              refine takeW 9 44 (.bool true) rfl rfl (by kernel_rfl) (by kernel_rfl) (by kernel_rfl) (fun _ _ _ h => h) (by kernel_rfl) (by (intro w hSw; go_simp)) (by assumption) ?_
              simp only [List.set_cons_zero, List.set_cons_succ]
              refine wpAnyH_done (by kernel_rfl) ?_ _
              obtain ⟨y6, hy6⟩ : ∃ y_, y_ = u2 := ⟨_, rfl⟩
              rw [← hy6] at hb2 ⊢
              clear hy6
              have P5 := P5.below hb2 (by omega)
              have A5 := A5.below hb2 (by omega)
              have N5 := N5.below hb2 (by omega)
              have K5 := K5.trans (hb2.mono K5.size)
              have M5 := M5.below hb2 (fun g' e => by obtain rfl : g = g' := (by simpa [Value.ownBlock] using e); omega)
              have S5 := P5.lt
              have S6 := N5.lt
              obtain ⟨x0, x1, x2, x3, x4, x5, x6, x7, x8, x9, x10⟩ := P5
              have P5 : PtAt y6 Q h := ⟨x0, x1, x2, x3, x4, x5, x6, x7, x8, x9, x10⟩
              rw [hu.out] at x0
              replace hhas : Hid _ := hhas
              go_upto_region 15 with fail
              clear x0 x1 x2 x3 x4 x5 x6 x7 x8 x9 x10 hb2
              refine wp_region_held (S := fun Y => Bar g y6.heap.size y6 Y) (by kernel_rfl) ?_
              change wpAnyH _ _ _ _ _ _ _ _ (World.drew _)
              have hb0 : Below y6.heap.size y6 y6.drew := (Below.refl _ _).drew
              obtain ⟨u0, hy0⟩ : ∃ y_, y_ = y6.drew := ⟨_, rfl⟩
              rw [← hy0] at hb0 ⊢
              clear hy0
              have hS0 : Bar g y6.heap.size y6 u0 := Bar.of hb0
              refine takeW 0 47 (.pointer (some ⟨N, 1, none⟩)) rfl rfl (by kernel_rfl) (by kernel_rfl) (by kernel_rfl) (fun _ _ _ h => h) (by kernel_rfl) (by (intro w hSw; go_simp)) (by assumption) ?_
              simp only [List.set_cons_zero, List.set_cons_succ]
              refine takeW 1 48 (.slice (some ⟨g, 0, none⟩) L.length capN) rfl rfl (by kernel_rfl) (by kernel_rfl) (by kernel_rfl) (fun _ _ _ h => h) (by kernel_rfl) (by (intro Y hSw; obtain ⟨X0, X1⟩ := N5.at_.bar hSw (by omega) (by omega); go_simp)) (by assumption) ?_
              simp only [List.set_cons_zero, List.set_cons_succ]
              refine takeW 2 49 (.int .i64 (k : Int)) rfl rfl (by kernel_rfl) (by kernel_rfl) (by kernel_rfl) (fun _ _ _ h => h) (by kernel_rfl) (by (intro w hSw; go_simp)) (by assumption) ?_
              simp only [List.set_cons_zero, List.set_cons_succ]
              refine takeW 3 50 (.agg #[.bool h.up, .bool h.has, .int .i64 h.r, .int .i64 h.c, .int .i64 h.b, .int .i64 h.p, .int .i64 h.h, .int .i64 h.l, .int .i64 h.ro, .int .i64 h.wa, .bool h.op]) rfl rfl (by kernel_rfl) (by kernel_rfl) (by kernel_rfl) (fun _ _ _ h => h) (by kernel_rfl) (by (intro Y hSw; obtain ⟨X0, X1, X2, X3, X4, X5, X6, X7, X8, X9, X10⟩ := P5.bar hSw (by omega) (by omega); go_simp)) (by assumption) ?_
              simp only [List.set_cons_zero, List.set_cons_succ]
              refine takeW 4 51 (.int .i64 3) rfl rfl (by kernel_rfl) (by kernel_rfl) (by kernel_rfl) (fun _ _ _ h => h) (by kernel_rfl) (by (intro w hSw; go_simp)) (by assumption) ?_
              simp only [List.set_cons_zero, List.set_cons_succ]
              refine wpAnyH_all (rs := [5]) (by kernel_rfl) (by simp) ?_
              intro i hi; obtain rfl : i = 5 := by simpa using hi
              refine wpOp_step rfl (fun K hK => ?_)
              rw [if_pos (by kernel_rfl)]
              go_simp
              go_at_call 213
              refine (turnS h 3 u0).mono ?_
              rintro e u1 ⟨rfl, kq⟩
              have hb1 : Below y6.heap.size y6 u1 := hb0.trans (kq.mono hb0.size)
              clear kq
              rw [hz3.out]
              have hS1 : Bar g y6.heap.size y6 u1 := Bar.of hb1
              refine hK _ _ ⟨Bar.of hb1, ?_⟩
              clear hK K hi
              refine takeW 6 53 (.pointer (some ⟨g, k * 11, none⟩)) rfl rfl (by kernel_rfl) (by kernel_rfl) (by kernel_rfl) (fun _ _ _ h => h) (by kernel_rfl) (by (intro Y hSw; go_simp; try omega)) (by assumption) ?_
              simp only [List.set_cons_zero, List.set_cons_succ]
              refine wpAnyH_all (rs := [7]) (by kernel_rfl) (by simp) ?_
              intro i hi; obtain rfl : i = 7 := by simpa using hi
              refine wpOp_step rfl (fun K hK => ?_)
              rw [if_pos (by kernel_rfl)]
              have MU : FOwn ptEnc 11 109 y.heap.size u1 (.slice (some ⟨g, 0, none⟩) L.length capN) (markd f L k) := M5.below hb1 (fun g' e => by obtain rfl : g = g' := (by simpa [Value.ownBlock] using e); omega)
              have hml : (markd f L k).length = L.length := markd_len hk
              rw [← hml] at MU
              obtain ⟨t0, t1, t2, t3, t4, t5, t6, t7, t8, t9, t10⟩ : PtAtO u1 g (k * 11) ((markd f L k).getD k Pt.nil) := ptAtO_of (MU.cell ptEnc_len Pt.nil (by rw [hml]; exact hlt))
              have ff := MU.frozen
              have f0 := ff (k * 11)
              have f1 := ff (k * 11 + 1)
              have f2 := ff (k * 11 + 2)
              have f3 := ff (k * 11 + 3)
              have f4 := ff (k * 11 + 4)
              have f5 := ff (k * 11 + 5)
              have f6 := ff (k * 11 + 6)
              have f7 := ff (k * 11 + 7)
              have f8 := ff (k * 11 + 8)
              have f9 := ff (k * 11 + 9)
              have f10 := ff (k * 11 + 10)
              have MS := MU.set ptEnc_len (by omega) (i := k) (by rw [hml]; exact hlt) z
              rw [hz.out, markd_set hlt, ptPut, hml, ← hz.out] at MS
              have SB := Bar.putAll (o := k * 11) (ptEnc z) (Bar.of (g := g) hb1)
              rw [ptPut] at SB
              have BB := below_putAll (B := y.heap.size) hg1 (ptEnc z) (k * 11) (K5.trans (hb1.mono K5.size))
              rw [ptPut] at BB
              clear hml ff MU
              obtain ⟨uf, huf⟩ : ∃ y_, y_ = (((((((((((u1.setCell ⟨g, k * 11, none⟩ (.bool z.up)).setCell ⟨g, k * 11 + 1, none⟩ (.bool z.has)).setCell ⟨g, k * 11 + 2, none⟩ (.int .i64 z.r)).setCell ⟨g, k * 11 + 3, none⟩ (.int .i64 z.c)).setCell ⟨g, k * 11 + 4, none⟩ (.int .i64 z.b)).setCell ⟨g, k * 11 + 5, none⟩ (.int .i64 z.p)).setCell ⟨g, k * 11 + 6, none⟩ (.int .i64 z.h)).setCell ⟨g, k * 11 + 7, none⟩ (.int .i64 z.l)).setCell ⟨g, k * 11 + 8, none⟩ (.int .i64 z.ro)).setCell ⟨g, k * 11 + 9, none⟩ (.int .i64 z.wa)).setCell ⟨g, k * 11 + 10, none⟩ (.bool z.op)) := ⟨_, rfl⟩
              rw [← huf] at MS SB BB
              go_simp
              rw [← huf]
              have NF := N5.at_.bar SB (by omega) (by omega)
              have NFF : BBox uf N id (.slice (some ⟨g, 0, none⟩) L.length capN) := N5.keep (SB.block N (by omega) (by omega))
              clear huf t0 f0 t1 f1 t2 f2 t3 f3 t4 f4 t5 f5 t6 f6 t7 f7 t8 f8 t9 f9 t10 f10 NF
              refine hK _ _ ⟨SB, ?_⟩
              clear hK K hi
              refine wpAnyH_done (by kernel_rfl) ?_ _
              go_wp2
              go_roundw
              case rel => exact ⟨k + 1, by omega, by go_num, MS, NFF, BB⟩
              case measure => simp [intOf]; omega
      · obtain rfl : k = L.length := by omega
        rw [markd_all] at M
        have RP := R4.put id (.slice (some ⟨g, 0, none⟩) L.length capN)
        obtain ⟨⟨r0, r1⟩, rf⟩ := R4
        obtain ⟨⟨n0, n1⟩, nf⟩ := N4
        have BZ : Below w.heap.size w ((wr.setCell ⟨w.heap.size + 1, 0, none⟩ (.int .i64 id)).setCell ⟨w.heap.size + 1, 1, none⟩ (.slice (some ⟨g, 0, none⟩) L.length capN)) := (B4.setCell (by show _ ≤ w.heap.size + 1; omega) _).setCell (by show _ ≤ w.heap.size + 1; omega) _
        have OZ : FOwn ptEnc 11 109 w.heap.size ((wr.setCell ⟨w.heap.size + 1, 0, none⟩ (.int .i64 id)).setCell ⟨w.heap.size + 1, 1, none⟩ (.slice (some ⟨g, 0, none⟩) L.length capN)) (.slice (some ⟨g, 0, none⟩) L.length capN) ((List.range L.length).map f) := (M.base (by omega)).keep fun g' e => by
          obtain rfl : g = g' := by simpa [Value.ownBlock] using e
          rw [Below.heap_setCell _ _ _ _ (by show g ≠ w.heap.size + 1; omega), Below.heap_setCell _ _ _ _ (by show g ≠ w.heap.size + 1; omega)]
        have hDl : D.length = L.length := by rw [hD2.out]; simp
        replace hDl : Hid _ := hDl
        obtain ⟨⟨p0, p1⟩, _⟩ := RP
        go_wp2
        refine bodyPost_ret (v := .agg #[.int .i64 id, .slice (some ⟨g, 0, none⟩) L.length capN]) (by simp [results, Tryz.results184, go_sem, *]) rfl ⟨_, _, by rw [hDl.out], by rw [hDl.out, hD2.out]; exact OZ, BZ⟩

end Go.Proofs.YtnpiljegdiconaaGreat
namespace Go.Proofs.YtnpiljegdiconaaGreat
open Go.ChangeShapes Go.WideShapes Go.ChangeAt Go.RowKit
open Go.ChangeMaps (open_string shut_string)
set_option linter.unusedVariables false
set_option maxRecDepth 100000

set_option maxHeartbeats 4000000 in
theorem claimS (x : Pt) (r2 c2 b2 p2 k : Int) (w : World) : Calls Tryz.prog 182 #[.agg #[.bool x.up, .bool x.has, .int .i64 x.r, .int .i64 x.c, .int .i64 x.b, .int .i64 x.p, .int .i64 x.h, .int .i64 x.l, .int .i64 x.ro, .int .i64 x.wa, .bool x.op], .agg #[.int .i64 r2, .int .i64 c2, .int .i64 b2, .int .i64 p2], .int .i64 k] w fun e w' => e = .returned (.agg #[.bool (claimR x r2 c2 b2 p2 k).up, .bool (claimR x r2 c2 b2 p2 k).has, .int .i64 (claimR x r2 c2 b2 p2 k).r, .int .i64 (claimR x r2 c2 b2 p2 k).c, .int .i64 (claimR x r2 c2 b2 p2 k).b, .int .i64 (claimR x r2 c2 b2 p2 k).p, .int .i64 (claimR x r2 c2 b2 p2 k).h, .int .i64 (claimR x r2 c2 b2 p2 k).l, .int .i64 (claimR x r2 c2 b2 p2 k).ro, .int .i64 (claimR x r2 c2 b2 p2 k).wa, .bool (claimR x r2 c2 b2 p2 k).op]) ∧ Below w.heap.size w w' := by
  obtain ⟨up, has, r, c, b, p, h, l, ro, wa, op⟩ := x
  dsimp only
  have hR : Hid (takes ⟨up, has, r, c, b, p, h, l, ro, wa, op⟩ r2 c2 b2 p2 k = (pOk ⟨up, has, r, c, b, p, h, l, ro, wa, op⟩ && (up && (vOk r2 c2 b2 p2 && (decide (0 ≤ k ∧ k ≤ 8) && cnt ⟨up, has, r, c, b, p, h, l, ro, wa, op⟩ r2 c2 b2 p2))))) := rfl
  have hY : Hid ((takes ⟨up, has, r, c, b, p, h, l, ro, wa, op⟩ r2 c2 b2 p2 k = false → claimR ⟨up, has, r, c, b, p, h, l, ro, wa, op⟩ r2 c2 b2 p2 k = ⟨up, has, r, c, b, p, h, l, ro, wa, op⟩) ∧ (takes ⟨up, has, r, c, b, p, h, l, ro, wa, op⟩ r2 c2 b2 p2 k = true → claimR ⟨up, has, r, c, b, p, h, l, ro, wa, op⟩ r2 c2 b2 p2 k = ⟨up, true, r2, c2, b2, p2, k, 3, ro, wa, op⟩)) := ⟨fun h => claimR_no h, fun h => claimR_yes h⟩
  generalize takes ⟨up, has, r, c, b, p, h, l, ro, wa, op⟩ r2 c2 b2 p2 k = R at hR hY
  generalize claimR ⟨up, has, r, c, b, p, h, l, ro, wa, op⟩ r2 c2 b2 p2 k = Y at hY ⊢
  obtain ⟨y, hy⟩ : ∃ y, y = ((w.alloc (Obj.cells #[.bool up, .bool has, .int .i64 r, .int .i64 c, .int .i64 b, .int .i64 p, .int .i64 h, .int .i64 l, .int .i64 ro, .int .i64 wa, .bool op] 109)).alloc (Obj.cells #[.int .i64 r2, .int .i64 c2, .int .i64 b2, .int .i64 p2] 103)).alloc (Obj.cells #[.bool false, .bool false, .int .i64 0, .int .i64 0, .int .i64 0, .int .i64 0, .int .i64 0, .int .i64 0, .int .i64 0, .int .i64 0, .bool false] 109) := ⟨_, rfl⟩
  have P0 : PBox y w.heap.size ⟨up, has, r, c, b, p, h, l, ro, wa, op⟩ := by rw [hy]; refine ⟨?_, fun i => by simp [go_sem]⟩; constructor <;> simp [go_sem]
  have V0 : VecAt y (w.heap.size + 1) r2 c2 b2 p2 := by rw [hy]; refine ⟨?_, ?_, ?_, ?_⟩ <;> simp [go_sem]
  have Q0 : PBox y (w.heap.size + 1 + 1) ⟨false, false, 0, 0, 0, 0, 0, 0, 0, 0, false⟩ := by rw [hy]; refine ⟨?_, fun i => by simp [go_sem]⟩; constructor <;> simp [go_sem]
  have B0 : Below w.heap.size w y := by rw [hy]; exact (((Below.refl _ _).alloc (Nat.le_refl _) _).alloc (by simp) _).alloc (by simp; omega) _
  have S0 : w.heap.size + 1 + 1 < y.heap.size := Q0.lt
  go_enter Tryz.func182, Tryz.ntmps182
  go_wp2_with fail
  go_at_call 142
  rw [← hy]
  clear hy
  refine (pOkS ⟨up, has, r, c, b, p, h, l, ro, wa, op⟩ y).mono ?_
  rintro e w1 ⟨rfl, k1⟩
  have B1 := B0.trans (k1.mono B0.size)
  have S1 := Nat.lt_of_lt_of_le S0 k1.size
  replace P0 := P0.below k1 (by omega)
  have P1 := P0
  replace V0 := V0.below k1 (by omega)
  have V1 := V0
  replace Q0 := Q0.below k1 (by omega)
  have Q1 := Q0
  clear P0 V0 Q0 B0 S0 k1
  generalize pOk ⟨up, has, r, c, b, p, h, l, ro, wa, op⟩ = ok at hR ⊢
  cases ok
  · obtain ⟨cp0, cp1, cp2, cp3, cp4, cp5, cp6, cp7, cp8, cp9, cp10⟩ := P1.at_
    obtain ⟨cv0, cv1, cv2, cv3⟩ := V1
    obtain ⟨⟨cq0, cq1, cq2, cq3, cq4, cq5, cq6, cq7, cq8, cq9, cq10⟩, cqf⟩ := Q1
    have hZ := hY.out.1 (by rw [hR.out]; rfl)
    clear hY
    replace hZ : Hid _ := hZ
    go_wp2
    refine bodyPost_ret (v := .agg #[.bool up, .bool has, .int .i64 r, .int .i64 c, .int .i64 b, .int .i64 p, .int .i64 h, .int .i64 l, .int .i64 ro, .int .i64 wa, .bool op]) (by simp [results, Tryz.results182, go_sem, *]) rfl ⟨by rw [hZ.out], ?_⟩
    repeat' (first | with_reducible exact B1 | with_reducible refine Below.setCell ?_ (by simp <;> omega) _ | with_reducible refine Below.drew ?_)
  cases up
  · obtain ⟨cp0, cp1, cp2, cp3, cp4, cp5, cp6, cp7, cp8, cp9, cp10⟩ := P1.at_
    obtain ⟨cv0, cv1, cv2, cv3⟩ := V1
    obtain ⟨⟨cq0, cq1, cq2, cq3, cq4, cq5, cq6, cq7, cq8, cq9, cq10⟩, cqf⟩ := Q1
    have hZ := hY.out.1 (by rw [hR.out]; rfl)
    clear hY
    replace hZ : Hid _ := hZ
    go_wp2
    refine bodyPost_ret (v := .agg #[.bool false, .bool has, .int .i64 r, .int .i64 c, .int .i64 b, .int .i64 p, .int .i64 h, .int .i64 l, .int .i64 ro, .int .i64 wa, .bool op]) (by simp [results, Tryz.results182, go_sem, *]) rfl ⟨by rw [hZ.out], ?_⟩
    repeat' (first | with_reducible exact B1 | with_reducible refine Below.setCell ?_ (by simp <;> omega) _ | with_reducible refine Below.drew ?_)
  have V1' := V1
  obtain ⟨cp0, cp1, cp2, cp3, cp4, cp5, cp6, cp7, cp8, cp9, cp10⟩ := P1.at_
  obtain ⟨cv0, cv1, cv2, cv3⟩ := V1'
  go_wp2_with fail
  go_at_call 181
  refine (vOkS r2 c2 b2 p2 w1).mono ?_
  rintro e w2 ⟨rfl, k2⟩
  clear cp0 cp1 cp2 cp3 cp4 cp5 cp6 cp7 cp8 cp9 cp10 cv0 cv1 cv2 cv3
  have B2 := B1.trans (k2.mono B1.size)
  have S2 := Nat.lt_of_lt_of_le S1 k2.size
  replace P1 := P1.below k2 (by omega)
  have P2 := P1
  replace V1 := V1.below k2 (by omega)
  have V2 := V1
  replace Q1 := Q1.below k2 (by omega)
  have Q2 := Q1
  clear P1 V1 Q1 B1 S1 k2
  generalize vOk r2 c2 b2 p2 = ok at hR ⊢
  cases ok
  · obtain ⟨cp0, cp1, cp2, cp3, cp4, cp5, cp6, cp7, cp8, cp9, cp10⟩ := P2.at_
    obtain ⟨cv0, cv1, cv2, cv3⟩ := V2
    obtain ⟨⟨cq0, cq1, cq2, cq3, cq4, cq5, cq6, cq7, cq8, cq9, cq10⟩, cqf⟩ := Q2
    have hZ := hY.out.1 (by rw [hR.out]; rfl)
    clear hY
    replace hZ : Hid _ := hZ
    go_wp2
    refine bodyPost_ret (v := .agg #[.bool true, .bool has, .int .i64 r, .int .i64 c, .int .i64 b, .int .i64 p, .int .i64 h, .int .i64 l, .int .i64 ro, .int .i64 wa, .bool op]) (by simp [results, Tryz.results182, go_sem, *]) rfl ⟨by rw [hZ.out], ?_⟩
    repeat' (first | with_reducible exact B2 | with_reducible refine Below.setCell ?_ (by simp <;> omega) _ | with_reducible refine Below.drew ?_)
  go_wp2_with fail
  go_at_call 65
  refine (inB k 0 8 w2).mono ?_
  rintro e w2 ⟨rfl, rfl⟩
  generalize decide (0 ≤ k ∧ k ≤ 8) = ok at hR ⊢
  cases ok
  · obtain ⟨cp0, cp1, cp2, cp3, cp4, cp5, cp6, cp7, cp8, cp9, cp10⟩ := P2.at_
    obtain ⟨cv0, cv1, cv2, cv3⟩ := V2
    obtain ⟨⟨cq0, cq1, cq2, cq3, cq4, cq5, cq6, cq7, cq8, cq9, cq10⟩, cqf⟩ := Q2
    have hZ := hY.out.1 (by rw [hR.out]; rfl)
    clear hY
    replace hZ : Hid _ := hZ
    go_wp2
    refine bodyPost_ret (v := .agg #[.bool true, .bool has, .int .i64 r, .int .i64 c, .int .i64 b, .int .i64 p, .int .i64 h, .int .i64 l, .int .i64 ro, .int .i64 wa, .bool op]) (by simp [results, Tryz.results182, go_sem, *]) rfl ⟨by rw [hZ.out], ?_⟩
    repeat' (first | with_reducible exact B2 | with_reducible refine Below.setCell ?_ (by simp <;> omega) _ | with_reducible refine Below.drew ?_)
  replace hR : Hid (R = (!has || (!vLt r c b p r2 c2 b2 p2 || ((b2 == b) && (p2 == p))))) := hR.out
  cases has
  · have hZ := hY.out.2 (by rw [hR.out]; rfl)
    clear hY
    replace hZ : Hid _ := hZ
    obtain ⟨⟨cp0, cp1, cp2, cp3, cp4, cp5, cp6, cp7, cp8, cp9, cp10⟩, cpf⟩ := P2
    obtain ⟨cv0, cv1, cv2, cv3⟩ := V2
    obtain ⟨⟨cq0, cq1, cq2, cq3, cq4, cq5, cq6, cq7, cq8, cq9, cq10⟩, cqf⟩ := Q2
    go_wp2
    refine bodyPost_ret (v := .agg #[.bool true, .bool true, .int .i64 r2, .int .i64 c2, .int .i64 b2, .int .i64 p2, .int .i64 k, .int .i64 3, .int .i64 ro, .int .i64 wa, .bool op]) (by simp [results, Tryz.results182, go_sem, *]) rfl ⟨by rw [hZ.out], ?_⟩
    repeat' (first | with_reducible exact B2 | with_reducible refine Below.setCell ?_ (by simp <;> omega) _ | with_reducible refine Below.drew ?_)
  have V2' := V2
  obtain ⟨cp0, cp1, cp2, cp3, cp4, cp5, cp6, cp7, cp8, cp9, cp10⟩ := P2.at_
  obtain ⟨cv0, cv1, cv2, cv3⟩ := V2'
  go_wp2_with fail
  go_at_call 210
  refine (betterS r c b p r2 c2 b2 p2 w2).mono ?_
  rintro e w3 ⟨rfl, k3⟩
  clear cp0 cp1 cp2 cp3 cp4 cp5 cp6 cp7 cp8 cp9 cp10 cv0 cv1 cv2 cv3
  have B3 := B2.trans (k3.mono B2.size)
  have S3 := Nat.lt_of_lt_of_le S2 k3.size
  replace P2 := P2.below k3 (by omega)
  have P3 := P2
  replace V2 := V2.below k3 (by omega)
  have V3 := V2
  replace Q2 := Q2.below k3 (by omega)
  have Q3 := Q2
  clear P2 V2 Q2 B2 S2 k3
  generalize vLt r c b p r2 c2 b2 p2 = ok at hR ⊢
  cases ok
  · have hZ := hY.out.2 (by rw [hR.out]; rfl)
    clear hY
    replace hZ : Hid _ := hZ
    obtain ⟨⟨cp0, cp1, cp2, cp3, cp4, cp5, cp6, cp7, cp8, cp9, cp10⟩, cpf⟩ := P3
    obtain ⟨cv0, cv1, cv2, cv3⟩ := V3
    obtain ⟨⟨cq0, cq1, cq2, cq3, cq4, cq5, cq6, cq7, cq8, cq9, cq10⟩, cqf⟩ := Q3
    go_wp2
    refine bodyPost_ret (v := .agg #[.bool true, .bool true, .int .i64 r2, .int .i64 c2, .int .i64 b2, .int .i64 p2, .int .i64 k, .int .i64 3, .int .i64 ro, .int .i64 wa, .bool op]) (by simp [results, Tryz.results182, go_sem, *]) rfl ⟨by rw [hZ.out], ?_⟩
    repeat' (first | with_reducible exact B3 | with_reducible refine Below.setCell ?_ (by simp <;> omega) _ | with_reducible refine Below.drew ?_)
  cases q1 : (b2 == b)
  · have q2 : (b == b2) = false := by have := beq_eq_false_iff_ne.1 q1; simp; omega
    have q3 : (b != b2) = true := by have := beq_eq_false_iff_ne.1 q1; simp; omega
    obtain ⟨cp0, cp1, cp2, cp3, cp4, cp5, cp6, cp7, cp8, cp9, cp10⟩ := P3.at_
    obtain ⟨cv0, cv1, cv2, cv3⟩ := V3
    obtain ⟨⟨cq0, cq1, cq2, cq3, cq4, cq5, cq6, cq7, cq8, cq9, cq10⟩, cqf⟩ := Q3
    have hZ := hY.out.1 (by rw [hR.out, q1]; rfl)
    clear hY
    replace hZ : Hid _ := hZ
    go_wp2
    refine bodyPost_ret (v := .agg #[.bool true, .bool true, .int .i64 r, .int .i64 c, .int .i64 b, .int .i64 p, .int .i64 h, .int .i64 l, .int .i64 ro, .int .i64 wa, .bool op]) (by simp [results, Tryz.results182, go_sem, *]) rfl ⟨by rw [hZ.out], ?_⟩
    repeat' (first | with_reducible exact B3 | with_reducible refine Below.setCell ?_ (by simp <;> omega) _ | with_reducible refine Below.drew ?_)
  have q2 : (b == b2) = true := by have := beq_iff_eq.1 q1; simp; omega
  have q3 : (b != b2) = false := by have := beq_iff_eq.1 q1; simp; omega
  cases q4 : (p2 == p)
  · have q5 : (p == p2) = false := by have := beq_eq_false_iff_ne.1 q4; simp; omega
    have q6 : (p != p2) = true := by have := beq_eq_false_iff_ne.1 q4; simp; omega
    obtain ⟨cp0, cp1, cp2, cp3, cp4, cp5, cp6, cp7, cp8, cp9, cp10⟩ := P3.at_
    obtain ⟨cv0, cv1, cv2, cv3⟩ := V3
    obtain ⟨⟨cq0, cq1, cq2, cq3, cq4, cq5, cq6, cq7, cq8, cq9, cq10⟩, cqf⟩ := Q3
    have hZ := hY.out.1 (by rw [hR.out, q1, q4]; rfl)
    clear hY
    replace hZ : Hid _ := hZ
    go_wp2
    refine bodyPost_ret (v := .agg #[.bool true, .bool true, .int .i64 r, .int .i64 c, .int .i64 b, .int .i64 p, .int .i64 h, .int .i64 l, .int .i64 ro, .int .i64 wa, .bool op]) (by simp [results, Tryz.results182, go_sem, *]) rfl ⟨by rw [hZ.out], ?_⟩
    repeat' (first | with_reducible exact B3 | with_reducible refine Below.setCell ?_ (by simp <;> omega) _ | with_reducible refine Below.drew ?_)
  have q5 : (p == p2) = true := by have := beq_iff_eq.1 q4; simp; omega
  have q6 : (p != p2) = false := by have := beq_iff_eq.1 q4; simp; omega
  have hZ := hY.out.2 (by rw [hR.out, q1, q4]; rfl)
  clear hY
  replace hZ : Hid _ := hZ
  obtain ⟨⟨cp0, cp1, cp2, cp3, cp4, cp5, cp6, cp7, cp8, cp9, cp10⟩, cpf⟩ := P3
  obtain ⟨cv0, cv1, cv2, cv3⟩ := V3
  obtain ⟨⟨cq0, cq1, cq2, cq3, cq4, cq5, cq6, cq7, cq8, cq9, cq10⟩, cqf⟩ := Q3
  go_wp2
  refine bodyPost_ret (v := .agg #[.bool true, .bool true, .int .i64 r2, .int .i64 c2, .int .i64 b2, .int .i64 p2, .int .i64 k, .int .i64 3, .int .i64 ro, .int .i64 wa, .bool op]) (by simp [results, Tryz.results182, go_sem, *]) rfl ⟨by rw [hZ.out], ?_⟩
  repeat' (first | with_reducible exact B3 | with_reducible refine Below.setCell ?_ (by simp <;> omega) _ | with_reducible refine Below.drew ?_)

end Go.Proofs.YtnpiljegdiconaaGreat
namespace Go.Proofs.YtnpiljegdiconaaGreat
open Go.ChangeShapes Go.WideShapes Go.ChangeAt Go.RowKit
open Go.ChangeMaps (open_string shut_string)
set_option linter.unusedVariables false
set_option maxRecDepth 100000

set_option maxHeartbeats 8000000 in
theorem inSC (id : Int) (cap : Nat) (L : List Pt) (k : Nat) (r c b p h : Int) (base g : Nat) (w : World) (hr : FOwn ptEnc 11 109 base w (.slice (some ⟨g, 0, none⟩) L.length cap) L) (hl : L.length ≤ 4) (hqL : k < L.length) :
    Calls Tryz.prog 136 #[.agg #[.int .i64 id, .slice (some ⟨g, 0, none⟩) L.length cap], .agg #[.int .i64 1, .int .i64 (k : Int), .int .i64 r, .int .i64 c, .int .i64 b, .int .i64 p, .int .i64 h, .bool false]] w fun e w' => ∃ ad' cap', e = .returned (.agg #[.int .i64 id, .slice ad' (decideR id (L.set k (claimR (L.getD k Pt.nil) r c b p h))).length cap']) ∧ FOwn ptEnc 11 109 base w' (.slice ad' (decideR id (L.set k (claimR (L.getD k Pt.nil) r c b p h))).length cap') (decideR id (L.set k (claimR (L.getD k Pt.nil) r c b p h))) ∧ (∀ g_, (Value.slice ad' (decideR id (L.set k (claimR (L.getD k Pt.nil) r c b p h))).length cap').ownBlock = some g_ → g_ = g ∨ w.heap.size ≤ g_) ∧ Bar g w.heap.size w w' ∧ Below base w w' := by
  have hgb := hr.lt g rfl
  obtain ⟨y, hy⟩ : ∃ y, y = ((w.alloc (Obj.cells #[.int .i64 id, .slice (some ⟨g, 0, none⟩) L.length cap] 56)).alloc (Obj.cells #[.int .i64 1, .int .i64 (k : Int), .int .i64 r, .int .i64 c, .int .i64 b, .int .i64 p, .int .i64 h, .bool false] 105)).alloc (Obj.cells #[.int .i64 0, .slice none 0 0] 56) := ⟨_, rfl⟩
  have B0 : Below w.heap.size w y := by rw [hy]; exact (((Below.refl _ _).alloc (Nat.le_refl _) _).alloc (by simp) _).alloc (by simp; omega) _
  have A0 : BrAt y w.heap.size id (.slice (some ⟨g, 0, none⟩) L.length cap) := by rw [hy]; constructor <;> simp [go_sem]
  have X0 : InAt y (w.heap.size + 1) ⟨1, (k : Int), r, c, b, p, h, false⟩ := by rw [hy]; constructor <;> simp [go_sem]
  have R0 : BBox y (w.heap.size + 1 + 1) 0 (.slice none 0 0) := by rw [hy]; refine ⟨?_, fun i => ?_⟩; constructor <;> simp [go_sem]; simp [go_sem]
  have S0 := R0.lt
  have o0 := hr.later B0
  have C0 : Below base w y := B0.mono (by omega)
  obtain ⟨D, hD⟩ : ∃ D, D = decideR id (L.set k (claimR (L.getD k Pt.nil) r c b p h)) := ⟨_, rfl⟩
  rw [← hD]
  replace hD : Hid _ := hD
  obtain ⟨hg1, hg2⟩ := hgb
  clear hr
  go_enter Tryz.func136, Tryz.ntmps136
  go_upto_region 3 with fail
  rw [← hy]
  clear hy
  obtain ⟨hp, hhp⟩ : ∃ v, L.getD k Pt.nil = v := ⟨_, rfl⟩
  obtain ⟨z, hz⟩ : ∃ z, claimR hp r c b p h = z := ⟨_, rfl⟩
  have hz2 : Hid (z = (claimR (L.getD k Pt.nil) r c b p h)) := by unfold Hid; rw [hhp, hz]
  replace hz : Hid _ := hz
  replace hhp : Hid _ := hhp
  refine wp_region_held (S := fun Y => Bar g y.heap.size y Y) (by kernel_rfl) ?_
  change wpAnyH _ _ _ _ _ _ _ _ (World.drew _)
  have hb0 : Below y.heap.size y y.drew := (Below.refl _ _).drew
  obtain ⟨u0, hy0⟩ : ∃ y_, y_ = y.drew := ⟨_, rfl⟩
  rw [← hy0] at hb0 ⊢
  clear hy0
  have hS0 : Bar g y.heap.size y u0 := Bar.of hb0
  refine takeW 0 10 (.pointer (some ⟨w.heap.size, 1, none⟩)) rfl rfl (by kernel_rfl) (by kernel_rfl) (by kernel_rfl) (fun _ _ _ h => h) (by kernel_rfl) (by (intro w hSw; go_simp)) (by assumption) ?_
  simp only [List.set_cons_zero, List.set_cons_succ]
  refine takeW 1 11 (.slice (some ⟨g, 0, none⟩) L.length cap) rfl rfl (by kernel_rfl) (by kernel_rfl) (by kernel_rfl) (fun _ _ _ h => h) (by kernel_rfl) (by (intro Y hSw; obtain ⟨X0_, X1_⟩ := A0.bar hSw A0.lt (by omega); go_simp)) (by assumption) ?_
  simp only [List.set_cons_zero, List.set_cons_succ]
  refine takeW 2 12 (.pointer (some ⟨w.heap.size + 1, 1, none⟩)) rfl rfl (by kernel_rfl) (by kernel_rfl) (by kernel_rfl) (fun _ _ _ h => h) (by kernel_rfl) (by (intro w hSw; go_simp)) (by assumption) ?_
  simp only [List.set_cons_zero, List.set_cons_succ]
  refine takeW 3 13 (.int .i64 (k : Int)) rfl rfl (by kernel_rfl) (by kernel_rfl) (by kernel_rfl) (fun _ _ _ h => h) (by kernel_rfl) (by (intro Y hSw; obtain ⟨Z0, Z1, Z2, Z3, Z4, Z5, Z6, Z7⟩ := X0.keep (hSw.block _ X0.lt (by omega)); go_simp)) (by assumption) ?_
  simp only [List.set_cons_zero, List.set_cons_succ]
  refine takeW 4 14 (.pointer (some ⟨w.heap.size, 1, none⟩)) rfl rfl (by kernel_rfl) (by kernel_rfl) (by kernel_rfl) (fun _ _ _ h => h) (by kernel_rfl) (by (intro w hSw; go_simp)) (by assumption) ?_
  simp only [List.set_cons_zero, List.set_cons_succ]
  refine takeW 5 15 (.slice (some ⟨g, 0, none⟩) L.length cap) rfl rfl (by kernel_rfl) (by kernel_rfl) (by kernel_rfl) (fun _ _ _ h => h) (by kernel_rfl) (by (intro Y hSw; obtain ⟨X0_, X1_⟩ := A0.bar hSw A0.lt (by omega); go_simp)) (by assumption) ?_
  simp only [List.set_cons_zero, List.set_cons_succ]
  refine takeW 6 16 (.pointer (some ⟨w.heap.size + 1, 1, none⟩)) rfl rfl (by kernel_rfl) (by kernel_rfl) (by kernel_rfl) (fun _ _ _ h => h) (by kernel_rfl) (by (intro w hSw; go_simp)) (by assumption) ?_
  simp only [List.set_cons_zero, List.set_cons_succ]
  refine takeW 7 17 (.int .i64 (k : Int)) rfl rfl (by kernel_rfl) (by kernel_rfl) (by kernel_rfl) (fun _ _ _ h => h) (by kernel_rfl) (by (intro Y hSw; obtain ⟨Z0, Z1, Z2, Z3, Z4, Z5, Z6, Z7⟩ := X0.keep (hSw.block _ X0.lt (by omega)); go_simp)) (by assumption) ?_
  simp only [List.set_cons_zero, List.set_cons_succ]
  refine takeW 8 18 (.pointer (some ⟨g, k * 11, none⟩)) rfl rfl (by kernel_rfl) (by kernel_rfl) (by kernel_rfl) (fun _ _ _ h => h) (by kernel_rfl) (by (intro Y hSw; go_simp; try omega)) (by assumption) ?_
  simp only [List.set_cons_zero, List.set_cons_succ]
  refine takeW 10 20 (.pointer (some ⟨w.heap.size + 1, 2, none⟩)) rfl rfl (by kernel_rfl) (by kernel_rfl) (by kernel_rfl) (fun _ _ _ h => h) (by kernel_rfl) (by (intro w hSw; go_simp)) (by assumption) ?_
  simp only [List.set_cons_zero, List.set_cons_succ]
  refine takeW 11 21 (.agg #[.int .i64 r, .int .i64 c, .int .i64 b, .int .i64 p]) rfl rfl (by kernel_rfl) (by kernel_rfl) (by kernel_rfl) (fun _ _ _ h => h) (by kernel_rfl) (by (intro Y hSw; obtain ⟨Z0, Z1, Z2, Z3, Z4, Z5, Z6, Z7⟩ := X0.keep (hSw.block _ X0.lt (by omega)); go_simp)) (by assumption) ?_
  simp only [List.set_cons_zero, List.set_cons_succ]
  refine takeW 12 22 (.pointer (some ⟨w.heap.size + 1, 6, none⟩)) rfl rfl (by kernel_rfl) (by kernel_rfl) (by kernel_rfl) (fun _ _ _ h => h) (by kernel_rfl) (by (intro w hSw; go_simp)) (by assumption) ?_
  simp only [List.set_cons_zero, List.set_cons_succ]
  refine takeW 13 23 (.int .i64 h) rfl rfl (by kernel_rfl) (by kernel_rfl) (by kernel_rfl) (fun _ _ _ h => h) (by kernel_rfl) (by (intro Y hSw; obtain ⟨Z0, Z1, Z2, Z3, Z4, Z5, Z6, Z7⟩ := X0.keep (hSw.block _ X0.lt (by omega)); go_simp)) (by assumption) ?_
  simp only [List.set_cons_zero, List.set_cons_succ]
  refine wpAnyH_all (rs := [9]) (by kernel_rfl) (by simp) ?_
  intro i hi; obtain rfl : i = 9 := by simpa using hi
  refine wpOp_step rfl (fun K hK => ?_)
  rw [if_pos (by kernel_rfl)]
  obtain ⟨t0, t1, t2, t3, t4, t5, t6, t7, t8, t9, t10⟩ : PtAtO u0 g (k * 11) hp := by rw [← hhp.out]; exact ptAtO_of ((o0.later hb0).cell ptEnc_len Pt.nil hqL)
  go_simp
  clear t0 t1 t2 t3 t4 t5 t6 t7 t8 t9 t10
  refine hK _ _ ⟨hS0, ?_⟩
  clear hK K hi
  refine wpAnyH_all (rs := [14]) (by kernel_rfl) (by simp) ?_
  intro i hi; obtain rfl : i = 14 := by simpa using hi
  refine wpOp_step rfl (fun K hK => ?_)
  rw [if_pos (by kernel_rfl)]
  go_simp
  go_at_call 182
  refine (claimS hp r c b p h u0).mono ?_
  rintro e u1 ⟨rfl, kq⟩
  have hb1 : Below y.heap.size y u1 := hb0.trans (kq.mono hb0.size)
  clear kq
  rw [hz.out]
  have hS1 : Bar g y.heap.size y u1 := Bar.of hb1
  refine hK _ _ ⟨Bar.of hb1, ?_⟩
  clear hK K hi
  refine takeW 15 25 (.pointer (some ⟨g, k * 11, none⟩)) rfl rfl (by kernel_rfl) (by kernel_rfl) (by kernel_rfl) (fun _ _ _ h => h) (by kernel_rfl) (by (intro Y hSw; go_simp; try omega)) (by assumption) ?_
  simp only [List.set_cons_zero, List.set_cons_succ]
  refine wpAnyH_all (rs := [16]) (by kernel_rfl) (by simp) ?_
  intro i hi; obtain rfl : i = 16 := by simpa using hi
  refine wpOp_step rfl (fun K hK => ?_)
  rw [if_pos (by kernel_rfl)]
  have MU : FOwn ptEnc 11 109 base u1 (.slice (some ⟨g, 0, none⟩) L.length cap) L := o0.later hb1
  obtain ⟨t0, t1, t2, t3, t4, t5, t6, t7, t8, t9, t10⟩ : PtAtO u1 g (k * 11) (L.getD k Pt.nil) := ptAtO_of (MU.cell ptEnc_len Pt.nil hqL)
  have ff := MU.frozen
  have f0 := ff (k * 11)
  have f1 := ff (k * 11 + 1)
  have f2 := ff (k * 11 + 2)
  have f3 := ff (k * 11 + 3)
  have f4 := ff (k * 11 + 4)
  have f5 := ff (k * 11 + 5)
  have f6 := ff (k * 11 + 6)
  have f7 := ff (k * 11 + 7)
  have f8 := ff (k * 11 + 8)
  have f9 := ff (k * 11 + 9)
  have f10 := ff (k * 11 + 10)
  have MS := MU.set ptEnc_len (by omega) (i := k) hqL z
  rw [ptPut] at MS
  have SB := Bar.putAll (o := k * 11) (ptEnc z) (Bar.of (g := g) hb1)
  rw [ptPut] at SB
  have BB := below_putAll (B := base) hg1 (ptEnc z) (k * 11) (C0.trans (hb1.mono (by omega)))
  rw [ptPut] at BB
  clear ff MU
  obtain ⟨uf, huf⟩ : ∃ y_, y_ = (((((((((((u1.setCell ⟨g, k * 11, none⟩ (.bool z.up)).setCell ⟨g, k * 11 + 1, none⟩ (.bool z.has)).setCell ⟨g, k * 11 + 2, none⟩ (.int .i64 z.r)).setCell ⟨g, k * 11 + 3, none⟩ (.int .i64 z.c)).setCell ⟨g, k * 11 + 4, none⟩ (.int .i64 z.b)).setCell ⟨g, k * 11 + 5, none⟩ (.int .i64 z.p)).setCell ⟨g, k * 11 + 6, none⟩ (.int .i64 z.h)).setCell ⟨g, k * 11 + 7, none⟩ (.int .i64 z.l)).setCell ⟨g, k * 11 + 8, none⟩ (.int .i64 z.ro)).setCell ⟨g, k * 11 + 9, none⟩ (.int .i64 z.wa)).setCell ⟨g, k * 11 + 10, none⟩ (.bool z.op)) := ⟨_, rfl⟩
  rw [← huf] at MS SB BB
  go_simp
  rw [← huf]
  clear huf t0 f0 t1 f1 t2 f2 t3 f3 t4 f4 t5 f5 t6 f6 t7 f7 t8 f8 t9 f9 t10 f10
  refine hK _ _ ⟨SB, ?_⟩
  clear hK K hi
  refine wpAnyH_done (by kernel_rfl) ?_ _
  rw [hz2.out] at MS
  have A9 := A0.bar SB A0.lt (by omega)
  have R9 := R0.keep (SB.block _ R0.lt (by omega))
  obtain ⟨Mv, hMv⟩ : ∃ v, v = L.set k (claimR (L.getD k Pt.nil) r c b p h) := ⟨_, rfl⟩
  rw [← hMv] at MS
  have hMl : Mv.length = L.length := by rw [hMv]; simp
  have hDM : Hid (D = decideR id Mv) := by unfold Hid; rw [hD.out, hMv]
  replace hMl : Hid _ := hMl
  clear hMv
  have hdc := decideS id (some ⟨g, 0, none⟩) cap Mv uf (by have := MS; unfold FOwn at this; exact (show FOwn ptEnc 11 109 base uf (.slice (some ⟨g, 0, none⟩) L.length cap) Mv from this).view.2) (by rw [hMl.out]; omega) (fun e => by cases e)
  rw [hMl.out] at hdc
  obtain ⟨a0, a1⟩ := A9
  go_wp2_with fail
  go_at_call 184
  clear a0 a1
  refine hdc.mono ?_
  rintro e w9 ⟨aD, cD, rfl, oD, k9⟩
  clear hdc
  rw [← hDM.out] at oD ⊢
  have z9 := BB.size
  have S9 : w.heap.size + 1 + 1 < uf.heap.size := R9.lt
  have RX := R9.below k9 R9.lt
  have BX := BB.trans (k9.mono (by omega))
  have RP := RX.put id (.slice aD D.length cD)
  obtain ⟨⟨r0, r1⟩, rf⟩ := RX
  have BZ := (BX.setCell (p := ⟨w.heap.size + 1 + 1, 0, none⟩) (by show base ≤ w.heap.size + 1 + 1; omega) (.int .i64 id)).setCell (p := ⟨w.heap.size + 1 + 1, 1, none⟩) (by show base ≤ w.heap.size + 1 + 1; omega) (.slice aD D.length cD)
  have OZ : FOwn ptEnc 11 109 base ((w9.setCell ⟨w.heap.size + 1 + 1, 0, none⟩ (.int .i64 id)).setCell ⟨w.heap.size + 1 + 1, 1, none⟩ (.slice aD D.length cD)) (.slice aD D.length cD) D := (oD.base (by omega)).keep fun g' e => by
    have := (oD.lt g' e).1
    rw [Below.heap_setCell _ _ _ _ (by show g' ≠ w.heap.size + 1 + 1; omega), Below.heap_setCell _ _ _ _ (by show g' ≠ w.heap.size + 1 + 1; omega)]
  have b0z := B0.size
  have sbz := SB.size
  have WZ : Bar g w.heap.size w ((w9.setCell ⟨w.heap.size + 1 + 1, 0, none⟩ (.int .i64 id)).setCell ⟨w.heap.size + 1 + 1, 1, none⟩ (.slice aD D.length cD)) := ⟨BZ.size, fun q hq hne => by
    rw [Below.heap_setCell _ _ _ _ (by show q ≠ w.heap.size + 1 + 1; omega), Below.heap_setCell _ _ _ _ (by show q ≠ w.heap.size + 1 + 1; omega)]
    exact (k9.block q (by omega)).trans ((SB.block q (by omega) hne).trans (B0.block q hq))⟩
  have JZ : ∀ g_, (Value.slice aD D.length cD).ownBlock = some g_ → g_ = g ∨ w.heap.size ≤ g_ := fun g_ e => .inr (by have := (oD.lt g_ e).1; omega)
  obtain ⟨⟨p0, p1⟩, _⟩ := RP
  go_wp2
  refine bodyPost_ret (v := .agg #[.int .i64 id, .slice aD D.length cD]) (by simp [results, Tryz.results136, go_sem, *]) rfl ⟨_, _, rfl, OZ, JZ, WZ, BZ⟩

end Go.Proofs.YtnpiljegdiconaaGreat
namespace Go.Proofs.YtnpiljegdiconaaGreat
open Go.ChangeShapes Go.WideShapes Go.ChangeAt Go.RowKit
open Go.ChangeMaps (open_string shut_string)
set_option linter.unusedVariables false
set_option maxRecDepth 100000

set_option maxHeartbeats 4000000 in
theorem tickedS (x : Pt) (w : World) (hok : pOk x = true) : Calls Tryz.prog 183 #[.agg #[.bool x.up, .bool x.has, .int .i64 x.r, .int .i64 x.c, .int .i64 x.b, .int .i64 x.p, .int .i64 x.h, .int .i64 x.l, .int .i64 x.ro, .int .i64 x.wa, .bool x.op]] w fun e w' => e = .returned (.agg #[.bool (tickP x).up, .bool (tickP x).has, .int .i64 (tickP x).r, .int .i64 (tickP x).c, .int .i64 (tickP x).b, .int .i64 (tickP x).p, .int .i64 (tickP x).h, .int .i64 (tickP x).l, .int .i64 (tickP x).ro, .int .i64 (tickP x).wa, .bool (tickP x).op]) ∧ Below w.heap.size w w' := by
  obtain ⟨y, hy⟩ : ∃ y, y = (w.alloc (Obj.cells #[.bool x.up, .bool x.has, .int .i64 x.r, .int .i64 x.c, .int .i64 x.b, .int .i64 x.p, .int .i64 x.h, .int .i64 x.l, .int .i64 x.ro, .int .i64 x.wa, .bool x.op] 109)).alloc (Obj.cells #[.bool false, .bool false, .int .i64 0, .int .i64 0, .int .i64 0, .int .i64 0, .int .i64 0, .int .i64 0, .int .i64 0, .int .i64 0, .bool false] 109) := ⟨_, rfl⟩
  have B0 : Below w.heap.size w y := by rw [hy]; exact ((Below.refl _ _).alloc (Nat.le_refl _) _).alloc (by simp) _
  have P0 : PBox y w.heap.size x := by rw [hy]; refine ⟨?_, fun i => ?_⟩; constructor <;> simp [go_sem]; simp [go_sem]
  have R0 : PBox y (w.heap.size + 1) Pt.nil := by rw [hy]; refine ⟨?_, fun i => ?_⟩; constructor <;> simp [go_sem, Pt.nil]; simp [go_sem]
  have S0 := R0.lt
  obtain ⟨t, ht⟩ : ∃ t, tickP x = t := ⟨_, rfl⟩
  rw [ht]
  obtain ⟨z, hz⟩ : ∃ z, fadeR x = z := ⟨_, rfl⟩
  have hti : Hid (t = if (z.ro = 1 ∨ z.ro = 2) ∧ 0 < z.wa then { z with wa := z.wa - 1, op := (z.wa - 1 == 0) } else z) := by unfold Hid; rw [← ht, tick_imp hok, hz]
  have hw4 : z.wa ≤ 4 ∧ 0 ≤ z.wa := by
    have := (pOk_parts.1 hok).2.2.2.1
    have e := (fadeR_keeps x).2.2.1
    rw [hz] at e
    omega
  have htr : Hid (t = { z with wa := tickW z, op := raOp z.ro (tickW z) }) := by unfold Hid; rw [← ht, ← hz]; rfl
  obtain ⟨hw4, hw0⟩ := hw4
  replace hz : Hid _ := hz
  clear ht hok
  go_enter Tryz.func183, Tryz.ntmps183
  go_wp2_with fail
  go_at_call 211
  rw [← hy]
  clear hy
  refine (fadeS x y).mono ?_
  rintro e w1 ⟨rfl, k1⟩
  rw [hz.out]
  have B1 := B0.trans (k1.mono B0.size)
  have P1 := P0.below k1 (by omega)
  have R1 := R0.below k1 (by omega)
  have S1 := R1.lt
  clear hz k1 P0 R0 B0 S0
  obtain ⟨y2, hy2⟩ : ∃ y_, y_ = (((((((((((w1.setCell ⟨w.heap.size, 0, none⟩ (.bool z.up)).setCell ⟨w.heap.size, 1, none⟩ (.bool z.has)).setCell ⟨w.heap.size, 2, none⟩ (.int .i64 z.r)).setCell ⟨w.heap.size, 3, none⟩ (.int .i64 z.c)).setCell ⟨w.heap.size, 4, none⟩ (.int .i64 z.b)).setCell ⟨w.heap.size, 5, none⟩ (.int .i64 z.p)).setCell ⟨w.heap.size, 6, none⟩ (.int .i64 z.h)).setCell ⟨w.heap.size, 7, none⟩ (.int .i64 z.l)).setCell ⟨w.heap.size, 8, none⟩ (.int .i64 z.ro)).setCell ⟨w.heap.size, 9, none⟩ (.int .i64 z.wa)).setCell ⟨w.heap.size, 10, none⟩ (.bool z.op)) := ⟨_, rfl⟩
  have P2 : PBox y2 w.heap.size z := by rw [hy2]; exact (((((((((((P1.set0 z.up).set1 z.has).set2 z.r).set3 z.c).set4 z.b).set5 z.p).set6 z.h).set7 z.l).set8 z.ro).set9 z.wa).set10 z.op)
  have R2 : PBox y2 (w.heap.size + 1) Pt.nil := by rw [hy2]; exact (((((((((((R1.other (by omega)).other (by omega)).other (by omega)).other (by omega)).other (by omega)).other (by omega)).other (by omega)).other (by omega)).other (by omega)).other (by omega)).other (by omega))
  have B2 : Below w.heap.size w y2 := by rw [hy2]; exact (((((((((((B1.setCell (p := ⟨w.heap.size, 0, none⟩) (by show _ ≤ w.heap.size; omega) (.bool z.up)).setCell (p := ⟨w.heap.size, 1, none⟩) (by show _ ≤ w.heap.size; omega) (.bool z.has)).setCell (p := ⟨w.heap.size, 2, none⟩) (by show _ ≤ w.heap.size; omega) (.int .i64 z.r)).setCell (p := ⟨w.heap.size, 3, none⟩) (by show _ ≤ w.heap.size; omega) (.int .i64 z.c)).setCell (p := ⟨w.heap.size, 4, none⟩) (by show _ ≤ w.heap.size; omega) (.int .i64 z.b)).setCell (p := ⟨w.heap.size, 5, none⟩) (by show _ ≤ w.heap.size; omega) (.int .i64 z.p)).setCell (p := ⟨w.heap.size, 6, none⟩) (by show _ ≤ w.heap.size; omega) (.int .i64 z.h)).setCell (p := ⟨w.heap.size, 7, none⟩) (by show _ ≤ w.heap.size; omega) (.int .i64 z.l)).setCell (p := ⟨w.heap.size, 8, none⟩) (by show _ ≤ w.heap.size; omega) (.int .i64 z.ro)).setCell (p := ⟨w.heap.size, 9, none⟩) (by show _ ≤ w.heap.size; omega) (.int .i64 z.wa)).setCell (p := ⟨w.heap.size, 10, none⟩) (by show _ ≤ w.heap.size; omega) (.bool z.op))
  have P1' := P1
  obtain ⟨⟨p0, p1, p2, p3, p4, p5, p6, p7, p8, p9, p10⟩, pf⟩ := P1
  go_upto_region 2 with fail
  rw [← hy2]
  clear hy2 p0 p1 p2 p3 p4 p5 p6 p7 p8 p9 p10 pf P1' R1 B1
  obtain ⟨⟨p0, p1, p2, p3, p4, p5, p6, p7, p8, p9, p10⟩, pf⟩ := P2
  have P2 : PBox y2 w.heap.size z := ⟨⟨p0, p1, p2, p3, p4, p5, p6, p7, p8, p9, p10⟩, pf⟩
  by_cases h1 : z.ro = 1
  · have d1 : (z.ro == 1) = true := by simpa using h1
    by_cases h0 : 0 < z.wa
    · have d0 : decide (0 < z.wa) = true := decide_eq_true h0
      have hcc : Hid ((z.ro = 1 ∨ z.ro = 2) ∧ 0 < z.wa) := ⟨.inl h1, h0⟩
      replace h1 : Hid _ := h1
      have P3 := P2.set9 (z.wa - 1)
      have B3 := B2.setCell (p := ⟨w.heap.size, 9, none⟩) (Nat.le_refl w.heap.size) (.int .i64 (z.wa - 1))
      have R3 := R2.other (q' := w.heap.size) (i := 9) (v := .int .i64 (z.wa - 1)) (by omega)
      obtain ⟨y3, hy3⟩ : ∃ y_, y_ = y2.setCell ⟨w.heap.size, 9, none⟩ (.int .i64 (z.wa - 1)) := ⟨_, rfl⟩
      rw [← hy3] at P3 B3 R3
      go_upto_region 4 with fail
      rw [← hy3]
      clear hy3 p0 p1 p2 p3 p4 p5 p6 p7 p8 p9 p10 pf P2 B2 R2
      obtain ⟨v, hv⟩ : ∃ v, v = ({ z with wa := z.wa - 1 } : Pt) := ⟨_, rfl⟩
      have P3 : PBox y3 w.heap.size v := by rw [hv]; exact P3
      replace hv : Hid _ := hv
      obtain ⟨⟨p0, p1, p2, p3, p4, p5, p6, p7, p8, p9, p10⟩, pf⟩ := P3
      go_wp2_with fail
      go_at_call 212
      refine (openS v y3).mono ?_
      rintro e w4 ⟨rfl, k4⟩
      have B4 := B3.trans (k4.mono B3.size)
      have S4 : w.heap.size + 1 < y3.heap.size := R3.lt
      have R4 := R3.below k4 S4
      obtain ⟨o, ho⟩ : ∃ o : Pt, o = { v with op := raOp v.ro v.wa } := ⟨_, rfl⟩
      have ho0 : Value.agg #[.bool o.up, .bool o.has, .int .i64 o.r, .int .i64 o.c, .int .i64 o.b, .int .i64 o.p, .int .i64 o.h, .int .i64 o.l, .int .i64 o.ro, .int .i64 o.wa, .bool o.op] = Value.agg #[.bool v.up, .bool v.has, .int .i64 v.r, .int .i64 v.c, .int .i64 v.b, .int .i64 v.p, .int .i64 v.h, .int .i64 v.l, .int .i64 v.ro, .int .i64 v.wa, .bool (raOp v.ro v.wa)] := by rw [ho]
      rw [← ho0]
      have hT : Hid (t = o) := by unfold Hid; rw [htr.out, ho]; rw [hv.out]; unfold tickW; rw [if_pos hcc.out]
      clear ho ho0 k4 p0 p1 p2 p3 p4 p5 p6 p7 p8 p9 p10 pf
      have RZ := (((((((((((R4.set0 o.up).set1 o.has).set2 o.r).set3 o.c).set4 o.b).set5 o.p).set6 o.h).set7 o.l).set8 o.ro).set9 o.wa).set10 o.op)
      have BZ := (((((((((((B4.setCell (p := ⟨w.heap.size + 1, 0, none⟩) (by show _ ≤ w.heap.size + 1; omega) (.bool o.up)).setCell (p := ⟨w.heap.size + 1, 1, none⟩) (by show _ ≤ w.heap.size + 1; omega) (.bool o.has)).setCell (p := ⟨w.heap.size + 1, 2, none⟩) (by show _ ≤ w.heap.size + 1; omega) (.int .i64 o.r)).setCell (p := ⟨w.heap.size + 1, 3, none⟩) (by show _ ≤ w.heap.size + 1; omega) (.int .i64 o.c)).setCell (p := ⟨w.heap.size + 1, 4, none⟩) (by show _ ≤ w.heap.size + 1; omega) (.int .i64 o.b)).setCell (p := ⟨w.heap.size + 1, 5, none⟩) (by show _ ≤ w.heap.size + 1; omega) (.int .i64 o.p)).setCell (p := ⟨w.heap.size + 1, 6, none⟩) (by show _ ≤ w.heap.size + 1; omega) (.int .i64 o.h)).setCell (p := ⟨w.heap.size + 1, 7, none⟩) (by show _ ≤ w.heap.size + 1; omega) (.int .i64 o.l)).setCell (p := ⟨w.heap.size + 1, 8, none⟩) (by show _ ≤ w.heap.size + 1; omega) (.int .i64 o.ro)).setCell (p := ⟨w.heap.size + 1, 9, none⟩) (by show _ ≤ w.heap.size + 1; omega) (.int .i64 o.wa)).setCell (p := ⟨w.heap.size + 1, 10, none⟩) (by show _ ≤ w.heap.size + 1; omega) (.bool o.op))
      obtain ⟨⟨z0, z1, z2, z3, z4, z5, z6, z7, z8, z9, z10⟩, _⟩ := RZ
      obtain ⟨⟨r0, r1, r2, r3, r4, r5, r6, r7, r8, r9, r10⟩, rf⟩ := R4
      go_wp2
      refine bodyPost_ret (v := .agg #[.bool o.up, .bool o.has, .int .i64 o.r, .int .i64 o.c, .int .i64 o.b, .int .i64 o.p, .int .i64 o.h, .int .i64 o.l, .int .i64 o.ro, .int .i64 o.wa, .bool o.op]) (by simp [results, Tryz.results183, go_sem, *]) rfl ⟨by rw [hT.out], BZ⟩
    · have d0 : decide (0 < z.wa) = false := decide_eq_false h0
      have hcc : Hid (¬ ((z.ro = 1 ∨ z.ro = 2) ∧ 0 < z.wa)) := fun e => h0 e.2
      replace h1 : Hid _ := h1
      replace h0 : Hid _ := h0
      go_upto_region 4 with fail
      go_wp2_with fail
      go_at_call 212
      refine (openS z y2).mono ?_
      rintro e w4 ⟨rfl, k4⟩
      have B4 := B2.trans (k4.mono B2.size)
      have S4 : w.heap.size + 1 < y2.heap.size := R2.lt
      have R4 := R2.below k4 S4
      obtain ⟨o, ho⟩ : ∃ o : Pt, o = { z with op := raOp z.ro z.wa } := ⟨_, rfl⟩
      have ho0 : Value.agg #[.bool o.up, .bool o.has, .int .i64 o.r, .int .i64 o.c, .int .i64 o.b, .int .i64 o.p, .int .i64 o.h, .int .i64 o.l, .int .i64 o.ro, .int .i64 o.wa, .bool o.op] = Value.agg #[.bool z.up, .bool z.has, .int .i64 z.r, .int .i64 z.c, .int .i64 z.b, .int .i64 z.p, .int .i64 z.h, .int .i64 z.l, .int .i64 z.ro, .int .i64 z.wa, .bool (raOp z.ro z.wa)] := by rw [ho]
      rw [← ho0]
      have hT : Hid (t = o) := by unfold Hid; rw [htr.out, ho]; unfold tickW; rw [if_neg hcc.out]
      clear ho ho0 k4 p0 p1 p2 p3 p4 p5 p6 p7 p8 p9 p10 pf
      have RZ := (((((((((((R4.set0 o.up).set1 o.has).set2 o.r).set3 o.c).set4 o.b).set5 o.p).set6 o.h).set7 o.l).set8 o.ro).set9 o.wa).set10 o.op)
      have BZ := (((((((((((B4.setCell (p := ⟨w.heap.size + 1, 0, none⟩) (by show _ ≤ w.heap.size + 1; omega) (.bool o.up)).setCell (p := ⟨w.heap.size + 1, 1, none⟩) (by show _ ≤ w.heap.size + 1; omega) (.bool o.has)).setCell (p := ⟨w.heap.size + 1, 2, none⟩) (by show _ ≤ w.heap.size + 1; omega) (.int .i64 o.r)).setCell (p := ⟨w.heap.size + 1, 3, none⟩) (by show _ ≤ w.heap.size + 1; omega) (.int .i64 o.c)).setCell (p := ⟨w.heap.size + 1, 4, none⟩) (by show _ ≤ w.heap.size + 1; omega) (.int .i64 o.b)).setCell (p := ⟨w.heap.size + 1, 5, none⟩) (by show _ ≤ w.heap.size + 1; omega) (.int .i64 o.p)).setCell (p := ⟨w.heap.size + 1, 6, none⟩) (by show _ ≤ w.heap.size + 1; omega) (.int .i64 o.h)).setCell (p := ⟨w.heap.size + 1, 7, none⟩) (by show _ ≤ w.heap.size + 1; omega) (.int .i64 o.l)).setCell (p := ⟨w.heap.size + 1, 8, none⟩) (by show _ ≤ w.heap.size + 1; omega) (.int .i64 o.ro)).setCell (p := ⟨w.heap.size + 1, 9, none⟩) (by show _ ≤ w.heap.size + 1; omega) (.int .i64 o.wa)).setCell (p := ⟨w.heap.size + 1, 10, none⟩) (by show _ ≤ w.heap.size + 1; omega) (.bool o.op))
      obtain ⟨⟨z0, z1, z2, z3, z4, z5, z6, z7, z8, z9, z10⟩, _⟩ := RZ
      obtain ⟨⟨r0, r1, r2, r3, r4, r5, r6, r7, r8, r9, r10⟩, rf⟩ := R4
      go_wp2
      refine bodyPost_ret (v := .agg #[.bool o.up, .bool o.has, .int .i64 o.r, .int .i64 o.c, .int .i64 o.b, .int .i64 o.p, .int .i64 o.h, .int .i64 o.l, .int .i64 o.ro, .int .i64 o.wa, .bool o.op]) (by simp [results, Tryz.results183, go_sem, *]) rfl ⟨by rw [hT.out], BZ⟩
  have d1 : (z.ro == 1) = false := by simpa using h1
  by_cases h2 : z.ro = 2
  · have d2 : (z.ro == 2) = true := by simpa using h2
    by_cases h0 : 0 < z.wa
    · have d0 : decide (0 < z.wa) = true := decide_eq_true h0
      have hcc : Hid ((z.ro = 1 ∨ z.ro = 2) ∧ 0 < z.wa) := ⟨.inr h2, h0⟩
      replace h2 : Hid _ := h2
      replace h1 : Hid _ := h1
      have P3 := P2.set9 (z.wa - 1)
      have B3 := B2.setCell (p := ⟨w.heap.size, 9, none⟩) (Nat.le_refl w.heap.size) (.int .i64 (z.wa - 1))
      have R3 := R2.other (q' := w.heap.size) (i := 9) (v := .int .i64 (z.wa - 1)) (by omega)
      obtain ⟨y3, hy3⟩ : ∃ y_, y_ = y2.setCell ⟨w.heap.size, 9, none⟩ (.int .i64 (z.wa - 1)) := ⟨_, rfl⟩
      rw [← hy3] at P3 B3 R3
      go_upto_region 4 with fail
      rw [← hy3]
      clear hy3 p0 p1 p2 p3 p4 p5 p6 p7 p8 p9 p10 pf P2 B2 R2
      obtain ⟨v, hv⟩ : ∃ v, v = ({ z with wa := z.wa - 1 } : Pt) := ⟨_, rfl⟩
      have P3 : PBox y3 w.heap.size v := by rw [hv]; exact P3
      replace hv : Hid _ := hv
      obtain ⟨⟨p0, p1, p2, p3, p4, p5, p6, p7, p8, p9, p10⟩, pf⟩ := P3
      go_wp2_with fail
      go_at_call 212
      refine (openS v y3).mono ?_
      rintro e w4 ⟨rfl, k4⟩
      have B4 := B3.trans (k4.mono B3.size)
      have S4 : w.heap.size + 1 < y3.heap.size := R3.lt
      have R4 := R3.below k4 S4
      obtain ⟨o, ho⟩ : ∃ o : Pt, o = { v with op := raOp v.ro v.wa } := ⟨_, rfl⟩
      have ho0 : Value.agg #[.bool o.up, .bool o.has, .int .i64 o.r, .int .i64 o.c, .int .i64 o.b, .int .i64 o.p, .int .i64 o.h, .int .i64 o.l, .int .i64 o.ro, .int .i64 o.wa, .bool o.op] = Value.agg #[.bool v.up, .bool v.has, .int .i64 v.r, .int .i64 v.c, .int .i64 v.b, .int .i64 v.p, .int .i64 v.h, .int .i64 v.l, .int .i64 v.ro, .int .i64 v.wa, .bool (raOp v.ro v.wa)] := by rw [ho]
      rw [← ho0]
      have hT : Hid (t = o) := by unfold Hid; rw [htr.out, ho]; rw [hv.out]; unfold tickW; rw [if_pos hcc.out]
      clear ho ho0 k4 p0 p1 p2 p3 p4 p5 p6 p7 p8 p9 p10 pf
      have RZ := (((((((((((R4.set0 o.up).set1 o.has).set2 o.r).set3 o.c).set4 o.b).set5 o.p).set6 o.h).set7 o.l).set8 o.ro).set9 o.wa).set10 o.op)
      have BZ := (((((((((((B4.setCell (p := ⟨w.heap.size + 1, 0, none⟩) (by show _ ≤ w.heap.size + 1; omega) (.bool o.up)).setCell (p := ⟨w.heap.size + 1, 1, none⟩) (by show _ ≤ w.heap.size + 1; omega) (.bool o.has)).setCell (p := ⟨w.heap.size + 1, 2, none⟩) (by show _ ≤ w.heap.size + 1; omega) (.int .i64 o.r)).setCell (p := ⟨w.heap.size + 1, 3, none⟩) (by show _ ≤ w.heap.size + 1; omega) (.int .i64 o.c)).setCell (p := ⟨w.heap.size + 1, 4, none⟩) (by show _ ≤ w.heap.size + 1; omega) (.int .i64 o.b)).setCell (p := ⟨w.heap.size + 1, 5, none⟩) (by show _ ≤ w.heap.size + 1; omega) (.int .i64 o.p)).setCell (p := ⟨w.heap.size + 1, 6, none⟩) (by show _ ≤ w.heap.size + 1; omega) (.int .i64 o.h)).setCell (p := ⟨w.heap.size + 1, 7, none⟩) (by show _ ≤ w.heap.size + 1; omega) (.int .i64 o.l)).setCell (p := ⟨w.heap.size + 1, 8, none⟩) (by show _ ≤ w.heap.size + 1; omega) (.int .i64 o.ro)).setCell (p := ⟨w.heap.size + 1, 9, none⟩) (by show _ ≤ w.heap.size + 1; omega) (.int .i64 o.wa)).setCell (p := ⟨w.heap.size + 1, 10, none⟩) (by show _ ≤ w.heap.size + 1; omega) (.bool o.op))
      obtain ⟨⟨z0, z1, z2, z3, z4, z5, z6, z7, z8, z9, z10⟩, _⟩ := RZ
      obtain ⟨⟨r0, r1, r2, r3, r4, r5, r6, r7, r8, r9, r10⟩, rf⟩ := R4
      go_wp2
      refine bodyPost_ret (v := .agg #[.bool o.up, .bool o.has, .int .i64 o.r, .int .i64 o.c, .int .i64 o.b, .int .i64 o.p, .int .i64 o.h, .int .i64 o.l, .int .i64 o.ro, .int .i64 o.wa, .bool o.op]) (by simp [results, Tryz.results183, go_sem, *]) rfl ⟨by rw [hT.out], BZ⟩
    · have d0 : decide (0 < z.wa) = false := decide_eq_false h0
      have hcc : Hid (¬ ((z.ro = 1 ∨ z.ro = 2) ∧ 0 < z.wa)) := fun e => h0 e.2
      replace h2 : Hid _ := h2
      replace h1 : Hid _ := h1
      replace h0 : Hid _ := h0
      go_upto_region 4 with fail
      go_wp2_with fail
      go_at_call 212
      refine (openS z y2).mono ?_
      rintro e w4 ⟨rfl, k4⟩
      have B4 := B2.trans (k4.mono B2.size)
      have S4 : w.heap.size + 1 < y2.heap.size := R2.lt
      have R4 := R2.below k4 S4
      obtain ⟨o, ho⟩ : ∃ o : Pt, o = { z with op := raOp z.ro z.wa } := ⟨_, rfl⟩
      have ho0 : Value.agg #[.bool o.up, .bool o.has, .int .i64 o.r, .int .i64 o.c, .int .i64 o.b, .int .i64 o.p, .int .i64 o.h, .int .i64 o.l, .int .i64 o.ro, .int .i64 o.wa, .bool o.op] = Value.agg #[.bool z.up, .bool z.has, .int .i64 z.r, .int .i64 z.c, .int .i64 z.b, .int .i64 z.p, .int .i64 z.h, .int .i64 z.l, .int .i64 z.ro, .int .i64 z.wa, .bool (raOp z.ro z.wa)] := by rw [ho]
      rw [← ho0]
      have hT : Hid (t = o) := by unfold Hid; rw [htr.out, ho]; unfold tickW; rw [if_neg hcc.out]
      clear ho ho0 k4 p0 p1 p2 p3 p4 p5 p6 p7 p8 p9 p10 pf
      have RZ := (((((((((((R4.set0 o.up).set1 o.has).set2 o.r).set3 o.c).set4 o.b).set5 o.p).set6 o.h).set7 o.l).set8 o.ro).set9 o.wa).set10 o.op)
      have BZ := (((((((((((B4.setCell (p := ⟨w.heap.size + 1, 0, none⟩) (by show _ ≤ w.heap.size + 1; omega) (.bool o.up)).setCell (p := ⟨w.heap.size + 1, 1, none⟩) (by show _ ≤ w.heap.size + 1; omega) (.bool o.has)).setCell (p := ⟨w.heap.size + 1, 2, none⟩) (by show _ ≤ w.heap.size + 1; omega) (.int .i64 o.r)).setCell (p := ⟨w.heap.size + 1, 3, none⟩) (by show _ ≤ w.heap.size + 1; omega) (.int .i64 o.c)).setCell (p := ⟨w.heap.size + 1, 4, none⟩) (by show _ ≤ w.heap.size + 1; omega) (.int .i64 o.b)).setCell (p := ⟨w.heap.size + 1, 5, none⟩) (by show _ ≤ w.heap.size + 1; omega) (.int .i64 o.p)).setCell (p := ⟨w.heap.size + 1, 6, none⟩) (by show _ ≤ w.heap.size + 1; omega) (.int .i64 o.h)).setCell (p := ⟨w.heap.size + 1, 7, none⟩) (by show _ ≤ w.heap.size + 1; omega) (.int .i64 o.l)).setCell (p := ⟨w.heap.size + 1, 8, none⟩) (by show _ ≤ w.heap.size + 1; omega) (.int .i64 o.ro)).setCell (p := ⟨w.heap.size + 1, 9, none⟩) (by show _ ≤ w.heap.size + 1; omega) (.int .i64 o.wa)).setCell (p := ⟨w.heap.size + 1, 10, none⟩) (by show _ ≤ w.heap.size + 1; omega) (.bool o.op))
      obtain ⟨⟨z0, z1, z2, z3, z4, z5, z6, z7, z8, z9, z10⟩, _⟩ := RZ
      obtain ⟨⟨r0, r1, r2, r3, r4, r5, r6, r7, r8, r9, r10⟩, rf⟩ := R4
      go_wp2
      refine bodyPost_ret (v := .agg #[.bool o.up, .bool o.has, .int .i64 o.r, .int .i64 o.c, .int .i64 o.b, .int .i64 o.p, .int .i64 o.h, .int .i64 o.l, .int .i64 o.ro, .int .i64 o.wa, .bool o.op]) (by simp [results, Tryz.results183, go_sem, *]) rfl ⟨by rw [hT.out], BZ⟩
  have d2 : (z.ro == 2) = false := by simpa using h2
  have hcc : Hid (¬ ((z.ro = 1 ∨ z.ro = 2) ∧ 0 < z.wa)) := fun e => by rcases e.1 with q | q; exact h1 q; exact h2 q
  replace h1 : Hid _ := h1
  replace h2 : Hid _ := h2
  go_upto_region 4 with fail
  go_wp2_with fail
  go_at_call 212
  refine (openS z y2).mono ?_
  rintro e w4 ⟨rfl, k4⟩
  have B4 := B2.trans (k4.mono B2.size)
  have S4 : w.heap.size + 1 < y2.heap.size := R2.lt
  have R4 := R2.below k4 S4
  obtain ⟨o, ho⟩ : ∃ o : Pt, o = { z with op := raOp z.ro z.wa } := ⟨_, rfl⟩
  have ho0 : Value.agg #[.bool o.up, .bool o.has, .int .i64 o.r, .int .i64 o.c, .int .i64 o.b, .int .i64 o.p, .int .i64 o.h, .int .i64 o.l, .int .i64 o.ro, .int .i64 o.wa, .bool o.op] = Value.agg #[.bool z.up, .bool z.has, .int .i64 z.r, .int .i64 z.c, .int .i64 z.b, .int .i64 z.p, .int .i64 z.h, .int .i64 z.l, .int .i64 z.ro, .int .i64 z.wa, .bool (raOp z.ro z.wa)] := by rw [ho]
  rw [← ho0]
  have hT : Hid (t = o) := by unfold Hid; rw [htr.out, ho]; unfold tickW; rw [if_neg hcc.out]
  clear ho ho0 k4 p0 p1 p2 p3 p4 p5 p6 p7 p8 p9 p10 pf
  have RZ := (((((((((((R4.set0 o.up).set1 o.has).set2 o.r).set3 o.c).set4 o.b).set5 o.p).set6 o.h).set7 o.l).set8 o.ro).set9 o.wa).set10 o.op)
  have BZ := (((((((((((B4.setCell (p := ⟨w.heap.size + 1, 0, none⟩) (by show _ ≤ w.heap.size + 1; omega) (.bool o.up)).setCell (p := ⟨w.heap.size + 1, 1, none⟩) (by show _ ≤ w.heap.size + 1; omega) (.bool o.has)).setCell (p := ⟨w.heap.size + 1, 2, none⟩) (by show _ ≤ w.heap.size + 1; omega) (.int .i64 o.r)).setCell (p := ⟨w.heap.size + 1, 3, none⟩) (by show _ ≤ w.heap.size + 1; omega) (.int .i64 o.c)).setCell (p := ⟨w.heap.size + 1, 4, none⟩) (by show _ ≤ w.heap.size + 1; omega) (.int .i64 o.b)).setCell (p := ⟨w.heap.size + 1, 5, none⟩) (by show _ ≤ w.heap.size + 1; omega) (.int .i64 o.p)).setCell (p := ⟨w.heap.size + 1, 6, none⟩) (by show _ ≤ w.heap.size + 1; omega) (.int .i64 o.h)).setCell (p := ⟨w.heap.size + 1, 7, none⟩) (by show _ ≤ w.heap.size + 1; omega) (.int .i64 o.l)).setCell (p := ⟨w.heap.size + 1, 8, none⟩) (by show _ ≤ w.heap.size + 1; omega) (.int .i64 o.ro)).setCell (p := ⟨w.heap.size + 1, 9, none⟩) (by show _ ≤ w.heap.size + 1; omega) (.int .i64 o.wa)).setCell (p := ⟨w.heap.size + 1, 10, none⟩) (by show _ ≤ w.heap.size + 1; omega) (.bool o.op))
  obtain ⟨⟨z0, z1, z2, z3, z4, z5, z6, z7, z8, z9, z10⟩, _⟩ := RZ
  obtain ⟨⟨r0, r1, r2, r3, r4, r5, r6, r7, r8, r9, r10⟩, rf⟩ := R4
  go_wp2
  refine bodyPost_ret (v := .agg #[.bool o.up, .bool o.has, .int .i64 o.r, .int .i64 o.c, .int .i64 o.b, .int .i64 o.p, .int .i64 o.h, .int .i64 o.l, .int .i64 o.ro, .int .i64 o.wa, .bool o.op]) (by simp [results, Tryz.results183, go_sem, *]) rfl ⟨by rw [hT.out], BZ⟩

end Go.Proofs.YtnpiljegdiconaaGreat
namespace Go.Proofs.YtnpiljegdiconaaGreat
open Go.ChangeShapes Go.WideShapes Go.ChangeAt Go.RowKit
open Go.ChangeMaps (open_string shut_string)
set_option linter.unusedVariables false
set_option maxRecDepth 100000

theorem markd_getD {X : Type} {mk : Nat → X} {L : List X} {k : Nat} (d : X) (h : k < L.length) : (markd mk L k).getD k d = L.getD k d := by
  unfold markd
  rw [List.getD_eq_getElem?_getD, List.getElem?_append_right (by simp), List.getD_eq_getElem?_getD]
  simp
set_option maxHeartbeats 8000000 in
theorem inST (id : Int) (cap : Nat) (L : List Pt)  (base g : Nat) (w : World) (hr : FOwn ptEnc 11 109 base w (.slice (some ⟨g, 0, none⟩) L.length cap) L) (hl : L.length ≤ 4) (hb : bOk id L = true) :
    Calls Tryz.prog 136 #[.agg #[.int .i64 id, .slice (some ⟨g, 0, none⟩) L.length cap], .agg #[.int .i64 2, .int .i64 0, .int .i64 0, .int .i64 0, .int .i64 0, .int .i64 0, .int .i64 0, .bool false]] w fun e w' => ∃ ad' cap', e = .returned (.agg #[.int .i64 id, .slice ad' (decideR id (L.map tickP)).length cap']) ∧ FOwn ptEnc 11 109 base w' (.slice ad' (decideR id (L.map tickP)).length cap') (decideR id (L.map tickP)) ∧ (∀ g_, (Value.slice ad' (decideR id (L.map tickP)).length cap').ownBlock = some g_ → g_ = g ∨ w.heap.size ≤ g_) ∧ Bar g w.heap.size w w' ∧ Below base w w' := by
  have hgb := hr.lt g rfl
  obtain ⟨y, hy⟩ : ∃ y, y = ((w.alloc (Obj.cells #[.int .i64 id, .slice (some ⟨g, 0, none⟩) L.length cap] 56)).alloc (Obj.cells #[.int .i64 2, .int .i64 0, .int .i64 0, .int .i64 0, .int .i64 0, .int .i64 0, .int .i64 0, .bool false] 105)).alloc (Obj.cells #[.int .i64 0, .slice none 0 0] 56) := ⟨_, rfl⟩
  have B0 : Below w.heap.size w y := by rw [hy]; exact (((Below.refl _ _).alloc (Nat.le_refl _) _).alloc (by simp) _).alloc (by simp; omega) _
  have A0 : BrAt y w.heap.size id (.slice (some ⟨g, 0, none⟩) L.length cap) := by rw [hy]; constructor <;> simp [go_sem]
  have X0 : InAt y (w.heap.size + 1) ⟨2, 0, 0, 0, 0, 0, 0, false⟩ := by rw [hy]; constructor <;> simp [go_sem]
  have R0 : BBox y (w.heap.size + 1 + 1) 0 (.slice none 0 0) := by rw [hy]; refine ⟨?_, fun i => ?_⟩; constructor <;> simp [go_sem]; simp [go_sem]
  have S0 := R0.lt
  have o0 := hr.later B0
  have C0 : Below base w y := B0.mono (by omega)
  obtain ⟨D, hD⟩ : ∃ D, D = decideR id (L.map tickP) := ⟨_, rfl⟩
  rw [← hD]
  replace hD : Hid _ := hD
  obtain ⟨hg1, hg2⟩ := hgb
  clear hr
  go_enter Tryz.func136, Tryz.ntmps136
  have hlen := (bOk_all hb).2.1
  replace hb : Hid _ := hb
  obtain ⟨f, hf⟩ : ∃ f : Nat → Pt, f = fun i => tickP (L.getD i Pt.nil) := ⟨_, rfl⟩
  have hfk : ∀ i, tickP (L.getD i Pt.nil) = f i := fun i => by rw [hf]
  have hfm : Hid ((List.range L.length).map f = L.map tickP) := by
    unfold Hid
    rw [hf]
    apply List.ext_getElem (by simp)
    intro i h1 h2
    simp [List.getD, (by simpa using h1 : i < L.length)]
  clear hf
  replace hfk : Hid _ := hfk
  have M0 : FOwn ptEnc 11 109 base y (.slice (some ⟨g, 0, none⟩) L.length cap) (markd f L 0) := by rw [markd_zero]; exact o0
  clear o0
  go_upto_region 5 with fail
  rw [← hy]
  clear hy
  go_wp2
  go_loopw [5] (fun i wr => ∃ k : Nat, k ≤ L.length ∧ i = .int .i64 (k : Int) ∧ FOwn ptEnc 11 109 base wr (.slice (some ⟨g, 0, none⟩) L.length cap) (markd f L k) ∧ Bar g y.heap.size y wr ∧ Below base w wr) (fun i _ => L.length - (intOf i).toNat)
  case atStart => exact ⟨0, Nat.zero_le _, rfl, M0, Bar.of (Below.refl _ _), C0⟩
  case round =>
    obtain ⟨k, hk, rfl, M, hBar, C4⟩ := hrel
    have A4 := A0.bar hBar A0.lt (by omega)
    have R4 := R0.keep (hBar.block _ R0.lt (by omega))
    have z4 := hBar.size
    have A4' := A4
    obtain ⟨a0, a1⟩ := A4'
    by_cases hlt : k < L.length
    · have hml : (markd f L k).length = L.length := markd_len hk
      have M' := M
      rw [← hml] at M'
      obtain ⟨hp, hhp⟩ : ∃ v, L.getD k Pt.nil = v := ⟨_, rfl⟩
      have hok : Hid (pOk hp = true) := by unfold Hid; rw [← hhp]; exact (bOk_all hb.out).2.2 k
      obtain ⟨z, hz⟩ : ∃ z, z = f k := ⟨_, rfl⟩
      have hz2 : Hid (tickP hp = z) := by unfold Hid; rw [hz, ← hhp]; exact hfk.out k
      replace hz : Hid _ := hz
      have hck : PtAtO wr g (k * 11) hp := by rw [← hhp, ← markd_getD (mk := f) Pt.nil hlt]; exact ptAtO_of (M'.cell ptEnc_len Pt.nil (by rw [hml]; exact hlt))
      replace hhp : Hid _ := hhp
      replace hml : Hid _ := hml
      clear M'
      go_upto_region 8 with fail
      clear a0 a1
      refine wp_region_held (S := fun Y => Bar g wr.heap.size wr Y) (by kernel_rfl) ?_
      change wpAnyH _ _ _ _ _ _ _ _ (World.drew _)
      have hb0 : Below wr.heap.size wr wr.drew := (Below.refl _ _).drew
      obtain ⟨u0, hy0⟩ : ∃ y_, y_ = wr.drew := ⟨_, rfl⟩
      rw [← hy0] at hb0 ⊢
      clear hy0
      have hS0 : Bar g wr.heap.size wr u0 := Bar.of hb0
      refine takeW 0 35 (.pointer (some ⟨w.heap.size, 1, none⟩)) rfl rfl (by kernel_rfl) (by kernel_rfl) (by kernel_rfl) (fun _ _ _ h => h) (by kernel_rfl) (by (intro w hSw; go_simp)) (by assumption) ?_
      simp only [List.set_cons_zero, List.set_cons_succ]
      refine takeW 1 36 (.slice (some ⟨g, 0, none⟩) L.length cap) rfl rfl (by kernel_rfl) (by kernel_rfl) (by kernel_rfl) (fun _ _ _ h => h) (by kernel_rfl) (by (intro Y hSw; obtain ⟨X0_, X1_⟩ := A4.bar hSw A4.lt (by omega); go_simp)) (by assumption) ?_
      simp only [List.set_cons_zero, List.set_cons_succ]
      refine takeW 2 37 (.int .i64 (k : Int)) rfl rfl (by kernel_rfl) (by kernel_rfl) (by kernel_rfl) (fun _ _ _ h => h) (by kernel_rfl) (by (intro w hSw; go_simp)) (by assumption) ?_
      simp only [List.set_cons_zero, List.set_cons_succ]
      refine takeW 3 38 (.pointer (some ⟨w.heap.size, 1, none⟩)) rfl rfl (by kernel_rfl) (by kernel_rfl) (by kernel_rfl) (fun _ _ _ h => h) (by kernel_rfl) (by (intro w hSw; go_simp)) (by assumption) ?_
      simp only [List.set_cons_zero, List.set_cons_succ]
      refine takeW 4 39 (.slice (some ⟨g, 0, none⟩) L.length cap) rfl rfl (by kernel_rfl) (by kernel_rfl) (by kernel_rfl) (fun _ _ _ h => h) (by kernel_rfl) (by (intro Y hSw; obtain ⟨X0_, X1_⟩ := A4.bar hSw A4.lt (by omega); go_simp)) (by assumption) ?_
      simp only [List.set_cons_zero, List.set_cons_succ]
      refine takeW 5 40 (.int .i64 (k : Int)) rfl rfl (by kernel_rfl) (by kernel_rfl) (by kernel_rfl) (fun _ _ _ h => h) (by kernel_rfl) (by (intro w hSw; go_simp)) (by assumption) ?_
      simp only [List.set_cons_zero, List.set_cons_succ]
      refine takeW 6 41 (.pointer (some ⟨g, k * 11, none⟩)) rfl rfl (by kernel_rfl) (by kernel_rfl) (by kernel_rfl) (fun _ _ _ h => h) (by kernel_rfl) (by (intro Y hSw; go_simp; try omega)) (by assumption) ?_
      simp only [List.set_cons_zero, List.set_cons_succ]
      refine wpAnyH_all (rs := [7]) (by kernel_rfl) (by simp) ?_
      intro i hi; obtain rfl : i = 7 := by simpa using hi
      refine wpOp_step rfl (fun K hK => ?_)
      rw [if_pos (by kernel_rfl)]
      obtain ⟨t0, t1, t2, t3, t4, t5, t6, t7, t8, t9, t10⟩ : PtAtO u0 g (k * 11) hp := ⟨(World.cell?_of_block (a := ⟨g, k * 11, none⟩) (hb0.block g (by omega))).trans hck.c0, (World.cell?_of_block (a := ⟨g, k * 11 + 1, none⟩) (hb0.block g (by omega))).trans hck.c1, (World.cell?_of_block (a := ⟨g, k * 11 + 2, none⟩) (hb0.block g (by omega))).trans hck.c2, (World.cell?_of_block (a := ⟨g, k * 11 + 3, none⟩) (hb0.block g (by omega))).trans hck.c3, (World.cell?_of_block (a := ⟨g, k * 11 + 4, none⟩) (hb0.block g (by omega))).trans hck.c4, (World.cell?_of_block (a := ⟨g, k * 11 + 5, none⟩) (hb0.block g (by omega))).trans hck.c5, (World.cell?_of_block (a := ⟨g, k * 11 + 6, none⟩) (hb0.block g (by omega))).trans hck.c6, (World.cell?_of_block (a := ⟨g, k * 11 + 7, none⟩) (hb0.block g (by omega))).trans hck.c7, (World.cell?_of_block (a := ⟨g, k * 11 + 8, none⟩) (hb0.block g (by omega))).trans hck.c8, (World.cell?_of_block (a := ⟨g, k * 11 + 9, none⟩) (hb0.block g (by omega))).trans hck.c9, (World.cell?_of_block (a := ⟨g, k * 11 + 10, none⟩) (hb0.block g (by omega))).trans hck.c10⟩
      go_simp
      clear t0 t1 t2 t3 t4 t5 t6 t7 t8 t9 t10
      refine hK _ _ ⟨hS0, ?_⟩
      clear hK K hi
      refine wpAnyH_all (rs := [8]) (by kernel_rfl) (by simp) ?_
      intro i hi; obtain rfl : i = 8 := by simpa using hi
      refine wpOp_step rfl (fun K hK => ?_)
      rw [if_pos (by kernel_rfl)]
      go_simp
      go_at_call 183
      refine (tickedS hp u0 hok.out).mono ?_
      rintro e u1 ⟨rfl, kq⟩
      have hb1 : Below wr.heap.size wr u1 := hb0.trans (kq.mono hb0.size)
      clear kq
      rw [hz2.out]
      have hS1 : Bar g wr.heap.size wr u1 := Bar.of hb1
      refine hK _ _ ⟨Bar.of hb1, ?_⟩
      clear hK K hi
      refine takeW 9 44 (.pointer (some ⟨g, k * 11, none⟩)) rfl rfl (by kernel_rfl) (by kernel_rfl) (by kernel_rfl) (fun _ _ _ h => h) (by kernel_rfl) (by (intro Y hSw; go_simp; try omega)) (by assumption) ?_
      simp only [List.set_cons_zero, List.set_cons_succ]
      refine wpAnyH_all (rs := [10]) (by kernel_rfl) (by simp) ?_
      intro i hi; obtain rfl : i = 10 := by simpa using hi
      refine wpOp_step rfl (fun K hK => ?_)
      rw [if_pos (by kernel_rfl)]
      have MU : FOwn ptEnc 11 109 base u1 (.slice (some ⟨g, 0, none⟩) L.length cap) (markd f L k) := M.later hb1
      rw [← hml.out] at MU
      obtain ⟨t0, t1, t2, t3, t4, t5, t6, t7, t8, t9, t10⟩ : PtAtO u1 g (k * 11) ((markd f L k).getD k Pt.nil) := ptAtO_of (MU.cell ptEnc_len Pt.nil (by rw [hml.out]; exact hlt))
      have ff := MU.frozen
      have f0 := ff (k * 11)
      have f1 := ff (k * 11 + 1)
      have f2 := ff (k * 11 + 2)
      have f3 := ff (k * 11 + 3)
      have f4 := ff (k * 11 + 4)
      have f5 := ff (k * 11 + 5)
      have f6 := ff (k * 11 + 6)
      have f7 := ff (k * 11 + 7)
      have f8 := ff (k * 11 + 8)
      have f9 := ff (k * 11 + 9)
      have f10 := ff (k * 11 + 10)
      have MS := MU.set ptEnc_len (by omega) (i := k) (by rw [hml.out]; exact hlt) z
      rw [hz.out, markd_set hlt, ptPut, hml.out, ← hz.out] at MS
      have SB := Bar.putAll (o := k * 11) (ptEnc z) (Bar.of (g := g) hb1)
      rw [ptPut] at SB
      have BB := below_putAll (B := base) hg1 (ptEnc z) (k * 11) (C4.trans (hb1.mono (by omega)))
      rw [ptPut] at BB
      clear ff MU
      obtain ⟨uf, huf⟩ : ∃ y_, y_ = (((((((((((u1.setCell ⟨g, k * 11, none⟩ (.bool z.up)).setCell ⟨g, k * 11 + 1, none⟩ (.bool z.has)).setCell ⟨g, k * 11 + 2, none⟩ (.int .i64 z.r)).setCell ⟨g, k * 11 + 3, none⟩ (.int .i64 z.c)).setCell ⟨g, k * 11 + 4, none⟩ (.int .i64 z.b)).setCell ⟨g, k * 11 + 5, none⟩ (.int .i64 z.p)).setCell ⟨g, k * 11 + 6, none⟩ (.int .i64 z.h)).setCell ⟨g, k * 11 + 7, none⟩ (.int .i64 z.l)).setCell ⟨g, k * 11 + 8, none⟩ (.int .i64 z.ro)).setCell ⟨g, k * 11 + 9, none⟩ (.int .i64 z.wa)).setCell ⟨g, k * 11 + 10, none⟩ (.bool z.op)) := ⟨_, rfl⟩
      rw [← huf] at MS SB BB
      go_simp
      rw [← huf]
      clear huf t0 f0 t1 f1 t2 f2 t3 f3 t4 f4 t5 f5 t6 f6 t7 f7 t8 f8 t9 f9 t10 f10
      refine hK _ _ ⟨SB, ?_⟩
      clear hK K hi
      refine wpAnyH_done (by kernel_rfl) ?_ _
      have hBar2 : Bar g y.heap.size y uf := ⟨Nat.le_trans hBar.size SB.size, fun q hq hne => (SB.block q (by omega) hne).trans (hBar.block q hq hne)⟩
      go_wp2
      go_roundw
      case rel => exact ⟨k + 1, by omega, by go_num, MS, hBar2, BB⟩
      case measure => simp [intOf]; omega
    · obtain rfl : k = L.length := by omega
      clear a0 a1
      have ac := A4
      rw [markd_all, hfm.out] at M
      obtain ⟨Mv, hMv⟩ : ∃ v, v = L.map tickP := ⟨_, rfl⟩
      rw [← hMv] at M
      have hMl : Mv.length = L.length := by rw [hMv]; simp
      have hDM : Hid (D = decideR id Mv) := by unfold Hid; rw [hD.out, hMv]
      replace hMl : Hid _ := hMl
      clear hMv
      have hdc := decideS id (some ⟨g, 0, none⟩) cap Mv wr (by have := M; unfold FOwn at this; exact (show FOwn ptEnc 11 109 base wr (.slice (some ⟨g, 0, none⟩) L.length cap) Mv from this).view.2) (by rw [hMl.out]; omega) (fun e => by cases e)
      rw [hMl.out] at hdc
      obtain ⟨a0, a1⟩ := ac
      go_wp2_with fail
      go_at_call 184
      clear a0 a1
      refine hdc.mono ?_
      rintro e w9 ⟨aD, cD, rfl, oD, k9⟩
      clear hdc
      rw [← hDM.out] at oD ⊢
      have z9 := C4.size
      have S9 : w.heap.size + 1 + 1 < wr.heap.size := R4.lt
      have RX := R4.below k9 R4.lt
      have BX := C4.trans (k9.mono (by omega))
      have RP := RX.put id (.slice aD D.length cD)
      obtain ⟨⟨r0, r1⟩, rf⟩ := RX
      have BZ := (BX.setCell (p := ⟨w.heap.size + 1 + 1, 0, none⟩) (by show base ≤ w.heap.size + 1 + 1; omega) (.int .i64 id)).setCell (p := ⟨w.heap.size + 1 + 1, 1, none⟩) (by show base ≤ w.heap.size + 1 + 1; omega) (.slice aD D.length cD)
      have OZ : FOwn ptEnc 11 109 base ((w9.setCell ⟨w.heap.size + 1 + 1, 0, none⟩ (.int .i64 id)).setCell ⟨w.heap.size + 1 + 1, 1, none⟩ (.slice aD D.length cD)) (.slice aD D.length cD) D := (oD.base (by omega)).keep fun g' e => by
        have := (oD.lt g' e).1
        rw [Below.heap_setCell _ _ _ _ (by show g' ≠ w.heap.size + 1 + 1; omega), Below.heap_setCell _ _ _ _ (by show g' ≠ w.heap.size + 1 + 1; omega)]
      have b0z := B0.size
      have sbz := hBar.size
      have WZ : Bar g w.heap.size w ((w9.setCell ⟨w.heap.size + 1 + 1, 0, none⟩ (.int .i64 id)).setCell ⟨w.heap.size + 1 + 1, 1, none⟩ (.slice aD D.length cD)) := ⟨BZ.size, fun q hq hne => by
        rw [Below.heap_setCell _ _ _ _ (by show q ≠ w.heap.size + 1 + 1; omega), Below.heap_setCell _ _ _ _ (by show q ≠ w.heap.size + 1 + 1; omega)]
        exact (k9.block q (by omega)).trans ((hBar.block q (by omega) hne).trans (B0.block q hq))⟩
      have JZ : ∀ g_, (Value.slice aD D.length cD).ownBlock = some g_ → g_ = g ∨ w.heap.size ≤ g_ := fun g_ e => .inr (by have := (oD.lt g_ e).1; omega)
      obtain ⟨⟨p0, p1⟩, _⟩ := RP
      go_wp2
      refine bodyPost_ret (v := .agg #[.int .i64 id, .slice aD D.length cD]) (by simp [results, Tryz.results136, go_sem, *]) rfl ⟨_, _, rfl, OZ, JZ, WZ, BZ⟩

end Go.Proofs.YtnpiljegdiconaaGreat
namespace Go.Proofs.YtnpiljegdiconaaGreat
open Go.ChangeShapes Go.WideShapes Go.ChangeAt Go.RowKit
open Go.ChangeMaps (open_string shut_string)
set_option linter.unusedVariables false
set_option maxRecDepth 100000

set_option maxHeartbeats 8000000 in
theorem inSL (id : Int) (cap : Nat) (L : List Pt) (k : Nat) (up : Bool) (base g : Nat) (w : World) (hr : FOwn ptEnc 11 109 base w (.slice (some ⟨g, 0, none⟩) L.length cap) L) (hl : L.length ≤ 4) (hqL : k < L.length) :
    Calls Tryz.prog 136 #[.agg #[.int .i64 id, .slice (some ⟨g, 0, none⟩) L.length cap], .agg #[.int .i64 3, .int .i64 (k : Int), .int .i64 0, .int .i64 0, .int .i64 0, .int .i64 0, .int .i64 0, .bool up]] w fun e w' => ∃ ad' cap', e = .returned (.agg #[.int .i64 id, .slice ad' ((if (L.getD k Pt.nil).up = up then L else decideR id (L.set k (linkP up)))).length cap']) ∧ FOwn ptEnc 11 109 base w' (.slice ad' ((if (L.getD k Pt.nil).up = up then L else decideR id (L.set k (linkP up)))).length cap') ((if (L.getD k Pt.nil).up = up then L else decideR id (L.set k (linkP up)))) ∧ (∀ g_, (Value.slice ad' ((if (L.getD k Pt.nil).up = up then L else decideR id (L.set k (linkP up)))).length cap').ownBlock = some g_ → g_ = g ∨ w.heap.size ≤ g_) ∧ Bar g w.heap.size w w' ∧ Below base w w' := by
  have hgb := hr.lt g rfl
  obtain ⟨y, hy⟩ : ∃ y, y = ((w.alloc (Obj.cells #[.int .i64 id, .slice (some ⟨g, 0, none⟩) L.length cap] 56)).alloc (Obj.cells #[.int .i64 3, .int .i64 (k : Int), .int .i64 0, .int .i64 0, .int .i64 0, .int .i64 0, .int .i64 0, .bool up] 105)).alloc (Obj.cells #[.int .i64 0, .slice none 0 0] 56) := ⟨_, rfl⟩
  have B0 : Below w.heap.size w y := by rw [hy]; exact (((Below.refl _ _).alloc (Nat.le_refl _) _).alloc (by simp) _).alloc (by simp; omega) _
  have A0 : BrAt y w.heap.size id (.slice (some ⟨g, 0, none⟩) L.length cap) := by rw [hy]; constructor <;> simp [go_sem]
  have X0 : InAt y (w.heap.size + 1) ⟨3, (k : Int), 0, 0, 0, 0, 0, up⟩ := by rw [hy]; constructor <;> simp [go_sem]
  have R0 : BBox y (w.heap.size + 1 + 1) 0 (.slice none 0 0) := by rw [hy]; refine ⟨?_, fun i => ?_⟩; constructor <;> simp [go_sem]; simp [go_sem]
  have S0 := R0.lt
  have o0 := hr.later B0
  have C0 : Below base w y := B0.mono (by omega)
  obtain ⟨D, hD⟩ : ∃ D, D = (if (L.getD k Pt.nil).up = up then L else decideR id (L.set k (linkP up))) := ⟨_, rfl⟩
  rw [← hD]
  replace hD : Hid _ := hD
  obtain ⟨hg1, hg2⟩ := hgb
  clear hr
  go_enter Tryz.func136, Tryz.ntmps136
  go_upto_region 10 with fail
  rw [← hy]
  clear hy
  obtain ⟨hp, hhp⟩ : ∃ v, L.getD k Pt.nil = v := ⟨_, rfl⟩
  have hD1 : Hid (D = if hp.up = up then L else decideR id (L.set k (linkP up))) := by unfold Hid; rw [hD.out, hhp]
  have hcp : ∀ Y, Below y.heap.size y Y → PtAtO Y g (k * 11) hp := fun Y hY => by rw [← hhp]; exact ptAtO_of ((o0.later hY).cell ptEnc_len Pt.nil hqL)
  clear hD hhp
  by_cases hu : hp.up = up
  · have hN : Hid (D = L) := by unfold Hid; rw [hD1.out, if_pos hu]
    replace hu : Hid _ := hu
    refine wp_region_held (S := fun Y => Below y.heap.size y Y) (by kernel_rfl) ?_
    change wpAnyH _ _ _ _ _ _ _ _ (World.drew _)
    have hb0 : Below y.heap.size y y.drew := (Below.refl _ _).drew
    obtain ⟨u0, hy0⟩ : ∃ y_, y_ = y.drew := ⟨_, rfl⟩
    rw [← hy0] at hb0 ⊢
    clear hy0
    refine takeW 0 47 (.pointer (some ⟨w.heap.size, 1, none⟩)) rfl rfl (by kernel_rfl) (by kernel_rfl) (by kernel_rfl) (fun _ _ _ h => h) (by kernel_rfl) (by (intro w hSw; go_simp)) (by assumption) ?_
    simp only [List.set_cons_zero, List.set_cons_succ]
    refine takeW 1 48 (.slice (some ⟨g, 0, none⟩) L.length cap) rfl rfl (by kernel_rfl) (by kernel_rfl) (by kernel_rfl) (fun _ _ _ h => h) (by kernel_rfl) (by (intro Y hSw; obtain ⟨X0_, X1_⟩ := A0.below hSw A0.lt; go_simp)) (by assumption) ?_
    simp only [List.set_cons_zero, List.set_cons_succ]
    refine takeW 2 49 (.pointer (some ⟨w.heap.size + 1, 1, none⟩)) rfl rfl (by kernel_rfl) (by kernel_rfl) (by kernel_rfl) (fun _ _ _ h => h) (by kernel_rfl) (by (intro w hSw; go_simp)) (by assumption) ?_
    simp only [List.set_cons_zero, List.set_cons_succ]
    refine takeW 3 50 (.int .i64 (k : Int)) rfl rfl (by kernel_rfl) (by kernel_rfl) (by kernel_rfl) (fun _ _ _ h => h) (by kernel_rfl) (by (intro Y hSw; obtain ⟨Z0, Z1, Z2, Z3, Z4, Z5, Z6, Z7⟩ := X0.below hSw X0.lt; go_simp)) (by assumption) ?_
    simp only [List.set_cons_zero, List.set_cons_succ]
    refine takeW 4 51 (.pointer (some ⟨g, k * 11, none⟩)) rfl rfl (by kernel_rfl) (by kernel_rfl) (by kernel_rfl) (fun _ _ _ h => h) (by kernel_rfl) (by (intro Y hSw; go_simp; try omega)) (by assumption) ?_
    simp only [List.set_cons_zero, List.set_cons_succ]
    refine takeW 5 52 (.pointer (some ⟨g, k * 11, none⟩)) rfl rfl (by kernel_rfl) (by kernel_rfl) (by kernel_rfl) (fun _ _ _ h => h) (by kernel_rfl) (by (intro w hSw; go_simp)) (by assumption) ?_
    simp only [List.set_cons_zero, List.set_cons_succ]
    refine takeW 6 53 (.bool hp.up) rfl rfl (by kernel_rfl) (by kernel_rfl) (by kernel_rfl) (fun _ _ _ h => h) (by kernel_rfl) (by (intro Y hSw; obtain ⟨X0, X1, X2, X3, X4, X5, X6, X7, X8, X9, X10⟩ := hcp Y hSw; go_simp)) (by assumption) ?_
    simp only [List.set_cons_zero, List.set_cons_succ]
    refine takeW 7 54 (.pointer (some ⟨w.heap.size + 1, 7, none⟩)) rfl rfl (by kernel_rfl) (by kernel_rfl) (by kernel_rfl) (fun _ _ _ h => h) (by kernel_rfl) (by (intro w hSw; go_simp)) (by assumption) ?_
    simp only [List.set_cons_zero, List.set_cons_succ]
    refine takeW 8 55 (.bool up) rfl rfl (by kernel_rfl) (by kernel_rfl) (by kernel_rfl) (fun _ _ _ h => h) (by kernel_rfl) (by (intro Y hSw; obtain ⟨Z0, Z1, Z2, Z3, Z4, Z5, Z6, Z7⟩ := X0.below hSw X0.lt; go_simp)) (by assumption) ?_
    simp only [List.set_cons_zero, List.set_cons_succ]
    refine takeW 9 56 (.bool true) rfl rfl (by kernel_rfl) (by kernel_rfl) (by kernel_rfl) (fun _ _ _ h => h) (by kernel_rfl) (by (intro Y hSw; go_simp; exact hu.out)) (by assumption) ?_
    simp only [List.set_cons_zero, List.set_cons_succ]
    refine wpAnyH_done (by kernel_rfl) ?_ _
    have A6 := A0.below hb0 A0.lt
    have R6 := R0.below hb0 R0.lt
    have o6 := o0.later hb0
    have z6 := hb0.size
    have B6 := C0.trans (hb0.mono (by omega))
    have RP := R6.put id (.slice (some ⟨g, 0, none⟩) L.length cap)
    obtain ⟨⟨r0, r1⟩, rf⟩ := R6
    obtain ⟨n0, n1⟩ := A6
    have BZ := (B6.setCell (p := ⟨w.heap.size + 1 + 1, 0, none⟩) (by show base ≤ w.heap.size + 1 + 1; omega) (.int .i64 id)).setCell (p := ⟨w.heap.size + 1 + 1, 1, none⟩) (by show base ≤ w.heap.size + 1 + 1; omega) (.slice (some ⟨g, 0, none⟩) L.length cap)
    have OZ : FOwn ptEnc 11 109 base ((u0.setCell ⟨w.heap.size + 1 + 1, 0, none⟩ (.int .i64 id)).setCell ⟨w.heap.size + 1 + 1, 1, none⟩ (.slice (some ⟨g, 0, none⟩) L.length cap)) (.slice (some ⟨g, 0, none⟩) L.length cap) L := o6.keep fun g' e => by
      obtain rfl : g = g' := by simpa [Value.ownBlock] using e
      rw [Below.heap_setCell _ _ _ _ (by show g ≠ w.heap.size + 1 + 1; omega), Below.heap_setCell _ _ _ _ (by show g ≠ w.heap.size + 1 + 1; omega)]
    have WZ : Bar g w.heap.size w ((u0.setCell ⟨w.heap.size + 1 + 1, 0, none⟩ (.int .i64 id)).setCell ⟨w.heap.size + 1 + 1, 1, none⟩ (.slice (some ⟨g, 0, none⟩) L.length cap)) := ⟨BZ.size, fun q hq hne => by
      rw [Below.heap_setCell _ _ _ _ (by show q ≠ w.heap.size + 1 + 1; omega), Below.heap_setCell _ _ _ _ (by show q ≠ w.heap.size + 1 + 1; omega)]
      exact (hb0.block q (by omega)).trans (B0.block q hq)⟩
    have JZ : ∀ g_, (Value.slice (some ⟨g, 0, none⟩) L.length cap).ownBlock = some g_ → g_ = g ∨ w.heap.size ≤ g_ := fun g_ e => .inl (by simpa [Value.ownBlock] using e.symm)
    obtain ⟨⟨p0, p1⟩, _⟩ := RP
    go_wp2
    refine bodyPost_ret (v := .agg #[.int .i64 id, .slice (some ⟨g, 0, none⟩) L.length cap]) (by simp [results, Tryz.results136, go_sem, *]) rfl ⟨_, _, by rw [hN.out], by rw [hN.out]; exact OZ, by rw [hN.out]; exact JZ, WZ, BZ⟩
  · have hN : Hid (D = decideR id (L.set k (linkP up))) := by unfold Hid; rw [hD1.out, if_neg hu]
    replace hu : Hid _ := hu
    refine wp_region_held (S := fun Y => Below y.heap.size y Y) (by kernel_rfl) ?_
    change wpAnyH _ _ _ _ _ _ _ _ (World.drew _)
    have hb0 : Below y.heap.size y y.drew := (Below.refl _ _).drew
    obtain ⟨u0, hy0⟩ : ∃ y_, y_ = y.drew := ⟨_, rfl⟩
    rw [← hy0] at hb0 ⊢
    clear hy0
    refine takeW 0 47 (.pointer (some ⟨w.heap.size, 1, none⟩)) rfl rfl (by kernel_rfl) (by kernel_rfl) (by kernel_rfl) (fun _ _ _ h => h) (by kernel_rfl) (by (intro w hSw; go_simp)) (by assumption) ?_
    simp only [List.set_cons_zero, List.set_cons_succ]
    refine takeW 1 48 (.slice (some ⟨g, 0, none⟩) L.length cap) rfl rfl (by kernel_rfl) (by kernel_rfl) (by kernel_rfl) (fun _ _ _ h => h) (by kernel_rfl) (by (intro Y hSw; obtain ⟨X0_, X1_⟩ := A0.below hSw A0.lt; go_simp)) (by assumption) ?_
    simp only [List.set_cons_zero, List.set_cons_succ]
    refine takeW 2 49 (.pointer (some ⟨w.heap.size + 1, 1, none⟩)) rfl rfl (by kernel_rfl) (by kernel_rfl) (by kernel_rfl) (fun _ _ _ h => h) (by kernel_rfl) (by (intro w hSw; go_simp)) (by assumption) ?_
    simp only [List.set_cons_zero, List.set_cons_succ]
    refine takeW 3 50 (.int .i64 (k : Int)) rfl rfl (by kernel_rfl) (by kernel_rfl) (by kernel_rfl) (fun _ _ _ h => h) (by kernel_rfl) (by (intro Y hSw; obtain ⟨Z0, Z1, Z2, Z3, Z4, Z5, Z6, Z7⟩ := X0.below hSw X0.lt; go_simp)) (by assumption) ?_
    simp only [List.set_cons_zero, List.set_cons_succ]
    refine takeW 4 51 (.pointer (some ⟨g, k * 11, none⟩)) rfl rfl (by kernel_rfl) (by kernel_rfl) (by kernel_rfl) (fun _ _ _ h => h) (by kernel_rfl) (by (intro Y hSw; go_simp; try omega)) (by assumption) ?_
    simp only [List.set_cons_zero, List.set_cons_succ]
    refine takeW 5 52 (.pointer (some ⟨g, k * 11, none⟩)) rfl rfl (by kernel_rfl) (by kernel_rfl) (by kernel_rfl) (fun _ _ _ h => h) (by kernel_rfl) (by (intro w hSw; go_simp)) (by assumption) ?_
    simp only [List.set_cons_zero, List.set_cons_succ]
    refine takeW 6 53 (.bool hp.up) rfl rfl (by kernel_rfl) (by kernel_rfl) (by kernel_rfl) (fun _ _ _ h => h) (by kernel_rfl) (by (intro Y hSw; obtain ⟨X0, X1, X2, X3, X4, X5, X6, X7, X8, X9, X10⟩ := hcp Y hSw; go_simp)) (by assumption) ?_
    simp only [List.set_cons_zero, List.set_cons_succ]
    refine takeW 7 54 (.pointer (some ⟨w.heap.size + 1, 7, none⟩)) rfl rfl (by kernel_rfl) (by kernel_rfl) (by kernel_rfl) (fun _ _ _ h => h) (by kernel_rfl) (by (intro w hSw; go_simp)) (by assumption) ?_
    simp only [List.set_cons_zero, List.set_cons_succ]
    refine takeW 8 55 (.bool up) rfl rfl (by kernel_rfl) (by kernel_rfl) (by kernel_rfl) (fun _ _ _ h => h) (by kernel_rfl) (by (intro Y hSw; obtain ⟨Z0, Z1, Z2, Z3, Z4, Z5, Z6, Z7⟩ := X0.below hSw X0.lt; go_simp)) (by assumption) ?_
    simp only [List.set_cons_zero, List.set_cons_succ]
    refine takeW 9 56 (.bool false) rfl rfl (by kernel_rfl) (by kernel_rfl) (by kernel_rfl) (fun _ _ _ h => h) (by kernel_rfl) (by (intro Y hSw; go_simp; exact hu.out)) (by assumption) ?_
    simp only [List.set_cons_zero, List.set_cons_succ]
    refine wpAnyH_done (by kernel_rfl) ?_ _
    have CW := C0.trans (hb0.mono (by omega))
    have hB0' : Bar g y.heap.size y u0 := Bar.of hb0
    have o6 := o0.later hb0
    have A6 := A0.below hb0 A0.lt
    have X6 := X0.below hb0 X0.lt
    have MUv1 := o6
    obtain ⟨t0, t1, t2, t3, t4, t5, t6, t7, t8, t9, t10⟩ : PtAtO u0 g (k * 11) (L.getD k Pt.nil) := ptAtO_of (MUv1.cell ptEnc_len Pt.nil (by simpa using hqL))
    have ff := MUv1.frozen
    have f0 := ff (k * 11)
    have f1 := ff (k * 11 + 1)
    have f2 := ff (k * 11 + 2)
    have f3 := ff (k * 11 + 3)
    have f4 := ff (k * 11 + 4)
    have f5 := ff (k * 11 + 5)
    have f6 := ff (k * 11 + 6)
    have f7 := ff (k * 11 + 7)
    have f8 := ff (k * 11 + 8)
    have f9 := ff (k * 11 + 9)
    have f10 := ff (k * 11 + 10)
    have MSv1 := MUv1.set ptEnc_len (by omega) (i := k) (by simpa using hqL) Pt.nil
    rw [ptPut] at MSv1
    have SBv1 := Bar.putAll (o := k * 11) (ptEnc Pt.nil) hB0'
    rw [ptPut] at SBv1
    have BBv1 := below_putAll (B := base) hg1 (ptEnc Pt.nil) (k * 11) CW
    rw [ptPut] at BBv1
    obtain ⟨v1, hnm⟩ : ∃ y_, y_ = (((((((((((u0.setCell ⟨g, k * 11, none⟩ (.bool false)).setCell ⟨g, k * 11 + 1, none⟩ (.bool false)).setCell ⟨g, k * 11 + 2, none⟩ (.int .i64 0)).setCell ⟨g, k * 11 + 3, none⟩ (.int .i64 0)).setCell ⟨g, k * 11 + 4, none⟩ (.int .i64 0)).setCell ⟨g, k * 11 + 5, none⟩ (.int .i64 0)).setCell ⟨g, k * 11 + 6, none⟩ (.int .i64 0)).setCell ⟨g, k * 11 + 7, none⟩ (.int .i64 0)).setCell ⟨g, k * 11 + 8, none⟩ (.int .i64 0)).setCell ⟨g, k * 11 + 9, none⟩ (.int .i64 0)).setCell ⟨g, k * 11 + 10, none⟩ (.bool false)) := ⟨_, rfl⟩
    replace MSv1 : FOwn ptEnc 11 109 base v1 (.slice (some ⟨g, 0, none⟩) (L).length cap) ((L).set k Pt.nil) := by rw [hnm]; exact MSv1
    replace SBv1 : Bar g y.heap.size y v1 := by rw [hnm]; exact SBv1
    replace BBv1 : Below base w v1 := by rw [hnm]; exact BBv1
    clear ff
    obtain ⟨a0, a1⟩ := A6
    obtain ⟨x0, x1, x2, x3, x4, x5, x6, x7⟩ := X6
    go_upto_region 13 with fail
    rw [← hnm]
    clear hnm a0 a1 x0 x1 x2 x3 x4 x5 x6 x7 t0 f0 t1 f1 t2 f2 t3 f3 t4 f4 t5 f5 t6 f6 t7 f7 t8 f8 t9 f9 t10 f10 CW MUv1 o6 hcp
    have A7 := A0.bar SBv1 A0.lt (by omega)
    have X7 := X0.keep (SBv1.block _ X0.lt (by omega))
    have CW := BBv1
    obtain ⟨x0, x1, x2, x3, x4, x5, x6, x7⟩ := X7
    cases up
    · replace hN : Hid (D = decideR id (L.set k Pt.nil)) := hN
      have A9 := A0.bar SBv1 A0.lt (by omega)
      have R9 := R0.keep (SBv1.block _ R0.lt (by omega))
      go_upto_region 15 with fail
      clear x0 x1 x2 x3 x4 x5 x6 x7
      obtain ⟨Mv, hMv⟩ : ∃ v, v = L.set k Pt.nil := ⟨_, rfl⟩
      rw [← hMv] at MSv1
      have hMl : Mv.length = L.length := by rw [hMv]; simp
      have hDM : Hid (D = decideR id Mv) := by unfold Hid; rw [hN.out, hMv]
      replace hMl : Hid _ := hMl
      clear hMv
      have hdc := decideS id (some ⟨g, 0, none⟩) cap Mv v1 (by have := MSv1; unfold FOwn at this; exact (show FOwn ptEnc 11 109 base v1 (.slice (some ⟨g, 0, none⟩) L.length cap) Mv from this).view.2) (by rw [hMl.out]; omega) (fun e => by cases e)
      rw [hMl.out] at hdc
      obtain ⟨a0, a1⟩ := A9
      go_wp2_with fail
      go_at_call 184
      clear a0 a1
      refine hdc.mono ?_
      rintro e w9 ⟨aD, cD, rfl, oD, k9⟩
      clear hdc
      rw [← hDM.out] at oD ⊢
      have z9 := BBv1.size
      have S9 : w.heap.size + 1 + 1 < v1.heap.size := R9.lt
      have RX := R9.below k9 R9.lt
      have BX := BBv1.trans (k9.mono (by omega))
      have RP := RX.put id (.slice aD D.length cD)
      obtain ⟨⟨r0, r1⟩, rf⟩ := RX
      have BZ := (BX.setCell (p := ⟨w.heap.size + 1 + 1, 0, none⟩) (by show base ≤ w.heap.size + 1 + 1; omega) (.int .i64 id)).setCell (p := ⟨w.heap.size + 1 + 1, 1, none⟩) (by show base ≤ w.heap.size + 1 + 1; omega) (.slice aD D.length cD)
      have OZ : FOwn ptEnc 11 109 base ((w9.setCell ⟨w.heap.size + 1 + 1, 0, none⟩ (.int .i64 id)).setCell ⟨w.heap.size + 1 + 1, 1, none⟩ (.slice aD D.length cD)) (.slice aD D.length cD) D := (oD.base (by omega)).keep fun g' e => by
        have := (oD.lt g' e).1
        rw [Below.heap_setCell _ _ _ _ (by show g' ≠ w.heap.size + 1 + 1; omega), Below.heap_setCell _ _ _ _ (by show g' ≠ w.heap.size + 1 + 1; omega)]
      have b0z := B0.size
      have sbz := SBv1.size
      have WZ : Bar g w.heap.size w ((w9.setCell ⟨w.heap.size + 1 + 1, 0, none⟩ (.int .i64 id)).setCell ⟨w.heap.size + 1 + 1, 1, none⟩ (.slice aD D.length cD)) := ⟨BZ.size, fun q hq hne => by
        rw [Below.heap_setCell _ _ _ _ (by show q ≠ w.heap.size + 1 + 1; omega), Below.heap_setCell _ _ _ _ (by show q ≠ w.heap.size + 1 + 1; omega)]
        exact (k9.block q (by omega)).trans ((SBv1.block q (by omega) hne).trans (B0.block q hq))⟩
      have JZ : ∀ g_, (Value.slice aD D.length cD).ownBlock = some g_ → g_ = g ∨ w.heap.size ≤ g_ := fun g_ e => .inr (by have := (oD.lt g_ e).1; omega)
      obtain ⟨⟨p0, p1⟩, _⟩ := RP
      go_wp2
      refine bodyPost_ret (v := .agg #[.int .i64 id, .slice aD D.length cD]) (by simp [results, Tryz.results136, go_sem, *]) rfl ⟨_, _, rfl, OZ, JZ, WZ, BZ⟩
    · have MSw : FOwn ptEnc 11 109 base v1 (.slice (some ⟨g, 0, none⟩) (L.set k Pt.nil).length cap) (L.set k Pt.nil) := by rw [List.length_set]; exact MSv1
      have MUv2 := MSw
      obtain ⟨t0, t1, t2, t3, t4, t5, t6, t7, t8, t9, t10⟩ : PtAtO v1 g (k * 11) ((L.set k Pt.nil).getD k Pt.nil) := ptAtO_of (MUv2.cell ptEnc_len Pt.nil (by simpa using hqL))
      have ff := MUv2.frozen
      have f0 := ff (k * 11)
      have f1 := ff (k * 11 + 1)
      have f2 := ff (k * 11 + 2)
      have f3 := ff (k * 11 + 3)
      have f4 := ff (k * 11 + 4)
      have f5 := ff (k * 11 + 5)
      have f6 := ff (k * 11 + 6)
      have f7 := ff (k * 11 + 7)
      have f8 := ff (k * 11 + 8)
      have f9 := ff (k * 11 + 9)
      have f10 := ff (k * 11 + 10)
      have MSv2 := MUv2.set ptEnc_len (by omega) (i := k) (by simpa using hqL) (linkP true)
      rw [ptPut] at MSv2
      have SBv2 := Bar.putAll (o := k * 11) (ptEnc (linkP true)) SBv1
      rw [ptPut] at SBv2
      have BBv2 := below_putAll (B := base) hg1 (ptEnc (linkP true)) (k * 11) CW
      rw [ptPut] at BBv2
      obtain ⟨v2, hnm⟩ : ∃ y_, y_ = (((((((((((v1.setCell ⟨g, k * 11, none⟩ (.bool true)).setCell ⟨g, k * 11 + 1, none⟩ (.bool false)).setCell ⟨g, k * 11 + 2, none⟩ (.int .i64 0)).setCell ⟨g, k * 11 + 3, none⟩ (.int .i64 0)).setCell ⟨g, k * 11 + 4, none⟩ (.int .i64 0)).setCell ⟨g, k * 11 + 5, none⟩ (.int .i64 0)).setCell ⟨g, k * 11 + 6, none⟩ (.int .i64 0)).setCell ⟨g, k * 11 + 7, none⟩ (.int .i64 0)).setCell ⟨g, k * 11 + 8, none⟩ (.int .i64 3)).setCell ⟨g, k * 11 + 9, none⟩ (.int .i64 0)).setCell ⟨g, k * 11 + 10, none⟩ (.bool false)) := ⟨_, rfl⟩
      replace MSv2 : FOwn ptEnc 11 109 base v2 (.slice (some ⟨g, 0, none⟩) ((L.set k Pt.nil)).length cap) (((L.set k Pt.nil)).set k (linkP true)) := by rw [hnm]; exact MSv2
      replace SBv2 : Bar g y.heap.size y v2 := by rw [hnm]; exact SBv2
      replace BBv2 : Below base w v2 := by rw [hnm]; exact BBv2
      clear ff
      have hll : ((L.set k Pt.nil).set k (linkP true)) = L.set k (linkP true) := by rw [List.set_set]
      rw [hll, List.length_set] at MSv2
      obtain ⟨a0, a1⟩ := A7
      go_upto_region 15 with fail
      rw [← hnm]
      clear hnm a0 a1 x0 x1 x2 x3 x4 x5 x6 x7 t0 f0 t1 f1 t2 f2 t3 f3 t4 f4 t5 f5 t6 f6 t7 f7 t8 f8 t9 f9 t10 f10 MSw MUv2 CW
      have A9 := A0.bar SBv2 A0.lt (by omega)
      have R9 := R0.keep (SBv2.block _ R0.lt (by omega))
      obtain ⟨Mv, hMv⟩ : ∃ v, v = L.set k (linkP true) := ⟨_, rfl⟩
      rw [← hMv] at MSv2
      have hMl : Mv.length = L.length := by rw [hMv]; simp
      have hDM : Hid (D = decideR id Mv) := by unfold Hid; rw [hN.out, hMv]
      replace hMl : Hid _ := hMl
      clear hMv
      have hdc := decideS id (some ⟨g, 0, none⟩) cap Mv v2 (by have := MSv2; unfold FOwn at this; exact (show FOwn ptEnc 11 109 base v2 (.slice (some ⟨g, 0, none⟩) L.length cap) Mv from this).view.2) (by rw [hMl.out]; omega) (fun e => by cases e)
      rw [hMl.out] at hdc
      obtain ⟨a0, a1⟩ := A9
      go_wp2_with fail
      go_at_call 184
      clear a0 a1
      refine hdc.mono ?_
      rintro e w9 ⟨aD, cD, rfl, oD, k9⟩
      clear hdc
      rw [← hDM.out] at oD ⊢
      have z9 := BBv2.size
      have S9 : w.heap.size + 1 + 1 < v2.heap.size := R9.lt
      have RX := R9.below k9 R9.lt
      have BX := BBv2.trans (k9.mono (by omega))
      have RP := RX.put id (.slice aD D.length cD)
      obtain ⟨⟨r0, r1⟩, rf⟩ := RX
      have BZ := (BX.setCell (p := ⟨w.heap.size + 1 + 1, 0, none⟩) (by show base ≤ w.heap.size + 1 + 1; omega) (.int .i64 id)).setCell (p := ⟨w.heap.size + 1 + 1, 1, none⟩) (by show base ≤ w.heap.size + 1 + 1; omega) (.slice aD D.length cD)
      have OZ : FOwn ptEnc 11 109 base ((w9.setCell ⟨w.heap.size + 1 + 1, 0, none⟩ (.int .i64 id)).setCell ⟨w.heap.size + 1 + 1, 1, none⟩ (.slice aD D.length cD)) (.slice aD D.length cD) D := (oD.base (by omega)).keep fun g' e => by
        have := (oD.lt g' e).1
        rw [Below.heap_setCell _ _ _ _ (by show g' ≠ w.heap.size + 1 + 1; omega), Below.heap_setCell _ _ _ _ (by show g' ≠ w.heap.size + 1 + 1; omega)]
      have b0z := B0.size
      have sbz := SBv2.size
      have WZ : Bar g w.heap.size w ((w9.setCell ⟨w.heap.size + 1 + 1, 0, none⟩ (.int .i64 id)).setCell ⟨w.heap.size + 1 + 1, 1, none⟩ (.slice aD D.length cD)) := ⟨BZ.size, fun q hq hne => by
        rw [Below.heap_setCell _ _ _ _ (by show q ≠ w.heap.size + 1 + 1; omega), Below.heap_setCell _ _ _ _ (by show q ≠ w.heap.size + 1 + 1; omega)]
        exact (k9.block q (by omega)).trans ((SBv2.block q (by omega) hne).trans (B0.block q hq))⟩
      have JZ : ∀ g_, (Value.slice aD D.length cD).ownBlock = some g_ → g_ = g ∨ w.heap.size ≤ g_ := fun g_ e => .inr (by have := (oD.lt g_ e).1; omega)
      obtain ⟨⟨p0, p1⟩, _⟩ := RP
      go_wp2
      refine bodyPost_ret (v := .agg #[.int .i64 id, .slice aD D.length cD]) (by simp [results, Tryz.results136, go_sem, *]) rfl ⟨_, _, rfl, OZ, JZ, WZ, BZ⟩

end Go.Proofs.YtnpiljegdiconaaGreat
