import Derived.Test.YtnpiljegdiconabGreatQM11
namespace Go.Proofs.YtnpiljegdiconabGreat
open Go.ChangeShapes Go.WideShapes Go.ChangeAt Go.RowKit
open Go.ChangeMaps (open_string shut_string)
set_option linter.unusedVariables false
set_option maxRecDepth 100000
theorem toRg (r : Rg) (w : World) :
  Calls Tryz.prog 21 #[.agg #[.int .i64 r.ep, .int .i64 r.ow, .int .i64 r.pa]] w fun e w' => e = .returned (.agg #[.int .i64 r.ep, .int .i64 r.ow, .int .i64 r.pa]) ∧ Below w.heap.size w w' := by
 go_enter Tryz.func21, Tryz.ntmps21
 go_wp2
 refine bodyPost_ret (v := .agg #[.int .i64 r.ep, .int .i64 r.ow, .int .i64 r.pa]) (by simp [results, Tryz.results21, go_sem]) rfl ⟨rfl, ?_⟩
 exact (((Below.refl _ _).alloc (Nat.le_refl _) _).alloc (by simp) _).alloc (by simp; omega) _
set_option maxHeartbeats 1000000 in
theorem eqRg (r : Rg) (w : World) :
  Calls Tryz.prog 30 #[.agg #[.int .i64 r.ep, .int .i64 r.ow, .int .i64 r.pa], .agg #[.int .i64 r.ep, .int .i64 r.ow, .int .i64 r.pa]] w fun e w' => e = .returned (.bool true) ∧ Below w.heap.size w w' := by
 have d1 : (r.ep != r.ep) = false := by simp
 have d2 : (r.ow != r.ow) = false := by simp
 have d3 : (r.pa != r.pa) = false := by simp
 go_enter Tryz.func30, Tryz.ntmps30
 go_wp2
 go_ret
 exact ⟨rfl, ((Below.refl _ _).alloc (Nat.le_refl _) _).alloc (by simp) _⟩
theorem OuAtO.below {w w' : World} {q o n : Nat} {x : Ou} (h : OuAtO w q o x) (k : Below n w w') (hq : q < n) : OuAtO w' q o x :=
 ⟨(World.cell?_of_block (a := ⟨q, o, none⟩) (k.block q hq)).trans h.c0, (World.cell?_of_block (a := ⟨q, o + 1, none⟩) (k.block q hq)).trans h.c1, (World.cell?_of_block (a := ⟨q, o + 2, none⟩) (k.block q hq)).trans h.c2, (World.cell?_of_block (a := ⟨q, o + 3, none⟩) (k.block q hq)).trans h.c3, (World.cell?_of_block (a := ⟨q, o + 4, none⟩) (k.block q hq)).trans h.c4, (World.cell?_of_block (a := ⟨q, o + 5, none⟩) (k.block q hq)).trans h.c5, (World.cell?_of_block (a := ⟨q, o + 6, none⟩) (k.block q hq)).trans h.c6, (World.cell?_of_block (a := ⟨q, o + 7, none⟩) (k.block q hq)).trans h.c7⟩
set_option maxHeartbeats 2000000 in
theorem eqO (x : Ou) (w : World) :
  Calls Tryz.prog 61 #[.agg #[.int .i64 x.k, .int .i64 x.pt, .int .i64 x.r, .int .i64 x.c, .int .i64 x.b, .int .i64 x.p, .int .i64 x.h, .bool x.on], .agg #[.int .i64 x.k, .int .i64 x.pt, .int .i64 x.r, .int .i64 x.c, .int .i64 x.b, .int .i64 x.p, .int .i64 x.h, .bool x.on]] w fun e w' => e = .returned (.bool true) ∧ Below w.heap.size w w' := by
 obtain ⟨w0, hw0⟩ := mk_ ((w.alloc (Obj.cells #[.int .i64 x.k, .int .i64 x.pt, .int .i64 x.r, .int .i64 x.c, .int .i64 x.b, .int .i64 x.p, .int .i64 x.h, .bool x.on] 92)).alloc (Obj.cells #[.int .i64 x.k, .int .i64 x.pt, .int .i64 x.r, .int .i64 x.c, .int .i64 x.b, .int .i64 x.p, .int .i64 x.h, .bool x.on] 92))
 have b0 : Below w.heap.size w w0 := by rw [hw0]; exact ((Below.refl _ _).alloc (Nat.le_refl _) _).alloc (by simp) _
 have P0 : OuAtO w0 w.heap.size 0 x := by rw [hw0]; constructor <;> simp [go_sem]
 have R0 : OuAtO w0 (w.heap.size + 1) 0 x := by rw [hw0]; constructor <;> simp [go_sem]
 have hle : w.heap.size + 1 < w0.heap.size := World.block_lt_of_cell? w0 _ R0.c0
 go_enter Tryz.func61, Tryz.ntmps61
 go_wp2_with fail
 go_at_call 85
 rw [← hw0]
 clear hw0
 refine (eqVs x.r x.c x.b x.p w0).mono ?_
 rintro e w1 ⟨rfl, k1⟩
 have b1 := b0.trans (k1.mono b0.size)
 obtain ⟨p0, p1, p2, p3, p4, p5, p6, p7⟩ := P0.below k1 (by omega)
 obtain ⟨r0, r1, r2, r3, r4, r5, r6, r7⟩ := R0.below k1 (by omega)
 simp only [Nat.zero_add] at p0 r0 p1 r1 p2 r2 p3 r3 p4 r4 p5 r5 p6 r6 p7 r7
 clear P0 R0 k1 b0
 go_wp2
 go_ret
 exact ⟨rfl, b1⟩
set_option maxHeartbeats 2000000 in
theorem ouEqS (ad ad' : Option Addr) (cap cap' : Nat) (L : List Ou) (w : World) (hv : FView ouEnc w ad L) (hv' : FView ouEnc w ad' L) (hl : L.length ≤ 1048576) :
  Calls Tryz.prog 35 #[.slice ad L.length cap, .slice ad' L.length cap'] w fun e w' => e = .returned (.bool true) ∧ Below w.heap.size w w' := by
 have hB := hv.lt ouEnc_len (by omega)
 have hB' := hv'.lt ouEnc_len (by omega)
 go_enter Tryz.func35, Tryz.ntmps35
 go_wp2
 go_loopw [5] (fun i wr => ∃ k : Nat, k ≤ L.length ∧ i = .int .i64 k ∧ Below w.heap.size w wr) (fun i _ => L.length - (intOf i).toNat)
 case atStart => exact ⟨0, Nat.zero_le _, rfl, Below.refl _ _⟩
 case round =>
  obtain ⟨k, hk, rfl, hb⟩ := hrel
  by_cases hlt : k < L.length
  ·
   obtain ⟨b, off, rfl, _⟩ := hv (by omega)
   obtain ⟨b', off', rfl, _⟩ := hv' (by omega)
   obtain ⟨h, hh⟩ : ∃ h, L.getD k Ou.nil = h := ⟨_, rfl⟩
   have hc : ∀ Y, Below w.heap.size w Y → OuAtO Y b (off + k * 8) h := fun Y hY => by rw [← hh]; exact ouAtO_of ((hv.below hY hB).at_ ouEnc_len Ou.nil hlt)
   have hc' : ∀ Y, Below w.heap.size w Y → OuAtO Y b' (off' + k * 8) h := fun Y hY => by rw [← hh]; exact ouAtO_of ((hv'.below hY hB').at_ ouEnc_len Ou.nil hlt)
   clear hh hv hv' hB hB'
   go_wp2_with fail
   refine wp_region_held (S := fun Y => Below w.heap.size w Y) (by kernel_rfl) ?_
   change wpAnyH _ _ _ _ _ _ _ _ (World.drew _)
   have hb0 : Below w.heap.size w wr.drew := hb.drew
   refine tw 0 17 (.slice (some ⟨b, off, none⟩) L.length cap) ?_
   refine tw 1 18 (.int .i64 k) ?_
   refine tw 2 19 (.pointer (some ⟨b, off + k * 8, none⟩)) ?_ (hy := by intro Y hSw; go_simp; try omega)
   refine tw 3 20 (.agg #[.int .i64 h.k, .int .i64 h.pt, .int .i64 h.r, .int .i64 h.c, .int .i64 h.b, .int .i64 h.p, .int .i64 h.h, .bool h.on]) ?_ (hy := by intro Y hSw; obtain ⟨X0, X1, X2, X3, X4, X5, X6, X7⟩ := hc Y hSw; go_simp)
   refine tw 4 21 (.slice (some ⟨b', off', none⟩) L.length cap') ?_
   refine tw 5 22 (.int .i64 k) ?_
   refine tw 6 23 (.pointer (some ⟨b', off' + k * 8, none⟩)) ?_ (hy := by intro Y hSw; go_simp; try omega)
   refine tw 7 24 (.agg #[.int .i64 h.k, .int .i64 h.pt, .int .i64 h.r, .int .i64 h.c, .int .i64 h.b, .int .i64 h.p, .int .i64 h.h, .bool h.on]) ?_ (hy := by intro Y hSw; obtain ⟨X0, X1, X2, X3, X4, X5, X6, X7⟩ := hc' Y hSw; go_simp)
   refine wpAnyH_all (rs := [8]) (by kernel_rfl) (by simp) ?_
   intro i hi; obtain rfl : i = 8 := by simpa using hi
   refine wpOp_step rfl (fun K hK => ?_)
   rw [if_pos (by kernel_rfl)]
   go_simp
   go_at_call 61
   refine (eqO h _).mono ?_
   rintro e y1 ⟨rfl, j1⟩
   have hb1 : Below w.heap.size w y1 := hb0.trans (j1.mono hb0.size)
   refine hK _ _ ⟨hb1, ?_⟩
   clear hK K hi
   refine tw 9 26 (.bool false) ?_
   refine wpAnyH_done (by kernel_rfl) ?_ _
   go_wp2
   go_roundw
   case rel => exact ⟨k + 1, by omega, by go_num, hb1⟩
   case measure => simp [intOf]; omega
  ·
   obtain rfl : k = L.length := by omega
   go_wp2
   go_ret
   exact ⟨rfl, hb⟩
structure TenZ (w : World) (q : Nat) (x z : BxD) : Prop where
 c0 : w.cell? ⟨q, 0, none⟩ = some (.int .i64 x.id)
 c1 : w.cell? ⟨q, 1, none⟩ = some (.int .i64 x.po)
 c2 : w.cell? ⟨q, 2, none⟩ = some (.int .i64 x.rg.ep)
 c3 : w.cell? ⟨q, 3, none⟩ = some (.int .i64 x.rg.ow)
 c4 : w.cell? ⟨q, 4, none⟩ = some (.int .i64 x.rg.pa)
 c5 : w.cell? ⟨q, 5, none⟩ = some (.slice z.aT z.two.length z.cT)
 c6 : w.cell? ⟨q, 6, none⟩ = some (.slice z.aN x.net.length z.cN)
 c7 : w.cell? ⟨q, 7, none⟩ = some (.slice z.aG x.ga.length z.cG)
 c8 : w.cell? ⟨q, 8, none⟩ = some (.slice z.aL x.ln.length z.cL)
 c9 : w.cell? ⟨q, 9, none⟩ = some (.slice z.aS x.sd.length z.cS)
theorem TenZ.below {w w' : World} {q n : Nat} {x z : BxD} (h : TenZ w q x z) (k : Below n w w') (hq : q < n) : TenZ w' q x z :=
 ⟨(World.cell?_of_block (a := ⟨q, 0, none⟩) (k.block q hq)).trans h.c0, (World.cell?_of_block (a := ⟨q, 1, none⟩) (k.block q hq)).trans h.c1, (World.cell?_of_block (a := ⟨q, 2, none⟩) (k.block q hq)).trans h.c2, (World.cell?_of_block (a := ⟨q, 3, none⟩) (k.block q hq)).trans h.c3, (World.cell?_of_block (a := ⟨q, 4, none⟩) (k.block q hq)).trans h.c4, (World.cell?_of_block (a := ⟨q, 5, none⟩) (k.block q hq)).trans h.c5, (World.cell?_of_block (a := ⟨q, 6, none⟩) (k.block q hq)).trans h.c6, (World.cell?_of_block (a := ⟨q, 7, none⟩) (k.block q hq)).trans h.c7, (World.cell?_of_block (a := ⟨q, 8, none⟩) (k.block q hq)).trans h.c8, (World.cell?_of_block (a := ⟨q, 9, none⟩) (k.block q hq)).trans h.c9⟩
theorem TenZ.lt {w : World} {q : Nat} {x z : BxD} (h : TenZ w q x z) : q < w.heap.size := World.block_lt_of_cell? w _ h.c0
set_option maxHeartbeats 2000000 in
theorem bxEq0 (x z : BxD) (w : World) (I : BxIn w x) (J : BxIn w z) (K : BxSm x) (ht : z.two.map MiD.m = x.two.map MiD.m) (e3 : z.net = x.net) (e4 : z.ga = x.ga) (e5 : z.ln = x.ln) (e6 : z.sd = x.sd) :
  Calls Tryz.prog 9 #[.agg #[.int .i64 x.id, .int .i64 x.po, .int .i64 x.rg.ep, .int .i64 x.rg.ow, .int .i64 x.rg.pa, .slice x.aT x.two.length x.cT, .slice x.aN x.net.length x.cN, .slice x.aG x.ga.length x.cG, .slice x.aL x.ln.length x.cL, .slice x.aS x.sd.length x.cS], .agg #[.int .i64 x.id, .int .i64 x.po, .int .i64 x.rg.ep, .int .i64 x.rg.ow, .int .i64 x.rg.pa, .slice z.aT z.two.length z.cT, .slice z.aN x.net.length z.cN, .slice z.aG x.ga.length z.cG, .slice z.aL x.ln.length z.cL, .slice z.aS x.sd.length z.cS]] w fun e w' => e = .returned (.bool true) ∧ Below w.heap.size w w' := by
 have d0 : (x.id != x.id) = false := by simp
 have d1 : (x.po != x.po) = false := by simp
 obtain ⟨y, hy⟩ := mk_ ((w.alloc (Obj.cells #[.int .i64 x.id, .int .i64 x.po, .int .i64 x.rg.ep, .int .i64 x.rg.ow, .int .i64 x.rg.pa, .slice x.aT x.two.length x.cT, .slice x.aN x.net.length x.cN, .slice x.aG x.ga.length x.cG, .slice x.aL x.ln.length x.cL, .slice x.aS x.sd.length x.cS] 39)).alloc (Obj.cells #[.int .i64 x.id, .int .i64 x.po, .int .i64 x.rg.ep, .int .i64 x.rg.ow, .int .i64 x.rg.pa, .slice z.aT z.two.length z.cT, .slice z.aN x.net.length z.cN, .slice z.aG x.ga.length z.cG, .slice z.aL x.ln.length z.cL, .slice z.aS x.sd.length z.cS] 39))
 have B0 : Below w.heap.size w y := by rw [hy]; exact ((Below.refl _ _).alloc (Nat.le_refl _) _).alloc (by simp) _
 have A : BxAt y w.heap.size x := by rw [hy]; constructor <;> simp [go_sem]
 have C : TenZ y (w.heap.size + 1) x z := by rw [hy]; constructor <;> simp [go_sem]
 have I := I.below B0
 have Jn : FView wiEnc y z.aN x.net := by have := (J.below B0).n; rw [e3] at this; exact this
 have Jg : FView boEnc y z.aG x.ga := by have := (J.below B0).g; rw [e4] at this; exact this
 have Ji : FView ikEnc y z.aL x.ln := by have := (J.below B0).i; rw [e5] at this; exact this
 have Js : FView ouEnc y z.aS x.sd := by have := (J.below B0).s; rw [e6] at this; exact this
 have Jt := (J.below B0).t
 clear J e3 e4 e5 e6
 go_enter Tryz.func9, Tryz.ntmps9
 have cc := A
 obtain ⟨a0, a1, a2, a3, a4, a5, a6, a7, a8, a9⟩ := cc
 have cc := C
 obtain ⟨c0, c1, c2, c3, c4, c5, c6, c7, c8, c9⟩ := cc
 go_wp2_with fail
 go_at_call 30
 rw [← hy]
 clear a0 a1 a2 a3 a4 a5 a6 a7 a8 a9 c0 c1 c2 c3 c4 c5 c6 c7 c8 c9 hy
 refine (eqRg x.rg y).mono ?_
 rintro e u0 ⟨rfl, k0⟩
 have A := A.below k0 A.lt
 have C := C.below k0 C.lt
 have I := I.below k0
 have Jt := Jt.below k0 (Nat.le_refl _)
 have Jn := Jn.below k0 (Jn.lt wiEnc_len (by omega))
 have Jg := Jg.below k0 (Jg.lt boEnc_len (by omega))
 have Ji := Ji.below k0 (Ji.lt ikEnc_len (by omega))
 have Js := Js.below k0 (Js.lt ouEnc_len (by omega))
 have B0 := B0.trans (k0.mono B0.size)
 clear k0
 have cc := A
 obtain ⟨a0, a1, a2, a3, a4, a5, a6, a7, a8, a9⟩ := cc
 have cc := C
 obtain ⟨c0, c1, c2, c3, c4, c5, c6, c7, c8, c9⟩ := cc
 go_wp2_with fail
 go_at_call 31
 clear a0 a1 a2 a3 a4 a5 a6 a7 a8 a9 c0 c1 c2 c3 c4 c5 c6 c7 c8 c9
 refine (mdEq x.aT z.aT x.cT z.cT x.two z.two u0 I.t Jt ht K.t K.ls).mono ?_
 rintro e u1 ⟨rfl, k1⟩
 have A := A.below k1 A.lt
 have C := C.below k1 C.lt
 have I := I.below k1
 have Jt := Jt.below k1 (Nat.le_refl _)
 have Jn := Jn.below k1 (Jn.lt wiEnc_len (by omega))
 have Jg := Jg.below k1 (Jg.lt boEnc_len (by omega))
 have Ji := Ji.below k1 (Ji.lt ikEnc_len (by omega))
 have Js := Js.below k1 (Js.lt ouEnc_len (by omega))
 have B0 := B0.trans (k1.mono B0.size)
 clear k1
 have cc := A
 obtain ⟨a0, a1, a2, a3, a4, a5, a6, a7, a8, a9⟩ := cc
 have cc := C
 obtain ⟨c0, c1, c2, c3, c4, c5, c6, c7, c8, c9⟩ := cc
 go_wp2_with fail
 go_at_call 32
 clear a0 a1 a2 a3 a4 a5 a6 a7 a8 a9 c0 c1 c2 c3 c4 c5 c6 c7 c8 c9
 refine (wiEqS x.aN z.aN x.cN z.cN x.net u1 I.n Jn K.n).mono ?_
 rintro e u2 ⟨rfl, k2⟩
 have A := A.below k2 A.lt
 have C := C.below k2 C.lt
 have I := I.below k2
 have Jt := Jt.below k2 (Nat.le_refl _)
 have Jn := Jn.below k2 (Jn.lt wiEnc_len (by omega))
 have Jg := Jg.below k2 (Jg.lt boEnc_len (by omega))
 have Ji := Ji.below k2 (Ji.lt ikEnc_len (by omega))
 have Js := Js.below k2 (Js.lt ouEnc_len (by omega))
 have B0 := B0.trans (k2.mono B0.size)
 clear k2
 have cc := A
 obtain ⟨a0, a1, a2, a3, a4, a5, a6, a7, a8, a9⟩ := cc
 have cc := C
 obtain ⟨c0, c1, c2, c3, c4, c5, c6, c7, c8, c9⟩ := cc
 go_wp2_with fail
 go_at_call 33
 clear a0 a1 a2 a3 a4 a5 a6 a7 a8 a9 c0 c1 c2 c3 c4 c5 c6 c7 c8 c9
 refine (boEq x.aG z.aG x.cG z.cG x.ga u2 I.g Jg K.g).mono ?_
 rintro e u3 ⟨rfl, k3⟩
 have A := A.below k3 A.lt
 have C := C.below k3 C.lt
 have I := I.below k3
 have Jt := Jt.below k3 (Nat.le_refl _)
 have Jn := Jn.below k3 (Jn.lt wiEnc_len (by omega))
 have Jg := Jg.below k3 (Jg.lt boEnc_len (by omega))
 have Ji := Ji.below k3 (Ji.lt ikEnc_len (by omega))
 have Js := Js.below k3 (Js.lt ouEnc_len (by omega))
 have B0 := B0.trans (k3.mono B0.size)
 clear k3
 have cc := A
 obtain ⟨a0, a1, a2, a3, a4, a5, a6, a7, a8, a9⟩ := cc
 have cc := C
 obtain ⟨c0, c1, c2, c3, c4, c5, c6, c7, c8, c9⟩ := cc
 go_wp2_with fail
 go_at_call 34
 clear a0 a1 a2 a3 a4 a5 a6 a7 a8 a9 c0 c1 c2 c3 c4 c5 c6 c7 c8 c9
 refine (ikEqS x.aL z.aL x.cL z.cL x.ln u3 I.i Ji K.i).mono ?_
 rintro e u4 ⟨rfl, k4⟩
 have A := A.below k4 A.lt
 have C := C.below k4 C.lt
 have I := I.below k4
 have Jt := Jt.below k4 (Nat.le_refl _)
 have Jn := Jn.below k4 (Jn.lt wiEnc_len (by omega))
 have Jg := Jg.below k4 (Jg.lt boEnc_len (by omega))
 have Ji := Ji.below k4 (Ji.lt ikEnc_len (by omega))
 have Js := Js.below k4 (Js.lt ouEnc_len (by omega))
 have B0 := B0.trans (k4.mono B0.size)
 clear k4
 have cc := A
 obtain ⟨a0, a1, a2, a3, a4, a5, a6, a7, a8, a9⟩ := cc
 have cc := C
 obtain ⟨c0, c1, c2, c3, c4, c5, c6, c7, c8, c9⟩ := cc
 go_wp2_with fail
 go_at_call 35
 clear a0 a1 a2 a3 a4 a5 a6 a7 a8 a9 c0 c1 c2 c3 c4 c5 c6 c7 c8 c9
 refine (ouEqS x.aS z.aS x.cS z.cS x.sd u4 I.s Js K.s).mono ?_
 rintro e u5 ⟨rfl, k5⟩
 have A := A.below k5 A.lt
 have C := C.below k5 C.lt
 have I := I.below k5
 have Jt := Jt.below k5 (Nat.le_refl _)
 have Jn := Jn.below k5 (Jn.lt wiEnc_len (by omega))
 have Jg := Jg.below k5 (Jg.lt boEnc_len (by omega))
 have Ji := Ji.below k5 (Ji.lt ikEnc_len (by omega))
 have Js := Js.below k5 (Js.lt ouEnc_len (by omega))
 have B0 := B0.trans (k5.mono B0.size)
 clear k5
 go_wp2
 go_ret
 exact ⟨rfl, B0⟩
theorem bxEq (x z : BxD) (w : World) (I : BxIn w x) (J : BxIn w z) (K : BxSm x) (hp : z.p = x.p) :
  Calls Tryz.prog 9 #[.agg #[.int .i64 x.id, .int .i64 x.po, .int .i64 x.rg.ep, .int .i64 x.rg.ow, .int .i64 x.rg.pa, .slice x.aT x.two.length x.cT, .slice x.aN x.net.length x.cN, .slice x.aG x.ga.length x.cG, .slice x.aL x.ln.length x.cL, .slice x.aS x.sd.length x.cS], .agg #[.int .i64 z.id, .int .i64 z.po, .int .i64 z.rg.ep, .int .i64 z.rg.ow, .int .i64 z.rg.pa, .slice z.aT z.two.length z.cT, .slice z.aN z.net.length z.cN, .slice z.aG z.ga.length z.cG, .slice z.aL z.ln.length z.cL, .slice z.aS z.sd.length z.cS]] w fun e w' => e = .returned (.bool true) ∧ Below w.heap.size w w' := by
 obtain ⟨zid, zpo, zrg, ztwo, zaT, zcT, znet, zaN, zcN, zga, zaG, zcG, zln, zaL, zcL, zsd, zaS, zcS⟩ := z
 unfold BxD.p at hp
 simp only [Bx.mk.injEq] at hp
 obtain ⟨rfl, rfl, rfl, ht, rfl, rfl, rfl, rfl⟩ := hp
 exact bxEq0 x ⟨x.id, x.po, x.rg, ztwo, zaT, zcT, x.net, zaN, zcN, x.ga, zaG, zcG, x.ln, zaL, zcL, x.sd, zaS, zcS⟩ w I J K ht rfl rfl rfl rfl
end Go.Proofs.YtnpiljegdiconabGreat
