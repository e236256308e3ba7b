/- FnBpdus: at every code drawn claims are read from the bytes of the wire as they were; cut short they are none; what they claim is heard as a claim; no condition; a code longer than 1048576 is answered true at once. -/
import Derived.Test.YtlgcjhebbmejaaaRows
import Derived.Test.YtlgcjhebbmejaaaBd19b
import Derived.Test.YtlgcjhebbmejaaaBd19c
import Derived.Test.YtlgcjhebbmejaaaBp2
import Derived.Test.YtlgcjhebbmejaaaIns19
import Derived.Test.YtlgcjhebbmejaaaBTo19
import Derived.Test.YtlgcjhebbmejaaaCodeIn
import Derived.Deep.Cut
import Derived.WalkKit
import Derived.Below
import Derived.ChangeOld
import Derived.WalkSmall
import Derived.ProofKit
import Derived.OpenShut
import Derived.ShutString
import Derived.BigQuiet
namespace Go.Proofs.Ytlgcjhebbmejaaa.fnBpdus
open Go.ChangeShapes Go.WideShapes Go.ChangeAt Go.RowKit
set_option linter.unusedVariables false

theorem own : ownKnob Try.prog.godebug = none := by kernel_rfl
theorem laidOut : laidOutB Try.prog = true := by kernel_rfl

set_option maxHeartbeats 32000000 in
set_option maxRecDepth 100000 in
theorem walk (ad0 : Option Addr) (len0 cap0 : Nat) (f0 : Nat → Int) (w : World) (I0 : CodeIn w ad0 len0 f0) :
    Calls Try.prog 3 #[.slice ad0 len0 cap0] w fun e w' => e = .returned (.bool true) ∧ Below w.heap.size w w' := by
  obtain ⟨lm, hv, hB, hf⟩ := I0
  by_cases hbig : 1048576 < len0
  · have hbig' : (1048576 : Int) < (len0 : Int) := by omega
    go_enter Try.func3, Try.ntmps3
    go_wp2_with fail
    go_at_call 9
    refine (bigYes ad0 len0 cap0 w hbig').mono ?_
    rintro e w1 ⟨rfl, h1⟩
    rw [h1]
    clear h1 w1 hbig
    go_wp2
    go_ret
    exact ⟨rfl, Below.refl _ _⟩
  have hC : Code0 w ad0 len0 f0 := ⟨hv, hB, by omega, hf⟩
  go_enter Try.func3, Try.ntmps3
  go_wp2_with fail
  go_at_call 9
  refine (bigNo ad0 len0 cap0 w (by omega)).mono ?_
  rintro e w1 ⟨rfl, h1⟩
  rw [h1]
  clear h1 w1 hbig hv hB hf lm
  have BW : Below w.heap.size w w := Below.refl _ _
  have sw := BW.size
  go_wp2_with fail
  go_at_call 10
  refine (drawBytes ad0 len0 cap0 f0 w (hC.later BW (Nat.le_refl _))).mono ?_
  rintro e wd1 ⟨x, rfl, kq⟩
  have swd1 := kq.size
  have BW := BW.trans (kq.mono BW.size)
  clear kq
  obtain ⟨wd2, hwd2⟩ : ∃ y_, y_ = wd1.alloc (Obj.cells #[.bool x.ch, .bool x.ak, .bool x.ag, .bool x.le, .bool x.op, .int .i64 x.ro, .int .i64 x.r, .int .i64 x.c, .int .i64 x.b, .int .i64 x.p, .int .i64 x.h] 27) := ⟨_, rfl⟩
  have AX : BpAt wd2 (wd1.heap.size) x := by rw [hwd2]; constructor <;> simp [go_sem]
  have kq : Below wd1.heap.size wd1 wd2 := by rw [hwd2]; exact (Below.refl _ _).alloc (by simp) _
  have lwd2 := AX.lt
  have swd2 := kq.size
  have BW := BW.trans (kq.mono BW.size)
  clear kq
  go_upto_region 4 with fail
  rw [← hwd2]
  clear hwd2
  obtain ⟨D, hD⟩ : ∃ D, byB x = D := ⟨_, rfl⟩
  have hDl : D.length ≤ 36 := by rw [← hD]; exact byB_len x
  have hDb := byB_bd x
  rw [hD] at hDb
  replace hD : Hid _ := hD
  have cc := AX
  obtain ⟨m0_0, m0_1, m0_2, m0_3, m0_4, m0_5, m0_6, m0_7, m0_8, m0_9, m0_10⟩ := cc
  go_wp2_with fail
  go_at_call 11
  clear m0_0 m0_1 m0_2 m0_3 m0_4 m0_5 m0_6 m0_7 m0_8 m0_9 m0_10
  refine (byI x wd2).mono ?_
  rintro e wd3 ⟨aB, cB, rfl, OB, kq⟩
  rw [hD.out] at OB ⊢
  have swd3 := kq.size
  have AX := AX.below kq AX.lt
  have BW := BW.trans (kq.mono BW.size)
  clear kq
  have iOB : ∀ g, (Value.slice aB D.length cB).ownBlock = some g → wd2.heap.size ≤ g ∧ g < wd3.heap.size := fun g e => OB.lt g e
  go_wp2_with fail
  go_at_call 12
  refine (drawOf ad0 len0 cap0 f0 wd3 (hC.later BW (Nat.le_refl _))).mono ?_
  rintro e wd4 ⟨aR, cR, LR, rfl, VR, lR, capR, lenR, bdR, kq⟩
  have swd4 := kq.size
  have AX := AX.below kq AX.lt
  have OB := OB.later kq
  have BW := BW.trans (kq.mono BW.size)
  clear kq
  have VR : FView bEnc _ aR LR := bVof VR
  clear lR
  obtain ⟨⟨y, ok⟩, hO⟩ : ∃ R, outI LR = R := ⟨_, rfl⟩
  have hO2 : Hid (outS LR = (y, ok)) := (out_same LR).symm.trans hO
  replace hO : Hid _ := hO
  go_wp2_with fail
  go_at_call 13
  refine (bpduOfI aR cR LR wd4 (bV VR) (VR.lt bEnc_len (by omega)) capR (by omega) bdR).mono ?_
  rintro e wd5 ⟨rfl, kq⟩
  have swd5 := kq.size
  have AX := AX.below kq AX.lt
  have OB := OB.later kq
  have VR := VR.below kq (VR.lt bEnc_len (by omega))
  have BW := BW.trans (kq.mono BW.size)
  clear kq
  rw [hO.out]
  simp only [outV]
  obtain ⟨wd6, hwd6⟩ : ∃ y_, y_ = wd5.alloc (Obj.cells #[.bool y.ch, .bool y.ak, .bool y.ag, .bool y.le, .bool y.op, .int .i64 y.ro, .int .i64 y.r, .int .i64 y.c, .int .i64 y.b, .int .i64 y.p, .int .i64 y.h] 27) := ⟨_, rfl⟩
  have AY : BpAt wd6 (wd5.heap.size) y := by rw [hwd6]; constructor <;> simp [go_sem]
  have kq : Below wd5.heap.size wd5 wd6 := by rw [hwd6]; exact (Below.refl _ _).alloc (by simp) _
  have lwd6 := AY.lt
  have swd6 := kq.size
  have AX := AX.below kq AX.lt
  have OB := OB.later kq
  have VR := VR.below kq (VR.lt bEnc_len (by omega))
  have BW := BW.trans (kq.mono BW.size)
  clear kq
  go_upto_region 7 with fail
  rw [← hwd6]
  clear hwd6
  go_wp2_with fail
  go_at_call 14
  refine (bpduOfS aR cR LR wd6 (bV VR) (VR.lt bEnc_len (by omega)) capR (by omega) bdR).mono ?_
  rintro e wd7 ⟨rfl, kq⟩
  have swd7 := kq.size
  have AX := AX.below kq AX.lt
  have AY := AY.below kq AY.lt
  have OB := OB.later kq
  have VR := VR.below kq (VR.lt bEnc_len (by omega))
  have BW := BW.trans (kq.mono BW.size)
  clear kq
  rw [hO2.out]
  simp only [outV]
  obtain ⟨wd8, hwd8⟩ : ∃ y_, y_ = wd7.alloc (Obj.cells #[.bool y.ch, .bool y.ak, .bool y.ag, .bool y.le, .bool y.op, .int .i64 y.ro, .int .i64 y.r, .int .i64 y.c, .int .i64 y.b, .int .i64 y.p, .int .i64 y.h] 27) := ⟨_, rfl⟩
  have AZ : BpAt wd8 (wd7.heap.size) y := by rw [hwd8]; constructor <;> simp [go_sem]
  have kq : Below wd7.heap.size wd7 wd8 := by rw [hwd8]; exact (Below.refl _ _).alloc (by simp) _
  have lwd8 := AZ.lt
  have swd8 := kq.size
  have AX := AX.below kq AX.lt
  have AY := AY.below kq AY.lt
  have OB := OB.later kq
  have VR := VR.below kq (VR.lt bEnc_len (by omega))
  have BW := BW.trans (kq.mono BW.size)
  clear kq
  go_upto_region 8 with fail
  rw [← hwd8]
  clear hwd8
  go_wp2_with fail
  go_at_call 15
  refine (drawOk ad0 len0 cap0 f0 wd8 (hC.later BW (Nat.le_refl _))).mono ?_
  rintro e wd9 ⟨o, rfl, kq⟩
  have swd9 := kq.size
  have AX := AX.below kq AX.lt
  have AY := AY.below kq AY.lt
  have AZ := AZ.below kq AZ.lt
  have OB := OB.later kq
  have VR := VR.below kq (VR.lt bEnc_len (by omega))
  have BW := BW.trans (kq.mono BW.size)
  clear kq
  go_wp2_with fail
  go_at_call 16
  refine (drawFl ad0 len0 cap0 f0 wd9 (hC.later BW (Nat.le_refl _))).mono ?_
  rintro e wd10 ⟨g, rfl, kq⟩
  have swd10 := kq.size
  have AX := AX.below kq AX.lt
  have AY := AY.below kq AY.lt
  have AZ := AZ.below kq AZ.lt
  have OB := OB.later kq
  have VR := VR.below kq (VR.lt bEnc_len (by omega))
  have BW := BW.trans (kq.mono BW.size)
  clear kq
  obtain ⟨wd11, hwd11⟩ : ∃ y_, y_ = (wd10.alloc (Obj.cells #[.bool o.ch, .bool o.ak, .bool o.ag, .bool o.le, .bool o.op, .int .i64 o.ro, .int .i64 o.r, .int .i64 o.c, .int .i64 o.b, .int .i64 o.p, .int .i64 o.h] 27)).alloc (Obj.cells #[.bool g.ch, .bool g.ak, .bool g.ag, .bool g.le, .bool g.op, .int .i64 g.ro, .int .i64 g.r, .int .i64 g.c, .int .i64 g.b, .int .i64 g.p, .int .i64 g.h] 27) := ⟨_, rfl⟩
  have AO : BpAt wd11 (wd10.heap.size) o := by rw [hwd11]; constructor <;> simp [go_sem]
  have AF : BpAt wd11 (wd10.heap.size + 1) g := by rw [hwd11]; constructor <;> simp [go_sem]
  have kq : Below wd10.heap.size wd10 wd11 := by rw [hwd11]; exact ((Below.refl _ _).alloc (by simp) _).alloc (by simp) _
  have lwd11 := AF.lt
  have swd11 := kq.size
  have AX := AX.below kq AX.lt
  have AY := AY.below kq AY.lt
  have AZ := AZ.below kq AZ.lt
  have OB := OB.later kq
  have VR := VR.below kq (VR.lt bEnc_len (by omega))
  have BW := BW.trans (kq.mono BW.size)
  clear kq
  go_upto_region 9 with fail
  rw [← hwd11]
  clear hwd11
  go_wp2_with fail
  go_at_call 17
  refine (drawCl ad0 len0 cap0 f0 wd11 (hC.later BW (Nat.le_refl _))).mono ?_
  rintro e wd12 ⟨p, n, rfl, kq⟩
  have swd12 := kq.size
  have AX := AX.below kq AX.lt
  have AY := AY.below kq AY.lt
  have AZ := AZ.below kq AZ.lt
  have AO := AO.below kq AO.lt
  have AF := AF.below kq AF.lt
  have OB := OB.later kq
  have VR := VR.below kq (VR.lt bEnc_len (by omega))
  have BW := BW.trans (kq.mono BW.size)
  clear kq
  obtain ⟨wd13, hwd13⟩ : ∃ y_, y_ = wd12.alloc (Obj.cells #[.bool p.ch, .bool p.ak, .bool p.ag, .bool p.le, .bool p.op, .int .i64 p.ro, .int .i64 p.r, .int .i64 p.c, .int .i64 p.b, .int .i64 p.p, .int .i64 p.h] 27) := ⟨_, rfl⟩
  have AP : BpAt wd13 (wd12.heap.size) p := by rw [hwd13]; constructor <;> simp [go_sem]
  have kq : Below wd12.heap.size wd12 wd13 := by rw [hwd13]; exact (Below.refl _ _).alloc (by simp) _
  have lwd13 := AP.lt
  have swd13 := kq.size
  have AX := AX.below kq AX.lt
  have AY := AY.below kq AY.lt
  have AZ := AZ.below kq AZ.lt
  have AO := AO.below kq AO.lt
  have AF := AF.below kq AF.lt
  have OB := OB.later kq
  have VR := VR.below kq (VR.lt bEnc_len (by omega))
  have BW := BW.trans (kq.mono BW.size)
  clear kq
  go_upto_region 10 with fail
  rw [← hwd13]
  clear hwd13
  obtain ⟨R, hR⟩ : ∃ R, R = clV p n := ⟨_, rfl⟩
  obtain ⟨B, hB⟩ : ∃ B, B = clB p n := ⟨_, rfl⟩
  replace hR : Hid _ := hR
  replace hB : Hid _ := hB
  have cc := AP
  obtain ⟨m0_0, m0_1, m0_2, m0_3, m0_4, m0_5, m0_6, m0_7, m0_8, m0_9, m0_10⟩ := cc
  go_wp2_with fail
  go_at_call 18
  clear m0_0 m0_1 m0_2 m0_3 m0_4 m0_5 m0_6 m0_7 m0_8 m0_9 m0_10
  refine (claimI p n wd13).mono ?_
  rintro e wd14 ⟨rfl, kq⟩
  have swd14 := kq.size
  have AX := AX.below kq AX.lt
  have AY := AY.below kq AY.lt
  have AZ := AZ.below kq AZ.lt
  have AO := AO.below kq AO.lt
  have AF := AF.below kq AF.lt
  have AP := AP.below kq AP.lt
  have OB := OB.later kq
  have VR := VR.below kq (VR.lt bEnc_len (by omega))
  have BW := BW.trans (kq.mono BW.size)
  clear kq
  rw [← hR.out, ← hB.out]
  obtain ⟨wd15, hwd15⟩ : ∃ y_, y_ = wd14.alloc (Obj.cells #[.int .i64 R.k, .int .i64 R.q, .int .i64 R.r, .int .i64 R.c, .int .i64 R.b, .int .i64 R.p, .int .i64 R.h, .bool R.up] 36) := ⟨_, rfl⟩
  have AN : InAt wd15 wd14.heap.size R := by rw [hwd15]; exact InAt.new wd14 _ _
  have kq : Below wd14.heap.size wd14 wd15 := by rw [hwd15]; exact below_new _
  have lwd15 := AN.lt
  have swd15 := kq.size
  have AX := AX.below kq AX.lt
  have AY := AY.below kq AY.lt
  have AZ := AZ.below kq AZ.lt
  have AO := AO.below kq AO.lt
  have AF := AF.below kq AF.lt
  have AP := AP.below kq AP.lt
  have OB := OB.later kq
  have VR := VR.below kq (VR.lt bEnc_len (by omega))
  have BW := BW.trans (kq.mono BW.size)
  clear kq
  go_upto_region 11 with fail
  rw [← hwd15]
  clear hwd15
  have cc := AP
  obtain ⟨m0_0, m0_1, m0_2, m0_3, m0_4, m0_5, m0_6, m0_7, m0_8, m0_9, m0_10⟩ := cc
  go_wp2_with fail
  go_at_call 19
  clear m0_0 m0_1 m0_2 m0_3 m0_4 m0_5 m0_6 m0_7 m0_8 m0_9 m0_10
  refine (claimS p n wd15).mono ?_
  rintro e wd16 ⟨rfl, kq⟩
  have swd16 := kq.size
  have AX := AX.below kq AX.lt
  have AY := AY.below kq AY.lt
  have AZ := AZ.below kq AZ.lt
  have AO := AO.below kq AO.lt
  have AF := AF.below kq AF.lt
  have AP := AP.below kq AP.lt
  have OB := OB.later kq
  have VR := VR.below kq (VR.lt bEnc_len (by omega))
  have AN := AN.below kq AN.lt
  have BW := BW.trans (kq.mono BW.size)
  clear kq
  rw [← hR.out, ← hB.out]
  obtain ⟨wd17, hwd17⟩ : ∃ y_, y_ = wd16.alloc (Obj.cells #[.int .i64 R.k, .int .i64 R.q, .int .i64 R.r, .int .i64 R.c, .int .i64 R.b, .int .i64 R.p, .int .i64 R.h, .bool R.up] 36) := ⟨_, rfl⟩
  have AM : InAt wd17 wd16.heap.size R := by rw [hwd17]; exact InAt.new wd16 _ _
  have kq : Below wd16.heap.size wd16 wd17 := by rw [hwd17]; exact below_new _
  have lwd17 := AM.lt
  have swd17 := kq.size
  have AX := AX.below kq AX.lt
  have AY := AY.below kq AY.lt
  have AZ := AZ.below kq AZ.lt
  have AO := AO.below kq AO.lt
  have AF := AF.below kq AF.lt
  have AP := AP.below kq AP.lt
  have OB := OB.later kq
  have VR := VR.below kq (VR.lt bEnc_len (by omega))
  have AN := AN.below kq AN.lt
  have BW := BW.trans (kq.mono BW.size)
  clear kq
  go_upto_region 12 with fail
  rw [← hwd17]
  clear hwd17
  obtain ⟨ob, hob⟩ : ∃ v, bpOk o = v := ⟨_, rfl⟩
  obtain ⟨fb, hfb⟩ : ∃ v, flZ g = v := ⟨_, rfl⟩
  replace hob : Hid _ := hob
  replace hfb : Hid _ := hfb
  have hcB : ∀ Y, Below wd17.heap.size wd17 Y → (convert 22 9 (.slice aB D.length cB)).run Try.prog Y = .ok (.string (txt D)) Y := fun Y h => conv_later (bV OB.view.2) hDb (B := wd17.heap.size) (fun a e => by subst e; exact (OB.lt _ rfl).2) h
  have hcR : ∀ Y, Below wd17.heap.size wd17 Y → (convert 22 9 (.slice aR LR.length cR)).run Try.prog Y = .ok (.string (txt LR)) Y := fun Y h => by
    have VR' : FView bEnc Y aR LR := VR.below h (VR.lt bEnc_len (by omega))
    exact conv_view (bV VR') bdR
  have hqD : ((txt D).toList == (txt D).toList) = true := by simp
  have hqR : ((txt LR).toList == (txt LR).toList) = true := by simp
  obtain ⟨E, hE⟩ : ∃ E, byB y = E := ⟨_, rfl⟩
  have hEb := byB_bd y
  rw [hE] at hEb
  have hER : ok = true → E = LR := fun h => by
    have q := hO.out
    by_cases k : LR.length = 36 ∧ byB (rdI LR) = LR
    · rw [outI_yes k.1 k.2] at q
      rw [← hE, ← (Prod.mk.inj q).1]
      exact k.2
    · rw [show outI LR = (bpNil, false) from if_neg k] at q
      have := (Prod.mk.inj q).2
      rw [h] at this
      cases this
  replace hE : Hid _ := hE
  go_upto_region 12 with fail
  refine join_regionB (fun LL l' W' => ∃ us : List Value, us.length = 50 ∧ l' = LL.take 61 ++ us ++ (.bool false :: LL.drop 112) ∧ Below wd17.heap.size wd17 W') ?_ ?_
  rotate_left
  · intro K2 hT3
    refine wp_region_held (S := fun Y => Below wd17.heap.size wd17 Y) (by kernel_rfl) ?_
    change wpAnyH _ _ _ _ _ _ _ _ (World.drew _)
    have hb0 : Below wd17.heap.size wd17 wd17.drew := (Below.refl _ _).drew
    obtain ⟨u0, hy0⟩ : ∃ y_, y_ = wd17.drew := ⟨_, rfl⟩
    rw [← hy0] at hb0 ⊢
    clear hy0
    refine takeW 0 61 (.slice aB D.length cB) rfl rfl (by kernel_rfl) (by kernel_rfl) (by kernel_rfl) (fun _ _ _ h => h) (by kernel_rfl) (by (intro w hSw; go_simp)) (by assumption) ?_
    simp only [List.set_cons_zero, List.set_cons_succ]
    refine takeW 1 62 (.string (txt D)) rfl rfl (by kernel_rfl) (by kernel_rfl) (by kernel_rfl) (fun _ _ _ h => h) (by kernel_rfl) (by (intro Y hSw; have q := hcB Y hSw; go_simp)) (by assumption) ?_
    simp only [List.set_cons_zero, List.set_cons_succ]
    refine takeW 2 63 (.agg #[.bool x.ch, .bool x.ak, .bool x.ag, .bool x.le, .bool x.op, .int .i64 x.ro, .int .i64 x.r, .int .i64 x.c, .int .i64 x.b, .int .i64 x.p, .int .i64 x.h]) rfl rfl (by kernel_rfl) (by kernel_rfl) (by kernel_rfl) (fun _ _ _ h => h) (by kernel_rfl) (by (intro Y hSw; obtain ⟨X0, X1, X2, X3, X4, X5, X6, X7, X8, X9, X10⟩ := AX.below hSw AX.lt; go_simp)) (by assumption) ?_
    simp only [List.set_cons_zero, List.set_cons_succ]
    refine wpAnyH_all (rs := [3]) (by kernel_rfl) (by simp) ?_
    intro i hi; obtain rfl : i = 3 := by simpa using hi
    refine wpOp_step rfl (fun Kz hKz => ?_)
    rw [if_pos (by kernel_rfl)]
    go_simp
    go_at_call 20
    refine (byS x u0).mono ?_
    rintro e u1 ⟨aS, cS, rfl, OS, kq⟩
    rw [hD.out] at OS ⊢
    have hb1 : Below wd17.heap.size wd17 u1 := hb0.trans (kq.mono hb0.size)
    have hcS := conv_view (cap := cS) (bV OS.view.2) hDb
    clear kq
    refine hKz _ _ ⟨hb1, ?_⟩
    clear hKz Kz hi
    refine wpAnyH_all (rs := [4]) (by kernel_rfl) (by simp) ?_
    intro i hi; obtain rfl : i = 4 := by simpa using hi
    refine wpOp_step rfl (fun Kz hKz => ?_)
    rw [if_pos (by kernel_rfl)]
    go_simp
    refine hKz _ _ ⟨hb1, ?_⟩
    clear hKz Kz hi
    refine takeW 5 66 (.bool false) rfl rfl (by kernel_rfl) (by kernel_rfl) (by kernel_rfl) (fun _ _ _ h => h) (by kernel_rfl) (by (intro w hSw; go_simp)) (by assumption) ?_
    simp only [List.set_cons_zero, List.set_cons_succ]
    refine takeW 6 67 (.bool false) rfl rfl (by kernel_rfl) (by kernel_rfl) (by kernel_rfl) (fun _ _ _ h => h) (by kernel_rfl) (by (intro w hSw; go_simp)) (by assumption) ?_
    simp only [List.set_cons_zero, List.set_cons_succ]
    refine takeW 7 68 (.agg #[.bool y.ch, .bool y.ak, .bool y.ag, .bool y.le, .bool y.op, .int .i64 y.ro, .int .i64 y.r, .int .i64 y.c, .int .i64 y.b, .int .i64 y.p, .int .i64 y.h]) rfl rfl (by kernel_rfl) (by kernel_rfl) (by kernel_rfl) (fun _ _ _ h => h) (by kernel_rfl) (by (intro Y hSw; obtain ⟨X0, X1, X2, X3, X4, X5, X6, X7, X8, X9, X10⟩ := AY.below hSw AY.lt; go_simp)) (by assumption) ?_
    simp only [List.set_cons_zero, List.set_cons_succ]
    refine takeW 8 69 (.agg #[.bool y.ch, .bool y.ak, .bool y.ag, .bool y.le, .bool y.op, .int .i64 y.ro, .int .i64 y.r, .int .i64 y.c, .int .i64 y.b, .int .i64 y.p, .int .i64 y.h]) rfl rfl (by kernel_rfl) (by kernel_rfl) (by kernel_rfl) (fun _ _ _ h => h) (by kernel_rfl) (by (intro Y hSw; obtain ⟨X0, X1, X2, X3, X4, X5, X6, X7, X8, X9, X10⟩ := AZ.below hSw AZ.lt; go_simp)) (by assumption) ?_
    simp only [List.set_cons_zero, List.set_cons_succ]
    refine takeW 9 70 (.bool false) rfl rfl (by kernel_rfl) (by kernel_rfl) (by kernel_rfl) (fun _ _ _ h => h) (by kernel_rfl) (by (intro w hSw; go_simp)) (by assumption) ?_
    simp only [List.set_cons_zero, List.set_cons_succ]
    refine takeW 10 71 (.bool false) rfl rfl (by kernel_rfl) (by kernel_rfl) (by kernel_rfl) (fun _ _ _ h => h) (by kernel_rfl) (by (intro w hSw; go_simp)) (by assumption) ?_
    simp only [List.set_cons_zero, List.set_cons_succ]
    refine takeW 11 72 (.bool false) rfl rfl (by kernel_rfl) (by kernel_rfl) (by kernel_rfl) (fun _ _ _ h => h) (by kernel_rfl) (by (intro w hSw; go_simp)) (by assumption) ?_
    simp only [List.set_cons_zero, List.set_cons_succ]
    refine takeW 12 73 (.bool ok) rfl rfl (by kernel_rfl) (by kernel_rfl) (by kernel_rfl) (fun _ _ _ h => h) (by kernel_rfl) (by (intro w hSw; go_simp)) (by assumption) ?_
    simp only [List.set_cons_zero, List.set_cons_succ]
    refine takeW 13 74 (.bool ok) rfl rfl (by kernel_rfl) (by kernel_rfl) (by kernel_rfl) (fun _ _ _ h => h) (by kernel_rfl) (by (intro w hSw; go_simp)) (by assumption) ?_
    simp only [List.set_cons_zero, List.set_cons_succ]
    refine takeW 14 75 (.bool false) rfl rfl (by kernel_rfl) (by kernel_rfl) (by kernel_rfl) (fun _ _ _ h => h) (by kernel_rfl) (by (intro w hSw; go_simp)) (by assumption) ?_
    simp only [List.set_cons_zero, List.set_cons_succ]
    refine takeW 15 76 (.bool false) rfl rfl (by kernel_rfl) (by kernel_rfl) (by kernel_rfl) (fun _ _ _ h => h) (by kernel_rfl) (by (intro w hSw; go_simp)) (by assumption) ?_
    simp only [List.set_cons_zero, List.set_cons_succ]
    refine takeW 16 77 (.bool false) rfl rfl (by kernel_rfl) (by kernel_rfl) (by kernel_rfl) (fun _ _ _ h => h) (by kernel_rfl) (by (intro w hSw; go_simp)) (by assumption) ?_
    simp only [List.set_cons_zero, List.set_cons_succ]
    refine takeW 17 78 (.agg #[.bool o.ch, .bool o.ak, .bool o.ag, .bool o.le, .bool o.op, .int .i64 o.ro, .int .i64 o.r, .int .i64 o.c, .int .i64 o.b, .int .i64 o.p, .int .i64 o.h]) rfl rfl (by kernel_rfl) (by kernel_rfl) (by kernel_rfl) (fun _ _ _ h => h) (by kernel_rfl) (by (intro Y hSw; obtain ⟨X0, X1, X2, X3, X4, X5, X6, X7, X8, X9, X10⟩ := AO.below hSw AO.lt; go_simp)) (by assumption) ?_
    simp only [List.set_cons_zero, List.set_cons_succ]
    refine takeW 19 80 (.agg #[.bool o.ch, .bool o.ak, .bool o.ag, .bool o.le, .bool o.op, .int .i64 o.ro, .int .i64 o.r, .int .i64 o.c, .int .i64 o.b, .int .i64 o.p, .int .i64 o.h]) rfl rfl (by kernel_rfl) (by kernel_rfl) (by kernel_rfl) (fun _ _ _ h => h) (by kernel_rfl) (by (intro Y hSw; obtain ⟨X0, X1, X2, X3, X4, X5, X6, X7, X8, X9, X10⟩ := AO.below hSw AO.lt; go_simp)) (by assumption) ?_
    simp only [List.set_cons_zero, List.set_cons_succ]
    refine wpAnyH_all (rs := [18]) (by kernel_rfl) (by simp) ?_
    intro i hi; obtain rfl : i = 18 := by simpa using hi
    refine wpOp_step rfl (fun Kz hKz => ?_)
    rw [if_pos (by kernel_rfl)]
    go_simp
    go_at_call 21
    refine (bpOkI o u1).mono ?_
    rintro e u2 ⟨rfl, kq⟩
    have hb2 : Below wd17.heap.size wd17 u2 := hb1.trans (kq.mono hb1.size)
    clear kq
    rw [hob.out]
    refine hKz _ _ ⟨hb2, ?_⟩
    clear hKz Kz hi
    refine wpAnyH_all (rs := [20]) (by kernel_rfl) (by simp) ?_
    intro i hi; obtain rfl : i = 20 := by simpa using hi
    refine wpOp_step rfl (fun Kz hKz => ?_)
    rw [if_pos (by kernel_rfl)]
    go_simp
    go_at_call 22
    refine (bpOkS o u2).mono ?_
    rintro e u3 ⟨rfl, kq⟩
    have hb3 : Below wd17.heap.size wd17 u3 := hb2.trans (kq.mono hb2.size)
    clear kq
    rw [hob.out]
    refine hKz _ _ ⟨hb3, ?_⟩
    clear hKz Kz hi
    refine takeW 21 82 (.bool false) rfl rfl (by kernel_rfl) (by kernel_rfl) (by kernel_rfl) (fun _ _ _ h => h) (by kernel_rfl) (by (intro w hSw; go_simp)) (by assumption) ?_
    simp only [List.set_cons_zero, List.set_cons_succ]
    refine takeW 22 83 (.bool false) rfl rfl (by kernel_rfl) (by kernel_rfl) (by kernel_rfl) (fun _ _ _ h => h) (by kernel_rfl) (by (intro w hSw; go_simp)) (by assumption) ?_
    simp only [List.set_cons_zero, List.set_cons_succ]
    refine takeW 23 84 (.bool false) rfl rfl (by kernel_rfl) (by kernel_rfl) (by kernel_rfl) (fun _ _ _ h => h) (by kernel_rfl) (by (intro w hSw; go_simp)) (by assumption) ?_
    simp only [List.set_cons_zero, List.set_cons_succ]
    refine takeW 24 85 (.agg #[.bool g.ch, .bool g.ak, .bool g.ag, .bool g.le, .bool g.op, .int .i64 g.ro, .int .i64 g.r, .int .i64 g.c, .int .i64 g.b, .int .i64 g.p, .int .i64 g.h]) rfl rfl (by kernel_rfl) (by kernel_rfl) (by kernel_rfl) (fun _ _ _ h => h) (by kernel_rfl) (by (intro Y hSw; obtain ⟨X0, X1, X2, X3, X4, X5, X6, X7, X8, X9, X10⟩ := AF.below hSw AF.lt; go_simp)) (by assumption) ?_
    simp only [List.set_cons_zero, List.set_cons_succ]
    refine takeW 26 87 (.agg #[.bool g.ch, .bool g.ak, .bool g.ag, .bool g.le, .bool g.op, .int .i64 g.ro, .int .i64 g.r, .int .i64 g.c, .int .i64 g.b, .int .i64 g.p, .int .i64 g.h]) rfl rfl (by kernel_rfl) (by kernel_rfl) (by kernel_rfl) (fun _ _ _ h => h) (by kernel_rfl) (by (intro Y hSw; obtain ⟨X0, X1, X2, X3, X4, X5, X6, X7, X8, X9, X10⟩ := AF.below hSw AF.lt; go_simp)) (by assumption) ?_
    simp only [List.set_cons_zero, List.set_cons_succ]
    refine wpAnyH_all (rs := [25]) (by kernel_rfl) (by simp) ?_
    intro i hi; obtain rfl : i = 25 := by simpa using hi
    refine wpOp_step rfl (fun Kz hKz => ?_)
    rw [if_pos (by kernel_rfl)]
    go_simp
    go_at_call 23
    refine (flagsI g u3).mono ?_
    rintro e u4 ⟨rfl, kq⟩
    have hb4 : Below wd17.heap.size wd17 u4 := hb3.trans (kq.mono hb3.size)
    clear kq
    rw [hfb.out]
    refine hKz _ _ ⟨hb4, ?_⟩
    clear hKz Kz hi
    refine wpAnyH_all (rs := [27]) (by kernel_rfl) (by simp) ?_
    intro i hi; obtain rfl : i = 27 := by simpa using hi
    refine wpOp_step rfl (fun Kz hKz => ?_)
    rw [if_pos (by kernel_rfl)]
    go_simp
    go_at_call 24
    refine (flagsS g u4).mono ?_
    rintro e u5 ⟨rfl, kq⟩
    have hb5 : Below wd17.heap.size wd17 u5 := hb4.trans (kq.mono hb4.size)
    clear kq
    rw [hfb.out]
    refine hKz _ _ ⟨hb5, ?_⟩
    clear hKz Kz hi
    refine takeW 28 89 (.bool false) rfl rfl (by kernel_rfl) (by kernel_rfl) (by kernel_rfl) (fun _ _ _ h => h) (by kernel_rfl) (by (intro w hSw; go_simp)) (by assumption) ?_
    simp only [List.set_cons_zero, List.set_cons_succ]
    refine takeW 29 90 (.bool false) rfl rfl (by kernel_rfl) (by kernel_rfl) (by kernel_rfl) (fun _ _ _ h => h) (by kernel_rfl) (by (intro w hSw; go_simp)) (by assumption) ?_
    simp only [List.set_cons_zero, List.set_cons_succ]
    refine takeW 30 91 (.bool false) rfl rfl (by kernel_rfl) (by kernel_rfl) (by kernel_rfl) (fun _ _ _ h => h) (by kernel_rfl) (by (intro w hSw; go_simp)) (by assumption) ?_
    simp only [List.set_cons_zero, List.set_cons_succ]
    refine takeW 31 92 (.agg #[.int .i64 R.k, .int .i64 R.q, .int .i64 R.r, .int .i64 R.c, .int .i64 R.b, .int .i64 R.p, .int .i64 R.h, .bool R.up]) rfl rfl (by kernel_rfl) (by kernel_rfl) (by kernel_rfl) (fun _ _ _ h => h) (by kernel_rfl) (by (intro Y hSw; obtain ⟨X0, X1, X2, X3, X4, X5, X6, X7⟩ := AN.below hSw AN.lt; go_simp)) (by assumption) ?_
    simp only [List.set_cons_zero, List.set_cons_succ]
    refine takeW 32 93 (.agg #[.int .i64 R.k, .int .i64 R.q, .int .i64 R.r, .int .i64 R.c, .int .i64 R.b, .int .i64 R.p, .int .i64 R.h, .bool R.up]) rfl rfl (by kernel_rfl) (by kernel_rfl) (by kernel_rfl) (fun _ _ _ h => h) (by kernel_rfl) (by (intro Y hSw; obtain ⟨X0, X1, X2, X3, X4, X5, X6, X7⟩ := AM.below hSw AM.lt; go_simp)) (by assumption) ?_
    simp only [List.set_cons_zero, List.set_cons_succ]
    refine takeW 33 94 (.bool false) rfl rfl (by kernel_rfl) (by kernel_rfl) (by kernel_rfl) (fun _ _ _ h => h) (by kernel_rfl) (by (intro w hSw; go_simp)) (by assumption) ?_
    simp only [List.set_cons_zero, List.set_cons_succ]
    refine takeW 34 95 (.bool false) rfl rfl (by kernel_rfl) (by kernel_rfl) (by kernel_rfl) (fun _ _ _ h => h) (by kernel_rfl) (by (intro w hSw; go_simp)) (by assumption) ?_
    simp only [List.set_cons_zero, List.set_cons_succ]
    refine takeW 35 96 (.bool false) rfl rfl (by kernel_rfl) (by kernel_rfl) (by kernel_rfl) (fun _ _ _ h => h) (by kernel_rfl) (by (intro w hSw; go_simp)) (by assumption) ?_
    simp only [List.set_cons_zero, List.set_cons_succ]
    refine takeW 36 97 (.bool B) rfl rfl (by kernel_rfl) (by kernel_rfl) (by kernel_rfl) (fun _ _ _ h => h) (by kernel_rfl) (by (intro w hSw; go_simp)) (by assumption) ?_
    simp only [List.set_cons_zero, List.set_cons_succ]
    refine takeW 37 98 (.bool B) rfl rfl (by kernel_rfl) (by kernel_rfl) (by kernel_rfl) (fun _ _ _ h => h) (by kernel_rfl) (by (intro w hSw; go_simp)) (by assumption) ?_
    simp only [List.set_cons_zero, List.set_cons_succ]
    refine takeW 38 99 (.bool false) rfl rfl (by kernel_rfl) (by kernel_rfl) (by kernel_rfl) (fun _ _ _ h => h) (by kernel_rfl) (by (intro w hSw; go_simp)) (by assumption) ?_
    simp only [List.set_cons_zero, List.set_cons_succ]
    refine takeW 39 100 (.bool false) rfl rfl (by kernel_rfl) (by kernel_rfl) (by kernel_rfl) (fun _ _ _ h => h) (by kernel_rfl) (by (intro w hSw; go_simp)) (by assumption) ?_
    simp only [List.set_cons_zero, List.set_cons_succ]
    refine takeW 40 101 (.bool false) rfl rfl (by kernel_rfl) (by kernel_rfl) (by kernel_rfl) (fun _ _ _ h => h) (by kernel_rfl) (by (intro w hSw; go_simp)) (by assumption) ?_
    simp only [List.set_cons_zero, List.set_cons_succ]
    refine takeW 41 102 (.bool ok) rfl rfl (by kernel_rfl) (by kernel_rfl) (by kernel_rfl) (fun _ _ _ h => h) (by kernel_rfl) (by (intro w hSw; go_simp)) (by assumption) ?_
    simp only [List.set_cons_zero, List.set_cons_succ]
    refine takeW 42 103 (.bool ok) rfl rfl (by kernel_rfl) (by kernel_rfl) (by kernel_rfl) (fun _ _ _ h => h) (by kernel_rfl) (by (intro w hSw; go_simp)) (by assumption) ?_
    simp only [List.set_cons_zero, List.set_cons_succ]
    by_cases ho : ok = true
    · have hEr : E = LR := hER ho
      have hqE : ((txt E).toList == (txt LR).toList) = true := by rw [hEr]; simp
      replace hEr : Hid _ := hEr
      clear hER
      subst ho
      refine takeW 43 104 (.agg #[.bool y.ch, .bool y.ak, .bool y.ag, .bool y.le, .bool y.op, .int .i64 y.ro, .int .i64 y.r, .int .i64 y.c, .int .i64 y.b, .int .i64 y.p, .int .i64 y.h]) rfl rfl (by kernel_rfl) (by kernel_rfl) (by kernel_rfl) (fun _ _ _ h => h) (by kernel_rfl) (by (intro Y hSw; obtain ⟨X0, X1, X2, X3, X4, X5, X6, X7, X8, X9, X10⟩ := AY.below hSw AY.lt; go_simp)) (by assumption) ?_
      simp only [List.set_cons_zero, List.set_cons_succ]
      refine takeW 46 107 (.slice aR LR.length cR) rfl rfl (by kernel_rfl) (by kernel_rfl) (by kernel_rfl) (fun _ _ _ h => h) (by kernel_rfl) (by (intro w hSw; go_simp)) (by assumption) ?_
      simp only [List.set_cons_zero, List.set_cons_succ]
      refine takeW 47 108 (.string (txt LR)) rfl rfl (by kernel_rfl) (by kernel_rfl) (by kernel_rfl) (fun _ _ _ h => h) (by kernel_rfl) (by (intro Y hSw; have q := hcR Y hSw; go_simp)) (by assumption) ?_
      simp only [List.set_cons_zero, List.set_cons_succ]
      refine wpAnyH_all (rs := [44]) (by kernel_rfl) (by simp) ?_
      intro i hi; obtain rfl : i = 44 := by simpa using hi
      refine wpOp_step rfl (fun Kz hKz => ?_)
      rw [if_pos (by kernel_rfl)]
      go_simp
      go_at_call 11
      refine (byI y u5).mono ?_
      rintro e u6 ⟨aT, cT, rfl, OT, kq⟩
      rw [hE.out] at OT ⊢
      have hb6 : Below wd17.heap.size wd17 u6 := hb5.trans (kq.mono hb5.size)
      have hcT := conv_view (cap := cT) (bV OT.view.2) hEb
      clear kq
      refine hKz _ _ ⟨hb6, ?_⟩
      clear hKz Kz hi
      refine wpAnyH_all (rs := [45]) (by kernel_rfl) (by simp) ?_
      intro i hi; obtain rfl : i = 45 := by simpa using hi
      refine wpOp_step rfl (fun Kz hKz => ?_)
      rw [if_pos (by kernel_rfl)]
      go_simp
      refine hKz _ _ ⟨hb6, ?_⟩
      clear hKz Kz hi
      refine takeW 48 109 (.bool false) rfl rfl (by kernel_rfl) (by kernel_rfl) (by kernel_rfl) (fun _ _ _ h => h) (by kernel_rfl) (by (intro w hSw; go_simp)) (by assumption) ?_
      simp only [List.set_cons_zero, List.set_cons_succ]
      refine takeW 49 110 (.bool false) rfl rfl (by kernel_rfl) (by kernel_rfl) (by kernel_rfl) (fun _ _ _ h => h) (by kernel_rfl) (by (intro w hSw; go_simp)) (by assumption) ?_
      simp only [List.set_cons_zero, List.set_cons_succ]
      refine takeW 50 111 (.bool false) rfl rfl (by kernel_rfl) (by kernel_rfl) (by kernel_rfl) (fun _ _ _ h => h) (by kernel_rfl) (by (intro w hSw; go_simp)) (by assumption) ?_
      simp only [List.set_cons_zero, List.set_cons_succ]
      refine wpAnyH_done (by kernel_rfl) ?_ _
      exact hT3.out _ _ ⟨[.slice aB D.length cB, .string (txt D), .agg #[.bool x.ch, .bool x.ak, .bool x.ag, .bool x.le, .bool x.op, .int .i64 x.ro, .int .i64 x.r, .int .i64 x.c, .int .i64 x.b, .int .i64 x.p, .int .i64 x.h], .slice aS D.length cS, .string (txt D), .bool false, .bool false, .agg #[.bool y.ch, .bool y.ak, .bool y.ag, .bool y.le, .bool y.op, .int .i64 y.ro, .int .i64 y.r, .int .i64 y.c, .int .i64 y.b, .int .i64 y.p, .int .i64 y.h], .agg #[.bool y.ch, .bool y.ak, .bool y.ag, .bool y.le, .bool y.op, .int .i64 y.ro, .int .i64 y.r, .int .i64 y.c, .int .i64 y.b, .int .i64 y.p, .int .i64 y.h], .bool false, .bool false, .bool false, .bool true, .bool true, .bool false, .bool false, .bool false, .agg #[.bool o.ch, .bool o.ak, .bool o.ag, .bool o.le, .bool o.op, .int .i64 o.ro, .int .i64 o.r, .int .i64 o.c, .int .i64 o.b, .int .i64 o.p, .int .i64 o.h], .bool ob, .agg #[.bool o.ch, .bool o.ak, .bool o.ag, .bool o.le, .bool o.op, .int .i64 o.ro, .int .i64 o.r, .int .i64 o.c, .int .i64 o.b, .int .i64 o.p, .int .i64 o.h], .bool ob, .bool false, .bool false, .bool false, .agg #[.bool g.ch, .bool g.ak, .bool g.ag, .bool g.le, .bool g.op, .int .i64 g.ro, .int .i64 g.r, .int .i64 g.c, .int .i64 g.b, .int .i64 g.p, .int .i64 g.h], .int .i64 fb, .agg #[.bool g.ch, .bool g.ak, .bool g.ag, .bool g.le, .bool g.op, .int .i64 g.ro, .int .i64 g.r, .int .i64 g.c, .int .i64 g.b, .int .i64 g.p, .int .i64 g.h], .int .i64 fb, .bool false, .bool false, .bool false, .agg #[.int .i64 R.k, .int .i64 R.q, .int .i64 R.r, .int .i64 R.c, .int .i64 R.b, .int .i64 R.p, .int .i64 R.h, .bool R.up], .agg #[.int .i64 R.k, .int .i64 R.q, .int .i64 R.r, .int .i64 R.c, .int .i64 R.b, .int .i64 R.p, .int .i64 R.h, .bool R.up], .bool false, .bool false, .bool false, .bool B, .bool B, .bool false, .bool false, .bool false, .bool true, .bool true, .agg #[.bool y.ch, .bool y.ak, .bool y.ag, .bool y.le, .bool y.op, .int .i64 y.ro, .int .i64 y.r, .int .i64 y.c, .int .i64 y.b, .int .i64 y.p, .int .i64 y.h], .slice aT E.length cT, .string (txt E), .slice aR LR.length cR, .string (txt LR), .bool false, .bool false], rfl, by kernel_rfl, hb6⟩
    · obtain rfl : ok = false := by simpa using ho
      refine takeS 43 104 rfl rfl (by kernel_rfl) (by kernel_rfl) (by kernel_rfl) (fun _ _ _ h => h) (by kernel_rfl) (by assumption) ?_
      simp only [List.set_cons_zero, List.set_cons_succ]
      refine takeS 44 105 rfl rfl (by kernel_rfl) (by kernel_rfl) (by kernel_rfl) (fun _ _ _ h => h) (by kernel_rfl) (by assumption) ?_
      simp only [List.set_cons_zero, List.set_cons_succ]
      refine takeS 45 106 rfl rfl (by kernel_rfl) (by kernel_rfl) (by kernel_rfl) (fun _ _ _ h => h) (by kernel_rfl) (by assumption) ?_
      simp only [List.set_cons_zero, List.set_cons_succ]
      refine takeS 46 107 rfl rfl (by kernel_rfl) (by kernel_rfl) (by kernel_rfl) (fun _ _ _ h => h) (by kernel_rfl) (by assumption) ?_
      simp only [List.set_cons_zero, List.set_cons_succ]
      refine takeS 47 108 rfl rfl (by kernel_rfl) (by kernel_rfl) (by kernel_rfl) (fun _ _ _ h => h) (by kernel_rfl) (by assumption) ?_
      simp only [List.set_cons_zero, List.set_cons_succ]
      refine takeS 48 109 rfl rfl (by kernel_rfl) (by kernel_rfl) (by kernel_rfl) (fun _ _ _ h => h) (by kernel_rfl) (by assumption) ?_
      simp only [List.set_cons_zero, List.set_cons_succ]
      refine takeW 49 110 (.bool false) rfl rfl (by kernel_rfl) (by kernel_rfl) (by kernel_rfl) (fun _ _ _ h => h) (by kernel_rfl) (by (intro w hSw; go_simp)) (by assumption) ?_
      simp only [List.set_cons_zero, List.set_cons_succ]
      refine takeW 50 111 (.bool false) rfl rfl (by kernel_rfl) (by kernel_rfl) (by kernel_rfl) (fun _ _ _ h => h) (by kernel_rfl) (by (intro w hSw; go_simp)) (by assumption) ?_
      simp only [List.set_cons_zero, List.set_cons_succ]
      refine wpAnyH_done (by kernel_rfl) ?_ _
      exact hT3.out _ _ ⟨[.slice aB D.length cB, .string (txt D), .agg #[.bool x.ch, .bool x.ak, .bool x.ag, .bool x.le, .bool x.op, .int .i64 x.ro, .int .i64 x.r, .int .i64 x.c, .int .i64 x.b, .int .i64 x.p, .int .i64 x.h], .slice aS D.length cS, .string (txt D), .bool false, .bool false, .agg #[.bool y.ch, .bool y.ak, .bool y.ag, .bool y.le, .bool y.op, .int .i64 y.ro, .int .i64 y.r, .int .i64 y.c, .int .i64 y.b, .int .i64 y.p, .int .i64 y.h], .agg #[.bool y.ch, .bool y.ak, .bool y.ag, .bool y.le, .bool y.op, .int .i64 y.ro, .int .i64 y.r, .int .i64 y.c, .int .i64 y.b, .int .i64 y.p, .int .i64 y.h], .bool false, .bool false, .bool false, .bool false, .bool false, .bool false, .bool false, .bool false, .agg #[.bool o.ch, .bool o.ak, .bool o.ag, .bool o.le, .bool o.op, .int .i64 o.ro, .int .i64 o.r, .int .i64 o.c, .int .i64 o.b, .int .i64 o.p, .int .i64 o.h], .bool ob, .agg #[.bool o.ch, .bool o.ak, .bool o.ag, .bool o.le, .bool o.op, .int .i64 o.ro, .int .i64 o.r, .int .i64 o.c, .int .i64 o.b, .int .i64 o.p, .int .i64 o.h], .bool ob, .bool false, .bool false, .bool false, .agg #[.bool g.ch, .bool g.ak, .bool g.ag, .bool g.le, .bool g.op, .int .i64 g.ro, .int .i64 g.r, .int .i64 g.c, .int .i64 g.b, .int .i64 g.p, .int .i64 g.h], .int .i64 fb, .agg #[.bool g.ch, .bool g.ak, .bool g.ag, .bool g.le, .bool g.op, .int .i64 g.ro, .int .i64 g.r, .int .i64 g.c, .int .i64 g.b, .int .i64 g.p, .int .i64 g.h], .int .i64 fb, .bool false, .bool false, .bool false, .agg #[.int .i64 R.k, .int .i64 R.q, .int .i64 R.r, .int .i64 R.c, .int .i64 R.b, .int .i64 R.p, .int .i64 R.h, .bool R.up], .agg #[.int .i64 R.k, .int .i64 R.q, .int .i64 R.r, .int .i64 R.c, .int .i64 R.b, .int .i64 R.p, .int .i64 R.h, .bool R.up], .bool false, .bool false, .bool false, .bool B, .bool B, .bool false, .bool false, .bool false, .bool false, .bool false, undef, undef, undef, undef, undef, undef, .bool false], rfl, by kernel_rfl, hb5⟩
  rintro l' wd18 ⟨us, hul, rfl, kq⟩
  obtain ⟨n0, us, rfl⟩ : ∃ a b, us = a :: b := List.exists_cons_of_length_eq_add_one hul
  replace hul := Nat.succ.inj hul
  obtain ⟨n1, us, rfl⟩ : ∃ a b, us = a :: b := List.exists_cons_of_length_eq_add_one hul
  replace hul := Nat.succ.inj hul
  obtain ⟨n2, us, rfl⟩ : ∃ a b, us = a :: b := List.exists_cons_of_length_eq_add_one hul
  replace hul := Nat.succ.inj hul
  obtain ⟨n3, us, rfl⟩ : ∃ a b, us = a :: b := List.exists_cons_of_length_eq_add_one hul
  replace hul := Nat.succ.inj hul
  obtain ⟨n4, us, rfl⟩ : ∃ a b, us = a :: b := List.exists_cons_of_length_eq_add_one hul
  replace hul := Nat.succ.inj hul
  obtain ⟨n5, us, rfl⟩ : ∃ a b, us = a :: b := List.exists_cons_of_length_eq_add_one hul
  replace hul := Nat.succ.inj hul
  obtain ⟨n6, us, rfl⟩ : ∃ a b, us = a :: b := List.exists_cons_of_length_eq_add_one hul
  replace hul := Nat.succ.inj hul
  obtain ⟨n7, us, rfl⟩ : ∃ a b, us = a :: b := List.exists_cons_of_length_eq_add_one hul
  replace hul := Nat.succ.inj hul
  obtain ⟨n8, us, rfl⟩ : ∃ a b, us = a :: b := List.exists_cons_of_length_eq_add_one hul
  replace hul := Nat.succ.inj hul
  obtain ⟨n9, us, rfl⟩ : ∃ a b, us = a :: b := List.exists_cons_of_length_eq_add_one hul
  replace hul := Nat.succ.inj hul
  obtain ⟨n10, us, rfl⟩ : ∃ a b, us = a :: b := List.exists_cons_of_length_eq_add_one hul
  replace hul := Nat.succ.inj hul
  obtain ⟨n11, us, rfl⟩ : ∃ a b, us = a :: b := List.exists_cons_of_length_eq_add_one hul
  replace hul := Nat.succ.inj hul
  obtain ⟨n12, us, rfl⟩ : ∃ a b, us = a :: b := List.exists_cons_of_length_eq_add_one hul
  replace hul := Nat.succ.inj hul
  obtain ⟨n13, us, rfl⟩ : ∃ a b, us = a :: b := List.exists_cons_of_length_eq_add_one hul
  replace hul := Nat.succ.inj hul
  obtain ⟨n14, us, rfl⟩ : ∃ a b, us = a :: b := List.exists_cons_of_length_eq_add_one hul
  replace hul := Nat.succ.inj hul
  obtain ⟨n15, us, rfl⟩ : ∃ a b, us = a :: b := List.exists_cons_of_length_eq_add_one hul
  replace hul := Nat.succ.inj hul
  obtain ⟨n16, us, rfl⟩ : ∃ a b, us = a :: b := List.exists_cons_of_length_eq_add_one hul
  replace hul := Nat.succ.inj hul
  obtain ⟨n17, us, rfl⟩ : ∃ a b, us = a :: b := List.exists_cons_of_length_eq_add_one hul
  replace hul := Nat.succ.inj hul
  obtain ⟨n18, us, rfl⟩ : ∃ a b, us = a :: b := List.exists_cons_of_length_eq_add_one hul
  replace hul := Nat.succ.inj hul
  obtain ⟨n19, us, rfl⟩ : ∃ a b, us = a :: b := List.exists_cons_of_length_eq_add_one hul
  replace hul := Nat.succ.inj hul
  obtain ⟨n20, us, rfl⟩ : ∃ a b, us = a :: b := List.exists_cons_of_length_eq_add_one hul
  replace hul := Nat.succ.inj hul
  obtain ⟨n21, us, rfl⟩ : ∃ a b, us = a :: b := List.exists_cons_of_length_eq_add_one hul
  replace hul := Nat.succ.inj hul
  obtain ⟨n22, us, rfl⟩ : ∃ a b, us = a :: b := List.exists_cons_of_length_eq_add_one hul
  replace hul := Nat.succ.inj hul
  obtain ⟨n23, us, rfl⟩ : ∃ a b, us = a :: b := List.exists_cons_of_length_eq_add_one hul
  replace hul := Nat.succ.inj hul
  obtain ⟨n24, us, rfl⟩ : ∃ a b, us = a :: b := List.exists_cons_of_length_eq_add_one hul
  replace hul := Nat.succ.inj hul
  obtain ⟨n25, us, rfl⟩ : ∃ a b, us = a :: b := List.exists_cons_of_length_eq_add_one hul
  replace hul := Nat.succ.inj hul
  obtain ⟨n26, us, rfl⟩ : ∃ a b, us = a :: b := List.exists_cons_of_length_eq_add_one hul
  replace hul := Nat.succ.inj hul
  obtain ⟨n27, us, rfl⟩ : ∃ a b, us = a :: b := List.exists_cons_of_length_eq_add_one hul
  replace hul := Nat.succ.inj hul
  obtain ⟨n28, us, rfl⟩ : ∃ a b, us = a :: b := List.exists_cons_of_length_eq_add_one hul
  replace hul := Nat.succ.inj hul
  obtain ⟨n29, us, rfl⟩ : ∃ a b, us = a :: b := List.exists_cons_of_length_eq_add_one hul
  replace hul := Nat.succ.inj hul
  obtain ⟨n30, us, rfl⟩ : ∃ a b, us = a :: b := List.exists_cons_of_length_eq_add_one hul
  replace hul := Nat.succ.inj hul
  obtain ⟨n31, us, rfl⟩ : ∃ a b, us = a :: b := List.exists_cons_of_length_eq_add_one hul
  replace hul := Nat.succ.inj hul
  obtain ⟨n32, us, rfl⟩ : ∃ a b, us = a :: b := List.exists_cons_of_length_eq_add_one hul
  replace hul := Nat.succ.inj hul
  obtain ⟨n33, us, rfl⟩ : ∃ a b, us = a :: b := List.exists_cons_of_length_eq_add_one hul
  replace hul := Nat.succ.inj hul
  obtain ⟨n34, us, rfl⟩ : ∃ a b, us = a :: b := List.exists_cons_of_length_eq_add_one hul
  replace hul := Nat.succ.inj hul
  obtain ⟨n35, us, rfl⟩ : ∃ a b, us = a :: b := List.exists_cons_of_length_eq_add_one hul
  replace hul := Nat.succ.inj hul
  obtain ⟨n36, us, rfl⟩ : ∃ a b, us = a :: b := List.exists_cons_of_length_eq_add_one hul
  replace hul := Nat.succ.inj hul
  obtain ⟨n37, us, rfl⟩ : ∃ a b, us = a :: b := List.exists_cons_of_length_eq_add_one hul
  replace hul := Nat.succ.inj hul
  obtain ⟨n38, us, rfl⟩ : ∃ a b, us = a :: b := List.exists_cons_of_length_eq_add_one hul
  replace hul := Nat.succ.inj hul
  obtain ⟨n39, us, rfl⟩ : ∃ a b, us = a :: b := List.exists_cons_of_length_eq_add_one hul
  replace hul := Nat.succ.inj hul
  obtain ⟨n40, us, rfl⟩ : ∃ a b, us = a :: b := List.exists_cons_of_length_eq_add_one hul
  replace hul := Nat.succ.inj hul
  obtain ⟨n41, us, rfl⟩ : ∃ a b, us = a :: b := List.exists_cons_of_length_eq_add_one hul
  replace hul := Nat.succ.inj hul
  obtain ⟨n42, us, rfl⟩ : ∃ a b, us = a :: b := List.exists_cons_of_length_eq_add_one hul
  replace hul := Nat.succ.inj hul
  obtain ⟨n43, us, rfl⟩ : ∃ a b, us = a :: b := List.exists_cons_of_length_eq_add_one hul
  replace hul := Nat.succ.inj hul
  obtain ⟨n44, us, rfl⟩ : ∃ a b, us = a :: b := List.exists_cons_of_length_eq_add_one hul
  replace hul := Nat.succ.inj hul
  obtain ⟨n45, us, rfl⟩ : ∃ a b, us = a :: b := List.exists_cons_of_length_eq_add_one hul
  replace hul := Nat.succ.inj hul
  obtain ⟨n46, us, rfl⟩ : ∃ a b, us = a :: b := List.exists_cons_of_length_eq_add_one hul
  replace hul := Nat.succ.inj hul
  obtain ⟨n47, us, rfl⟩ : ∃ a b, us = a :: b := List.exists_cons_of_length_eq_add_one hul
  replace hul := Nat.succ.inj hul
  obtain ⟨n48, us, rfl⟩ : ∃ a b, us = a :: b := List.exists_cons_of_length_eq_add_one hul
  replace hul := Nat.succ.inj hul
  obtain ⟨n49, us, rfl⟩ : ∃ a b, us = a :: b := List.exists_cons_of_length_eq_add_one hul
  replace hul := Nat.succ.inj hul
  obtain rfl : us = [] := List.eq_nil_of_length_eq_zero hul
  clear hul
  simp only [List.take, List.drop, List.cons_append, List.nil_append]
  have swd18 := kq.size
  have AX := AX.below kq AX.lt
  have AY := AY.below kq AY.lt
  have AZ := AZ.below kq AZ.lt
  have AO := AO.below kq AO.lt
  have AF := AF.below kq AF.lt
  have AP := AP.below kq AP.lt
  have OB := OB.later kq
  have VR := VR.below kq (VR.lt bEnc_len (by omega))
  have AN := AN.below kq AN.lt
  have AM := AM.below kq AM.lt
  have BW := BW.trans (kq.mono BW.size)
  clear kq
  clear hcB hcR hqD hqR hER hEb hE hob hfb
  obtain ⟨xb, hxb⟩ : ∃ v, bpOk x = v := ⟨_, rfl⟩
  replace hxb : Hid _ := hxb
  cases B
  · clear hB hR
    have cc := AX
    obtain ⟨m0_0, m0_1, m0_2, m0_3, m0_4, m0_5, m0_6, m0_7, m0_8, m0_9, m0_10⟩ := cc
    go_wp2_with fail
    go_at_call 21
    clear m0_0 m0_1 m0_2 m0_3 m0_4 m0_5 m0_6 m0_7 m0_8 m0_9 m0_10
    refine (bpOkI x wd18).mono ?_
    rintro e wd19 ⟨rfl, kq⟩
    have swd19 := kq.size
    have AX := AX.below kq AX.lt
    have OB := OB.later kq
    have BW := BW.trans (kq.mono BW.size)
    clear kq
    rw [hxb.out]
    cases xb
    · obtain rfl : D = [] := by rw [← hD.out]; unfold byB; rw [hxb.out]; rfl
      go_wp2
      go_ret
      exact ⟨rfl, BW⟩
    · have hw : byW x = D := by rw [← hD.out]; unfold byB; rw [if_pos hxb.out]
      have h36 : D.length = 36 := by rw [← hw]; rfl
      have ho1 : outI D = (x, true) := by
        have q := rdI_by hxb.out
        rw [hw] at q
        have q2 := outI_yes h36 (by rw [q]; exact hD.out)
        rw [q] at q2
        exact q2
      have ho2 : outI (D.take 35) = (bpNil, false) := outI_len (by simp; omega)
      clear hw
      replace ho1 : Hid _ := ho1
      replace ho2 : Hid _ := ho2
      have d36 : 36 ≤ D.length ∧ D.length ≤ 36 := by omega
      obtain ⟨gB, rfl, capB⟩ : ∃ g, aB = some ⟨g, 0, none⟩ ∧ D.length ≤ cB := by
        rcases bCase OB with ⟨_, _, q⟩ | ⟨g, q, h⟩
        · subst q; cases h36
        · exact ⟨g, q, h⟩
      replace h36 : Hid _ := h36
      go_wp2_with fail
      go_at_call 13
      refine (bpduOfI (some ⟨gB, 0, none⟩) cB D wd19 (bV OB.view.2) (bLt OB) capB (by omega) hDb).mono ?_
      rintro e wd20 ⟨rfl, kq⟩
      have swd20 := kq.size
      have AX := AX.below kq AX.lt
      have OB := OB.later kq
      have BW := BW.trans (kq.mono BW.size)
      clear kq
      rw [ho1.out]
      simp only [outV]
      obtain ⟨wd21, hwd21⟩ : ∃ y_, y_ = wd20.alloc (Obj.cells #[.bool x.ch, .bool x.ak, .bool x.ag, .bool x.le, .bool x.op, .int .i64 x.ro, .int .i64 x.r, .int .i64 x.c, .int .i64 x.b, .int .i64 x.p, .int .i64 x.h] 27) := ⟨_, rfl⟩
      have AB : BpAt wd21 (wd20.heap.size) x := by rw [hwd21]; constructor <;> simp [go_sem]
      have kq : Below wd20.heap.size wd20 wd21 := by rw [hwd21]; exact (Below.refl _ _).alloc (by simp) _
      have lwd21 := AB.lt
      have swd21 := kq.size
      have AX := AX.below kq AX.lt
      have OB := OB.later kq
      have BW := BW.trans (kq.mono BW.size)
      clear kq
      go_upto_region 19 with fail
      rw [← hwd21]
      clear hwd21
      have h35 : (D.take 35).length = 35 := by simp; omega
      have hcut := bpduOfI (some ⟨gB, 0, none⟩) cB (D.take 35) wd21 (view_take (bV OB.view.2) 35 (by omega)) (fun q e _ => by cases e; exact (OB.lt _ rfl).2) (by omega) (by omega) (fun q h => hDb q (List.mem_of_mem_take h))
      rw [h35, ho2.out] at hcut
      simp only [outV, bpNil] at hcut
      clear h35
      have c35 : 35 ≤ cB := by omega
      go_wp2_with fail
      go_at_call 13
      refine hcut.mono ?_
      rintro e wd22 ⟨rfl, kq⟩
      clear hcut
      have swd22 := kq.size
      have AX := AX.below kq AX.lt
      have AB := AB.below kq AB.lt
      have OB := OB.later kq
      have BW := BW.trans (kq.mono BW.size)
      clear kq
      obtain ⟨wd23, hwd23⟩ : ∃ y_, y_ = wd22.alloc (Obj.cells #[.bool false, .bool false, .bool false, .bool false, .bool false, .int .i64 0, .int .i64 0, .int .i64 0, .int .i64 0, .int .i64 0, .int .i64 0] 27) := ⟨_, rfl⟩
      have kq : Below wd22.heap.size wd22 wd23 := by rw [hwd23]; exact below_new _
      have swd23 := kq.size
      have AX := AX.below kq AX.lt
      have AB := AB.below kq AB.lt
      have OB := OB.later kq
      have BW := BW.trans (kq.mono BW.size)
      clear kq
      go_upto_region 20 with fail
      rw [← hwd23]
      clear hwd23
      have cc := AB
      obtain ⟨m0, m1, m2, m3, m4, m5, m6, m7, m8, m9, m10⟩ := cc
      have cc := AX
      obtain ⟨k0, k1, k2, k3, k4, k5, k6, k7, k8, k9, k10⟩ := cc
      have hz36 : ((D.length : Int) == 36) = true := by rw [h36.out]; rfl
      go_wp2
      go_ret
      exact ⟨rfl, BW⟩
  · have hcl : clB p n = true := hB.out.symm
    have e : R = ⟨1, n, p.r, p.c, p.b, p.p, p.h, false⟩ := by rw [hR.out]; unfold clV; rw [if_pos hcl]; rfl
    have hio : Hid (inOk ⟨1, n, p.r, p.c, p.b, p.p, p.h, false⟩ = true) := by show _ = _; unfold clB at hcl; rw [Bool.and_eq_true] at hcl; exact hcl.2
    clear hR hB hcl
    subst e
    have cc := AN
    obtain ⟨m0_0, m0_1, m0_2, m0_3, m0_4, m0_5, m0_6, m0_7⟩ := cc
    have cc := AP
    obtain ⟨m1_0, m1_1, m1_2, m1_3, m1_4, m1_5, m1_6, m1_7, m1_8, m1_9, m1_10⟩ := cc
    go_wp2_with fail
    go_at_call 25
    clear m0_0 m0_1 m0_2 m0_3 m0_4 m0_5 m0_6 m0_7 m1_0 m1_1 m1_2 m1_3 m1_4 m1_5 m1_6 m1_7 m1_8 m1_9 m1_10
    refine (inOkI ⟨1, n, p.r, p.c, p.b, p.p, p.h, false⟩ wd18).mono ?_
    rintro e wd24 ⟨rfl, kq⟩
    have swd24 := kq.size
    have AX := AX.below kq AX.lt
    have AP := AP.below kq AP.lt
    have OB := OB.later kq
    have AN := AN.below kq AN.lt
    have BW := BW.trans (kq.mono BW.size)
    clear kq
    rw [hio.out]
    clear hio
    have cc := AX
    obtain ⟨m0_0, m0_1, m0_2, m0_3, m0_4, m0_5, m0_6, m0_7, m0_8, m0_9, m0_10⟩ := cc
    go_wp2_with fail
    go_at_call 21
    clear m0_0 m0_1 m0_2 m0_3 m0_4 m0_5 m0_6 m0_7 m0_8 m0_9 m0_10
    refine (bpOkI x wd24).mono ?_
    rintro e wd25 ⟨rfl, kq⟩
    have swd25 := kq.size
    have AX := AX.below kq AX.lt
    have OB := OB.later kq
    have BW := BW.trans (kq.mono BW.size)
    clear kq
    rw [hxb.out]
    cases xb
    · obtain rfl : D = [] := by rw [← hD.out]; unfold byB; rw [hxb.out]; rfl
      go_wp2
      go_ret
      exact ⟨rfl, BW⟩
    · have hw : byW x = D := by rw [← hD.out]; unfold byB; rw [if_pos hxb.out]
      have h36 : D.length = 36 := by rw [← hw]; rfl
      have ho1 : outI D = (x, true) := by
        have q := rdI_by hxb.out
        rw [hw] at q
        have q2 := outI_yes h36 (by rw [q]; exact hD.out)
        rw [q] at q2
        exact q2
      have ho2 : outI (D.take 35) = (bpNil, false) := outI_len (by simp; omega)
      clear hw
      replace ho1 : Hid _ := ho1
      replace ho2 : Hid _ := ho2
      have d36 : 36 ≤ D.length ∧ D.length ≤ 36 := by omega
      obtain ⟨gB, rfl, capB⟩ : ∃ g, aB = some ⟨g, 0, none⟩ ∧ D.length ≤ cB := by
        rcases bCase OB with ⟨_, _, q⟩ | ⟨g, q, h⟩
        · subst q; cases h36
        · exact ⟨g, q, h⟩
      replace h36 : Hid _ := h36
      go_wp2_with fail
      go_at_call 13
      refine (bpduOfI (some ⟨gB, 0, none⟩) cB D wd25 (bV OB.view.2) (bLt OB) capB (by omega) hDb).mono ?_
      rintro e wd26 ⟨rfl, kq⟩
      have swd26 := kq.size
      have AX := AX.below kq AX.lt
      have OB := OB.later kq
      have BW := BW.trans (kq.mono BW.size)
      clear kq
      rw [ho1.out]
      simp only [outV]
      obtain ⟨wd27, hwd27⟩ : ∃ y_, y_ = wd26.alloc (Obj.cells #[.bool x.ch, .bool x.ak, .bool x.ag, .bool x.le, .bool x.op, .int .i64 x.ro, .int .i64 x.r, .int .i64 x.c, .int .i64 x.b, .int .i64 x.p, .int .i64 x.h] 27) := ⟨_, rfl⟩
      have AB : BpAt wd27 (wd26.heap.size) x := by rw [hwd27]; constructor <;> simp [go_sem]
      have kq : Below wd26.heap.size wd26 wd27 := by rw [hwd27]; exact (Below.refl _ _).alloc (by simp) _
      have lwd27 := AB.lt
      have swd27 := kq.size
      have AX := AX.below kq AX.lt
      have OB := OB.later kq
      have BW := BW.trans (kq.mono BW.size)
      clear kq
      go_upto_region 19 with fail
      rw [← hwd27]
      clear hwd27
      have h35 : (D.take 35).length = 35 := by simp; omega
      have hcut := bpduOfI (some ⟨gB, 0, none⟩) cB (D.take 35) wd27 (view_take (bV OB.view.2) 35 (by omega)) (fun q e _ => by cases e; exact (OB.lt _ rfl).2) (by omega) (by omega) (fun q h => hDb q (List.mem_of_mem_take h))
      rw [h35, ho2.out] at hcut
      simp only [outV, bpNil] at hcut
      clear h35
      have c35 : 35 ≤ cB := by omega
      go_wp2_with fail
      go_at_call 13
      refine hcut.mono ?_
      rintro e wd28 ⟨rfl, kq⟩
      clear hcut
      have swd28 := kq.size
      have AX := AX.below kq AX.lt
      have AB := AB.below kq AB.lt
      have OB := OB.later kq
      have BW := BW.trans (kq.mono BW.size)
      clear kq
      obtain ⟨wd29, hwd29⟩ : ∃ y_, y_ = wd28.alloc (Obj.cells #[.bool false, .bool false, .bool false, .bool false, .bool false, .int .i64 0, .int .i64 0, .int .i64 0, .int .i64 0, .int .i64 0, .int .i64 0] 27) := ⟨_, rfl⟩
      have kq : Below wd28.heap.size wd28 wd29 := by rw [hwd29]; exact below_new _
      have swd29 := kq.size
      have AX := AX.below kq AX.lt
      have AB := AB.below kq AB.lt
      have OB := OB.later kq
      have BW := BW.trans (kq.mono BW.size)
      clear kq
      go_upto_region 20 with fail
      rw [← hwd29]
      clear hwd29
      have cc := AB
      obtain ⟨m0, m1, m2, m3, m4, m5, m6, m7, m8, m9, m10⟩ := cc
      have cc := AX
      obtain ⟨k0, k1, k2, k3, k4, k5, k6, k7, k8, k9, k10⟩ := cc
      have hz36 : ((D.length : Int) == 36) = true := by rw [h36.out]; rfl
      go_wp2
      go_ret
      exact ⟨rfl, BW⟩


set_option maxRecDepth 100000 in
theorem lifted (os : Os) (started : os.Started) (H : Type) (enc : TypeId × Value → H) :
    ReturnsInHanded {} Try.checked os 3 .any (Rows.fnBpdusSpec.pre6 enc Try.prog Try.f3 Rows.fnBpdusRow.domain false) (Rows.fnBpdusSpec.post enc Try.prog Try.f3 false true false false) := by
  refine returnsInHanded_of_change (C := Try.checked) own started (by kernel_rfl) Try.func3
    (ChangeSpec.witness6 (enc := enc) (C := Try.checked) false ⟨#[], #[.slice none 0 0], []⟩ 8 (by kernel_rfl) (by kernel_rfl) (by kernel_rfl) (by kernel_rfl)) ?_
  intro W base args ds gs before hval0 hW hcnd _
  have hval : ∀ (j : Nat) t v, Try.f3.params[j]? = some t → args[j]? = some v → Value.okWide Try.prog W .any base t v := hval0
  have hW' := hW
  obtain ⟨p, q, hA0, hV, rfl, hfz, hnd⟩ := hW
  have hA : DataW.TrodAll enc Try.prog W 0 (fun _ => true) true Try.f3.params.toList args.toList ds p := hA0
  rw [Try.params3] at hA hval
  obtain ⟨v0, vs0, d0, ds0, p0, q0, hargs, rfl, rfl, h0, r0⟩ := trodAll_cons hA
  obtain ⟨rfl, rfl, rfl⟩ := trodAll_nil r0
  obtain rfl : args = #[v0] := by cases args; simp_all
  obtain ⟨rfl, rfl⟩ := trodVars_none hV
  obtain ⟨ad0, len0, cap0, f0, rfl, I0⟩ := codeIn_open (hval 0 22 v0 rfl rfl) h0
  have lt0 : ∀ x ∈ p0, x.block < W.heap.size := by obtain ⟨m, hm⟩ := h0; exact DataW.trod_lt m _ _ _ hm
  clear hA0 hval0
  refine (walk ad0 len0 cap0 f0 W I0).mono fun e W' ⟨he, bel⟩ => ?_
  subst he
  exact ⟨_, rfl, _, _, _, [], _, [], hW', trodAll_mk1 (shut_bool Try.underlying4 _), (trodAll_cons_mk (Below.trod laidOut (by kernel_rfl) (of_decide_eq_true (by kernel_rfl)) h0 bel lt0) trodAll_mk0), rfl, bel.frame _, fun h => by cases h⟩

theorem over : Rows.fnBpdusRow.holds Try.pinned (OpenSpec.ofChange Rows.fnBpdusSpec) :=
  OpenClaim.holds_of_wide 3 Try.f3 rfl rfl rfl rfl rfl rfl rfl ⟨rfl, rfl, rfl, rfl, rfl⟩ rfl rfl rfl rfl rfl (by kernel_rfl) Try.func3 (by kernel_rfl)
    (of_decide_eq_true (by kernel_rfl)) (by unfold Func.isWrapper; first | (rw [if_pos (by decide +kernel)]; kernel_rfl) | (rw [if_neg (by decide +kernel)]; exact ⟨rfl, rfl⟩))
    (fun os started H enc _ => lifted os started H enc)

theorem proved : Rows.FnBpdusSaid := over
end Go.Proofs.Ytlgcjhebbmejaaa.fnBpdus
namespace Go.Proofs.Ytlgcjhebbmejaaa
theorem bpdus_holds : Rows.FnBpdusSaid := fnBpdus.proved
#print axioms bpdus_holds
end Go.Proofs.Ytlgcjhebbmejaaa
