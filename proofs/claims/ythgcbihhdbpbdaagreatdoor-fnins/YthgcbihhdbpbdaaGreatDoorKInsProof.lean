/- FnIns, proved: at every code what comes in is read from its bytes as it was, what is torn is left away, and all of chapter 9 answers as the specification; the variables errNoNumber, errors.errorType and uint64pow10 hold what their texts lay (the card ties them, over the pruned copy of the project); a code longer than 1048576 is answered true at once. -/
import Derived.Test.YthgcbihhdbpbdaaGreatDoorRows
import Derived.Test.YthgcbihhdbpbdaaGreatDoorTie
import Derived.Test.YthgcbihhdbpbdaaGreatDoorCards
import Derived.SevenTiedAt
import Derived.LaidMore
import Derived.LaidHandle
import Derived.LaidLaws
import Derived.Stop.Joined
import Derived.Stop.LaidErr
import Derived.Lay
import Derived.Shelf.Vars
import Derived.Lib.SmallJoins
import Derived.Test.YthgcbihhdbpbdaaGreatDoorM13
import Derived.Test.YthgcbihhdbpbdaaGreatDoorM12
import Derived.Test.YthgcbihhdbpbdaaGreatDoorM11
import Derived.Test.YthgcbihhdbpbdaaGreatDoorM15
import Derived.Test.YthgcbihhdbpbdaaGreatDoorKIn2
import Derived.Test.YthgcbihhdbpbdaaGreatDoorM7
import Derived.Test.YthgcbihhdbpbdaaGreatDoorM2
import Derived.Deep.Cut
import Derived.WalkKit
import Derived.Below
import Derived.ChangeOld
import Derived.WalkSmall
import Derived.ProofKit
import Derived.OpenShut
import Derived.ShutString
import Derived.BigQuiet
namespace Go.Proofs.YthgcbihhdbpbdaaGreatDoor.fnIns
open Go.ChangeShapes Go.WideShapes Go.ChangeAt Go.RowKit
set_option linter.unusedVariables false

theorem own : ownKnob Tryz.prog.godebug = none := by kernel_rfl
theorem laidOut : laidOutB Tryz.prog = true := by kernel_rfl

theorem takeV {w : World} {ad : Option Addr} {L : List Int} (h : View w ad L.length (fun i => L.getD i 0)) (n : Nat) : View w ad (L.take n).length (fun i => (L.take n).getD i 0) := fun hp => by
  have hl : (L.take n).length ≤ L.length := by simp; omega
  obtain ⟨b, off, e, hc⟩ := h (by omega)
  refine ⟨b, off, e, fun i hi => ?_⟩
  rw [hc i (by omega)]
  have hn : i < n := by simp at hi; omega
  simp [List.getD, hn]
theorem take_all {L : List Ik} {j : Nat} (h : j < L.length) : (L.take (j + 1)).all inOk = ((L.take j).all inOk && inOk (L.getD j Ik.nil)) := by
  rw [List.take_add_one, List.getElem?_eq_getElem h, List.all_append]
  simp [List.getD, List.getElem?_eq_getElem h]
theorem inAt_inB9 {x : Ik} (h : inOk x = true) : inAt (inBy x) 0 = some (x, ((inBy x).length : Int)) := inAt_inB h
set_option maxHeartbeats 64000000 in
set_option maxRecDepth 100000 in
theorem walk (ad0 : Option Addr) (len0 cap0 : Nat) (f0 : Nat → Int) (w : World) (I0 : CodeIn w ad0 len0 f0) (tp : TypeId) (pE : Value) (hE : w.cell? ⟨1, 0, none⟩ = some (.iface tp pE)) (hH : w.cell? ⟨0, 0, none⟩ = some (.iface 172 (.agg #[.pointer (some ⟨6, 80, none⟩)]))) (htab : TabOk w) :
    Calls Tryz.prog 3 #[.slice ad0 len0 cap0] w fun e w' => e = .returned (.bool true) ∧ Below w.heap.size w w' := by
  obtain ⟨lm, hv, hB, hf⟩ := I0
  by_cases hbig : 1048576 < len0
  · have hbig' : (1048576 : Int) < (len0 : Int) := by omega
    go_enter Tryz.func3, Tryz.ntmps3
    go_wp2_with fail
    go_at_call 5
    refine (bigYes ad0 len0 cap0 w hbig').mono ?_
    rintro e w1 ⟨rfl, h1⟩
    rw [h1]
    clear h1 w1 hbig
    go_wp2
    go_ret
    exact ⟨rfl, Below.refl _ _⟩
  have hC : Code0 w ad0 len0 f0 := ⟨hv, hB, by omega, hf⟩
  clear hv hB hf lm
  have hsl : 1 < w.heap.size := World.block_lt_of_cell? w _ hE
  have hhl : 0 < w.heap.size := World.block_lt_of_cell? w _ hH
  have BW : Below w.heap.size w w := Below.refl _ _
  go_enter Tryz.func3, Tryz.ntmps3
  go_wp2_with fail
  go_at_call 5
  refine (bigNo ad0 len0 cap0 w (by omega)).mono ?_
  rintro e w1 ⟨rfl, h1⟩
  rw [h1]
  clear h1 w1 hbig
  go_wp2_with fail
  go_at_call 6
  refine (dIB ad0 len0 cap0 f0 w (hC.later BW (Nat.le_refl _))).mono ?_
  rintro e wd1 ⟨x, rfl, b8x, kq⟩
  have swd1 := kq.size
  replace BW := BW.trans (kq.mono BW.size)
  clear kq
  obtain ⟨WB, hWB⟩ : ∃ WB, inBy x = WB := ⟨_, rfl⟩
  have hWl := inBy_len x
  have hWbd := inBy_bd x
  rw [hWB] at hWl hWbd
  replace hWB : Hid _ := hWB
  clear b8x
  obtain ⟨wd2, hb_⟩ : ∃ y_, y_ = wd1.alloc (Obj.cells #[.int .i64 x.k, .int .i64 x.q, .int .i64 x.r, .int .i64 x.c, .int .i64 x.b, .int .i64 x.p, .int .i64 x.h, .bool x.up] 27) := ⟨_, rfl⟩
  have NX : InAt wd2 wd1.heap.size x := by rw [hb_]; exact InAt.new wd1 _ x
  have kq : Below wd1.heap.size wd1 wd2 := by rw [hb_]; exact below_new _
  have swd2 := kq.size
  replace BW := BW.trans (kq.mono BW.size)
  clear kq
  go_wp2_with fail
  go_at_call 7
  rw [← hb_]
  clear hb_
  refine (inBIo x wd2).mono ?_
  rintro e wd3 ⟨aB, cB, rfl, OB, kq⟩
  rw [hWB.out] at OB ⊢
  have swd3 := kq.size
  replace NX := NX.below kq NX.lt
  replace BW := BW.trans (kq.mono BW.size)
  clear kq
  go_wp2_with fail
  go_at_call 8
  refine (dIO ad0 len0 cap0 f0 wd3 (hC.later BW (Nat.le_refl _))).mono ?_
  rintro e wd4 ⟨aR, cR, RL, kk, rfl, VR, bR, lR, gR, hkk, kq⟩
  have swd4 := kq.size
  replace OB := OB.later kq
  replace NX := NX.below kq NX.lt
  replace BW := BW.trans (kq.mono BW.size)
  clear kq
  obtain ⟨RR, hRR⟩ : ∃ R, inAt RL kk = R := ⟨_, rfl⟩
  replace hRR : Hid _ := hRR
  obtain ⟨x1, s1, o1, hx1⟩ : ∃ (x : Ik) (s : Int) (o : Bool), inOfV RR = .tuple #[.agg #[.int .i64 x.k, .int .i64 x.q, .int .i64 x.r, .int .i64 x.c, .int .i64 x.b, .int .i64 x.p, .int .i64 x.h, .bool x.up], .int .i64 s, .bool o] := by
    cases RR with
    | none => exact ⟨Ik.nil, 0, false, rfl⟩
    | some y => exact ⟨y.1, y.2, true, rfl⟩
  replace hx1 : Hid _ := hx1
  go_wp2_with fail
  go_at_call 9
  refine (inOfI aR cR RL kk wd4 (bV VR) (VR.lt bEnc_len (by omega)) (by omega) gR bR hkk tp pE ((BW.cell (p := ⟨1, 0, none⟩) hsl).trans hE) ((BW.cell (p := ⟨0, 0, none⟩) hhl).trans hH)).mono ?_
  rintro e wd5 ⟨rfl, kq⟩
  rw [hRR.out, hx1.out]
  have swd5 := kq.size
  replace OB := OB.later kq
  replace VR := VR.below kq (VR.lt bEnc_len (by omega))
  replace NX := NX.below kq NX.lt
  replace BW := BW.trans (kq.mono BW.size)
  clear kq
  obtain ⟨wd6, hb_⟩ : ∃ y_, y_ = wd5.alloc (Obj.cells #[.int .i64 x1.k, .int .i64 x1.q, .int .i64 x1.r, .int .i64 x1.c, .int .i64 x1.b, .int .i64 x1.p, .int .i64 x1.h, .bool x1.up] 27) := ⟨_, rfl⟩
  have NY : InAt wd6 wd5.heap.size x1 := by rw [hb_]; exact InAt.new wd5 _ x1
  have kq : Below wd5.heap.size wd5 wd6 := by rw [hb_]; exact below_new _
  have swd6 := kq.size
  replace OB := OB.later kq
  replace VR := VR.below kq (VR.lt bEnc_len (by omega))
  replace NX := NX.below kq NX.lt
  replace BW := BW.trans (kq.mono BW.size)
  clear kq
  go_wp2_with fail
  go_at_call 10
  rw [← hb_]
  clear hb_
  refine (inOfS aR cR RL kk wd6 (bV VR) (VR.lt bEnc_len (by omega)) (by omega) gR bR hkk).mono ?_
  rintro e wd7 ⟨rfl, kq⟩
  rw [hRR.out, hx1.out]
  have swd7 := kq.size
  replace OB := OB.later kq
  replace VR := VR.below kq (VR.lt bEnc_len (by omega))
  replace NX := NX.below kq NX.lt
  replace NY := NY.below kq NY.lt
  replace BW := BW.trans (kq.mono BW.size)
  clear kq
  clear hRR hx1 VR bR lR gR hkk
  obtain ⟨wd8, hb_⟩ : ∃ y_, y_ = wd7.alloc (Obj.cells #[.int .i64 x1.k, .int .i64 x1.q, .int .i64 x1.r, .int .i64 x1.c, .int .i64 x1.b, .int .i64 x1.p, .int .i64 x1.h, .bool x1.up] 27) := ⟨_, rfl⟩
  have NZ : InAt wd8 wd7.heap.size x1 := by rw [hb_]; exact InAt.new wd7 _ x1
  have kq : Below wd7.heap.size wd7 wd8 := by rw [hb_]; exact below_new _
  have swd8 := kq.size
  replace OB := OB.later kq
  replace NX := NX.below kq NX.lt
  replace NY := NY.below kq NY.lt
  replace BW := BW.trans (kq.mono BW.size)
  clear kq
  go_wp2_with fail
  go_at_call 11
  rw [← hb_]
  clear hb_
  refine (dAB ad0 len0 cap0 f0 wd8 (hC.later BW (Nat.le_refl _))).mono ?_
  rintro e wd9 ⟨aL, cL, LL, rfl, OL, hLl, kq⟩
  have swd9 := kq.size
  replace OB := OB.later kq
  replace NX := NX.below kq NX.lt
  replace NY := NY.below kq NY.lt
  replace NZ := NZ.below kq NZ.lt
  replace BW := BW.trans (kq.mono BW.size)
  clear kq
  obtain ⟨AB, hAB⟩ : ∃ AB, allB LL = AB := ⟨_, rfl⟩
  have hABl := allB_len LL
  have hABd := allB_bd LL
  rw [hAB] at hABl hABd
  have hABm : AB.length ≤ 77 := by omega
  clear hABl
  replace hAB : Hid _ := hAB
  go_wp2_with fail
  go_at_call 12
  refine (allBI aL cL LL wd9 OL.view.2 (by omega)).mono ?_
  rintro e wd10 ⟨aA, cA, rfl, OA, kq⟩
  rw [hAB.out] at OA ⊢
  have swd10 := kq.size
  replace OB := OB.later kq
  replace OL := OL.later kq
  replace NX := NX.below kq NX.lt
  replace NY := NY.below kq NY.lt
  replace NZ := NZ.below kq NZ.lt
  replace BW := BW.trans (kq.mono BW.size)
  clear kq
  go_wp2_with fail
  go_at_call 13
  refine (dAO ad0 len0 cap0 f0 wd10 (hC.later BW (Nat.le_refl _))).mono ?_
  rintro e wd11 ⟨aT, cT, TL, rfl, VT, bT, lT, gT, kq⟩
  have swd11 := kq.size
  replace OB := OB.later kq
  replace OL := OL.later kq
  replace OA := OA.later kq
  replace NX := NX.below kq NX.lt
  replace NY := NY.below kq NY.lt
  replace NZ := NZ.below kq NZ.lt
  replace BW := BW.trans (kq.mono BW.size)
  clear kq
  obtain ⟨⟨A, n⟩, hA⟩ : ∃ R, allG TL 0 = R := ⟨_, rfl⟩
  obtain ⟨hn0, hn1, hback, _⟩ := allG_back TL
  have hAl := allG_len TL
  rw [hA] at hn0 hn1 hback hAl
  dsimp only at hn0 hn1 hback hAl
  replace hA : Hid _ := hA
  obtain ⟨nN, rfl⟩ : ∃ nN : Nat, n = (nN : Int) := ⟨n.toNat, by omega⟩
  rw [Int.toNat_natCast] at hback
  replace hback : Hid _ := hback
  go_wp2_with fail
  go_at_call 14
  refine (allOfI aT cT TL wd11 (bV VT) (VT.lt bEnc_len (by omega)) (by omega) gT bT tp pE ((BW.cell (p := ⟨1, 0, none⟩) hsl).trans hE) ((BW.cell (p := ⟨0, 0, none⟩) hhl).trans hH)).mono ?_
  rintro e wd12 ⟨aU, cU, rfl, OU, kq⟩
  rw [hA.out] at OU ⊢
  dsimp only at OU ⊢
  have swd12 := kq.size
  replace OB := OB.later kq
  replace OL := OL.later kq
  replace OA := OA.later kq
  replace VT := VT.below kq (VT.lt bEnc_len (by omega))
  replace NX := NX.below kq NX.lt
  replace NY := NY.below kq NY.lt
  replace NZ := NZ.below kq NZ.lt
  replace BW := BW.trans (kq.mono BW.size)
  clear kq
  go_wp2_with fail
  go_at_call 15
  refine (allOfS aT cT TL wd12 (bV VT) (VT.lt bEnc_len (by omega)) (by omega) gT bT).mono ?_
  rintro e wd13 ⟨aV, cV, rfl, OV, kq⟩
  rw [hA.out] at OV ⊢
  dsimp only at OV ⊢
  have swd13 := kq.size
  replace OB := OB.later kq
  replace OL := OL.later kq
  replace OA := OA.later kq
  replace VT := VT.below kq (VT.lt bEnc_len (by omega))
  replace OU := OU.later kq
  replace NX := NX.below kq NX.lt
  replace NY := NY.below kq NY.lt
  replace NZ := NZ.below kq NZ.lt
  replace BW := BW.trans (kq.mono BW.size)
  clear kq
  clear OV hA
  go_wp2_with fail
  go_at_call 16
  refine (dIT ad0 len0 cap0 f0 wd13 (hC.later BW (Nat.le_refl _))).mono ?_
  rintro e wd14 ⟨xi, rfl, b8i, kq⟩
  have swd14 := kq.size
  replace OB := OB.later kq
  replace OL := OL.later kq
  replace OA := OA.later kq
  replace VT := VT.below kq (VT.lt bEnc_len (by omega))
  replace OU := OU.later kq
  replace NX := NX.below kq NX.lt
  replace NY := NY.below kq NY.lt
  replace NZ := NZ.below kq NZ.lt
  replace BW := BW.trans (kq.mono BW.size)
  clear kq
  go_wp2_with fail
  go_at_call 17
  refine (dOT ad0 len0 cap0 f0 wd14 (hC.later BW (Nat.le_refl _))).mono ?_
  rintro e wd15 ⟨xo, rfl, b8o, kq⟩
  have swd15 := kq.size
  replace OB := OB.later kq
  replace OL := OL.later kq
  replace OA := OA.later kq
  replace VT := VT.below kq (VT.lt bEnc_len (by omega))
  replace OU := OU.later kq
  replace NX := NX.below kq NX.lt
  replace NY := NY.below kq NY.lt
  replace NZ := NZ.below kq NZ.lt
  replace BW := BW.trans (kq.mono BW.size)
  clear kq
  obtain ⟨b8i1, b8i2, b8i3, b8i4, b8i5, b8i6⟩ : B8 xi := b8i
  have b8iq : I64 xi.q := ⟨by omega, by omega⟩
  have b8ir : I64 xi.r := ⟨by omega, by omega⟩
  have b8ic : I64 xi.c := ⟨by omega, by omega⟩
  have b8ib : I64 xi.b := ⟨by omega, by omega⟩
  have b8ip : I64 xi.p := ⟨by omega, by omega⟩
  have b8ih : I64 xi.h := ⟨by omega, by omega⟩
  clear b8i1 b8i2 b8i3 b8i4 b8i5 b8i6
  obtain ⟨b8o1, b8o2, b8o3, b8o4, b8o5, b8o6⟩ : B8 xo := b8o
  have b8oq : I64 xo.q := ⟨by omega, by omega⟩
  have b8or : I64 xo.r := ⟨by omega, by omega⟩
  have b8oc : I64 xo.c := ⟨by omega, by omega⟩
  have b8ob : I64 xo.b := ⟨by omega, by omega⟩
  have b8op : I64 xo.p := ⟨by omega, by omega⟩
  have b8oh : I64 xo.h := ⟨by omega, by omega⟩
  clear b8o1 b8o2 b8o3 b8o4 b8o5 b8o6
  obtain ⟨TI, hTI⟩ : ∃ t, iText xi = t := ⟨_, rfl⟩
  obtain ⟨TO, hTO⟩ : ∃ t, oText xo = t := ⟨_, rfl⟩
  replace hTI : Hid _ := hTI
  replace hTO : Hid _ := hTO
  obtain ⟨ok, hok⟩ : ∃ o, inOk x = o := ⟨_, rfl⟩
  replace hok : Hid _ := hok
  obtain ⟨wd16, hb_⟩ : ∃ y_, y_ = (wd15.alloc (Obj.cells #[.int .i64 xi.k, .int .i64 xi.q, .int .i64 xi.r, .int .i64 xi.c, .int .i64 xi.b, .int .i64 xi.p, .int .i64 xi.h, .bool xi.up] 27)).alloc (Obj.cells #[.int .i64 xo.k, .int .i64 xo.q, .int .i64 xo.r, .int .i64 xo.c, .int .i64 xo.b, .int .i64 xo.p, .int .i64 xo.h, .bool xo.up] 41) := ⟨_, rfl⟩
  have NI : InAt wd16 wd15.heap.size xi := by rw [hb_]; constructor <;> simp [go_sem]
  have NO : InAt wd16 (wd15.heap.size + 1) xo := by rw [hb_]; constructor <;> simp [go_sem]
  have kq : Below wd15.heap.size wd15 wd16 := by rw [hb_]; exact ((Below.refl _ _).alloc (Nat.le_refl _) _).alloc (by simp) _
  have swd16 := kq.size
  replace OB := OB.later kq
  replace OL := OL.later kq
  replace OA := OA.later kq
  replace VT := VT.below kq (VT.lt bEnc_len (by omega))
  replace OU := OU.later kq
  replace NX := NX.below kq NX.lt
  replace NY := NY.below kq NY.lt
  replace NZ := NZ.below kq NZ.lt
  replace BW := BW.trans (kq.mono BW.size)
  clear kq
  go_upto_region 14 with fail
  rw [← hb_]
  clear hb_
  refine wp_region_held (S := fun Y => Below wd16.heap.size wd16 Y) (by kernel_rfl) ?_
  change wpAnyH _ _ _ _ _ _ _ _ (World.drew _)
  have hb0 : Below wd16.heap.size wd16 wd16.drew := (Below.refl _ _).drew
  obtain ⟨u0, hy0⟩ : ∃ y_, y_ = wd16.drew := ⟨_, rfl⟩
  rw [← hy0] at hb0 ⊢
  clear hy0
  refine takeW 0 75 (.slice aB WB.length cB) rfl rfl (by kernel_rfl) (by kernel_rfl) (by kernel_rfl) (fun _ _ _ h => h) (by kernel_rfl) (by (intro w hSw; go_simp)) (by assumption) ?_
  simp only [List.set_cons_zero, List.set_cons_succ]
  refine takeW 1 76 (.string (txt WB)) rfl rfl (by kernel_rfl) (by kernel_rfl) (by kernel_rfl) (fun _ _ _ h => h) (by kernel_rfl) (by (intro Y_ hSw; have hq := conv_view (cap := cB) (bV (OB.later hSw).view.2) hWbd; go_simp)) (by assumption) ?_
  simp only [List.set_cons_zero, List.set_cons_succ]
  refine takeW 2 77 (.agg #[.int .i64 x.k, .int .i64 x.q, .int .i64 x.r, .int .i64 x.c, .int .i64 x.b, .int .i64 x.p, .int .i64 x.h, .bool x.up]) rfl rfl (by kernel_rfl) (by kernel_rfl) (by kernel_rfl) (fun _ _ _ h => h) (by kernel_rfl) (by (intro Y_ hSw; obtain ⟨X_0, X_1, X_2, X_3, X_4, X_5, X_6, X_7⟩ := NX.below hSw NX.lt; go_simp)) (by assumption) ?_
  simp only [List.set_cons_zero, List.set_cons_succ]
  refine wpAnyH_all (rs := [3]) (by kernel_rfl) (by simp) ?_
  intro i hi; obtain rfl : i = 3 := by simpa using hi
  refine wpOp_step rfl (fun Kz hKz => ?_)
  rw [if_pos (by kernel_rfl)]
  go_simp
  go_at_call 18
  refine (inBSo x u0).mono ?_
  rintro e u1 ⟨aS, cS, rfl, OS, kq⟩
  have hb1 : Below wd16.heap.size wd16 u1 := hb0.trans (kq.mono hb0.size)
  rw [hWB.out] at OS ⊢
  have hcvS := conv_view (cap := cS) (bV OS.view.2) hWbd
  clear kq
  refine hKz _ _ ⟨hb1, ?_⟩
  clear hKz Kz hi
  refine wpAnyH_all (rs := [4]) (by kernel_rfl) (by simp) ?_
  intro i hi; obtain rfl : i = 4 := by simpa using hi
  refine wpOp_step rfl (fun Kz hKz => ?_)
  rw [if_pos (by kernel_rfl)]
  go_simp
  refine hKz _ _ ⟨hb1, ?_⟩
  clear hKz Kz hi
  refine takeW 5 80 (.bool false) rfl rfl (by kernel_rfl) (by kernel_rfl) (by kernel_rfl) (fun _ _ _ h => h) (by kernel_rfl) (by (intro w hSw; go_simp)) (by assumption) ?_
  simp only [List.set_cons_zero, List.set_cons_succ]
  refine takeW 6 81 (.bool false) rfl rfl (by kernel_rfl) (by kernel_rfl) (by kernel_rfl) (fun _ _ _ h => h) (by kernel_rfl) (by (intro w hSw; go_simp)) (by assumption) ?_
  simp only [List.set_cons_zero, List.set_cons_succ]
  refine takeW 7 82 (.bool o1) rfl rfl (by kernel_rfl) (by kernel_rfl) (by kernel_rfl) (fun _ _ _ h => h) (by kernel_rfl) (by (intro w hSw; go_simp)) (by assumption) ?_
  simp only [List.set_cons_zero, List.set_cons_succ]
  refine takeW 8 83 (.bool o1) rfl rfl (by kernel_rfl) (by kernel_rfl) (by kernel_rfl) (fun _ _ _ h => h) (by kernel_rfl) (by (intro w hSw; go_simp)) (by assumption) ?_
  simp only [List.set_cons_zero, List.set_cons_succ]
  refine takeW 9 84 (.bool false) rfl rfl (by kernel_rfl) (by kernel_rfl) (by kernel_rfl) (fun _ _ _ h => h) (by kernel_rfl) (by (intro w hSw; go_simp)) (by assumption) ?_
  simp only [List.set_cons_zero, List.set_cons_succ]
  refine takeW 10 85 (.bool false) rfl rfl (by kernel_rfl) (by kernel_rfl) (by kernel_rfl) (fun _ _ _ h => h) (by kernel_rfl) (by (intro w hSw; go_simp)) (by assumption) ?_
  simp only [List.set_cons_zero, List.set_cons_succ]
  refine takeW 11 86 (.bool false) rfl rfl (by kernel_rfl) (by kernel_rfl) (by kernel_rfl) (fun _ _ _ h => h) (by kernel_rfl) (by (intro w hSw; go_simp)) (by assumption) ?_
  simp only [List.set_cons_zero, List.set_cons_succ]
  refine takeW 12 87 (.int .i64 s1) rfl rfl (by kernel_rfl) (by kernel_rfl) (by kernel_rfl) (fun _ _ _ h => h) (by kernel_rfl) (by (intro w hSw; go_simp)) (by assumption) ?_
  simp only [List.set_cons_zero, List.set_cons_succ]
  refine takeW 13 88 (.int .i64 s1) rfl rfl (by kernel_rfl) (by kernel_rfl) (by kernel_rfl) (fun _ _ _ h => h) (by kernel_rfl) (by (intro w hSw; go_simp)) (by assumption) ?_
  simp only [List.set_cons_zero, List.set_cons_succ]
  refine takeW 14 89 (.bool false) rfl rfl (by kernel_rfl) (by kernel_rfl) (by kernel_rfl) (fun _ _ _ h => h) (by kernel_rfl) (by (intro w hSw; go_simp)) (by assumption) ?_
  simp only [List.set_cons_zero, List.set_cons_succ]
  refine takeW 15 90 (.bool false) rfl rfl (by kernel_rfl) (by kernel_rfl) (by kernel_rfl) (fun _ _ _ h => h) (by kernel_rfl) (by (intro w hSw; go_simp)) (by assumption) ?_
  simp only [List.set_cons_zero, List.set_cons_succ]
  refine takeW 16 91 (.bool false) rfl rfl (by kernel_rfl) (by kernel_rfl) (by kernel_rfl) (fun _ _ _ h => h) (by kernel_rfl) (by (intro w hSw; go_simp)) (by assumption) ?_
  simp only [List.set_cons_zero, List.set_cons_succ]
  refine takeW 17 92 (.agg #[.int .i64 x1.k, .int .i64 x1.q, .int .i64 x1.r, .int .i64 x1.c, .int .i64 x1.b, .int .i64 x1.p, .int .i64 x1.h, .bool x1.up]) rfl rfl (by kernel_rfl) (by kernel_rfl) (by kernel_rfl) (fun _ _ _ h => h) (by kernel_rfl) (by (intro Y_ hSw; obtain ⟨X_0, X_1, X_2, X_3, X_4, X_5, X_6, X_7⟩ := NY.below hSw NY.lt; go_simp)) (by assumption) ?_
  simp only [List.set_cons_zero, List.set_cons_succ]
  refine takeW 18 93 (.agg #[.int .i64 x1.k, .int .i64 x1.q, .int .i64 x1.r, .int .i64 x1.c, .int .i64 x1.b, .int .i64 x1.p, .int .i64 x1.h, .bool x1.up]) rfl rfl (by kernel_rfl) (by kernel_rfl) (by kernel_rfl) (fun _ _ _ h => h) (by kernel_rfl) (by (intro Y_ hSw; obtain ⟨X_0, X_1, X_2, X_3, X_4, X_5, X_6, X_7⟩ := NZ.below hSw NZ.lt; go_simp)) (by assumption) ?_
  simp only [List.set_cons_zero, List.set_cons_succ]
  refine takeW 19 94 (.bool false) rfl rfl (by kernel_rfl) (by kernel_rfl) (by kernel_rfl) (fun _ _ _ h => h) (by kernel_rfl) (by (intro w hSw; go_simp)) (by assumption) ?_
  simp only [List.set_cons_zero, List.set_cons_succ]
  refine takeW 20 95 (.bool false) rfl rfl (by kernel_rfl) (by kernel_rfl) (by kernel_rfl) (fun _ _ _ h => h) (by kernel_rfl) (by (intro w hSw; go_simp)) (by assumption) ?_
  simp only [List.set_cons_zero, List.set_cons_succ]
  refine takeW 21 96 (.bool false) rfl rfl (by kernel_rfl) (by kernel_rfl) (by kernel_rfl) (fun _ _ _ h => h) (by kernel_rfl) (by (intro w hSw; go_simp)) (by assumption) ?_
  simp only [List.set_cons_zero, List.set_cons_succ]
  refine takeW 22 97 (.slice aA AB.length cA) rfl rfl (by kernel_rfl) (by kernel_rfl) (by kernel_rfl) (fun _ _ _ h => h) (by kernel_rfl) (by (intro w hSw; go_simp)) (by assumption) ?_
  simp only [List.set_cons_zero, List.set_cons_succ]
  refine takeW 23 98 (.string (txt AB)) rfl rfl (by kernel_rfl) (by kernel_rfl) (by kernel_rfl) (fun _ _ _ h => h) (by kernel_rfl) (by (intro Y_ hSw; have hq := conv_view (cap := cA) (bV (OA.later hSw).view.2) hABd; go_simp)) (by assumption) ?_
  simp only [List.set_cons_zero, List.set_cons_succ]
  refine takeW 24 99 (.slice aL LL.length cL) rfl rfl (by kernel_rfl) (by kernel_rfl) (by kernel_rfl) (fun _ _ _ h => h) (by kernel_rfl) (by (intro w hSw; go_simp)) (by assumption) ?_
  simp only [List.set_cons_zero, List.set_cons_succ]
  refine wpAnyH_all (rs := [25]) (by kernel_rfl) (by simp) ?_
  intro i hi; obtain rfl : i = 25 := by simpa using hi
  refine wpOp_step rfl (fun Kz hKz => ?_)
  rw [if_pos (by kernel_rfl)]
  go_simp
  go_at_call 19
  refine (allBS aL cL LL u1 (OL.later hb1).view.2 (by omega)).mono ?_
  rintro e u2 ⟨aQ, cQ, rfl, OQ, kq⟩
  have hb2 : Below wd16.heap.size wd16 u2 := hb1.trans (kq.mono hb1.size)
  rw [hAB.out] at OQ ⊢
  have hcvQ := conv_view (cap := cQ) (bV OQ.view.2) hABd
  clear kq
  refine hKz _ _ ⟨hb2, ?_⟩
  clear hKz Kz hi
  refine wpAnyH_all (rs := [26]) (by kernel_rfl) (by simp) ?_
  intro i hi; obtain rfl : i = 26 := by simpa using hi
  refine wpOp_step rfl (fun Kz hKz => ?_)
  rw [if_pos (by kernel_rfl)]
  go_simp
  refine hKz _ _ ⟨hb2, ?_⟩
  clear hKz Kz hi
  refine takeW 27 102 (.bool false) rfl rfl (by kernel_rfl) (by kernel_rfl) (by kernel_rfl) (fun _ _ _ h => h) (by kernel_rfl) (by (intro w hSw; go_simp)) (by assumption) ?_
  simp only [List.set_cons_zero, List.set_cons_succ]
  refine takeW 28 103 (.bool false) rfl rfl (by kernel_rfl) (by kernel_rfl) (by kernel_rfl) (fun _ _ _ h => h) (by kernel_rfl) (by (intro w hSw; go_simp)) (by assumption) ?_
  simp only [List.set_cons_zero, List.set_cons_succ]
  refine takeW 29 104 (.bool false) rfl rfl (by kernel_rfl) (by kernel_rfl) (by kernel_rfl) (fun _ _ _ h => h) (by kernel_rfl) (by (intro w hSw; go_simp)) (by assumption) ?_
  simp only [List.set_cons_zero, List.set_cons_succ]
  refine takeW 30 105 (.int .i64 (nN : Int)) rfl rfl (by kernel_rfl) (by kernel_rfl) (by kernel_rfl) (fun _ _ _ h => h) (by kernel_rfl) (by (intro w hSw; go_simp)) (by assumption) ?_
  simp only [List.set_cons_zero, List.set_cons_succ]
  refine takeW 31 106 (.int .i64 (nN : Int)) rfl rfl (by kernel_rfl) (by kernel_rfl) (by kernel_rfl) (fun _ _ _ h => h) (by kernel_rfl) (by (intro w hSw; go_simp)) (by assumption) ?_
  simp only [List.set_cons_zero, List.set_cons_succ]
  refine takeW 32 107 (.bool false) rfl rfl (by kernel_rfl) (by kernel_rfl) (by kernel_rfl) (fun _ _ _ h => h) (by kernel_rfl) (by (intro w hSw; go_simp)) (by assumption) ?_
  simp only [List.set_cons_zero, List.set_cons_succ]
  refine takeW 33 108 (.bool false) rfl rfl (by kernel_rfl) (by kernel_rfl) (by kernel_rfl) (fun _ _ _ h => h) (by kernel_rfl) (by (intro w hSw; go_simp)) (by assumption) ?_
  simp only [List.set_cons_zero, List.set_cons_succ]
  refine takeW 34 109 (.bool false) rfl rfl (by kernel_rfl) (by kernel_rfl) (by kernel_rfl) (fun _ _ _ h => h) (by kernel_rfl) (by (intro w hSw; go_simp)) (by assumption) ?_
  simp only [List.set_cons_zero, List.set_cons_succ]
  refine takeW 35 110 (.slice aU A.length cU) rfl rfl (by kernel_rfl) (by kernel_rfl) (by kernel_rfl) (fun _ _ _ h => h) (by kernel_rfl) (by (intro w hSw; go_simp)) (by assumption) ?_
  simp only [List.set_cons_zero, List.set_cons_succ]
  refine takeW 36 111 (.int .i64 (A.length : Int)) rfl rfl (by kernel_rfl) (by kernel_rfl) (by kernel_rfl) (fun _ _ _ h => h) (by kernel_rfl) (by (intro w hSw; go_simp)) (by assumption) ?_
  simp only [List.set_cons_zero, List.set_cons_succ]
  refine takeW 37 112 (.slice aV A.length cV) rfl rfl (by kernel_rfl) (by kernel_rfl) (by kernel_rfl) (fun _ _ _ h => h) (by kernel_rfl) (by (intro w hSw; go_simp)) (by assumption) ?_
  simp only [List.set_cons_zero, List.set_cons_succ]
  refine takeW 38 113 (.int .i64 (A.length : Int)) rfl rfl (by kernel_rfl) (by kernel_rfl) (by kernel_rfl) (fun _ _ _ h => h) (by kernel_rfl) (by (intro w hSw; go_simp)) (by assumption) ?_
  simp only [List.set_cons_zero, List.set_cons_succ]
  refine takeW 39 114 (.bool false) rfl rfl (by kernel_rfl) (by kernel_rfl) (by kernel_rfl) (fun _ _ _ h => h) (by kernel_rfl) (by (intro w hSw; go_simp)) (by assumption) ?_
  simp only [List.set_cons_zero, List.set_cons_succ]
  refine takeW 40 115 (.bool false) rfl rfl (by kernel_rfl) (by kernel_rfl) (by kernel_rfl) (fun _ _ _ h => h) (by kernel_rfl) (by (intro w hSw; go_simp)) (by assumption) ?_
  simp only [List.set_cons_zero, List.set_cons_succ]
  refine takeW 41 116 (.bool false) rfl rfl (by kernel_rfl) (by kernel_rfl) (by kernel_rfl) (fun _ _ _ h => h) (by kernel_rfl) (by (intro w hSw; go_simp)) (by assumption) ?_
  simp only [List.set_cons_zero, List.set_cons_succ]
  refine takeW 42 117 (.agg #[.int .i64 xi.k, .int .i64 xi.q, .int .i64 xi.r, .int .i64 xi.c, .int .i64 xi.b, .int .i64 xi.p, .int .i64 xi.h, .bool xi.up]) rfl rfl (by kernel_rfl) (by kernel_rfl) (by kernel_rfl) (fun _ _ _ h => h) (by kernel_rfl) (by (intro Y_ hSw; obtain ⟨X_0, X_1, X_2, X_3, X_4, X_5, X_6, X_7⟩ := NI.below hSw NI.lt; go_simp)) (by assumption) ?_
  simp only [List.set_cons_zero, List.set_cons_succ]
  refine takeW 44 119 (.agg #[.int .i64 xi.k, .int .i64 xi.q, .int .i64 xi.r, .int .i64 xi.c, .int .i64 xi.b, .int .i64 xi.p, .int .i64 xi.h, .bool xi.up]) rfl rfl (by kernel_rfl) (by kernel_rfl) (by kernel_rfl) (fun _ _ _ h => h) (by kernel_rfl) (by (intro Y_ hSw; obtain ⟨X_0, X_1, X_2, X_3, X_4, X_5, X_6, X_7⟩ := NI.below hSw NI.lt; go_simp)) (by assumption) ?_
  simp only [List.set_cons_zero, List.set_cons_succ]
  refine wpAnyH_all (rs := [43]) (by kernel_rfl) (by simp) ?_
  intro i hi; obtain rfl : i = 43 := by simpa using hi
  refine wpOp_step rfl (fun Kz hKz => ?_)
  rw [if_pos (by kernel_rfl)]
  go_simp
  go_at_call 20
  refine (inTextI xi u2 b8iq b8ir b8ic b8ib b8ip b8ih (tab_later htab (BW.trans (hb2.mono BW.size)))).mono ?_
  rintro e u3 ⟨rfl, kq⟩
  have hb3 : Below wd16.heap.size wd16 u3 := hb2.trans (kq.mono hb2.size)
  rw [hTI.out]
  clear kq
  refine hKz _ _ ⟨hb3, ?_⟩
  clear hKz Kz hi
  refine wpAnyH_all (rs := [45]) (by kernel_rfl) (by simp) ?_
  intro i hi; obtain rfl : i = 45 := by simpa using hi
  refine wpOp_step rfl (fun Kz hKz => ?_)
  rw [if_pos (by kernel_rfl)]
  go_simp
  go_at_call 21
  refine (inTextS xi u3 b8iq b8ir b8ic b8ib b8ip b8ih).mono ?_
  rintro e u4 ⟨rfl, kq⟩
  have hb4 : Below wd16.heap.size wd16 u4 := hb3.trans (kq.mono hb3.size)
  rw [hTI.out]
  clear kq
  refine hKz _ _ ⟨hb4, ?_⟩
  clear hKz Kz hi
  refine takeW 46 121 (.bool false) rfl rfl (by kernel_rfl) (by kernel_rfl) (by kernel_rfl) (fun _ _ _ h => h) (by kernel_rfl) (by (intro w hSw; go_simp)) (by assumption) ?_
  simp only [List.set_cons_zero, List.set_cons_succ]
  refine takeW 47 122 (.bool false) rfl rfl (by kernel_rfl) (by kernel_rfl) (by kernel_rfl) (fun _ _ _ h => h) (by kernel_rfl) (by (intro w hSw; go_simp)) (by assumption) ?_
  simp only [List.set_cons_zero, List.set_cons_succ]
  refine takeW 48 123 (.bool false) rfl rfl (by kernel_rfl) (by kernel_rfl) (by kernel_rfl) (fun _ _ _ h => h) (by kernel_rfl) (by (intro w hSw; go_simp)) (by assumption) ?_
  simp only [List.set_cons_zero, List.set_cons_succ]
  refine takeW 49 124 (.agg #[.int .i64 xo.k, .int .i64 xo.q, .int .i64 xo.r, .int .i64 xo.c, .int .i64 xo.b, .int .i64 xo.p, .int .i64 xo.h, .bool xo.up]) rfl rfl (by kernel_rfl) (by kernel_rfl) (by kernel_rfl) (fun _ _ _ h => h) (by kernel_rfl) (by (intro Y_ hSw; obtain ⟨X_0, X_1, X_2, X_3, X_4, X_5, X_6, X_7⟩ := NO.below hSw NO.lt; go_simp)) (by assumption) ?_
  simp only [List.set_cons_zero, List.set_cons_succ]
  refine takeW 51 126 (.agg #[.int .i64 xo.k, .int .i64 xo.q, .int .i64 xo.r, .int .i64 xo.c, .int .i64 xo.b, .int .i64 xo.p, .int .i64 xo.h, .bool xo.up]) rfl rfl (by kernel_rfl) (by kernel_rfl) (by kernel_rfl) (fun _ _ _ h => h) (by kernel_rfl) (by (intro Y_ hSw; obtain ⟨X_0, X_1, X_2, X_3, X_4, X_5, X_6, X_7⟩ := NO.below hSw NO.lt; go_simp)) (by assumption) ?_
  simp only [List.set_cons_zero, List.set_cons_succ]
  refine wpAnyH_all (rs := [50]) (by kernel_rfl) (by simp) ?_
  intro i hi; obtain rfl : i = 50 := by simpa using hi
  refine wpOp_step rfl (fun Kz hKz => ?_)
  rw [if_pos (by kernel_rfl)]
  go_simp
  go_at_call 22
  refine (outTextI xo u4 b8oq b8or b8oc b8ob b8op b8oh (tab_later htab (BW.trans (hb4.mono BW.size)))).mono ?_
  rintro e u5 ⟨rfl, kq⟩
  have hb5 : Below wd16.heap.size wd16 u5 := hb4.trans (kq.mono hb4.size)
  rw [hTO.out]
  clear kq
  refine hKz _ _ ⟨hb5, ?_⟩
  clear hKz Kz hi
  refine wpAnyH_all (rs := [52]) (by kernel_rfl) (by simp) ?_
  intro i hi; obtain rfl : i = 52 := by simpa using hi
  refine wpOp_step rfl (fun Kz hKz => ?_)
  rw [if_pos (by kernel_rfl)]
  go_simp
  go_at_call 23
  refine (outTextS xo u5 b8oq b8or b8oc b8ob b8op b8oh).mono ?_
  rintro e u6 ⟨rfl, kq⟩
  have hb6 : Below wd16.heap.size wd16 u6 := hb5.trans (kq.mono hb5.size)
  rw [hTO.out]
  clear kq
  refine hKz _ _ ⟨hb6, ?_⟩
  clear hKz Kz hi
  refine takeW 53 128 (.bool false) rfl rfl (by kernel_rfl) (by kernel_rfl) (by kernel_rfl) (fun _ _ _ h => h) (by kernel_rfl) (by (intro w hSw; go_simp)) (by assumption) ?_
  simp only [List.set_cons_zero, List.set_cons_succ]
  refine takeW 54 129 (.bool false) rfl rfl (by kernel_rfl) (by kernel_rfl) (by kernel_rfl) (fun _ _ _ h => h) (by kernel_rfl) (by (intro w hSw; go_simp)) (by assumption) ?_
  simp only [List.set_cons_zero, List.set_cons_succ]
  refine takeW 55 130 (.bool false) rfl rfl (by kernel_rfl) (by kernel_rfl) (by kernel_rfl) (fun _ _ _ h => h) (by kernel_rfl) (by (intro w hSw; go_simp)) (by assumption) ?_
  simp only [List.set_cons_zero, List.set_cons_succ]
  refine takeW 56 131 (.agg #[.int .i64 x.k, .int .i64 x.q, .int .i64 x.r, .int .i64 x.c, .int .i64 x.b, .int .i64 x.p, .int .i64 x.h, .bool x.up]) rfl rfl (by kernel_rfl) (by kernel_rfl) (by kernel_rfl) (fun _ _ _ h => h) (by kernel_rfl) (by (intro Y_ hSw; obtain ⟨X_0, X_1, X_2, X_3, X_4, X_5, X_6, X_7⟩ := NX.below hSw NX.lt; go_simp)) (by assumption) ?_
  simp only [List.set_cons_zero, List.set_cons_succ]
  refine takeW 58 133 (.agg #[.int .i64 x.k, .int .i64 x.q, .int .i64 x.r, .int .i64 x.c, .int .i64 x.b, .int .i64 x.p, .int .i64 x.h, .bool x.up]) rfl rfl (by kernel_rfl) (by kernel_rfl) (by kernel_rfl) (fun _ _ _ h => h) (by kernel_rfl) (by (intro Y_ hSw; obtain ⟨X_0, X_1, X_2, X_3, X_4, X_5, X_6, X_7⟩ := NX.below hSw NX.lt; go_simp)) (by assumption) ?_
  simp only [List.set_cons_zero, List.set_cons_succ]
  refine wpAnyH_all (rs := [57]) (by kernel_rfl) (by simp) ?_
  intro i hi; obtain rfl : i = 57 := by simpa using hi
  refine wpOp_step rfl (fun Kz hKz => ?_)
  rw [if_pos (by kernel_rfl)]
  go_simp
  go_at_call 24
  refine (inOkI x u6).mono ?_
  rintro e u7 ⟨rfl, kq⟩
  have hb7 : Below wd16.heap.size wd16 u7 := hb6.trans (kq.mono hb6.size)
  rw [hok.out]
  clear kq
  refine hKz _ _ ⟨hb7, ?_⟩
  clear hKz Kz hi
  refine wpAnyH_all (rs := [59]) (by kernel_rfl) (by simp) ?_
  intro i hi; obtain rfl : i = 59 := by simpa using hi
  refine wpOp_step rfl (fun Kz hKz => ?_)
  rw [if_pos (by kernel_rfl)]
  go_simp
  go_at_call 25
  refine (inOkS x u7).mono ?_
  rintro e u8 ⟨rfl, kq⟩
  have hb8 : Below wd16.heap.size wd16 u8 := hb7.trans (kq.mono hb7.size)
  rw [hok.out]
  clear kq
  refine hKz _ _ ⟨hb8, ?_⟩
  clear hKz Kz hi
  refine takeW 60 135 (.bool false) rfl rfl (by kernel_rfl) (by kernel_rfl) (by kernel_rfl) (fun _ _ _ h => h) (by kernel_rfl) (by (intro w hSw; go_simp)) (by assumption) ?_
  simp only [List.set_cons_zero, List.set_cons_succ]
  refine takeW 61 136 (.bool false) rfl rfl (by kernel_rfl) (by kernel_rfl) (by kernel_rfl) (fun _ _ _ h => h) (by kernel_rfl) (by (intro w hSw; go_simp)) (by assumption) ?_
  simp only [List.set_cons_zero, List.set_cons_succ]
  refine wpAnyH_done (by kernel_rfl) ?_ _
  clear hcvS hcvQ OS OQ hTI hTO b8iq b8oq b8ir b8or b8ic b8oc b8ib b8ob b8ip b8op b8ih b8oh
  clear NY
  clear NZ
  clear NI
  clear NO
  have kq := hb8
  have su8 := kq.size
  replace OB := OB.later kq
  replace OL := OL.later kq
  replace OA := OA.later kq
  replace VT := VT.below kq (VT.lt bEnc_len (by omega))
  replace OU := OU.later kq
  replace NX := NX.below kq NX.lt
  replace BW := BW.trans (kq.mono BW.size)
  clear kq
  clear hb0 hb1 hb2 hb3 hb4 hb5 hb6 hb7 hb8
  have cutT := takeV (bV VT) nN
  have hTb : ∀ y ∈ TL.take nN, 0 ≤ y ∧ y ≤ 255 := fun y hy => bT y (List.mem_of_mem_take hy)
  have hTl : (TL.take nN).length = nN := by simp; omega
  have hAb := allB_bd A
  rw [hback.out] at hAb
  obtain ⟨CT, hCT⟩ : ∃ C, TL.take nN = C := ⟨_, rfl⟩
  rw [hCT] at cutT hTb hTl hAb
  have hbk : Hid (allB A = CT) := by show _ = _; rw [hback.out]; exact hCT
  clear hCT hback
  have cutb : ∀ y, aT = some y → 0 < CT.length → y.block < u8.heap.size := fun y e hp => by rw [hTl] at hp; exact VT.lt bEnc_len (by omega) y e (by omega)
  have hnc : 0 ≤ (nN : Int) ∧ (nN : Int) ≤ (cT : Int) := by omega
  have hnn : (nN : Int).toNat = nN := by omega
  replace hTl : Hid _ := hTl
  go_upto_region 16 with fail
  refine wp_region_held (S := fun Y => Below u8.heap.size u8 Y) (by kernel_rfl) ?_
  change wpAnyH _ _ _ _ _ _ _ _ (World.drew _)
  have hb0 : Below u8.heap.size u8 u8.drew := (Below.refl _ _).drew
  obtain ⟨u0, hy0⟩ : ∃ y_, y_ = u8.drew := ⟨_, rfl⟩
  rw [← hy0] at hb0 ⊢
  clear hy0
  refine takeW 0 137 (.slice aU A.length cU) rfl rfl (by kernel_rfl) (by kernel_rfl) (by kernel_rfl) (fun _ _ _ h => h) (by kernel_rfl) (by (intro w hSw; go_simp)) (by assumption) ?_
  simp only [List.set_cons_zero, List.set_cons_succ]
  refine takeW 3 140 (.slice aT TL.length cT) rfl rfl (by kernel_rfl) (by kernel_rfl) (by kernel_rfl) (fun _ _ _ h => h) (by kernel_rfl) (by (intro w hSw; go_simp)) (by assumption) ?_
  simp only [List.set_cons_zero, List.set_cons_succ]
  refine takeW 4 141 (.int .i64 (nN : Int)) rfl rfl (by kernel_rfl) (by kernel_rfl) (by kernel_rfl) (fun _ _ _ h => h) (by kernel_rfl) (by (intro w hSw; go_simp)) (by assumption) ?_
  simp only [List.set_cons_zero, List.set_cons_succ]
  refine takeW 5 142 (.slice aT nN cT) rfl rfl (by kernel_rfl) (by kernel_rfl) (by kernel_rfl) (fun _ _ _ h => h) (by kernel_rfl) (by (intro Y_ hSw; cases aT <;> go_simp)) (by assumption) ?_
  simp only [List.set_cons_zero, List.set_cons_succ]
  refine takeW 6 143 (.string (txt CT)) rfl rfl (by kernel_rfl) (by kernel_rfl) (by kernel_rfl) (fun _ _ _ h => h) (by kernel_rfl) (by (intro Y_ hSw; have hq := conv_view (cap := cT) (cutT.carry (w' := Y_) (fun y h hp => hSw.block _ (cutb y h hp))) hTb; rw [hTl.out] at hq; go_simp)) (by assumption) ?_
  simp only [List.set_cons_zero, List.set_cons_succ]
  refine wpAnyH_all (rs := [1]) (by kernel_rfl) (by simp) ?_
  intro i hi; obtain rfl : i = 1 := by simpa using hi
  refine wpOp_step rfl (fun Kz hKz => ?_)
  rw [if_pos (by kernel_rfl)]
  go_simp
  go_at_call 12
  refine (allBI aU cU A u0 (OU.later hb0).view.2 (by omega)).mono ?_
  rintro e u1 ⟨aS, cS, rfl, OS, kq⟩
  rw [hbk.out] at OS ⊢
  have hb1 : Below u8.heap.size u8 u1 := hb0.trans (kq.mono hb0.size)
  have hcvS := conv_view (cap := cS) (bV OS.view.2) hTb
  clear kq
  refine hKz _ _ ⟨hb1, ?_⟩
  clear hKz Kz hi
  refine wpAnyH_all (rs := [2]) (by kernel_rfl) (by simp) ?_
  intro i hi; obtain rfl : i = 2 := by simpa using hi
  refine wpOp_step rfl (fun Kz hKz => ?_)
  rw [if_pos (by kernel_rfl)]
  go_simp
  refine hKz _ _ ⟨hb1, ?_⟩
  clear hKz Kz hi
  refine takeW 7 144 (.bool false) rfl rfl (by kernel_rfl) (by kernel_rfl) (by kernel_rfl) (fun _ _ _ h => h) (by kernel_rfl) (by (intro w hSw; go_simp)) (by assumption) ?_
  simp only [List.set_cons_zero, List.set_cons_succ]
  refine wpAnyH_done (by kernel_rfl) ?_ _
  clear hcvS OS cutT hTb hTl hAb hbk cutb hnc hnn
  clear OU VT bT lT gT hn0 hn1 hAl
  have kq := hb1
  have su1 := kq.size
  replace OB := OB.later kq
  replace OL := OL.later kq
  replace OA := OA.later kq
  replace NX := NX.below kq NX.lt
  replace BW := BW.trans (kq.mono BW.size)
  clear kq
  clear hb0 hb1
  go_wp2
  go_loopw [22, 23] (fun rv i wr => ∃ j : Nat, j ≤ LL.length ∧ i = .int .i64 j ∧ rv = .bool ((LL.take j).all inOk) ∧ Below u1.heap.size u1 wr) (fun _ i _ => LL.length - (intOf i).toNat)
  case atStart => exact ⟨0, Nat.zero_le _, rfl, rfl, Below.refl _ _⟩
  case round =>
    obtain ⟨j, hj, rfl, rfl, hb⟩ := hrel
    by_cases hlt : j < LL.length
    · obtain ⟨b, off, rfl, _⟩ := OL.view.2 (by omega)
      obtain ⟨h, hh⟩ : ∃ h, LL.getD j Ik.nil = h := ⟨_, rfl⟩
      have hck : IkAtO wr b (off + j * 8) h := by rw [← hh]; exact ikAtO_of ((OL.later hb).view.2.at_ ikEnc_len Ik.nil hlt)
      obtain ⟨c0, c1, c2, c3, c4, c5, c6, c7⟩ := hck
      have HT : Hid ((LL.take (j + 1)).all inOk = ((LL.take j).all inOk && inOk h)) := by show _ = _; rw [← hh]; exact take_all hlt
      clear hh
      cases hr : (LL.take j).all inOk with
      | false =>
        rw [hr] at HT
        go_wp2
        go_roundw
        case rel => exact ⟨j + 1, by omega, by go_num, by rw [HT.out]; rfl, hb⟩
        case measure => simp [intOf]; omega
      | true =>
        rw [hr] at HT
        go_wp2_with fail
        go_at_call 24
        refine (inOkI h wr).mono ?_
        rintro e w2 ⟨rfl, k2⟩
        have hb2 := hb.trans (k2.mono hb.size)
        clear c0 c1 c2 c3 c4 c5 c6 c7
        go_wp2
        go_roundw
        case rel => exact ⟨j + 1, by omega, by go_num, by rw [HT.out]; simp, hb2⟩
        case measure => simp [intOf]; omega
    · obtain rfl : j = LL.length := by omega
      rw [List.take_length]
      have kq := hb
      have swr := kq.size
      replace OB := OB.later kq
      replace OL := OL.later kq
      replace OA := OA.later kq
      replace NX := NX.below kq NX.lt
      replace BW := BW.trans (kq.mono BW.size)
      clear kq
      clear hb
      cases hr : LL.all inOk with
      | false =>
        have cc := NX
        obtain ⟨m0, m1, m2, m3, m4, m5, m6, m7⟩ := cc
        go_wp2_with fail
        go_at_call 24
        clear m0 m1 m2 m3 m4 m5 m6 m7
        refine (inOkI x wr).mono ?_
        rintro e wd17 ⟨rfl, kq⟩
        rw [hok.out]
        have swd17 := kq.size
        replace OB := OB.later kq
        replace OL := OL.later kq
        replace OA := OA.later kq
        replace NX := NX.below kq NX.lt
        replace BW := BW.trans (kq.mono BW.size)
        clear kq
        cases ok with
        | false =>
          have hwn : WB = [] := by rw [← hWB.out]; unfold inBy; rw [if_neg (by rw [hok.out]; simp)]
          subst hwn
          go_wp2
          go_ret
          exact ⟨rfl, BW⟩
        | true =>
          have hib := inAt_inB9 hok.out
          rw [hWB.out] at hib
          replace hib : Hid _ := hib
          have hBc := OB.capge
          go_wp2_with fail
          go_at_call 9
          refine (inOfI aB cB WB 0 wd17 (bV OB.view.2) (OB.view.2.lt bEnc_len (by omega)) (by omega) hBc.1 hWbd (by omega) tp pE ((BW.cell (p := ⟨1, 0, none⟩) hsl).trans hE) ((BW.cell (p := ⟨0, 0, none⟩) hhl).trans hH)).mono ?_
          rintro e wd18 ⟨rfl, kq⟩
          rw [hib.out, show inOfV (some (x, (WB.length : Int))) = .tuple #[.agg #[.int .i64 x.k, .int .i64 x.q, .int .i64 x.r, .int .i64 x.c, .int .i64 x.b, .int .i64 x.p, .int .i64 x.h, .bool x.up], .int .i64 (WB.length : Int), .bool true] from rfl]
          have swd18 := kq.size
          replace OB := OB.later kq
          replace OL := OL.later kq
          replace OA := OA.later kq
          replace NX := NX.below kq NX.lt
          replace BW := BW.trans (kq.mono BW.size)
          clear kq
          obtain ⟨wd19, hb_⟩ : ∃ y_, y_ = wd18.alloc (Obj.cells #[.int .i64 x.k, .int .i64 x.q, .int .i64 x.r, .int .i64 x.c, .int .i64 x.b, .int .i64 x.p, .int .i64 x.h, .bool x.up] 27) := ⟨_, rfl⟩
          have NB : InAt wd19 wd18.heap.size x := by rw [hb_]; exact InAt.new wd18 _ x
          have kq : Below wd18.heap.size wd18 wd19 := by rw [hb_]; exact below_new _
          have swd19 := kq.size
          replace OB := OB.later kq
          replace OL := OL.later kq
          replace OA := OA.later kq
          replace NX := NX.below kq NX.lt
          replace BW := BW.trans (kq.mono BW.size)
          clear kq
          go_upto_region 35 with fail
          rw [← hb_]
          clear hb_
          obtain ⟨m0, m1, m2, m3, m4, m5, m6, m7⟩ := NX
          obtain ⟨n0, n1, n2, n3, n4, n5, n6, n7⟩ := NB
          go_wp2
          go_ret
          exact ⟨rfl, BW⟩
      | true =>
        have hall : ∀ y ∈ LL, inOk y = true := fun y hy => List.all_eq_true.1 hr y hy
        have hag := allG_all hall
        rw [hAB.out] at hag
        replace hag : Hid _ := hag
        clear hall hr
        have hAc := OA.capge
        go_wp2_with fail
        go_at_call 14
        refine (allOfI aA cA AB wr (bV OA.view.2) (OA.view.2.lt bEnc_len (by omega)) (by omega) hAc.1 hABd tp pE ((BW.cell (p := ⟨1, 0, none⟩) hsl).trans hE) ((BW.cell (p := ⟨0, 0, none⟩) hhl).trans hH)).mono ?_
        rintro e wd20 ⟨aK, cK, rfl, OK, kq⟩
        rw [hag.out] at OK ⊢
        dsimp only at OK ⊢
        have swd20 := kq.size
        replace OB := OB.later kq
        replace OL := OL.later kq
        replace OA := OA.later kq
        replace NX := NX.below kq NX.lt
        replace BW := BW.trans (kq.mono BW.size)
        clear kq
        go_wp2
        go_loopw [26] (fun i wr => ∃ j : Nat, j ≤ LL.length ∧ i = .int .i64 j ∧ Below wd20.heap.size wd20 wr) (fun i _ => LL.length - (intOf i).toNat)
        case atStart => exact ⟨0, Nat.zero_le _, rfl, Below.refl _ _⟩
        case round =>
          obtain ⟨j, hj, rfl, hb⟩ := hrel
          by_cases hlt : j < LL.length
          · obtain ⟨b, off, rfl, _⟩ := OL.view.2 (by omega)
            obtain ⟨b', off', rfl, _⟩ := OK.view.2 (by omega)
            obtain ⟨h, hh⟩ : ∃ h, LL.getD j Ik.nil = h := ⟨_, rfl⟩
            have hc : ∀ Y, Below wd20.heap.size wd20 Y → IkAtO Y b (off + j * 8) h := fun Y hY => by rw [← hh]; exact ikAtO_of ((OL.later hY).view.2.at_ ikEnc_len Ik.nil hlt)
            have hc' : ∀ Y, Below wd20.heap.size wd20 Y → IkAtO Y b' (off' + j * 8) h := fun Y hY => by rw [← hh]; exact ikAtO_of ((OK.later hY).view.2.at_ ikEnc_len Ik.nil hlt)
            clear hh
            go_upto_region 30 with fail
            refine wp_region_held (S := fun Y => Below wd20.heap.size wd20 Y) (by kernel_rfl) ?_
            change wpAnyH _ _ _ _ _ _ _ _ (World.drew _)
            have hb0 : Below wd20.heap.size wd20 wr.drew := hb.drew
            refine takeW 0 182 (.slice (some ⟨b', off', none⟩) LL.length cK) rfl rfl (by kernel_rfl) (by kernel_rfl) (by kernel_rfl) (fun _ _ _ h => h) (by kernel_rfl) (by (intro w hSw; go_simp)) (by assumption) ?_
            simp only [List.set_cons_zero, List.set_cons_succ]
            refine takeW 1 183 (.int .i64 (j : Int)) rfl rfl (by kernel_rfl) (by kernel_rfl) (by kernel_rfl) (fun _ _ _ h => h) (by kernel_rfl) (by (intro w hSw; go_simp)) (by assumption) ?_
            simp only [List.set_cons_zero, List.set_cons_succ]
            refine takeW 2 184 (.pointer (some ⟨b', off' + j * 8, none⟩)) rfl rfl (by kernel_rfl) (by kernel_rfl) (by kernel_rfl) (fun _ _ _ h => h) (by kernel_rfl) (by (intro Y hSw; go_simp; try omega)) (by assumption) ?_
            simp only [List.set_cons_zero, List.set_cons_succ]
            refine takeW 3 185 (.agg #[.int .i64 h.k, .int .i64 h.q, .int .i64 h.r, .int .i64 h.c, .int .i64 h.b, .int .i64 h.p, .int .i64 h.h, .bool h.up]) rfl rfl (by kernel_rfl) (by kernel_rfl) (by kernel_rfl) (fun _ _ _ h => h) (by kernel_rfl) (by (intro Y hSw; obtain ⟨X0, X1, X2, X3, X4, X5, X6, X7⟩ := hc' Y hSw; go_simp)) (by assumption) ?_
            simp only [List.set_cons_zero, List.set_cons_succ]
            refine takeW 4 186 (.slice (some ⟨b, off, none⟩) LL.length cL) rfl rfl (by kernel_rfl) (by kernel_rfl) (by kernel_rfl) (fun _ _ _ h => h) (by kernel_rfl) (by (intro w hSw; go_simp)) (by assumption) ?_
            simp only [List.set_cons_zero, List.set_cons_succ]
            refine takeW 5 187 (.int .i64 (j : Int)) rfl rfl (by kernel_rfl) (by kernel_rfl) (by kernel_rfl) (fun _ _ _ h => h) (by kernel_rfl) (by (intro w hSw; go_simp)) (by assumption) ?_
            simp only [List.set_cons_zero, List.set_cons_succ]
            refine takeW 6 188 (.pointer (some ⟨b, off + j * 8, none⟩)) rfl rfl (by kernel_rfl) (by kernel_rfl) (by kernel_rfl) (fun _ _ _ h => h) (by kernel_rfl) (by (intro Y hSw; go_simp; try omega)) (by assumption) ?_
            simp only [List.set_cons_zero, List.set_cons_succ]
            refine takeW 7 189 (.agg #[.int .i64 h.k, .int .i64 h.q, .int .i64 h.r, .int .i64 h.c, .int .i64 h.b, .int .i64 h.p, .int .i64 h.h, .bool h.up]) rfl rfl (by kernel_rfl) (by kernel_rfl) (by kernel_rfl) (fun _ _ _ h => h) (by kernel_rfl) (by (intro Y hSw; obtain ⟨X0, X1, X2, X3, X4, X5, X6, X7⟩ := hc Y hSw; go_simp)) (by assumption) ?_
            simp only [List.set_cons_zero, List.set_cons_succ]
            refine takeW 8 190 (.bool false) rfl rfl (by kernel_rfl) (by kernel_rfl) (by kernel_rfl) (fun _ _ _ h => h) (by kernel_rfl) (by (intro w hSw; go_simp)) (by assumption) ?_
            simp only [List.set_cons_zero, List.set_cons_succ]
            refine wpAnyH_done (by kernel_rfl) ?_ _
            go_wp2
            go_roundw
            case rel => exact ⟨j + 1, by omega, by go_num, hb0⟩
            case measure => simp [intOf]; omega
          · obtain rfl : j = LL.length := by omega
            clear OK
            have kq := hb
            have swr := kq.size
            replace OB := OB.later kq
            replace OL := OL.later kq
            replace OA := OA.later kq
            replace NX := NX.below kq NX.lt
            replace BW := BW.trans (kq.mono BW.size)
            clear kq
            clear hb
            have cc := NX
            obtain ⟨m0, m1, m2, m3, m4, m5, m6, m7⟩ := cc
            go_wp2_with fail
            go_at_call 24
            clear m0 m1 m2 m3 m4 m5 m6 m7
            refine (inOkI x wr).mono ?_
            rintro e wd21 ⟨rfl, kq⟩
            rw [hok.out]
            have swd21 := kq.size
            replace OB := OB.later kq
            replace OL := OL.later kq
            replace OA := OA.later kq
            replace NX := NX.below kq NX.lt
            replace BW := BW.trans (kq.mono BW.size)
            clear kq
            cases ok with
            | false =>
              have hwn : WB = [] := by rw [← hWB.out]; unfold inBy; rw [if_neg (by rw [hok.out]; simp)]
              subst hwn
              go_wp2
              go_ret
              exact ⟨rfl, BW⟩
            | true =>
              have hib := inAt_inB9 hok.out
              rw [hWB.out] at hib
              replace hib : Hid _ := hib
              have hBc := OB.capge
              go_wp2_with fail
              go_at_call 9
              refine (inOfI aB cB WB 0 wd21 (bV OB.view.2) (OB.view.2.lt bEnc_len (by omega)) (by omega) hBc.1 hWbd (by omega) tp pE ((BW.cell (p := ⟨1, 0, none⟩) hsl).trans hE) ((BW.cell (p := ⟨0, 0, none⟩) hhl).trans hH)).mono ?_
              rintro e wd22 ⟨rfl, kq⟩
              rw [hib.out, show inOfV (some (x, (WB.length : Int))) = .tuple #[.agg #[.int .i64 x.k, .int .i64 x.q, .int .i64 x.r, .int .i64 x.c, .int .i64 x.b, .int .i64 x.p, .int .i64 x.h, .bool x.up], .int .i64 (WB.length : Int), .bool true] from rfl]
              have swd22 := kq.size
              replace OB := OB.later kq
              replace OL := OL.later kq
              replace OA := OA.later kq
              replace NX := NX.below kq NX.lt
              replace BW := BW.trans (kq.mono BW.size)
              clear kq
              obtain ⟨wd23, hb_⟩ : ∃ y_, y_ = wd22.alloc (Obj.cells #[.int .i64 x.k, .int .i64 x.q, .int .i64 x.r, .int .i64 x.c, .int .i64 x.b, .int .i64 x.p, .int .i64 x.h, .bool x.up] 27) := ⟨_, rfl⟩
              have NB : InAt wd23 wd22.heap.size x := by rw [hb_]; exact InAt.new wd22 _ x
              have kq : Below wd22.heap.size wd22 wd23 := by rw [hb_]; exact below_new _
              have swd23 := kq.size
              replace OB := OB.later kq
              replace OL := OL.later kq
              replace OA := OA.later kq
              replace NX := NX.below kq NX.lt
              replace BW := BW.trans (kq.mono BW.size)
              clear kq
              go_upto_region 35 with fail
              rw [← hb_]
              clear hb_
              obtain ⟨m0, m1, m2, m3, m4, m5, m6, m7⟩ := NX
              obtain ⟨n0, n1, n2, n3, n4, n5, n6, n7⟩ := NB
              go_wp2
              go_ret
              exact ⟨rfl, BW⟩


theorem door_met (os : Os) (args : Array Value) : laidMetH Tryz.prog Rows.fnInsRow.laid ((World.doorLaid Tryz.prog 50 os).forCall (fun _ _ => 0) ⟨#[], args, []⟩).memory :=
  laidMetH_of_parts3 (fuel := 8) (laidMet_of_run' 8 (by kernel_rfl) (by kernel_rfl)) (by kernel_rfl) (by kernel_rfl)
theorem laid_both {W : World} (h : laidMetH Tryz.prog Rows.fnInsRow.laid W) : laidMet Tryz.prog [("math/bits.deBruijn32tab", Rows.laid_math_bits_deBruijn32tab), ("math/bits.deBruijn64tab", Rows.laid_math_bits_deBruijn64tab), ("internal/strconv.uint64pow10", Rows.laid_internal_strconv_uint64pow10), ("loop.example/g00470/impl.errNoNumber", Rows.laid_loop_example_g00470_impl_errNoNumber)] W ∧ handlesMet Tryz.prog [("errors.errorType", Rows.laid_errors_errorType)] W := h
theorem rtRow : (Tryz.prog.cutTypes.find? (·.1 == "internal/reflectlite.rtype")).map (·.2) = some 172 := by kernel_rfl
theorem etG : Tryz.prog.globalNamed "errors.errorType" = some 0 := by kernel_rfl
theorem oneRow : ((List.range 282).filter fun t => Tryz.prog.rowNamed t [101, 114, 114, 111, 114]) = [80] := by kernel_rfl
theorem ntypes : Tryz.prog.types.size = 282 := by kernel_rfl
theorem handle_of_laid {W : World} (h : laidMetH Tryz.prog Rows.fnInsRow.laid W) : W.cell? ⟨0, 0, none⟩ = some (.iface 172 (.agg #[.pointer (some ⟨6, 80, none⟩)])) := by
  obtain ⟨name, u, ty, e1, e2, e3, e4, e5⟩ := (laid_both h).2 _ (List.mem_singleton.2 rfl)
  have en : name = [101, 114, 114, 111, 114] := (Option.some.inj e1).symm
  subst en
  obtain rfl := Option.some.inj (rtRow.symm.trans e2)
  have hm : ty ∈ (List.range 282).filter fun t => Tryz.prog.rowNamed t [101, 114, 114, 111, 114] := List.mem_filter.2 ⟨List.mem_range.2 (by rw [← ntypes]; exact e3), e4⟩
  rw [oneRow] at hm
  obtain rfl := List.mem_singleton.1 hm
  have hh : typeHandle Tryz.prog 80 = .pointer (some ⟨6, 80, none⟩) := by kernel_rfl
  rw [hh] at e5
  simpa using World.var?_cell etG e5 0
theorem gErr : Tryz.prog.globalNamed "loop.example/g00470/impl.errNoNumber" = some 1 := by kernel_rfl
theorem gErrT : (Tryz.prog.globals[1]?).map (·.type) = some 80 := by kernel_rfl
theorem rowErr (u : TypeId) (h : Tryz.prog.typeName? 3 u = some "*errors.errorString") : u = 251 := by
  have star : "*" ++ "errors.errorString" = "*errors.errorString" := by decide
  exact typeName_ptr_named (nm := "errors.errorString") (by rw [star]; kernel_rfl) (by kernel_rfl) (by decide) u (by rw [star]; exact h)
theorem sentinel_of_laid {W : World} (h : laidMetH Tryz.prog Rows.fnInsRow.laid W) : ∃ a : Addr, W.var? Tryz.prog "loop.example/g00470/impl.errNoNumber" = some #[.iface 251 (.pointer (some a))] := by
  obtain ⟨a0, s0, hv0, _⟩ := laid_sentinel (laidMet.tail (laidMet.tail (laidMet.tail (laid_both h).1))) gErr gErrT Tryz.underlying80 rowErr Tryz.underlying251 Tryz.underlying270 rfl rfl Tryz.underlying9 (by kernel_rfl) (by kernel_rfl)
  exact ⟨a0, hv0⟩
theorem tab_of_laid {W : World} (h : laidMetH Tryz.prog Rows.fnInsRow.laid W) : TabOk W := by
  have h3 := laidMet.tail (laidMet.tail ((laid_both h).1))
  exact Lib.tabIs_of_head (zs := Lib.pow10Tab) gTab (t := 241) (by kernel_rfl) Tryz.underlying241 Tryz.underlying224 (by kernel_rfl) (by kernel_rfl) h3
set_option maxRecDepth 100000 in
theorem lifted (os : Os) (started : os.Started) (H : Type) (enc : TypeId × Value → H) :
    ReturnsInHanded {} Tryz.checked os 3 .any (fun w args => (Rows.fnInsSpec.pre enc Tryz.prog Tryz.f3 [] false w args ∧ laidMetH Tryz.prog Rows.fnInsRow.laid w) ∧ sizedMet enc Tryz.prog Tryz.f3 (OpenSpec.ofChange Rows.fnInsSpec) false w args) (Rows.fnInsSpec.post enc Tryz.prog Tryz.f3 false true false false) := by
  refine returnsInHanded_of_change_and (C := Tryz.checked) (X := fun w _ => laidMetH Tryz.prog Rows.fnInsRow.laid w) (fun _ _ _ hh h => h.of_heap hh) own started (by kernel_rfl) Tryz.func3
    (ChangeSpec.witness_shaped (enc := enc) (C := Tryz.checked) (os := os) (X := fun w _ => laidMetH Tryz.prog Rows.fnInsRow.laid w) false (World.doorLaid Tryz.prog 50 os) #[.slice none 0 0] 8 rfl (World.shaped_of_RefB (by kernel_rfl) (by kernel_rfl)) (by kernel_rfl) (by kernel_rfl) (by kernel_rfl) (door_met os _)) ?_
  intro W base args ds gs before hval0 hW _ hsz0 hL _
  have hval : ∀ (j : Nat) t v, Tryz.f3.params[j]? = some t → args[j]? = some v → Value.okWide Tryz.prog W .any base t v := hval0
  have hW' := hW
  obtain ⟨p, q, hA0, hV, rfl, hfz, hnd⟩ := hW
  have hA : DataW.TrodAll enc Tryz.prog W 0 (fun _ => true) true Tryz.f3.params.toList args.toList ds p := hA0
  rw [Tryz.params3] at hA hval
  obtain ⟨v0, vs0, d0, ds0, p0, q0, hargs, rfl, rfl, h0, r0⟩ := trodAll_cons hA
  obtain ⟨rfl, rfl, rfl⟩ := trodAll_nil r0
  obtain rfl : args = #[v0] := by cases args; simp_all
  have hV1 : DataW.TrodVars enc Tryz.prog W (fun _ => true) ["loop.example/g00470/impl.errNoNumber"] gs q := hV
  obtain ⟨sa, hvE⟩ := sentinel_of_laid hL
  obtain ⟨rfl, rfl⟩ := hV1.unique (vars_read1 enc gErr gErrT Tryz.underlying80 hvE trivial _)
  have hcE : W.cell? ⟨1, 0, none⟩ = some (.iface 251 (.pointer (some sa))) := by simpa using World.var?_cell gErr hvE 0
  obtain ⟨ad0, len0, cap0, f0, rfl, I0⟩ := codeIn_open (hval 0 22 v0 rfl rfl) h0
  have lt0 : ∀ x ∈ p0, x.block < W.heap.size := by obtain ⟨m, hm⟩ := h0; exact DataW.trod_lt m _ _ _ hm
  clear hA0 hval0
  refine (walk ad0 len0 cap0 f0 W I0 _ _ hcE (handle_of_laid hL) (tab_of_laid hL)).mono fun e W' ⟨he, bel⟩ => ?_
  subst he
  exact ⟨_, rfl, _, _, _, [], _, [.cell 1 0], hW', trodAll_mk1 (shut_bool Tryz.underlying4 _), (trodAll_cons_mk (Below.trod laidOut (by kernel_rfl) (of_decide_eq_true (by kernel_rfl)) h0 bel lt0) trodAll_mk0), vars_read1 enc gErr gErrT Tryz.underlying80 (Joins.var_stays gErr hvE bel (Nat.le_refl _)) trivial _, bel.frame _, fun h => by cases h⟩

theorem over : Rows.fnInsRow.holds Tryz.pinned (OpenSpec.ofChange Rows.fnInsSpec) :=
  OpenClaim.holds_of_wide 3 Tryz.f3 rfl rfl rfl rfl rfl rfl rfl ⟨rfl, rfl, rfl, rfl, rfl⟩ rfl rfl rfl rfl rfl (by kernel_rfl) Tryz.func3 (by kernel_rfl)
    (of_decide_eq_true (by kernel_rfl)) (by unfold Func.isWrapper; first | (rw [if_pos (by decide +kernel)]; kernel_rfl) | (rw [if_neg (by decide +kernel)]; exact ⟨rfl, rfl⟩))
    (fun os started H enc _ => lifted os started H enc)

theorem proved : Rows.FnInsSaid := over
end Go.Proofs.YthgcbihhdbpbdaaGreatDoor.fnIns
namespace Go.Proofs.YthgcbihhdbpbdaaGreatDoor
theorem ins_holds : Rows.FnInsCardSaid :=
  Claim7.holds_tied_plain_at .later [] [.data, .data, .data, .handle, .sentinel] true (true, "1aa44ec34080c77fc300e860acc870561ebabd50d221eb0ee3485b52f8d71cd9") true
    fnIns.proved (fun _ h => by cases h) (by kernel_rfl) (fun _ h => by cases h) fnIns_row_tie rfl ⟨rfl, rfl⟩ (by kernel_rfl) rfl
    (fun f fn hf hfn => by
      obtain rfl : f = 3 := Option.some.inj ((show Tryz.prog.funcNamed "loop.example/g00470/laws.FnIns" = some 3 by kernel_rfl).symm.trans hf) |>.symm
      obtain rfl : fn = Tryz.f3 := (Option.some.inj (Tryz.func3.symm.trans hfn)).symm
      exact ⟨by kernel_rfl, fun j t ht => by
        rw [Tryz.params3] at ht
        have hm : t ∈ [22] := by simpa using Array.mem_of_getElem? ht
        have hall : ([22].all fun u => !Tryz.prog.wantsStandIn u) = true := by kernel_rfl
        exact (show Tryz.prog.wantsStandIn t = false by simpa using List.all_eq_true.1 hall t hm)⟩)
    (by kernel_rfl)
#print axioms ins_holds
end Go.Proofs.YthgcbihhdbpbdaaGreatDoor
