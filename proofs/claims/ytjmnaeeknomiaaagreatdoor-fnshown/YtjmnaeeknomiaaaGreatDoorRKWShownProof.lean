/- FnShown, proved: at every code what is drawn of a port, a bridge, a minder and a box is written as the specification writes it, and a box ends in a line end; the table uint64pow10 holds what its text lays (the card ties it, over the pruned copy of the project); a code longer than 1048576 is answered true at once. -/
import Derived.Test.YtjmnaeeknomiaaaGreatDoorTie
import Derived.Test.YtjmnaeeknomiaaaGreatDoorCards
import Derived.SevenTiedAt
import Derived.LaidMore
import Derived.LaidHandle
import Derived.LaidLaws
import Derived.Stop.Joined
import Derived.Stop.LaidErr
import Derived.Lay
import Derived.Shelf.Vars
import Derived.Test.YtjmnaeeknomiaaaGreatDoorRKWSh8
namespace Go.Proofs.YtjmnaeeknomiaaaGreatDoor.fnShown
open Go.ChangeShapes Go.WideShapes Go.ChangeAt Go.RowKit
set_option linter.unusedVariables false
attribute [local go_sem] ji ja bc mc
theorem own : ownKnob Tryz.prog.godebug = none := by kernel_rfl
theorem laidOut : laidOutB Tryz.prog = true := by kernel_rfl
theorem ptWf_of {x : Pt} (h : BJ x) : Cy x := by
  unfold BJ at h
  unfold Cy BK
  omega
theorem bxF_of {x : AF} (h : Dy x) : EY x := by
  have hr := h.r
  unfold EU at hr
  exact ⟨⟨by omega, by omega⟩, ⟨by omega, by omega⟩, ⟨by omega, by omega⟩, by have := h.t; omega, fun d hd => by
    obtain ⟨k, hk, rfl⟩ := List.getElem_of_mem hd
    have e : x.two.getD k AD.nil = x.two[k] := by simp [List.getD, List.getElem?_eq_getElem hk]
    have h2 := h.t
    have hw := h.w k (by omega)
    have hl := h.l k (by omega)
    rw [e] at hw hl
    exact IL hw (by omega), by have := h.i; omega, h.g⟩
theorem bxT_pos (x : AF) : 0 < (DO x).size := by
  unfold DO
  rw [ByteArray.size_append]
  have e : (⟨#[10]⟩ : ByteArray).size = 1 := rfl
  omega
theorem bxT_last (x : AF) : (DO x)[(DO x).size - 1]'(by have := bxT_pos x; omega) = 10 := by
  unfold DO
  rw [ByteArray.getElem_append_right (by rw [ByteArray.size_append]; have e : (⟨#[10]⟩ : ByteArray).size = 1 := rfl; omega)]
  have e : (⟨#[10]⟩ : ByteArray).size = 1 := rfl
  simp only [ByteArray.size_append, e, Nat.add_sub_cancel, Nat.sub_self]
  rfl
theorem bxT_is {x : AF} (h : EY x) : ∃ T, DO x = T ∧ 0 < (T.size : Int) ∧ T.size ≤ 1048576 ∧ (∃ h, T[((T.size : Int) - 1).toNat]'h = 10) ∧ ∀ w, (Instr.index 9 (.string T) (.int .i64 ((T.size : Int) - 1))).run Tryz.prog w = .ok (.int .u8 10) w := by
  have h0 := bxT_pos x
  have h1 : (DO x).size ≤ 1048576 := by
    have h2 := Ht h x.ga.length (Nat.le_refl _)
    rw [List.take_length] at h2
    have h3 := h.g
    unfold DO
    rw [ByteArray.size_append]
    have e : (⟨#[10]⟩ : ByteArray).size = 1 := rfl
    omega
  have h4 := bxT_last x
  have e : (((DO x).size : Int) - 1).toNat = (DO x).size - 1 := by omega
  refine ⟨_, rfl, by omega, h1, ⟨by omega, by simp only [e]; exact h4⟩, fun w => ?_⟩
  rw [run_index_string (P := Tryz.prog) w 9 (DO x) .i64 _ Tryz.underlying9, dif_pos (by omega)]
  simp only [e, h4]
  rfl
set_option maxHeartbeats 16000000 in
set_option maxRecDepth 100000 in
theorem walk (ad0 : Option Addr) (len0 cap0 : Nat) (f0 : Nat → Int) (w : World) (I0 : IW w ad0 len0 f0) (htab : Dx w) :
    Calls Tryz.prog 4 #[.slice ad0 len0 cap0] w fun e w' => e = .returned (.bool true) ∧ Below w.heap.size w w' := by
  obtain ⟨lm, hv, hB, hf⟩ := I0
  by_cases hbig : 1048576 < len0
  · have hbig' : (1048576 : Int) < (len0 : Int) := by omega
    go_enter Tryz.func4, Tryz.ntmps4
    go_wp2_with fail
    go_at_call 5
    refine (LD ad0 len0 cap0 w hbig').mono ?_
    rintro e w1 ⟨rfl, h1⟩
    rw [h1]
    clear h1 w1 hbig
    go_wp2
    go_ret
    exact ⟨rfl, Below.refl _ _⟩
  have hC : E3 w ad0 len0 f0 := ⟨hv, hB, by omega, hf⟩
  clear hv hB hf lm
  have BW : Bw w w := Below.refl _ _
  go_enter Tryz.func4, Tryz.ntmps4
  go_wp2_with fail
  go_at_call 5
  refine (La ad0 len0 cap0 w (by omega)).mono ?_
  rintro e w1 ⟨rfl, h1⟩
  rw [h1]
  clear h1 w1 hbig
  go_wp2_with fail
  go_at_call 26
  refine (Kt ad0 len0 cap0 f0 w (hC.later BW (Nat.le_refl _))).mono ?_
  rintro e wa ⟨p, rfl, hp, kq⟩
  have BW := AG BW kq
  clear kq
  go_wp2_with fail
  go_at_call 27
  refine (Ky ad0 len0 cap0 f0 wa (hC.later BW (Nat.le_refl _))).mono ?_
  rintro e w2 ⟨id, aB, cB, L, rfl, hL, hb, OB, kq⟩
  have BW := AG BW kq
  clear kq
  go_wp2_with fail
  go_at_call 28
  refine (Ku ad0 len0 cap0 f0 w2 (hC.later BW (Nat.le_refl _))).mono ?_
  rintro e w3 ⟨m, aM, cM, rfl, hm, _, kq⟩
  have BW := AG BW kq
  have OB := OB.later kq
  clear kq
  go_wp2_with fail
  go_at_call 29
  refine (Kq ad0 len0 cap0 f0 w3 (hC.later BW (Nat.le_refl _))).mono ?_
  rintro e w4 ⟨x, rfl, hx, OX, kq⟩
  have BW := AG BW kq
  have OB := OB.later kq
  clear kq hC
  have fp : Cy p := ptWf_of hp
  have fb : ∀ y ∈ L, Cy y := fun y hy => ptWf_of (hb.1 y hy)
  have fi : BK id := by have := hb.2; exact ⟨by omega, by omega⟩
  have fm : Eg m := IL hm.2 (by have := hm.1; omega)
  have fx : EY x := bxF_of hx
  have Vx : Ck w4 x := OX.view (by have := hx.t; omega) (fun i hi => by have := hx.t; have := hx.l i (by omega); omega) (by have := hx.n; omega) (by have := hx.g; omega) (by have := hx.i; omega) (by have := hx.s; omega)
  have hl : L.length ≤ 1048576 := by omega
  have VL : AI AK w4 aB L := OB.view.2
  clear hp hb hm hx OX OB
  obtain ⟨w5, h5, k5⟩ := AM w4 (Obj.cells #[.bool p.up, .bool p.has, .int .i64 p.r, .int .i64 p.c, .int .i64 p.b, .int .i64 p.p, .int .i64 p.h, .int .i64 p.l, .int .i64 p.ro, .int .i64 p.wa, .bool p.op] 47)
  have A5 : Bg w5 w4.heap.size p := by rw [h5]; exact EN w4 _ p
  have s5 : w5.heap.size = w4.heap.size + 1 := by rw [h5]; simp
  obtain ⟨w6, h6, k6⟩ := AM w5 (Obj.cells #[.int .i64 id, .slice aB L.length cB] 51)
  have A6 : Ap w6 w5.heap.size id (.slice aB L.length cB) := by rw [h6]; exact Ap.new _ _ _ _
  have s6 : w6.heap.size = w5.heap.size + 1 := by rw [h6]; simp
  obtain ⟨w7, h7, k7⟩ := AM w6 (Obj.cells #[.bool m.up, .int .i64 m.li, .int .i64 m.ep, .slice aM m.lg.length cM, .int .i64 m.sd, .int .i64 m.ac, .int .i64 m.al] 54)
  have A7 : Ab w7 w6.heap.size m (.slice aM m.lg.length cM) := by rw [h7]; constructor <;> simp [go_sem]
  have s7 : w7.heap.size = w6.heap.size + 1 := by rw [h7]; simp
  obtain ⟨w8, h8, k8⟩ := AM w7 (Obj.cells #[.int .i64 x.id, .int .i64 x.po, .int .i64 x.rg.ep, .int .i64 x.rg.ow, .int .i64 x.rg.pa, .slice x.aT x.two.length x.cT, .slice x.aN x.net.length x.cN, .slice x.aG x.ga.length x.cG, .slice x.aL x.ln.length x.cL, .slice x.aS x.sd.length x.cS] 63)
  have A8 : Af w8 w7.heap.size x := by rw [h8]; exact Af.new w7 _ x
  have s8 : w8.heap.size = w7.heap.size + 1 := by rw [h8]; simp
  have A5 := ((A5.below k6 A5.lt).below k7 (by omega)).below k8 (by omega)
  have A6 := (A6.below k7 A6.lt).below k8 (by omega)
  have A7 := A7.below k8 A7.lt
  have k48 : Bw w4 w8 := AG (AG (AG k5 k6) k7) k8
  have Vx := Vx.later k48
  have VL := VL.below k48 (VL.lt AV (by omega))
  have BW := AG BW k48
  clear k5 k6 k7 k8 k48
  rw [s5] at s6
  rw [s6] at s7
  rw [s5] at A6
  rw [s6] at A7
  rw [s7] at A8
  clear s5 s6 s7 s8
  go_wp2_with fail
  go_at_call 30
  rw [← h5, ← h6, ← h7, ← h8]
  clear h5 h6 h7 h8
  generalize w4.heap.size = q at *
  refine (Ln x w8 Vx fx (Dc htab BW)).mono ?_
  rintro e w9 ⟨rfl, kq⟩
  have A5 := A5.below kq A5.lt
  have A6 := A6.below kq A6.lt
  have A7 := A7.below kq A7.lt
  have A8 := A8.below kq A8.lt
  have Vx := Vx.later kq
  have VL := VL.below kq (VL.lt AV (by omega))
  have BW := AG BW kq
  clear kq
  obtain ⟨T, hT, posT, sizT, ⟨_, lasT⟩, idxT⟩ := bxT_is fx
  rw [hT]
  replace hT : Hid _ := hT
  go_upto_region 5 with fail
  refine An (fun Y => Bw w9 Y) fun u0 hb0 => ?_
  refine tw 0 20 (.agg #[.bool p.up, .bool p.has, .int .i64 p.r, .int .i64 p.c, .int .i64 p.b, .int .i64 p.p, .int .i64 p.h, .int .i64 p.l, .int .i64 p.ro, .int .i64 p.wa, .bool p.op]) ?_ (hy := by intro Y hSw; have X := (A5.below hSw A5.lt); obtain ⟨X0, X1, X2, X3, X4, X5, X6, X7, X8, X9, X10⟩ := X; go_simp)
  refine tw 2 22 (.agg #[.bool p.up, .bool p.has, .int .i64 p.r, .int .i64 p.c, .int .i64 p.b, .int .i64 p.p, .int .i64 p.h, .int .i64 p.l, .int .i64 p.ro, .int .i64 p.wa, .bool p.op]) ?_ (hy := by intro Y hSw; have X := (A5.below hSw A5.lt); obtain ⟨X0, X1, X2, X3, X4, X5, X6, X7, X8, X9, X10⟩ := X; go_simp)
  refine w1 1 fun Kz hKz => ?_
  go_simp
  go_at_call 31
  refine (Lg p u0 fp (Dc htab (AG BW hb0))).mono ?_
  rintro e u1 ⟨rfl, kq⟩
  have hb1 := AG hb0 kq
  clear kq
  refine hKz _ _ ⟨hb1, ?_⟩
  clear hKz Kz
  refine w1 3 fun Kz hKz => ?_
  go_simp
  go_at_call 32
  refine (In p u1 fp).mono ?_
  rintro e u2 ⟨rfl, kq⟩
  have hb2 := AG hb1 kq
  clear kq
  refine hKz _ _ ⟨hb2, ?_⟩
  clear hKz Kz
  refine tw 4 24 (.bool false) ?_
  refine tw 5 25 (.bool false) ?_
  refine tw 6 26 (.agg #[.int .i64 id, .slice aB L.length cB]) ?_ (hy := by intro Y hSw; have X := (A6.below hSw A6.lt); obtain ⟨X0, X1⟩ := X; go_simp)
  refine tw 8 28 (.agg #[.int .i64 id, .slice aB L.length cB]) ?_ (hy := by intro Y hSw; have X := (A6.below hSw A6.lt); obtain ⟨X0, X1⟩ := X; go_simp)
  refine w1 7 fun Kz hKz => ?_
  go_simp
  go_at_call 33
  refine (Lp id aB cB L u2 fi (VL.below hb2 (VL.lt AV (by omega))) fb hl (Dc htab (AG BW hb2))).mono ?_
  rintro e u3 ⟨rfl, kq⟩
  have hb3 := AG hb2 kq
  clear kq
  refine hKz _ _ ⟨hb3, ?_⟩
  clear hKz Kz
  refine w1 9 fun Kz hKz => ?_
  go_simp
  go_at_call 34
  refine (Lo id aB cB L u3 fi (VL.below hb3 (VL.lt AV (by omega))) fb hl).mono ?_
  rintro e u4 ⟨rfl, kq⟩
  have hb4 := AG hb3 kq
  clear kq
  refine hKz _ _ ⟨hb4, ?_⟩
  clear hKz Kz
  refine tw 10 30 (.bool false) ?_
  refine tw 11 31 (.bool false) ?_
  refine tw 12 32 (.bool false) ?_
  refine tw 13 33 (.agg #[.bool m.up, .int .i64 m.li, .int .i64 m.ep, .slice aM m.lg.length cM, .int .i64 m.sd, .int .i64 m.ac, .int .i64 m.al]) ?_ (hy := by intro Y hSw; have X := (A7.below hSw A7.lt); obtain ⟨X0, X1, X2, X3, X4, X5, X6⟩ := X; go_simp)
  refine tw 15 35 (.agg #[.bool m.up, .int .i64 m.li, .int .i64 m.ep, .slice aM m.lg.length cM, .int .i64 m.sd, .int .i64 m.ac, .int .i64 m.al]) ?_ (hy := by intro Y hSw; have X := (A7.below hSw A7.lt); obtain ⟨X0, X1, X2, X3, X4, X5, X6⟩ := X; go_simp)
  refine w1 14 fun Kz hKz => ?_
  go_simp
  go_at_call 35
  refine (Li m aM cM u4 fm (Dc htab (AG BW hb4))).mono ?_
  rintro e u5 ⟨rfl, kq⟩
  have hb5 := AG hb4 kq
  clear kq
  refine hKz _ _ ⟨hb5, ?_⟩
  clear hKz Kz
  refine w1 16 fun Kz hKz => ?_
  go_simp
  go_at_call 36
  refine (Ip m aM cM u5 fm).mono ?_
  rintro e u6 ⟨rfl, kq⟩
  have hb6 := AG hb5 kq
  clear kq
  refine hKz _ _ ⟨hb6, ?_⟩
  clear hKz Kz
  refine tw 17 37 (.bool false) ?_
  refine tw 18 38 (.bool false) ?_
  refine tw 19 39 (.bool false) ?_
  refine tw 20 40 (.string T) ?_
  refine tw 21 41 (.agg #[.int .i64 x.id, .int .i64 x.po, .int .i64 x.rg.ep, .int .i64 x.rg.ow, .int .i64 x.rg.pa, .slice x.aT x.two.length x.cT, .slice x.aN x.net.length x.cN, .slice x.aG x.ga.length x.cG, .slice x.aL x.ln.length x.cL, .slice x.aS x.sd.length x.cS]) ?_ (hy := by intro Y hSw; have X := (A8.below hSw A8.lt).all; go_simp)
  refine w1 22 fun Kz hKz => ?_
  go_simp
  go_at_call 37
  refine (Lm x u6 (Vx.later hb6) fx).mono ?_
  rintro e u7 ⟨rfl, kq⟩
  have hb7 := AG hb6 kq
  rw [hT.out]
  clear kq
  refine hKz _ _ ⟨hb7, ?_⟩
  clear hKz Kz
  refine tw 23 43 (.bool false) ?_
  refine tw 24 44 (.bool false) ?_
  refine Ag ?_
  have BW := AG BW hb7
  clear Vx VL A5 A6 A7 A8 fp fb fi fm fx hl hb0 hb1 hb2 hb3 hb4 hb5 hb6 hb7
  go_wp2
  go_ret
  exact ⟨rfl, BW⟩
theorem door_met (os : Os) (args : Array Value) : laidMetH Tryz.prog Rows.fnShownRow.laid ((World.doorLaid Tryz.prog 50 os).forCall (fun _ _ => 0) ⟨#[], args, []⟩).memory :=
  laidMetH_of_parts3 (fuel := 8) (laidMet_of_run' 8 (by kernel_rfl) (by kernel_rfl)) (by kernel_rfl) (by kernel_rfl)
theorem tab_of_laid {W : World} (h : laidMetH Tryz.prog Rows.fnShownRow.laid W) : Dx W := by
  rw [MakeChecks.laidMetH_plain _ _ _ (by kernel_rfl)] at h
  have h3 := laidMet.tail (laidMet.tail (h))
  exact Lib.tabIs_of_head (zs := Lib.pow10Tab) Is (t := 241) (by kernel_rfl) Tryz.underlying241 Tryz.underlying224 (by kernel_rfl) (by kernel_rfl) h3
set_option maxRecDepth 100000 in
theorem lifted (os : Os) (started : os.Started) (H : Type) (enc : TypeId × Value → H) :
    ReturnsInHanded {} Tryz.checked os 4 .any (fun w args => (Rows.fnShownSpec.pre enc Tryz.prog Tryz.f4 [] false w args ∧ laidMetH Tryz.prog Rows.fnShownRow.laid w) ∧ sizedMet enc Tryz.prog Tryz.f4 (OpenSpec.ofChange Rows.fnShownSpec) false w args) (Rows.fnShownSpec.post enc Tryz.prog Tryz.f4 false true false false) := by
  refine returnsInHanded_of_change_and (C := Tryz.checked) (X := fun w _ => laidMetH Tryz.prog Rows.fnShownRow.laid w) (fun _ _ _ hh h => h.of_heap hh) own started (by kernel_rfl) Tryz.func4
    (ChangeSpec.witness_shaped (enc := enc) (C := Tryz.checked) (os := os) (X := fun w _ => laidMetH Tryz.prog Rows.fnShownRow.laid w) false (World.doorLaid Tryz.prog 50 os) #[.slice none 0 0] 8 rfl (World.shaped_of_RefB (by kernel_rfl) (by kernel_rfl)) (by kernel_rfl) (by kernel_rfl) (by kernel_rfl) (door_met os _)) ?_
  intro W base args ds gs before hval0 hW _ hsz0 hL _
  have hval : ∀ (j : Nat) t v, Tryz.f4.params[j]? = some t → args[j]? = some v → Value.okWide Tryz.prog W .any base t v := hval0
  have hW' := hW
  obtain ⟨p, q, hA0, hV, rfl, hfz, hnd⟩ := hW
  have hA : DataW.TrodAll enc Tryz.prog W 0 (fun _ => true) true Tryz.f4.params.toList args.toList ds p := hA0
  rw [Tryz.params4] at hA hval
  obtain ⟨v0, vs0, d0, ds0, p0, q0, hargs, rfl, rfl, h0, r0⟩ := trodAll_cons hA
  obtain ⟨rfl, rfl, rfl⟩ := trodAll_nil r0
  obtain rfl : args = #[v0] := by cases args; simp_all
  obtain ⟨rfl, rfl⟩ := trodVars_none hV
  obtain ⟨ad0, len0, cap0, f0, rfl, I0⟩ := I3 (hval 0 22 v0 rfl rfl) h0
  have lt0 : ∀ x ∈ p0, x.block < W.heap.size := by obtain ⟨m, hm⟩ := h0; exact DataW.trod_lt m _ _ _ hm
  clear hA0 hval0
  refine (walk ad0 len0 cap0 f0 W I0 (tab_of_laid hL)).mono fun e W' ⟨he, bel⟩ => ?_
  subst he
  exact ⟨_, rfl, _, _, _, [], _, [], hW', trodAll_mk1 (shut_bool Tryz.underlying4 _), (trodAll_cons_mk (Below.trod laidOut (by kernel_rfl) (of_decide_eq_true (by kernel_rfl)) h0 bel lt0) trodAll_mk0), rfl, bel.frame _, fun h => by cases h⟩
theorem over : Rows.fnShownRow.holds Tryz.pinned (OpenSpec.ofChange Rows.fnShownSpec) :=
  OpenClaim.holds_of_wide 4 Tryz.f4 rfl rfl rfl rfl rfl rfl rfl ⟨rfl, rfl, rfl, rfl, rfl⟩ rfl rfl rfl rfl rfl (by kernel_rfl) Tryz.func4 (by kernel_rfl)
    (of_decide_eq_true (by kernel_rfl)) (by unfold Func.isWrapper; first | (rw [if_pos (by decide +kernel)]; kernel_rfl) | (rw [if_neg (by decide +kernel)]; exact ⟨rfl, rfl⟩))
    (fun os started H enc _ => lifted os started H enc)
theorem proved : Rows.FnShownSaid := over
end Go.Proofs.YtjmnaeeknomiaaaGreatDoor.fnShown
namespace Go.Proofs.YtjmnaeeknomiaaaGreatDoor
theorem shown_holds : Rows.FnShownCardSaid :=
  Claim7.holds_tied_plain_at .later [] [.data, .data, .data] true (true, "1aa44ec34080c77fc300e860acc870561ebabd50d221eb0ee3485b52f8d71cd9") true
    fnShown.proved (fun _ h => by cases h) (by kernel_rfl) (fun _ h => by cases h) fnShown_row_tie rfl ⟨rfl, rfl⟩ (by kernel_rfl) rfl
    (fun f fn hf hfn => by
      obtain rfl : f = 4 := Option.some.inj ((show Tryz.prog.funcNamed "loop.example/g00470/laws.FnShown" = some 4 by kernel_rfl).symm.trans hf) |>.symm
      obtain rfl : fn = Tryz.f4 := (Option.some.inj (Tryz.func4.symm.trans hfn)).symm
      exact ⟨by kernel_rfl, fun j t ht => by
        rw [Tryz.params4] at ht
        have hm : t ∈ [22] := by simpa using Array.mem_of_getElem? ht
        have hall : ([22].all fun u => !Tryz.prog.wantsStandIn u) = true := by kernel_rfl
        exact (show Tryz.prog.wantsStandIn t = false by simpa using List.all_eq_true.1 hall t hm)⟩)
    (by kernel_rfl)
#print axioms shown_holds
end Go.Proofs.YtjmnaeeknomiaaaGreatDoor
