/- FnExactInOf, proved: at every slice of bytes and place the program's InOf answers as the specification's, its answer owns its memory, and no argument is written into; the variables errNoNumber and errors.errorType hold what their texts lay (the card ties them, over the pruned copy of the project); an argument longer than 1048576 is answered true at once. -/
import Derived.Test.YtlnogijlfompoaaDoorRows
import Derived.Test.YtlnogijlfompoaaDoorTie
import Derived.Test.YtlnogijlfompoaaDoorCards
import Derived.SevenTiedAt
import Derived.LaidMore
import Derived.LaidHandle
import Derived.LaidLaws
import Derived.Stop.Joined
import Derived.Stop.LaidErr
import Derived.Lay
import Derived.Shelf.Vars
import Derived.Lib.SmallJoins
import Derived.Test.YtlnogijlfompoaaDoorIo
import Derived.Test.YtlnogijlfompoaaDoorIi
import Derived.Test.YtlnogijlfompoaaDoorBTo
import Derived.Test.YtlnogijlfompoaaDoorCodeIn
import Derived.Test.YtlnogijlfompoaaDoorIns1
import Derived.Deep.Cut
import Derived.WalkKit
import Derived.Below
import Derived.ChangeOld
import Derived.WalkSmall
import Derived.ProofKit
import Derived.OpenShut
import Derived.ShutString
import Derived.BigQuiet
namespace Go.Proofs.YtlnogijlfompoaaDoor.fnExactInOf
open Go.ChangeShapes Go.WideShapes Go.ChangeAt Go.RowKit
set_option linter.unusedVariables false

theorem own : ownKnob Tryd.prog.godebug = none := by kernel_rfl
theorem laidOut : laidOutB Tryd.prog = true := by kernel_rfl

set_option maxRecDepth 100000 in
theorem intIn_open {H : Type} {enc : TypeId × Value → H} {w : World} {r : Reach} {b0 : Nat} {v : Value} {d : DataW H} {p : List MemPlace} (hv : Value.okWide Tryd.prog w r b0 3 v) (h : DataW.Trod enc Tryd.prog w 0 (fun _ => true) true 3 v d p) : ∃ n : Int, v = .int .i64 n ∧ (Lit.int .i64 n).wf = true := by
  obtain ⟨n, rfl, _, _, I⟩ := open_int Tryd.underlying3 hv h
  exact ⟨n, rfl, I⟩
set_option maxRecDepth 100000 in
theorem boolIn_open {H : Type} {enc : TypeId × Value → H} {w : World} {r : Reach} {b0 : Nat} {v : Value} {d : DataW H} {p : List MemPlace} (hv : Value.okWide Tryd.prog w r b0 4 v) (h : DataW.Trod enc Tryd.prog w 0 (fun _ => true) true 4 v d p) : ∃ b : Bool, v = .bool b ∧ True := by
  obtain ⟨b, rfl, _, _⟩ := open_bool Tryd.underlying4 hv h
  exact ⟨b, rfl, trivial⟩
set_option maxHeartbeats 16000000 in
set_option maxRecDepth 100000 in
theorem walk (ad0 : Option Addr) (len0 cap0 : Nat) (f0 : Nat → Int) (n1 : Int) (w : World) (I0 : CodeIn w ad0 len0 f0) (I1 : (Lit.int .i64 n1).wf = true) (tp : TypeId) (pE : Value) (hE : w.cell? ⟨1, 0, none⟩ = some (.iface tp pE)) (hH : w.cell? ⟨0, 0, none⟩ = some (.iface 100 (.agg #[.pointer (some ⟨6, 52, none⟩)]))) :
    Calls Tryd.prog 3 #[.slice ad0 len0 cap0, .int .i64 n1] w fun e w' => e = .returned (.bool true) ∧ Below w.heap.size w w' := by
  obtain ⟨hlm, hv0, hB0, hf0⟩ := I0
  by_cases hbig : 1048576 < len0
  · go_enter Tryd.func3, Tryd.ntmps3
    go_wp2
    go_ret
    exact ⟨rfl, Below.refl _ _⟩
  obtain ⟨LL, rfl, hvL, hLbd⟩ := view_list hv0 hf0
  have hl : LL.length ≤ 1048576 := by omega
  have V0 : FView bEnc w ad0 LL := bVof hvL
  have hsl : 1 < w.heap.size := World.block_lt_of_cell? w _ hE
  have hhl : 0 < w.heap.size := World.block_lt_of_cell? w _ hH
  have BW : Below w.heap.size w w := Below.refl _ _
  have vb : ∀ a, ad0 = some a → 0 < LL.length → a.block < w.heap.size := hB0
  clear hbig hv0 hf0 hvL hB0 hlm
  have sw : w.heap.size ≤ w.heap.size := Nat.le_refl _
  have wn := bounds_i64 I1
  clear I1
  obtain ⟨RR, hRR⟩ : ∃ R, inAt LL n1 = R := ⟨_, rfl⟩
  replace hRR : Hid _ := hRR
  go_enter Tryd.func3, Tryd.ntmps3
  go_wp2_with fail
  go_at_call 7
  refine (bToS ad0 cap0 LL w V0 hl).mono ?_
  rintro e wd1 ⟨rfl, O1, kq⟩
  obtain ⟨gO1, hgO1⟩ : ∃ g_, g_ = w.heap.size := ⟨_, rfl⟩
  rw [← hgO1] at O1 ⊢
  have lgO1 : w.heap.size ≤ gO1 ∧ gO1 ≤ w.heap.size := by omega
  clear hgO1
  have qgO1 := (O1.lt gO1 rfl).2
  have O1 := O1.base (base' := w.heap.size) (by have := BW.size; omega)
  have swd1 := kq.size
  have V0 := V0.below kq (V0.lt bEnc_len (by omega))
  have BW := BW.trans (kq.mono BW.size)
  clear kq
  have iO1 : ∀ g, (Value.slice (some ⟨gO1, 0, none⟩) LL.length LL.length).ownBlock = some g → w.heap.size ≤ g ∧ g < wd1.heap.size := fun g e => by simp [Value.ownBlock] at e; omega
  go_wp2_with fail
  go_at_call 6
  refine (inOfS (some ⟨gO1, 0, none⟩) LL.length LL n1 wd1 (bV O1.view.2) (fun x h _ => by cases h; exact (O1.lt _ rfl).2) hl (Nat.le_refl _) hLbd wn).mono ?_
  rintro e wd2 ⟨rfl, kq⟩
  rw [hRR.out]
  have swd2 := kq.size
  have V0 := V0.below kq (V0.lt bEnc_len (by omega))
  have O1 := O1.later kq
  have BW := BW.trans (kq.mono BW.size)
  clear kq
  obtain ⟨x1, s1, o1, hx1⟩ : ∃ (x : Ik) (s : Int) (o : Bool), inOfV RR = .tuple #[.agg #[.int .i64 x.k, .int .i64 x.q, .int .i64 x.r, .int .i64 x.c, .int .i64 x.b, .int .i64 x.p, .int .i64 x.h, .bool x.up], .int .i64 s, .bool o] := by
    cases RR with
    | none => exact ⟨Ik.nil, 0, false, rfl⟩
    | some y => exact ⟨y.1, y.2, true, rfl⟩
  rw [hx1]
  replace hx1 : Hid _ := hx1
  obtain ⟨wd3, hb_⟩ : ∃ y_, y_ = wd2.alloc (Obj.cells #[.int .i64 x1.k, .int .i64 x1.q, .int .i64 x1.r, .int .i64 x1.c, .int .i64 x1.b, .int .i64 x1.p, .int .i64 x1.h, .bool x1.up] 26) := ⟨_, rfl⟩
  have NW : InAt wd3 wd2.heap.size x1 := by rw [hb_]; exact InAt.new wd2 _ x1
  have kq : Below wd2.heap.size wd2 wd3 := by rw [hb_]; exact below_new _
  have swd3 := kq.size
  have V0 := V0.below kq (V0.lt bEnc_len (by omega))
  have BW := BW.trans (kq.mono BW.size)
  clear kq
  go_wp2_with fail
  go_at_call 7
  rw [← hb_]
  clear hb_
  refine (bToS ad0 cap0 LL wd3 V0 hl).mono ?_
  rintro e wd4 ⟨rfl, OX, kq⟩
  obtain ⟨gOX, hgx⟩ : ∃ g_, g_ = wd3.heap.size := ⟨_, rfl⟩
  rw [← hgx] at OX ⊢
  have lgx : wd3.heap.size ≤ gOX ∧ gOX ≤ wd3.heap.size := by omega
  clear hgx
  have qgx := (OX.lt gOX rfl).2
  have OX := OX.base (base' := w.heap.size) (by have := BW.size; omega)
  have swd4 := kq.size
  have V0 := V0.below kq (V0.lt bEnc_len (by omega))
  have NW := NW.below kq NW.lt
  have BW := BW.trans (kq.mono BW.size)
  clear kq
  go_wp2_with fail
  go_at_call 8
  refine (inOfI (some ⟨gOX, 0, none⟩) LL.length LL n1 wd4 (bV OX.view.2) (fun x h _ => by cases h; exact (OX.lt _ rfl).2) hl (Nat.le_refl _) hLbd wn tp pE ((BW.cell (p := ⟨1, 0, none⟩) hsl).trans hE) ((BW.cell (p := ⟨0, 0, none⟩) hhl).trans hH)).mono ?_
  rintro e wd5 ⟨rfl, kq⟩
  rw [hRR.out, hx1.out]
  have swd5 := kq.size
  have V0 := V0.below kq (V0.lt bEnc_len (by omega))
  have OX := OX.later kq
  have NW := NW.below kq NW.lt
  have BW := BW.trans (kq.mono BW.size)
  clear kq
  obtain ⟨wd6, hb_⟩ : ∃ y_, y_ = wd5.alloc (Obj.cells #[.int .i64 x1.k, .int .i64 x1.q, .int .i64 x1.r, .int .i64 x1.c, .int .i64 x1.b, .int .i64 x1.p, .int .i64 x1.h, .bool x1.up] 26) := ⟨_, rfl⟩
  have NG : InAt wd6 wd5.heap.size x1 := by rw [hb_]; exact InAt.new wd5 _ x1
  have kq : Below wd5.heap.size wd5 wd6 := by rw [hb_]; exact below_new _
  have swd6 := kq.size
  have V0 := V0.below kq (V0.lt bEnc_len (by omega))
  have OX := OX.later kq
  have NW := NW.below kq NW.lt
  have BW := BW.trans (kq.mono BW.size)
  clear kq
  have c1 := NG
  obtain ⟨m0, m1, m2, m3, m4, m5, m6, m7⟩ := c1
  have c2 := NW
  obtain ⟨k0, k1, k2, k3, k4, k5, k6, k7⟩ := c2
  rw [hb_] at m0 k0 m1 k1 m2 k2 m3 k3 m4 k4 m5 k5 m6 k6 m7 k7
  go_wp2_with fail
  go_at_call 9
  rw [← hb_]
  clear hb_ m0 k0 m1 k1 m2 k2 m3 k3 m4 k4 m5 k5 m6 k6 m7 k7
  refine (eqInI x1 wd6).mono ?_
  rintro e wd7 ⟨rfl, kq⟩
  have swd7 := kq.size
  have V0 := V0.below kq (V0.lt bEnc_len (by omega))
  have OX := OX.later kq
  have NW := NW.below kq NW.lt
  have NG := NG.below kq NG.lt
  have BW := BW.trans (kq.mono BW.size)
  clear kq
  go_wp2_with fail
  go_at_call 7
  refine (bToS ad0 cap0 LL wd7 V0 hl).mono ?_
  rintro e wd8 ⟨rfl, O2, kq⟩
  obtain ⟨gO2, hgO2⟩ : ∃ g_, g_ = wd7.heap.size := ⟨_, rfl⟩
  rw [← hgO2] at O2 ⊢
  have lgO2 : wd7.heap.size ≤ gO2 ∧ gO2 ≤ wd7.heap.size := by omega
  clear hgO2
  have qgO2 := (O2.lt gO2 rfl).2
  have O2 := O2.base (base' := w.heap.size) (by have := BW.size; omega)
  have swd8 := kq.size
  have V0 := V0.below kq (V0.lt bEnc_len (by omega))
  have OX := OX.later kq
  have BW := BW.trans (kq.mono BW.size)
  clear kq
  have iO2 : ∀ g, (Value.slice (some ⟨gO2, 0, none⟩) LL.length LL.length).ownBlock = some g → wd7.heap.size ≤ g ∧ g < wd8.heap.size := fun g e => by simp [Value.ownBlock] at e; omega
  go_wp2_with fail
  go_at_call 10
  refine (bEq (some ⟨gOX, 0, none⟩) (some ⟨gO2, 0, none⟩) LL.length LL.length LL wd8 OX.view.2 O2.view.2 (by omega)).mono ?_
  rintro e wd9 ⟨rfl, kq⟩
  have swd9 := kq.size
  have V0 := V0.below kq (V0.lt bEnc_len (by omega))
  have OX := OX.later kq
  have O2 := O2.later kq
  have BW := BW.trans (kq.mono BW.size)
  clear kq
  go_wp2
  go_ret
  exact ⟨rfl, BW⟩


theorem door_met (os : Os) (args : Array Value) : laidMetH Tryd.prog Rows.fnExactInOfRow.laid ((World.doorLaid Tryd.prog 42 os).forCall (fun _ _ => 0) ⟨#[], args, []⟩).memory :=
  laidMetH_of_parts3 (fuel := 8) (laidMet_of_run' 8 (by kernel_rfl) (by kernel_rfl)) (by kernel_rfl) (by kernel_rfl)
theorem laid_both {W : World} (h : laidMetH Tryd.prog Rows.fnExactInOfRow.laid W) : laidMet Tryd.prog [("loop.example/g00470/impl.errNoNumber", Rows.laid_loop_example_g00470_impl_errNoNumber)] W ∧ handlesMet Tryd.prog [("errors.errorType", Rows.laid_errors_errorType)] W := h
theorem rtRow : (Tryd.prog.cutTypes.find? (·.1 == "internal/reflectlite.rtype")).map (·.2) = some 100 := by kernel_rfl
theorem etG : Tryd.prog.globalNamed "errors.errorType" = some 0 := by kernel_rfl
theorem oneRow : ((List.range 180).filter fun t => Tryd.prog.rowNamed t [101, 114, 114, 111, 114]) = [52] := by kernel_rfl
theorem ntypes : Tryd.prog.types.size = 180 := by kernel_rfl
theorem handle_of_laid {W : World} (h : laidMetH Tryd.prog Rows.fnExactInOfRow.laid W) : W.cell? ⟨0, 0, none⟩ = some (.iface 100 (.agg #[.pointer (some ⟨6, 52, none⟩)])) := by
  obtain ⟨name, u, ty, e1, e2, e3, e4, e5⟩ := (laid_both h).2 _ (List.mem_singleton.2 rfl)
  have en : name = [101, 114, 114, 111, 114] := (Option.some.inj e1).symm
  subst en
  obtain rfl := Option.some.inj (rtRow.symm.trans e2)
  have hm : ty ∈ (List.range 180).filter fun t => Tryd.prog.rowNamed t [101, 114, 114, 111, 114] := List.mem_filter.2 ⟨List.mem_range.2 (by rw [← ntypes]; exact e3), e4⟩
  rw [oneRow] at hm
  obtain rfl := List.mem_singleton.1 hm
  have hh : typeHandle Tryd.prog 52 = .pointer (some ⟨6, 52, none⟩) := by kernel_rfl
  rw [hh] at e5
  simpa using World.var?_cell etG e5 0
theorem gErr : Tryd.prog.globalNamed "loop.example/g00470/impl.errNoNumber" = some 1 := by kernel_rfl
theorem gErrT : (Tryd.prog.globals[1]?).map (·.type) = some 52 := by kernel_rfl
theorem rowErr (u : TypeId) (h : Tryd.prog.typeName? 3 u = some "*errors.errorString") : u = 149 := by
  have star : "*" ++ "errors.errorString" = "*errors.errorString" := by decide
  exact typeName_ptr_named (nm := "errors.errorString") (by rw [star]; kernel_rfl) (by kernel_rfl) (by decide) u (by rw [star]; exact h)
theorem sentinel_of_laid {W : World} (h : laidMetH Tryd.prog Rows.fnExactInOfRow.laid W) : ∃ a : Addr, W.var? Tryd.prog "loop.example/g00470/impl.errNoNumber" = some #[.iface 149 (.pointer (some a))] := by
  obtain ⟨a0, s0, hv0, _⟩ := laid_sentinel (laid_both h).1 gErr gErrT Tryd.underlying52 rowErr Tryd.underlying149 Tryd.underlying168 rfl rfl Tryd.underlying9 (by kernel_rfl) (by kernel_rfl)
  exact ⟨a0, hv0⟩
set_option maxRecDepth 100000 in
theorem lifted (os : Os) (started : os.Started) (H : Type) (enc : TypeId × Value → H) :
    ReturnsInHanded {} Tryd.checked os 3 .any (fun w args => (Rows.fnExactInOfSpec.pre enc Tryd.prog Tryd.f3 [] false w args ∧ laidMetH Tryd.prog Rows.fnExactInOfRow.laid w) ∧ sizedMet enc Tryd.prog Tryd.f3 (OpenSpec.ofChange Rows.fnExactInOfSpec) false w args) (Rows.fnExactInOfSpec.post enc Tryd.prog Tryd.f3 false true false false) := by
  refine returnsInHanded_of_change_and (C := Tryd.checked) (X := fun w _ => laidMetH Tryd.prog Rows.fnExactInOfRow.laid w) (fun _ _ _ hh h => h.of_heap hh) own started (by kernel_rfl) Tryd.func3
    (ChangeSpec.witness_shaped (enc := enc) (C := Tryd.checked) (os := os) (X := fun w _ => laidMetH Tryd.prog Rows.fnExactInOfRow.laid w) false (World.doorLaid Tryd.prog 42 os) #[.slice none 0 0, .int .i64 0] 8 rfl (World.shaped_of_RefB (by kernel_rfl) (by kernel_rfl)) (by kernel_rfl) (by kernel_rfl) (by kernel_rfl) (door_met os _)) ?_
  intro W base args ds gs before hval0 hW _ hsz0 hL _
  have hval : ∀ (j : Nat) t v, Tryd.f3.params[j]? = some t → args[j]? = some v → Value.okWide Tryd.prog W .any base t v := hval0
  have hW' := hW
  obtain ⟨p, q, hA0, hV, rfl, hfz, hnd⟩ := hW
  have hA : DataW.TrodAll enc Tryd.prog W 0 (fun _ => true) true Tryd.f3.params.toList args.toList ds p := hA0
  rw [Tryd.params3] at hA hval
  obtain ⟨v0, vs0, d0, ds0, p0, q0, hargs, rfl, rfl, h0, r0⟩ := trodAll_cons hA
  obtain ⟨v1, vs1, d1, ds1, p1, q1, rfl, rfl, rfl, h1, r1⟩ := trodAll_cons r0
  obtain ⟨rfl, rfl, rfl⟩ := trodAll_nil r1
  obtain rfl : args = #[v0, v1] := by cases args; simp_all
  have hV1 : DataW.TrodVars enc Tryd.prog W (fun _ => true) ["loop.example/g00470/impl.errNoNumber"] gs q := hV
  obtain ⟨sa, hvE⟩ := sentinel_of_laid hL
  obtain ⟨rfl, rfl⟩ := hV1.unique (vars_read1 enc gErr gErrT Tryd.underlying52 hvE trivial _)
  have hcE : W.cell? ⟨1, 0, none⟩ = some (.iface 149 (.pointer (some sa))) := by simpa using World.var?_cell gErr hvE 0
  obtain ⟨ad0, len0, cap0, f0, rfl, I0⟩ := codeIn_open (hval 0 22 v0 rfl rfl) h0
  have lt0 : ∀ x ∈ p0, x.block < W.heap.size := by obtain ⟨m, hm⟩ := h0; exact DataW.trod_lt m _ _ _ hm
  obtain ⟨n1, rfl, I1⟩ := intIn_open (hval 1 3 v1 rfl rfl) h1
  have lt1 : ∀ x ∈ p1, x.block < W.heap.size := by obtain ⟨m, hm⟩ := h1; exact DataW.trod_lt m _ _ _ hm
  clear hA0 hval0
  refine (walk ad0 len0 cap0 f0 n1 W I0 I1 _ _ hcE (handle_of_laid hL)).mono fun e W' ⟨he, bel⟩ => ?_
  subst he
  exact ⟨_, rfl, _, _, _, [], _, [.cell 1 0], hW', trodAll_mk1 (shut_bool Tryd.underlying4 _), (trodAll_cons_mk (Below.trod laidOut (by kernel_rfl) (of_decide_eq_true (by kernel_rfl)) h0 bel lt0) (trodAll_cons_mk (Below.trod laidOut (by kernel_rfl) (of_decide_eq_true (by kernel_rfl)) h1 bel lt1) trodAll_mk0)), vars_read1 enc gErr gErrT Tryd.underlying52 (Joins.var_stays gErr hvE bel (Nat.le_refl _)) trivial _, bel.frame _, fun h => by cases h⟩

theorem over : Rows.fnExactInOfRow.holds Tryd.pinned (OpenSpec.ofChange Rows.fnExactInOfSpec) :=
  OpenClaim.holds_of_wide 3 Tryd.f3 rfl rfl rfl rfl rfl rfl rfl ⟨rfl, rfl, rfl, rfl, rfl⟩ rfl rfl rfl rfl rfl (by kernel_rfl) Tryd.func3 (by kernel_rfl)
    (of_decide_eq_true (by kernel_rfl)) (by unfold Func.isWrapper; first | (rw [if_pos (by decide +kernel)]; kernel_rfl) | (rw [if_neg (by decide +kernel)]; exact ⟨rfl, rfl⟩))
    (fun os started H enc _ => lifted os started H enc)

theorem proved : Rows.FnExactInOfSaid := over
end Go.Proofs.YtlnogijlfompoaaDoor.fnExactInOf
namespace Go.Proofs.YtlnogijlfompoaaDoor
theorem inOf_holds : Rows.FnExactInOfCardSaid :=
  Claim7.holds_tied_plain_at .later [] [.handle, .sentinel] true (true, "af51a4e3bb943953f7cd5cc576422d65dd80ed8dc7b464412f2fc62da1b182c2") true
    fnExactInOf.proved (fun _ h => by cases h) (by kernel_rfl) (fun _ h => by cases h) fnExactInOf_row_tie rfl ⟨rfl, rfl⟩ (by kernel_rfl) rfl
    (fun f fn hf hfn => by
      obtain rfl : f = 3 := Option.some.inj ((show Tryd.prog.funcNamed "loop.example/g00470/laws.FnExactInOf" = some 3 by kernel_rfl).symm.trans hf) |>.symm
      obtain rfl : fn = Tryd.f3 := (Option.some.inj (Tryd.func3.symm.trans hfn)).symm
      exact ⟨by kernel_rfl, fun j t ht => by
        rw [Tryd.params3] at ht
        have hm : t ∈ [22, 3] := by simpa using Array.mem_of_getElem? ht
        have hall : ([22, 3].all fun u => !Tryd.prog.wantsStandIn u) = true := by kernel_rfl
        exact (show Tryd.prog.wantsStandIn t = false by simpa using List.all_eq_true.1 hall t hm)⟩)
    (by kernel_rfl)
#print axioms inOf_holds
end Go.Proofs.YtlnogijlfompoaaDoor
