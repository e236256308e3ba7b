/- spec.Decide, walked. -/
import Derived.Test.YthgcbihhdbpbdaaGreatDoorRows
import Derived.WalkKit
import Derived.ProofKit
import Derived.OpenShut
import Derived.ShutString
import Derived.ChangeOld
import Derived.Below
import Derived.Deep.QuietTactic
import Derived.BigQuiet
import Derived.WalkSmall
import Derived.Laws.OwnMore
import Derived.WalkSpells
import Derived.WalkLawsBesides
import Derived.Deep.Cut
import Derived.Test.YthgcbihhdbpbdaaGreatDoorM14
import Derived.Test.YthgcbihhdbpbdaaGreatDoorM4
import Derived.Test.YthgcbihhdbpbdaaGreatDoorKPort6s
import Derived.Test.YthgcbihhdbpbdaaGreatDoorM1
namespace Go.Proofs.YthgcbihhdbpbdaaGreatDoor
open Go.ChangeShapes Go.WideShapes Go.ChangeAt Go.RowKit
open Go.ChangeMaps (open_string shut_string)
set_option linter.unusedVariables false
set_option maxRecDepth 100000

theorem markd_same {X : Type} {mk : Nat → X} {L : List X} {k : Nat} (d : X) (h : k < L.length) (e : mk k = L.getD k d) : markd mk L (k + 1) = markd mk L k := by
  unfold markd
  rw [List.range_succ, List.map_append, List.drop_eq_getElem_cons h]
  simp [e, List.getD, h]
theorem pOk_down {x : Pt} (h : pOk x = true) (hu : x.up = false) : x.has = false := by
  cases hh : x.has
  · rfl
  · rw [(pOk_has h hh).1] at hu; cases hu
theorem root_has {id : Int} {L : List Pt} {k : Nat} {h : Pt} (hr : rootO id L = some k) (hh : L.getD k Pt.nil = h) : h.has = true := by
  have := (rootO_some hr).2.2
  rw [hh] at this
  simp only [cand, Bool.and_eq_true] at this
  exact this.1
set_option maxHeartbeats 8000000 in
theorem decideS (id : Int) (ad : Option Addr) (cap : Nat) (L : List Pt) (w : World) (hv : FView ptEnc w ad L) (hl : L.length ≤ 1048576) (hn : ad = none → cap = 0) :
    Calls Tryz.prog 115 #[.agg #[.int .i64 id, .slice ad L.length cap]] w fun e w' => ∃ ad' cap', e = .returned (.agg #[.int .i64 id, .slice ad' (decideR id L).length cap']) ∧ FOwn ptEnc 11 47 w.heap.size w' (.slice ad' (decideR id L).length cap') (decideR id L) ∧ Below w.heap.size w w' := by
  have hB := hv.lt ptEnc_len (by omega)
  obtain ⟨y, hy⟩ : ∃ y, y = (w.alloc (Obj.cells #[.int .i64 id, .slice ad L.length cap] 51)).alloc (Obj.cells #[.int .i64 0, .slice none 0 0] 51) := ⟨_, rfl⟩
  have B0 : Below w.heap.size w y := by rw [hy]; exact ((Below.refl _ _).alloc (Nat.le_refl _) _).alloc (by simp) _
  have A0 : BrAt y w.heap.size id (.slice ad L.length cap) := by rw [hy]; constructor <;> simp [go_sem]
  have R0 : BBox y (w.heap.size + 1) 0 (.slice none 0 0) := by rw [hy]; refine ⟨?_, fun i => ?_⟩; constructor <;> simp [go_sem]; simp [go_sem]
  have S0 := R0.lt
  have hv1 := hv.below B0 hB
  have hB1 := hv1.lt ptEnc_len (by omega)
  obtain ⟨D, hD⟩ : ∃ D, D = decideR id L := ⟨_, rfl⟩
  rw [← hD]
  replace hD : Hid _ := hD
  go_enter Tryz.func115, Tryz.ntmps115
  go_wp2_with fail
  go_at_call 92
  rw [← hy]
  clear hy hv hB
  refine (copS id ad cap L y hv1 hl hn).mono ?_
  rintro e w1 ⟨adN, capN, rfl, oN, k1⟩
  have B1 := B0.trans (k1.mono B0.size)
  have A1 := A0.below k1 (by omega)
  have R1 := R0.below k1 (by omega)
  have S1 : w.heap.size + 1 < w1.heap.size := R1.lt
  have hv2 := hv1.below k1 hB1
  have hB2 := hv2.lt ptEnc_len (by omega)
  have bt : ∀ a, ad = some a → 0 < L.length → a.block < y.heap.size := hB1
  clear A0 R0 hv1 hB1
  obtain ⟨y2, hy2⟩ : ∃ y_, y_ = w1.alloc (Obj.cells #[.int .i64 id, .slice adN L.length capN] 51) := ⟨_, rfl⟩
  have kn : Below w1.heap.size w1 y2 := by rw [hy2]; exact below_new _
  have N2 : BBox y2 w1.heap.size id (.slice adN L.length capN) := by rw [hy2]; exact BBox.new w1 _ _ _
  have A2 := A1.below kn (by omega)
  have R2 := R1.below kn (by omega)
  have B2 := B1.trans (kn.mono B1.size)
  have K2 : Below y.heap.size y y2 := k1.trans (kn.mono k1.size)
  have hv3 := hv2.below kn hB2
  have hB3 := hv3.lt ptEnc_len (by omega)
  have o2 := oN.later kn
  have S2 := N2.lt
  have og : ∀ g, (Value.slice adN L.length capN).ownBlock = some g → y.heap.size ≤ g ∧ g < w1.heap.size := fun g e => oN.lt g e
  clear oN k1 hv2 hB2 B1
  go_upto_region 2 with fail
  rw [← hy2]
  clear hy2 A1 kn
  generalize w1.heap.size = N at S1 N2 S2 og ⊢
  obtain ⟨a0, a1⟩ := A2
  have A2 : BrAt y2 w.heap.size id (.slice ad L.length cap) := ⟨a0, a1⟩
  go_wp2_with fail
  go_at_call 91
  clear a0 a1
  refine (bOkS id ad cap L y2 hv3 hl).mono ?_
  rintro e w3 ⟨rfl, k3⟩
  have B3 := B2.trans (k3.mono B2.size)
  have K3 := K2.trans (k3.mono K2.size)
  have A3 := A2.below k3 (by omega)
  have R3 := R2.below k3 (by omega)
  have N3 := N2.below k3 S2
  have hv4 := hv3.below k3 hB3
  have o3 := o2.later k3
  have S3 := N3.lt
  clear k3 A2 R2 N2 hv3 hB3 o2 B2 K2
  cases hb : bOk id L with
  | false =>
    have hN : Hid (D = L) := by unfold Hid; rw [hD.out]; unfold decideR; rw [hb]; rfl
    clear hD
    have RP := R3.put id (.slice adN L.length capN)
    obtain ⟨⟨r0, r1⟩, rf⟩ := R3
    obtain ⟨⟨n0, n1⟩, nf⟩ := N3
    have BZ : Below w.heap.size w ((w3.setCell ⟨w.heap.size + 1, 0, none⟩ (.int .i64 id)).setCell ⟨w.heap.size + 1, 1, none⟩ (.slice adN L.length capN)) := (B3.setCell (by show _ ≤ w.heap.size + 1; omega) _).setCell (by show _ ≤ w.heap.size + 1; omega) _
    have OZ : FOwn ptEnc 11 47 w.heap.size ((w3.setCell ⟨w.heap.size + 1, 0, none⟩ (.int .i64 id)).setCell ⟨w.heap.size + 1, 1, none⟩ (.slice adN L.length capN)) (.slice adN L.length capN) L := (o3.base (by omega)).keep fun g e => by
      have := og g e
      rw [Below.heap_setCell _ _ _ _ (by show g ≠ w.heap.size + 1; omega), Below.heap_setCell _ _ _ _ (by show g ≠ w.heap.size + 1; omega)]
    obtain ⟨⟨p0, p1⟩, _⟩ := RP
    clear og bt
    go_wp2
    refine bodyPost_ret (v := .agg #[.int .i64 id, .slice adN L.length capN]) (by simp [results, Tryz.results115, go_sem, *]) rfl ⟨adN, capN, by rw [hN.out], by rw [hN.out]; exact OZ, BZ⟩
  | true =>
    have hlen := (bOk_all hb).2.1
    obtain ⟨g, rfl, hg1, hg2⟩ := o3.row (by omega)
    have hg3 : g < N := (og g rfl).2
    have hD2 : Hid (D = (List.range L.length).map fun i => turnUp (L.getD i Pt.nil) (roleR id L i)) := by unfold Hid; rw [hD.out]; unfold decideR; rw [hb]; rfl
    replace hb : Hid _ := hb
    obtain ⟨f, hf⟩ : ∃ f : Nat → Pt, f = fun i => turnUp (L.getD i Pt.nil) (roleR id L i) := ⟨_, rfl⟩
    rw [← hf] at hD2
    replace hD2 : Hid _ := hD2
    have hfk : ∀ i, turnUp (L.getD i Pt.nil) (roleR id L i) = f i := fun i => by rw [hf]
    clear hf hD og
    replace hfk : Hid _ := hfk
    have M0 : FOwn ptEnc 11 47 y.heap.size w3 (.slice (some ⟨g, 0, none⟩) L.length capN) (markd f L 0) := by rw [markd_zero]; exact o3
    clear o3
    obtain ⟨a0, a1⟩ := A3
    have A3 : BrAt w3 w.heap.size id (.slice ad L.length cap) := ⟨a0, a1⟩
    go_wp2_with fail
    go_at_call 116
    refine (rootPS id ad cap L w3 hv4 hl).mono ?_
    rintro e w4 ⟨rfl, k4⟩
    have A3 := A3.below k4 (by omega)
    have N3 := N3.below k4 S3
    have M0 := M0.later k4
    have K3 := K3.trans (k4.mono K3.size)
    have R3 := R3.below k4 (by omega)
    have hv4 := hv4.below k4 (hv4.lt ptEnc_len (by omega))
    have S3 := N3.lt
    clear a0 a1 k4 B3
    obtain ⟨q, hq⟩ : ∃ q, q = oI (rootO id L) := ⟨_, rfl⟩
    rw [← hq]
    replace hq : Hid _ := hq
    obtain ⟨iss, hiss⟩ : ∃ iss, iss = (rootO id L).isSome := ⟨_, rfl⟩
    rw [← hiss]
    clear hiss
    have AY : BrAt y w.heap.size id (.slice ad L.length cap) := A3.keep (K3.block _ (by omega)).symm
    have RY : BBox y (w.heap.size + 1) 0 (.slice none 0 0) := R3.keep (K3.block _ S0).symm
    have hvy : FView ptEnc y ad L := hv4.carry fun a e p => (K3.block _ (bt a e p)).symm
    go_wp2
    clear A3 R3 hv4
    go_loopw [6] (fun i wr => ∃ k : Nat, k ≤ L.length ∧ i = .int .i64 (k : Int) ∧ FOwn ptEnc 11 47 y.heap.size wr (.slice (some ⟨g, 0, none⟩) L.length capN) (markd f L k) ∧ BBox wr N id (.slice (some ⟨g, 0, none⟩) L.length capN) ∧ Below y.heap.size y wr) (fun i _ => L.length - (intOf i).toNat)
    case atStart => exact ⟨0, Nat.zero_le _, rfl, M0, N3, K3⟩
    case round =>
      obtain ⟨k, hk, rfl, M, N4, K4⟩ := hrel
      have A4 := AY.below K4 (by omega)
      have R4 := RY.below K4 S0
      have B4 := B0.trans (K4.mono B0.size)
      have S4 := N4.lt
      obtain ⟨a0, a1⟩ := A4
      by_cases hlt : k < L.length
      · have hv5 := hvy.below K4 bt
        obtain ⟨bk, off, rfl, _⟩ := hv5 (by omega)
        obtain ⟨h, hh⟩ : ∃ h, L.getD k Pt.nil = h := ⟨_, rfl⟩
        obtain ⟨c0, c1, c2, c3, c4, c5, c6, c7, c8, c9, c10⟩ : PtAtO wr bk (off + k * 11) h := by rw [← hh]; exact ptAtO_of (hv5.at_ ptEnc_len Pt.nil hlt)
        have hok : Hid (pOk h = true) := by unfold Hid; rw [← hh]; exact (bOk_all hb.out).2.2 k
        obtain ⟨z, hz⟩ : ∃ z, z = f k := ⟨_, rfl⟩
        have hz2 : Hid (turnUp h (roleR id L k) = z) := by unfold Hid; rw [hz, ← hh]; exact hfk.out k
        replace hz : Hid _ := hz
        replace hh : Hid _ := hh
        obtain ⟨y5, hy5⟩ : ∃ y_, y_ = wr.alloc (Obj.cells #[.bool h.up, .bool h.has, .int .i64 h.r, .int .i64 h.c, .int .i64 h.b, .int .i64 h.p, .int .i64 h.h, .int .i64 h.l, .int .i64 h.ro, .int .i64 h.wa, .bool h.op] 47) := ⟨_, rfl⟩
        have P5 : PtAt y5 wr.heap.size h := by rw [hy5]; exact ptAt_box wr _ _
        have kn : Below wr.heap.size wr y5 := by rw [hy5]; exact below_new _
        have A5 := BrAt.below ⟨a0, a1⟩ kn (by omega)
        have N5 := N4.below kn S4
        have M5 := M.later kn
        have hv6 := hv5.below kn (hv5.lt ptEnc_len (by omega))
        have hB6 := hv6.lt ptEnc_len (by omega)
        have K5 := K4.trans (kn.mono K4.size)
        have S5 := P5.lt
        have hgw : g < wr.heap.size := (M.lt g rfl).2
        go_upto_region 10 with fail
        rw [← hy5]
        clear hy5 a0 a1 c0 c1 c2 c3 c4 c5 c6 c7 c8 c9 c10 kn M N4 hv5
        generalize wr.heap.size = Q at P5 S4 S5 hgw ⊢
        have hdk : ∀ b : Bool, decide (rootO id L = some k) = b → ((k : Int) == q) = b := by
          intro b hb'
          rw [hq.out, ← hb']
          cases ho : rootO id L with
          | none =>
            rw [decide_eq_false (by simp)]
            simp only [oI, beq_eq_false_iff_ne, ne_eq]; omega
          | some j =>
            by_cases e : j = k
            · subst e
              simp [oI]
            · rw [decide_eq_false (by simpa using e)]
              simp only [oI, beq_eq_false_iff_ne, ne_eq]; omega
        replace hdk : Hid _ := hdk
        obtain ⟨e0, e1, e2, e3, e4, e5, e6, e7, e8, e9, e10⟩ := P5
        have P5 : PtAt y5 Q h := ⟨e0, e1, e2, e3, e4, e5, e6, e7, e8, e9, e10⟩
        cases hu : h.up with
        | false =>
          have hhas : h.has = false := pOk_down hok.out hu
          have dk : ((k : Int) == q) = false := hdk.out false (decide_eq_false (fun e => by have := root_has e hh.out; rw [hhas] at this; cases this))
          rw [hu] at e0
          have MN : FOwn ptEnc 11 47 y.heap.size y5 (.slice (some ⟨g, 0, none⟩) L.length capN) (markd f L (k + 1)) := by
            rw [markd_same Pt.nil hlt (by rw [← hz.out, ← hz2.out, hh.out]; unfold turnUp; rw [hu]; rfl)]
            exact M5
          replace MN : Hid _ := MN
          go_upto_region 12 with fail
          refine wp_region_held (S := fun Y => Below y5.heap.size y5 Y) (by kernel_rfl) ?_
          change wpAnyH _ _ _ _ _ _ _ _ (World.drew _)
          have hb0 : Below y5.heap.size y5 y5.drew := (Below.refl _ _).drew
          obtain ⟨u0, hy0⟩ : ∃ y_, y_ = y5.drew := ⟨_, rfl⟩
          rw [← hy0] at hb0 ⊢
          clear hy0
          refine takeW 0 35 (.pointer (some ⟨Q, 1, none⟩)) rfl rfl (by kernel_rfl) (by kernel_rfl) (by kernel_rfl) (fun _ _ _ h => h) (by kernel_rfl) (by (intro w hSw; go_simp)) (by assumption) ?_
          simp only [List.set_cons_zero, List.set_cons_succ]
          refine takeW 1 36 (.bool false) rfl rfl (by kernel_rfl) (by kernel_rfl) (by kernel_rfl) (fun _ _ _ h => h) (by kernel_rfl) (by (intro Y hSw; obtain ⟨X0, X1, X2, X3, X4, X5, X6, X7, X8, X9, X10⟩ := P5.below hSw (by omega); go_simp)) (by assumption) ?_
          simp only [List.set_cons_zero, List.set_cons_succ]
          refine takeW 2 37 (.bool false) rfl rfl (by kernel_rfl) (by kernel_rfl) (by kernel_rfl) (fun _ _ _ h => h) (by kernel_rfl) (by (intro w hSw; go_simp)) (by assumption) ?_
          simp only [List.set_cons_zero, List.set_cons_succ]
          refine takeS 3 38 rfl rfl (by kernel_rfl) (by kernel_rfl) (by kernel_rfl) (fun _ _ _ h => h) (by kernel_rfl) (by assumption) ?_
          simp only [List.set_cons_zero, List.set_cons_succ]
          refine takeS 4 39 rfl rfl (by kernel_rfl) (by kernel_rfl) (by kernel_rfl) (fun _ _ _ h => h) (by kernel_rfl) (by assumption) ?_
          simp only [List.set_cons_zero, List.set_cons_succ]
          refine takeS 5 40 rfl rfl (by kernel_rfl) (by kernel_rfl) (by kernel_rfl) (fun _ _ _ h => h) (by kernel_rfl) (by assumption) ?_
          simp only [List.set_cons_zero, List.set_cons_succ]
          refine takeS 6 41 rfl rfl (by kernel_rfl) (by kernel_rfl) (by kernel_rfl) (fun _ _ _ h => h) (by kernel_rfl) (by assumption) ?_
          simp only [List.set_cons_zero, List.set_cons_succ]
          refine takeS 7 42 rfl rfl (by kernel_rfl) (by kernel_rfl) (by kernel_rfl) (fun _ _ _ h => h) (by kernel_rfl) (by assumption) ?_
          simp only [List.set_cons_zero, List.set_cons_succ]
          refine takeS 8 43 rfl rfl (by kernel_rfl) (by kernel_rfl) (by kernel_rfl) (fun _ _ _ h => h) (by kernel_rfl) (by assumption) ?_
          simp only [List.set_cons_zero, List.set_cons_succ]
          refine takeW 9 44 (.bool false) rfl rfl (by kernel_rfl) (by kernel_rfl) (by kernel_rfl) (fun _ _ _ h => h) (by kernel_rfl) (by (intro w hSw; go_simp)) (by assumption) ?_
          simp only [List.set_cons_zero, List.set_cons_succ]
          refine wpAnyH_done (by kernel_rfl) ?_ _
          obtain ⟨x0, x1, x2, x3, x4, x5, x6, x7, x8, x9, x10⟩ := P5.below hb0 (by omega)
          rw [hu] at x0
          go_wp2
          go_roundw
          case rel => exact ⟨k + 1, by omega, by go_num, FOwn.below MN.out hb0 (fun g' e => by obtain rfl : g = g' := (by simpa [Value.ownBlock] using e); omega), N5.below hb0 (by omega), K5.trans (hb0.mono K5.size)⟩
          case measure => simp [intOf]; omega
        | true =>
          rw [hu] at e0
          replace hu : Hid _ := hu
          by_cases hr : rootO id L = some k
          · have dk : ((k : Int) == q) = true := hdk.out true (decide_eq_true hr)
            have hro : Hid (roleR id L k = 1) := by unfold Hid roleR; rw [if_pos hr]
            have hz3 : Hid (turnR h 1 = z) := by unfold Hid; rw [turnR_up, ← hz2.out, hro.out]
            go_upto_region 15 with fail
            clear e0 e1 e2 e3 e4 e5 e6 e7 e8 e9 e10
            refine wp_region_held (S := fun Y => Bar g y5.heap.size y5 Y) (by kernel_rfl) ?_
            change wpAnyH _ _ _ _ _ _ _ _ (World.drew _)
            have hb0 : Below y5.heap.size y5 y5.drew := (Below.refl _ _).drew
            obtain ⟨u0, hy0⟩ : ∃ y_, y_ = y5.drew := ⟨_, rfl⟩
            rw [← hy0] at hb0 ⊢
            clear hy0
            have hS0 : Bar g y5.heap.size y5 u0 := Bar.of hb0
            refine takeW 0 47 (.pointer (some ⟨N, 1, none⟩)) rfl rfl (by kernel_rfl) (by kernel_rfl) (by kernel_rfl) (fun _ _ _ h => h) (by kernel_rfl) (by (intro w hSw; go_simp)) (by assumption) ?_
            simp only [List.set_cons_zero, List.set_cons_succ]
            refine takeW 1 48 (.slice (some ⟨g, 0, none⟩) L.length capN) rfl rfl (by kernel_rfl) (by kernel_rfl) (by kernel_rfl) (fun _ _ _ h => h) (by kernel_rfl) (by (intro Y hSw; obtain ⟨X0, X1⟩ := N5.at_.bar hSw (by omega) (by omega); go_simp)) (by assumption) ?_
            simp only [List.set_cons_zero, List.set_cons_succ]
            refine takeW 2 49 (.int .i64 (k : Int)) rfl rfl (by kernel_rfl) (by kernel_rfl) (by kernel_rfl) (fun _ _ _ h => h) (by kernel_rfl) (by (intro w hSw; go_simp)) (by assumption) ?_
            simp only [List.set_cons_zero, List.set_cons_succ]
            refine takeW 3 50 (.agg #[.bool h.up, .bool h.has, .int .i64 h.r, .int .i64 h.c, .int .i64 h.b, .int .i64 h.p, .int .i64 h.h, .int .i64 h.l, .int .i64 h.ro, .int .i64 h.wa, .bool h.op]) rfl rfl (by kernel_rfl) (by kernel_rfl) (by kernel_rfl) (fun _ _ _ h => h) (by kernel_rfl) (by (intro Y hSw; obtain ⟨X0, X1, X2, X3, X4, X5, X6, X7, X8, X9, X10⟩ := P5.bar hSw (by omega) (by omega); go_simp)) (by assumption) ?_
            simp only [List.set_cons_zero, List.set_cons_succ]
            refine takeW 4 51 (.int .i64 1) rfl rfl (by kernel_rfl) (by kernel_rfl) (by kernel_rfl) (fun _ _ _ h => h) (by kernel_rfl) (by (intro w hSw; go_simp)) (by assumption) ?_
            simp only [List.set_cons_zero, List.set_cons_succ]
            refine wpAnyH_all (rs := [5]) (by kernel_rfl) (by simp) ?_
            intro i hi; obtain rfl : i = 5 := by simpa using hi
            refine wpOp_step rfl (fun K hK => ?_)
            rw [if_pos (by kernel_rfl)]
            go_simp
            go_at_call 125
            refine (turnS h 1 u0).mono ?_
            rintro e u1 ⟨rfl, kq⟩
            have hb1 : Below y5.heap.size y5 u1 := hb0.trans (kq.mono hb0.size)
            clear kq
            rw [hz3.out]
            have hS1 : Bar g y5.heap.size y5 u1 := Bar.of hb1
            refine hK _ _ ⟨Bar.of hb1, ?_⟩
            clear hK K hi
            refine takeW 6 53 (.pointer (some ⟨g, k * 11, none⟩)) rfl rfl (by kernel_rfl) (by kernel_rfl) (by kernel_rfl) (fun _ _ _ h => h) (by kernel_rfl) (by (intro Y hSw; go_simp; try omega)) (by assumption) ?_
            simp only [List.set_cons_zero, List.set_cons_succ]
            refine wpAnyH_all (rs := [7]) (by kernel_rfl) (by simp) ?_
            intro i hi; obtain rfl : i = 7 := by simpa using hi
            refine wpOp_step rfl (fun K hK => ?_)
            rw [if_pos (by kernel_rfl)]
            have MU : FOwn ptEnc 11 47 y.heap.size u1 (.slice (some ⟨g, 0, none⟩) L.length capN) (markd f L k) := M5.below hb1 (fun g' e => by obtain rfl : g = g' := (by simpa [Value.ownBlock] using e); omega)
            have hml : (markd f L k).length = L.length := markd_len hk
            rw [← hml] at MU
            obtain ⟨t0, t1, t2, t3, t4, t5, t6, t7, t8, t9, t10⟩ : PtAtO u1 g (k * 11) ((markd f L k).getD k Pt.nil) := ptAtO_of (MU.cell ptEnc_len Pt.nil (by rw [hml]; exact hlt))
            have ff := MU.frozen
            have f0 := ff (k * 11)
            have f1 := ff (k * 11 + 1)
            have f2 := ff (k * 11 + 2)
            have f3 := ff (k * 11 + 3)
            have f4 := ff (k * 11 + 4)
            have f5 := ff (k * 11 + 5)
            have f6 := ff (k * 11 + 6)
            have f7 := ff (k * 11 + 7)
            have f8 := ff (k * 11 + 8)
            have f9 := ff (k * 11 + 9)
            have f10 := ff (k * 11 + 10)
            have MS := MU.set ptEnc_len (by omega) (i := k) (by rw [hml]; exact hlt) z
            rw [hz.out, markd_set hlt, ptPut, hml, ← hz.out] at MS
            have SB := Bar.putAll (o := k * 11) (ptEnc z) (Bar.of (g := g) hb1)
            rw [ptPut] at SB
            have BB := below_putAll (B := y.heap.size) hg1 (ptEnc z) (k * 11) (K5.trans (hb1.mono K5.size))
            rw [ptPut] at BB
            clear hml ff MU
            obtain ⟨uf, huf⟩ : ∃ y_, y_ = (((((((((((u1.setCell ⟨g, k * 11, none⟩ (.bool z.up)).setCell ⟨g, k * 11 + 1, none⟩ (.bool z.has)).setCell ⟨g, k * 11 + 2, none⟩ (.int .i64 z.r)).setCell ⟨g, k * 11 + 3, none⟩ (.int .i64 z.c)).setCell ⟨g, k * 11 + 4, none⟩ (.int .i64 z.b)).setCell ⟨g, k * 11 + 5, none⟩ (.int .i64 z.p)).setCell ⟨g, k * 11 + 6, none⟩ (.int .i64 z.h)).setCell ⟨g, k * 11 + 7, none⟩ (.int .i64 z.l)).setCell ⟨g, k * 11 + 8, none⟩ (.int .i64 z.ro)).setCell ⟨g, k * 11 + 9, none⟩ (.int .i64 z.wa)).setCell ⟨g, k * 11 + 10, none⟩ (.bool z.op)) := ⟨_, rfl⟩
            rw [← huf] at MS SB BB
            go_simp
            rw [← huf]
            have NF := N5.at_.bar SB (by omega) (by omega)
            have NFF : BBox uf N id (.slice (some ⟨g, 0, none⟩) L.length capN) := N5.keep (SB.block N (by omega) (by omega))
            clear huf t0 f0 t1 f1 t2 f2 t3 f3 t4 f4 t5 f5 t6 f6 t7 f7 t8 f8 t9 f9 t10 f10 NF
            refine hK _ _ ⟨SB, ?_⟩
            clear hK K hi
            refine wpAnyH_done (by kernel_rfl) ?_ _
            go_wp2
            go_roundw
            case rel => exact ⟨k + 1, by omega, by go_num, MS, NFF, BB⟩
            case measure => simp [intOf]; omega
          have dk : ((k : Int) == q) = false := hdk.out false (decide_eq_false hr)
          have hρ2 : Hid (roleR id L k = if h.has && vLt h.r h.c h.b h.p (ownR id L k).1 (ownR id L k).2.1 (ownR id L k).2.2.1 (ownR id L k).2.2.2 then 3 else 2) := by unfold Hid; unfold roleR; rw [if_neg hr, hh.out]
          replace hr : Hid _ := hr
          go_upto_region 12 with fail
          clear e0 e1 e2 e3 e4 e5 e6 e7 e8 e9 e10
          cases hhas : h.has with
          | false =>
            have hro : Hid (roleR id L k = 2) := by unfold Hid; rw [hρ2.out, hhas]; rfl
            have hz3 : Hid (turnR h 2 = z) := by unfold Hid; rw [turnR_up, ← hz2.out, hro.out]
            refine wp_region_held (S := fun Y => Below y5.heap.size y5 Y) (by kernel_rfl) ?_
            change wpAnyH _ _ _ _ _ _ _ _ (World.drew _)
            have hb0 : Below y5.heap.size y5 y5.drew := (Below.refl _ _).drew
            obtain ⟨u0, hy0⟩ : ∃ y_, y_ = y5.drew := ⟨_, rfl⟩
            rw [← hy0] at hb0 ⊢
            clear hy0
            refine takeW 0 35 (.pointer (some ⟨Q, 1, none⟩)) rfl rfl (by kernel_rfl) (by kernel_rfl) (by kernel_rfl) (fun _ _ _ h => h) (by kernel_rfl) (by (intro w hSw; go_simp)) (by assumption) ?_
            simp only [List.set_cons_zero, List.set_cons_succ]
            refine takeW 1 36 (.bool false) rfl rfl (by kernel_rfl) (by kernel_rfl) (by kernel_rfl) (fun _ _ _ h => h) (by kernel_rfl) (by (intro Y hSw; obtain ⟨X0, X1, X2, X3, X4, X5, X6, X7, X8, X9, X10⟩ := P5.below hSw (by omega); go_simp)) (by assumption) ?_
            simp only [List.set_cons_zero, List.set_cons_succ]
            refine takeW 2 37 (.bool false) rfl rfl (by kernel_rfl) (by kernel_rfl) (by kernel_rfl) (fun _ _ _ h => h) (by kernel_rfl) (by (intro w hSw; go_simp)) (by assumption) ?_
            simp only [List.set_cons_zero, List.set_cons_succ]
            refine takeS 3 38 rfl rfl (by kernel_rfl) (by kernel_rfl) (by kernel_rfl) (fun _ _ _ h => h) (by kernel_rfl) (by assumption) ?_
            simp only [List.set_cons_zero, List.set_cons_succ]
            refine takeS 4 39 rfl rfl (by kernel_rfl) (by kernel_rfl) (by kernel_rfl) (fun _ _ _ h => h) (by kernel_rfl) (by assumption) ?_
            simp only [List.set_cons_zero, List.set_cons_succ]
            refine takeS 5 40 rfl rfl (by kernel_rfl) (by kernel_rfl) (by kernel_rfl) (fun _ _ _ h => h) (by kernel_rfl) (by assumption) ?_
            simp only [List.set_cons_zero, List.set_cons_succ]
            refine takeS 6 41 rfl rfl (by kernel_rfl) (by kernel_rfl) (by kernel_rfl) (fun _ _ _ h => h) (by kernel_rfl) (by assumption) ?_
            simp only [List.set_cons_zero, List.set_cons_succ]
            refine takeS 7 42 rfl rfl (by kernel_rfl) (by kernel_rfl) (by kernel_rfl) (fun _ _ _ h => h) (by kernel_rfl) (by assumption) ?_
            simp only [List.set_cons_zero, List.set_cons_succ]
            refine takeS 8 43 rfl rfl (by kernel_rfl) (by kernel_rfl) (by kernel_rfl) (fun _ _ _ h => h) (by kernel_rfl) (by assumption) ?_
            simp only [List.set_cons_zero, List.set_cons_succ]
            refine takeW 9 44 (.bool false) rfl rfl (by kernel_rfl) (by kernel_rfl) (by kernel_rfl) (fun _ _ _ h => h) (by kernel_rfl) (by (intro w hSw; go_simp)) (by assumption) ?_
            simp only [List.set_cons_zero, List.set_cons_succ]
            refine wpAnyH_done (by kernel_rfl) ?_ _
            obtain ⟨y6, hy6⟩ : ∃ y_, y_ = u0 := ⟨_, rfl⟩
            rw [← hy6] at hb0 ⊢
            clear hy6
            have P5 := P5.below hb0 (by omega)
            have A5 := A5.below hb0 (by omega)
            have N5 := N5.below hb0 (by omega)
            have K5 := K5.trans (hb0.mono K5.size)
            have M5 := M5.below hb0 (fun g' e => by obtain rfl : g = g' := (by simpa [Value.ownBlock] using e); omega)
            have S5 := P5.lt
            have S6 := N5.lt
            obtain ⟨x0, x1, x2, x3, x4, x5, x6, x7, x8, x9, x10⟩ := P5
            have P5 : PtAt y6 Q h := ⟨x0, x1, x2, x3, x4, x5, x6, x7, x8, x9, x10⟩
            rw [hu.out] at x0
            replace hhas : Hid _ := hhas
            go_upto_region 15 with fail
            clear x0 x1 x2 x3 x4 x5 x6 x7 x8 x9 x10 hb0
            refine wp_region_held (S := fun Y => Bar g y6.heap.size y6 Y) (by kernel_rfl) ?_
            change wpAnyH _ _ _ _ _ _ _ _ (World.drew _)
            have hb0 : Below y6.heap.size y6 y6.drew := (Below.refl _ _).drew
            obtain ⟨u0, hy0⟩ : ∃ y_, y_ = y6.drew := ⟨_, rfl⟩
            rw [← hy0] at hb0 ⊢
            clear hy0
            have hS0 : Bar g y6.heap.size y6 u0 := Bar.of hb0
            refine takeW 0 47 (.pointer (some ⟨N, 1, none⟩)) rfl rfl (by kernel_rfl) (by kernel_rfl) (by kernel_rfl) (fun _ _ _ h => h) (by kernel_rfl) (by (intro w hSw; go_simp)) (by assumption) ?_
            simp only [List.set_cons_zero, List.set_cons_succ]
            refine takeW 1 48 (.slice (some ⟨g, 0, none⟩) L.length capN) rfl rfl (by kernel_rfl) (by kernel_rfl) (by kernel_rfl) (fun _ _ _ h => h) (by kernel_rfl) (by (intro Y hSw; obtain ⟨X0, X1⟩ := N5.at_.bar hSw (by omega) (by omega); go_simp)) (by assumption) ?_
            simp only [List.set_cons_zero, List.set_cons_succ]
            refine takeW 2 49 (.int .i64 (k : Int)) rfl rfl (by kernel_rfl) (by kernel_rfl) (by kernel_rfl) (fun _ _ _ h => h) (by kernel_rfl) (by (intro w hSw; go_simp)) (by assumption) ?_
            simp only [List.set_cons_zero, List.set_cons_succ]
            refine takeW 3 50 (.agg #[.bool h.up, .bool h.has, .int .i64 h.r, .int .i64 h.c, .int .i64 h.b, .int .i64 h.p, .int .i64 h.h, .int .i64 h.l, .int .i64 h.ro, .int .i64 h.wa, .bool h.op]) rfl rfl (by kernel_rfl) (by kernel_rfl) (by kernel_rfl) (fun _ _ _ h => h) (by kernel_rfl) (by (intro Y hSw; obtain ⟨X0, X1, X2, X3, X4, X5, X6, X7, X8, X9, X10⟩ := P5.bar hSw (by omega) (by omega); go_simp)) (by assumption) ?_
            simp only [List.set_cons_zero, List.set_cons_succ]
            refine takeW 4 51 (.int .i64 2) rfl rfl (by kernel_rfl) (by kernel_rfl) (by kernel_rfl) (fun _ _ _ h => h) (by kernel_rfl) (by (intro w hSw; go_simp)) (by assumption) ?_
            simp only [List.set_cons_zero, List.set_cons_succ]
            refine wpAnyH_all (rs := [5]) (by kernel_rfl) (by simp) ?_
            intro i hi; obtain rfl : i = 5 := by simpa using hi
            refine wpOp_step rfl (fun K hK => ?_)
            rw [if_pos (by kernel_rfl)]
            go_simp
            go_at_call 125
            refine (turnS h 2 u0).mono ?_
            rintro e u1 ⟨rfl, kq⟩
            have hb1 : Below y6.heap.size y6 u1 := hb0.trans (kq.mono hb0.size)
            clear kq
            rw [hz3.out]
            have hS1 : Bar g y6.heap.size y6 u1 := Bar.of hb1
            refine hK _ _ ⟨Bar.of hb1, ?_⟩
            clear hK K hi
            refine takeW 6 53 (.pointer (some ⟨g, k * 11, none⟩)) rfl rfl (by kernel_rfl) (by kernel_rfl) (by kernel_rfl) (fun _ _ _ h => h) (by kernel_rfl) (by (intro Y hSw; go_simp; try omega)) (by assumption) ?_
            simp only [List.set_cons_zero, List.set_cons_succ]
            refine wpAnyH_all (rs := [7]) (by kernel_rfl) (by simp) ?_
            intro i hi; obtain rfl : i = 7 := by simpa using hi
            refine wpOp_step rfl (fun K hK => ?_)
            rw [if_pos (by kernel_rfl)]
            have MU : FOwn ptEnc 11 47 y.heap.size u1 (.slice (some ⟨g, 0, none⟩) L.length capN) (markd f L k) := M5.below hb1 (fun g' e => by obtain rfl : g = g' := (by simpa [Value.ownBlock] using e); omega)
            have hml : (markd f L k).length = L.length := markd_len hk
            rw [← hml] at MU
            obtain ⟨t0, t1, t2, t3, t4, t5, t6, t7, t8, t9, t10⟩ : PtAtO u1 g (k * 11) ((markd f L k).getD k Pt.nil) := ptAtO_of (MU.cell ptEnc_len Pt.nil (by rw [hml]; exact hlt))
            have ff := MU.frozen
            have f0 := ff (k * 11)
            have f1 := ff (k * 11 + 1)
            have f2 := ff (k * 11 + 2)
            have f3 := ff (k * 11 + 3)
            have f4 := ff (k * 11 + 4)
            have f5 := ff (k * 11 + 5)
            have f6 := ff (k * 11 + 6)
            have f7 := ff (k * 11 + 7)
            have f8 := ff (k * 11 + 8)
            have f9 := ff (k * 11 + 9)
            have f10 := ff (k * 11 + 10)
            have MS := MU.set ptEnc_len (by omega) (i := k) (by rw [hml]; exact hlt) z
            rw [hz.out, markd_set hlt, ptPut, hml, ← hz.out] at MS
            have SB := Bar.putAll (o := k * 11) (ptEnc z) (Bar.of (g := g) hb1)
            rw [ptPut] at SB
            have BB := below_putAll (B := y.heap.size) hg1 (ptEnc z) (k * 11) (K5.trans (hb1.mono K5.size))
            rw [ptPut] at BB
            clear hml ff MU
            obtain ⟨uf, huf⟩ : ∃ y_, y_ = (((((((((((u1.setCell ⟨g, k * 11, none⟩ (.bool z.up)).setCell ⟨g, k * 11 + 1, none⟩ (.bool z.has)).setCell ⟨g, k * 11 + 2, none⟩ (.int .i64 z.r)).setCell ⟨g, k * 11 + 3, none⟩ (.int .i64 z.c)).setCell ⟨g, k * 11 + 4, none⟩ (.int .i64 z.b)).setCell ⟨g, k * 11 + 5, none⟩ (.int .i64 z.p)).setCell ⟨g, k * 11 + 6, none⟩ (.int .i64 z.h)).setCell ⟨g, k * 11 + 7, none⟩ (.int .i64 z.l)).setCell ⟨g, k * 11 + 8, none⟩ (.int .i64 z.ro)).setCell ⟨g, k * 11 + 9, none⟩ (.int .i64 z.wa)).setCell ⟨g, k * 11 + 10, none⟩ (.bool z.op)) := ⟨_, rfl⟩
            rw [← huf] at MS SB BB
            go_simp
            rw [← huf]
            have NF := N5.at_.bar SB (by omega) (by omega)
            have NFF : BBox uf N id (.slice (some ⟨g, 0, none⟩) L.length capN) := N5.keep (SB.block N (by omega) (by omega))
            clear huf t0 f0 t1 f1 t2 f2 t3 f3 t4 f4 t5 f5 t6 f6 t7 f7 t8 f8 t9 f9 t10 f10 NF
            refine hK _ _ ⟨SB, ?_⟩
            clear hK K hi
            refine wpAnyH_done (by kernel_rfl) ?_ _
            go_wp2
            go_roundw
            case rel => exact ⟨k + 1, by omega, by go_num, MS, NFF, BB⟩
            case measure => simp [intOf]; omega
          | true =>
            obtain ⟨⟨v1, v2, v3, v4⟩, hov⟩ : ∃ v, ownR id L k = v := ⟨_, rfl⟩
            have hρ3 : Hid (roleR id L k = if vLt h.r h.c h.b h.p v1 v2 v3 v4 then 3 else 2) := by unfold Hid; rw [hρ2.out, hhas, hov]; rfl
            replace hov : Hid _ := hov
            obtain ⟨t, ht⟩ : ∃ t, vLt h.r h.c h.b h.p v1 v2 v3 v4 = t := ⟨_, rfl⟩
            replace ht : Hid _ := ht
            cases t
            · have hro : Hid (roleR id L k = 2) := by unfold Hid; rw [hρ3.out, ht.out]; rfl
              have hz3 : Hid (turnR h 2 = z) := by unfold Hid; rw [turnR_up, ← hz2.out, hro.out]
              refine wp_region_held (S := fun Y => Below y5.heap.size y5 Y) (by kernel_rfl) ?_
              change wpAnyH _ _ _ _ _ _ _ _ (World.drew _)
              have hb0 : Below y5.heap.size y5 y5.drew := (Below.refl _ _).drew
              obtain ⟨u0, hy0⟩ : ∃ y_, y_ = y5.drew := ⟨_, rfl⟩
              rw [← hy0] at hb0 ⊢
              clear hy0
              refine takeW 0 35 (.pointer (some ⟨Q, 1, none⟩)) rfl rfl (by kernel_rfl) (by kernel_rfl) (by kernel_rfl) (fun _ _ _ h => h) (by kernel_rfl) (by (intro w hSw; go_simp)) (by assumption) ?_
              simp only [List.set_cons_zero, List.set_cons_succ]
              refine takeW 1 36 (.bool true) rfl rfl (by kernel_rfl) (by kernel_rfl) (by kernel_rfl) (fun _ _ _ h => h) (by kernel_rfl) (by (intro Y hSw; obtain ⟨X0, X1, X2, X3, X4, X5, X6, X7, X8, X9, X10⟩ := P5.below hSw (by omega); go_simp)) (by assumption) ?_
              simp only [List.set_cons_zero, List.set_cons_succ]
              refine takeW 2 37 (.bool true) rfl rfl (by kernel_rfl) (by kernel_rfl) (by kernel_rfl) (fun _ _ _ h => h) (by kernel_rfl) (by (intro w hSw; go_simp)) (by assumption) ?_
              simp only [List.set_cons_zero, List.set_cons_succ]
              refine takeW 3 38 (.pointer (some ⟨Q, 2, none⟩)) rfl rfl (by kernel_rfl) (by kernel_rfl) (by kernel_rfl) (fun _ _ _ h => h) (by kernel_rfl) (by (intro w hSw; go_simp)) (by assumption) ?_
              simp only [List.set_cons_zero, List.set_cons_succ]
              refine takeW 4 39 (.agg #[.int .i64 h.r, .int .i64 h.c, .int .i64 h.b, .int .i64 h.p]) rfl rfl (by kernel_rfl) (by kernel_rfl) (by kernel_rfl) (fun _ _ _ h => h) (by kernel_rfl) (by (intro Y hSw; obtain ⟨X0, X1, X2, X3, X4, X5, X6, X7, X8, X9, X10⟩ := P5.below hSw (by omega); go_simp)) (by assumption) ?_
              simp only [List.set_cons_zero, List.set_cons_succ]
              refine takeW 5 40 (.agg #[.int .i64 id, .slice (some ⟨bk, off, none⟩) L.length cap]) rfl rfl (by kernel_rfl) (by kernel_rfl) (by kernel_rfl) (fun _ _ _ h => h) (by kernel_rfl) (by (intro Y hSw; obtain ⟨X0, X1⟩ := A5.below hSw (by omega); go_simp)) (by assumption) ?_
              simp only [List.set_cons_zero, List.set_cons_succ]
              refine takeW 6 41 (.int .i64 (k : Int)) rfl rfl (by kernel_rfl) (by kernel_rfl) (by kernel_rfl) (fun _ _ _ h => h) (by kernel_rfl) (by (intro w hSw; go_simp)) (by assumption) ?_
              simp only [List.set_cons_zero, List.set_cons_succ]
              refine wpAnyH_all (rs := [7]) (by kernel_rfl) (by simp) ?_
              intro i hi; obtain rfl : i = 7 := by simpa using hi
              refine wpOp_step rfl (fun K hK => ?_)
              rw [if_pos (by kernel_rfl)]
              go_simp
              go_at_call 94
              refine (ownS id (some ⟨bk, off, none⟩) cap L (k : Int) u0 (hv6.below hb0 hB6) hl).mono ?_
              rintro e u1 ⟨rfl, kq⟩
              have hb1 : Below y5.heap.size y5 u1 := hb0.trans (kq.mono hb0.size)
              clear kq
              rw [hov.out]
              refine hK _ _ ⟨hb1, ?_⟩
              clear hK K hi
              refine wpAnyH_all (rs := [8]) (by kernel_rfl) (by simp) ?_
              intro i hi; obtain rfl : i = 8 := by simpa using hi
              refine wpOp_step rfl (fun K hK => ?_)
              rw [if_pos (by kernel_rfl)]
              go_simp
              go_at_call 128
              refine (betterS h.r h.c h.b h.p v1 v2 v3 v4 u1).mono ?_
              rintro e u2 ⟨rfl, kq⟩
              have hb2 : Below y5.heap.size y5 u2 := hb1.trans (kq.mono hb1.size)
              clear kq
              rw [ht.out]
              refine hK _ _ ⟨hb2, ?_⟩
              clear hK K hi
              refine takeW 9 44 (.bool false) rfl rfl (by kernel_rfl) (by kernel_rfl) (by kernel_rfl) (fun _ _ _ h => h) (by kernel_rfl) (by (intro w hSw; go_simp)) (by assumption) ?_
              simp only [List.set_cons_zero, List.set_cons_succ]
              refine wpAnyH_done (by kernel_rfl) ?_ _
              obtain ⟨y6, hy6⟩ : ∃ y_, y_ = u2 := ⟨_, rfl⟩
              rw [← hy6] at hb2 ⊢
              clear hy6
              have P5 := P5.below hb2 (by omega)
              have A5 := A5.below hb2 (by omega)
              have N5 := N5.below hb2 (by omega)
              have K5 := K5.trans (hb2.mono K5.size)
              have M5 := M5.below hb2 (fun g' e => by obtain rfl : g = g' := (by simpa [Value.ownBlock] using e); omega)
              have S5 := P5.lt
              have S6 := N5.lt
              obtain ⟨x0, x1, x2, x3, x4, x5, x6, x7, x8, x9, x10⟩ := P5
              have P5 : PtAt y6 Q h := ⟨x0, x1, x2, x3, x4, x5, x6, x7, x8, x9, x10⟩
              rw [hu.out] at x0
              replace hhas : Hid _ := hhas
              go_upto_region 15 with fail
              clear x0 x1 x2 x3 x4 x5 x6 x7 x8 x9 x10 hb2
              refine wp_region_held (S := fun Y => Bar g y6.heap.size y6 Y) (by kernel_rfl) ?_
              change wpAnyH _ _ _ _ _ _ _ _ (World.drew _)
              have hb0 : Below y6.heap.size y6 y6.drew := (Below.refl _ _).drew
              obtain ⟨u0, hy0⟩ : ∃ y_, y_ = y6.drew := ⟨_, rfl⟩
              rw [← hy0] at hb0 ⊢
              clear hy0
              have hS0 : Bar g y6.heap.size y6 u0 := Bar.of hb0
              refine takeW 0 47 (.pointer (some ⟨N, 1, none⟩)) rfl rfl (by kernel_rfl) (by kernel_rfl) (by kernel_rfl) (fun _ _ _ h => h) (by kernel_rfl) (by (intro w hSw; go_simp)) (by assumption) ?_
              simp only [List.set_cons_zero, List.set_cons_succ]
              refine takeW 1 48 (.slice (some ⟨g, 0, none⟩) L.length capN) rfl rfl (by kernel_rfl) (by kernel_rfl) (by kernel_rfl) (fun _ _ _ h => h) (by kernel_rfl) (by (intro Y hSw; obtain ⟨X0, X1⟩ := N5.at_.bar hSw (by omega) (by omega); go_simp)) (by assumption) ?_
              simp only [List.set_cons_zero, List.set_cons_succ]
              refine takeW 2 49 (.int .i64 (k : Int)) rfl rfl (by kernel_rfl) (by kernel_rfl) (by kernel_rfl) (fun _ _ _ h => h) (by kernel_rfl) (by (intro w hSw; go_simp)) (by assumption) ?_
              simp only [List.set_cons_zero, List.set_cons_succ]
              refine takeW 3 50 (.agg #[.bool h.up, .bool h.has, .int .i64 h.r, .int .i64 h.c, .int .i64 h.b, .int .i64 h.p, .int .i64 h.h, .int .i64 h.l, .int .i64 h.ro, .int .i64 h.wa, .bool h.op]) rfl rfl (by kernel_rfl) (by kernel_rfl) (by kernel_rfl) (fun _ _ _ h => h) (by kernel_rfl) (by (intro Y hSw; obtain ⟨X0, X1, X2, X3, X4, X5, X6, X7, X8, X9, X10⟩ := P5.bar hSw (by omega) (by omega); go_simp)) (by assumption) ?_
              simp only [List.set_cons_zero, List.set_cons_succ]
              refine takeW 4 51 (.int .i64 2) rfl rfl (by kernel_rfl) (by kernel_rfl) (by kernel_rfl) (fun _ _ _ h => h) (by kernel_rfl) (by (intro w hSw; go_simp)) (by assumption) ?_
              simp only [List.set_cons_zero, List.set_cons_succ]
              refine wpAnyH_all (rs := [5]) (by kernel_rfl) (by simp) ?_
              intro i hi; obtain rfl : i = 5 := by simpa using hi
              refine wpOp_step rfl (fun K hK => ?_)
              rw [if_pos (by kernel_rfl)]
              go_simp
              go_at_call 125
              refine (turnS h 2 u0).mono ?_
              rintro e u1 ⟨rfl, kq⟩
              have hb1 : Below y6.heap.size y6 u1 := hb0.trans (kq.mono hb0.size)
              clear kq
              rw [hz3.out]
              have hS1 : Bar g y6.heap.size y6 u1 := Bar.of hb1
              refine hK _ _ ⟨Bar.of hb1, ?_⟩
              clear hK K hi
              refine takeW 6 53 (.pointer (some ⟨g, k * 11, none⟩)) rfl rfl (by kernel_rfl) (by kernel_rfl) (by kernel_rfl) (fun _ _ _ h => h) (by kernel_rfl) (by (intro Y hSw; go_simp; try omega)) (by assumption) ?_
              simp only [List.set_cons_zero, List.set_cons_succ]
              refine wpAnyH_all (rs := [7]) (by kernel_rfl) (by simp) ?_
              intro i hi; obtain rfl : i = 7 := by simpa using hi
              refine wpOp_step rfl (fun K hK => ?_)
              rw [if_pos (by kernel_rfl)]
              have MU : FOwn ptEnc 11 47 y.heap.size u1 (.slice (some ⟨g, 0, none⟩) L.length capN) (markd f L k) := M5.below hb1 (fun g' e => by obtain rfl : g = g' := (by simpa [Value.ownBlock] using e); omega)
              have hml : (markd f L k).length = L.length := markd_len hk
              rw [← hml] at MU
              obtain ⟨t0, t1, t2, t3, t4, t5, t6, t7, t8, t9, t10⟩ : PtAtO u1 g (k * 11) ((markd f L k).getD k Pt.nil) := ptAtO_of (MU.cell ptEnc_len Pt.nil (by rw [hml]; exact hlt))
              have ff := MU.frozen
              have f0 := ff (k * 11)
              have f1 := ff (k * 11 + 1)
              have f2 := ff (k * 11 + 2)
              have f3 := ff (k * 11 + 3)
              have f4 := ff (k * 11 + 4)
              have f5 := ff (k * 11 + 5)
              have f6 := ff (k * 11 + 6)
              have f7 := ff (k * 11 + 7)
              have f8 := ff (k * 11 + 8)
              have f9 := ff (k * 11 + 9)
              have f10 := ff (k * 11 + 10)
              have MS := MU.set ptEnc_len (by omega) (i := k) (by rw [hml]; exact hlt) z
              rw [hz.out, markd_set hlt, ptPut, hml, ← hz.out] at MS
              have SB := Bar.putAll (o := k * 11) (ptEnc z) (Bar.of (g := g) hb1)
              rw [ptPut] at SB
              have BB := below_putAll (B := y.heap.size) hg1 (ptEnc z) (k * 11) (K5.trans (hb1.mono K5.size))
              rw [ptPut] at BB
              clear hml ff MU
              obtain ⟨uf, huf⟩ : ∃ y_, y_ = (((((((((((u1.setCell ⟨g, k * 11, none⟩ (.bool z.up)).setCell ⟨g, k * 11 + 1, none⟩ (.bool z.has)).setCell ⟨g, k * 11 + 2, none⟩ (.int .i64 z.r)).setCell ⟨g, k * 11 + 3, none⟩ (.int .i64 z.c)).setCell ⟨g, k * 11 + 4, none⟩ (.int .i64 z.b)).setCell ⟨g, k * 11 + 5, none⟩ (.int .i64 z.p)).setCell ⟨g, k * 11 + 6, none⟩ (.int .i64 z.h)).setCell ⟨g, k * 11 + 7, none⟩ (.int .i64 z.l)).setCell ⟨g, k * 11 + 8, none⟩ (.int .i64 z.ro)).setCell ⟨g, k * 11 + 9, none⟩ (.int .i64 z.wa)).setCell ⟨g, k * 11 + 10, none⟩ (.bool z.op)) := ⟨_, rfl⟩
              rw [← huf] at MS SB BB
              go_simp
              rw [← huf]
              have NF := N5.at_.bar SB (by omega) (by omega)
              have NFF : BBox uf N id (.slice (some ⟨g, 0, none⟩) L.length capN) := N5.keep (SB.block N (by omega) (by omega))
              clear huf t0 f0 t1 f1 t2 f2 t3 f3 t4 f4 t5 f5 t6 f6 t7 f7 t8 f8 t9 f9 t10 f10 NF
              refine hK _ _ ⟨SB, ?_⟩
              clear hK K hi
              refine wpAnyH_done (by kernel_rfl) ?_ _
              go_wp2
              go_roundw
              case rel => exact ⟨k + 1, by omega, by go_num, MS, NFF, BB⟩
              case measure => simp [intOf]; omega
            · have hro : Hid (roleR id L k = 3) := by unfold Hid; rw [hρ3.out, ht.out]; rfl
              have hz3 : Hid (turnR h 3 = z) := by unfold Hid; rw [turnR_up, ← hz2.out, hro.out]
              refine wp_region_held (S := fun Y => Below y5.heap.size y5 Y) (by kernel_rfl) ?_
              change wpAnyH _ _ _ _ _ _ _ _ (World.drew _)
              have hb0 : Below y5.heap.size y5 y5.drew := (Below.refl _ _).drew
              obtain ⟨u0, hy0⟩ : ∃ y_, y_ = y5.drew := ⟨_, rfl⟩
              rw [← hy0] at hb0 ⊢
              clear hy0
              refine takeW 0 35 (.pointer (some ⟨Q, 1, none⟩)) rfl rfl (by kernel_rfl) (by kernel_rfl) (by kernel_rfl) (fun _ _ _ h => h) (by kernel_rfl) (by (intro w hSw; go_simp)) (by assumption) ?_
              simp only [List.set_cons_zero, List.set_cons_succ]
              refine takeW 1 36 (.bool true) rfl rfl (by kernel_rfl) (by kernel_rfl) (by kernel_rfl) (fun _ _ _ h => h) (by kernel_rfl) (by (intro Y hSw; obtain ⟨X0, X1, X2, X3, X4, X5, X6, X7, X8, X9, X10⟩ := P5.below hSw (by omega); go_simp)) (by assumption) ?_
              simp only [List.set_cons_zero, List.set_cons_succ]
              refine takeW 2 37 (.bool true) rfl rfl (by kernel_rfl) (by kernel_rfl) (by kernel_rfl) (fun _ _ _ h => h) (by kernel_rfl) (by (intro w hSw; go_simp)) (by assumption) ?_
              simp only [List.set_cons_zero, List.set_cons_succ]
              refine takeW 3 38 (.pointer (some ⟨Q, 2, none⟩)) rfl rfl (by kernel_rfl) (by kernel_rfl) (by kernel_rfl) (fun _ _ _ h => h) (by kernel_rfl) (by (intro w hSw; go_simp)) (by assumption) ?_
              simp only [List.set_cons_zero, List.set_cons_succ]
              refine takeW 4 39 (.agg #[.int .i64 h.r, .int .i64 h.c, .int .i64 h.b, .int .i64 h.p]) rfl rfl (by kernel_rfl) (by kernel_rfl) (by kernel_rfl) (fun _ _ _ h => h) (by kernel_rfl) (by (intro Y hSw; obtain ⟨X0, X1, X2, X3, X4, X5, X6, X7, X8, X9, X10⟩ := P5.below hSw (by omega); go_simp)) (by assumption) ?_
              simp only [List.set_cons_zero, List.set_cons_succ]
              refine takeW 5 40 (.agg #[.int .i64 id, .slice (some ⟨bk, off, none⟩) L.length cap]) rfl rfl (by kernel_rfl) (by kernel_rfl) (by kernel_rfl) (fun _ _ _ h => h) (by kernel_rfl) (by (intro Y hSw; obtain ⟨X0, X1⟩ := A5.below hSw (by omega); go_simp)) (by assumption) ?_
              simp only [List.set_cons_zero, List.set_cons_succ]
              refine takeW 6 41 (.int .i64 (k : Int)) rfl rfl (by kernel_rfl) (by kernel_rfl) (by kernel_rfl) (fun _ _ _ h => h) (by kernel_rfl) (by (intro w hSw; go_simp)) (by assumption) ?_
              simp only [List.set_cons_zero, List.set_cons_succ]
              refine wpAnyH_all (rs := [7]) (by kernel_rfl) (by simp) ?_
              intro i hi; obtain rfl : i = 7 := by simpa using hi
              refine wpOp_step rfl (fun K hK => ?_)
              rw [if_pos (by kernel_rfl)]
              go_simp
              go_at_call 94
              refine (ownS id (some ⟨bk, off, none⟩) cap L (k : Int) u0 (hv6.below hb0 hB6) hl).mono ?_
              rintro e u1 ⟨rfl, kq⟩
              have hb1 : Below y5.heap.size y5 u1 := hb0.trans (kq.mono hb0.size)
              clear kq
              rw [hov.out]
              refine hK _ _ ⟨hb1, ?_⟩
              clear hK K hi
              refine wpAnyH_all (rs := [8]) (by kernel_rfl) (by simp) ?_
              intro i hi; obtain rfl : i = 8 := by simpa using hi
              refine wpOp_step rfl (fun K hK => ?_)
              rw [if_pos (by kernel_rfl)]
              go_simp
              go_at_call 128
              refine (betterS h.r h.c h.b h.p v1 v2 v3 v4 u1).mono ?_
              rintro e u2 ⟨rfl, kq⟩
              have hb2 : Below y5.heap.size y5 u2 := hb1.trans (kq.mono hb1.size)
              clear kq
              rw [ht.out]
              refine hK _ _ ⟨hb2, ?_⟩
              clear hK K hi
              refine takeW 9 44 (.bool true) rfl rfl (by kernel_rfl) (by kernel_rfl) (by kernel_rfl) (fun _ _ _ h => h) (by kernel_rfl) (by (intro w hSw; go_simp)) (by assumption) ?_
              simp only [List.set_cons_zero, List.set_cons_succ]
              refine wpAnyH_done (by kernel_rfl) ?_ _
              obtain ⟨y6, hy6⟩ : ∃ y_, y_ = u2 := ⟨_, rfl⟩
              rw [← hy6] at hb2 ⊢
              clear hy6
              have P5 := P5.below hb2 (by omega)
              have A5 := A5.below hb2 (by omega)
              have N5 := N5.below hb2 (by omega)
              have K5 := K5.trans (hb2.mono K5.size)
              have M5 := M5.below hb2 (fun g' e => by obtain rfl : g = g' := (by simpa [Value.ownBlock] using e); omega)
              have S5 := P5.lt
              have S6 := N5.lt
              obtain ⟨x0, x1, x2, x3, x4, x5, x6, x7, x8, x9, x10⟩ := P5
              have P5 : PtAt y6 Q h := ⟨x0, x1, x2, x3, x4, x5, x6, x7, x8, x9, x10⟩
              rw [hu.out] at x0
              replace hhas : Hid _ := hhas
              go_upto_region 15 with fail
              clear x0 x1 x2 x3 x4 x5 x6 x7 x8 x9 x10 hb2
              refine wp_region_held (S := fun Y => Bar g y6.heap.size y6 Y) (by kernel_rfl) ?_
              change wpAnyH _ _ _ _ _ _ _ _ (World.drew _)
              have hb0 : Below y6.heap.size y6 y6.drew := (Below.refl _ _).drew
              obtain ⟨u0, hy0⟩ : ∃ y_, y_ = y6.drew := ⟨_, rfl⟩
              rw [← hy0] at hb0 ⊢
              clear hy0
              have hS0 : Bar g y6.heap.size y6 u0 := Bar.of hb0
              refine takeW 0 47 (.pointer (some ⟨N, 1, none⟩)) rfl rfl (by kernel_rfl) (by kernel_rfl) (by kernel_rfl) (fun _ _ _ h => h) (by kernel_rfl) (by (intro w hSw; go_simp)) (by assumption) ?_
              simp only [List.set_cons_zero, List.set_cons_succ]
              refine takeW 1 48 (.slice (some ⟨g, 0, none⟩) L.length capN) rfl rfl (by kernel_rfl) (by kernel_rfl) (by kernel_rfl) (fun _ _ _ h => h) (by kernel_rfl) (by (intro Y hSw; obtain ⟨X0, X1⟩ := N5.at_.bar hSw (by omega) (by omega); go_simp)) (by assumption) ?_
              simp only [List.set_cons_zero, List.set_cons_succ]
              refine takeW 2 49 (.int .i64 (k : Int)) rfl rfl (by kernel_rfl) (by kernel_rfl) (by kernel_rfl) (fun _ _ _ h => h) (by kernel_rfl) (by (intro w hSw; go_simp)) (by assumption) ?_
              simp only [List.set_cons_zero, List.set_cons_succ]
              refine takeW 3 50 (.agg #[.bool h.up, .bool h.has, .int .i64 h.r, .int .i64 h.c, .int .i64 h.b, .int .i64 h.p, .int .i64 h.h, .int .i64 h.l, .int .i64 h.ro, .int .i64 h.wa, .bool h.op]) rfl rfl (by kernel_rfl) (by kernel_rfl) (by kernel_rfl) (fun _ _ _ h => h) (by kernel_rfl) (by (intro Y hSw; obtain ⟨X0, X1, X2, X3, X4, X5, X6, X7, X8, X9, X10⟩ := P5.bar hSw (by omega) (by omega); go_simp)) (by assumption) ?_
              simp only [List.set_cons_zero, List.set_cons_succ]
              refine takeW 4 51 (.int .i64 3) rfl rfl (by kernel_rfl) (by kernel_rfl) (by kernel_rfl) (fun _ _ _ h => h) (by kernel_rfl) (by (intro w hSw; go_simp)) (by assumption) ?_
              simp only [List.set_cons_zero, List.set_cons_succ]
              refine wpAnyH_all (rs := [5]) (by kernel_rfl) (by simp) ?_
              intro i hi; obtain rfl : i = 5 := by simpa using hi
              refine wpOp_step rfl (fun K hK => ?_)
              rw [if_pos (by kernel_rfl)]
              go_simp
              go_at_call 125
              refine (turnS h 3 u0).mono ?_
              rintro e u1 ⟨rfl, kq⟩
              have hb1 : Below y6.heap.size y6 u1 := hb0.trans (kq.mono hb0.size)
              clear kq
              rw [hz3.out]
              have hS1 : Bar g y6.heap.size y6 u1 := Bar.of hb1
              refine hK _ _ ⟨Bar.of hb1, ?_⟩
              clear hK K hi
              refine takeW 6 53 (.pointer (some ⟨g, k * 11, none⟩)) rfl rfl (by kernel_rfl) (by kernel_rfl) (by kernel_rfl) (fun _ _ _ h => h) (by kernel_rfl) (by (intro Y hSw; go_simp; try omega)) (by assumption) ?_
              simp only [List.set_cons_zero, List.set_cons_succ]
              refine wpAnyH_all (rs := [7]) (by kernel_rfl) (by simp) ?_
              intro i hi; obtain rfl : i = 7 := by simpa using hi
              refine wpOp_step rfl (fun K hK => ?_)
              rw [if_pos (by kernel_rfl)]
              have MU : FOwn ptEnc 11 47 y.heap.size u1 (.slice (some ⟨g, 0, none⟩) L.length capN) (markd f L k) := M5.below hb1 (fun g' e => by obtain rfl : g = g' := (by simpa [Value.ownBlock] using e); omega)
              have hml : (markd f L k).length = L.length := markd_len hk
              rw [← hml] at MU
              obtain ⟨t0, t1, t2, t3, t4, t5, t6, t7, t8, t9, t10⟩ : PtAtO u1 g (k * 11) ((markd f L k).getD k Pt.nil) := ptAtO_of (MU.cell ptEnc_len Pt.nil (by rw [hml]; exact hlt))
              have ff := MU.frozen
              have f0 := ff (k * 11)
              have f1 := ff (k * 11 + 1)
              have f2 := ff (k * 11 + 2)
              have f3 := ff (k * 11 + 3)
              have f4 := ff (k * 11 + 4)
              have f5 := ff (k * 11 + 5)
              have f6 := ff (k * 11 + 6)
              have f7 := ff (k * 11 + 7)
              have f8 := ff (k * 11 + 8)
              have f9 := ff (k * 11 + 9)
              have f10 := ff (k * 11 + 10)
              have MS := MU.set ptEnc_len (by omega) (i := k) (by rw [hml]; exact hlt) z
              rw [hz.out, markd_set hlt, ptPut, hml, ← hz.out] at MS
              have SB := Bar.putAll (o := k * 11) (ptEnc z) (Bar.of (g := g) hb1)
              rw [ptPut] at SB
              have BB := below_putAll (B := y.heap.size) hg1 (ptEnc z) (k * 11) (K5.trans (hb1.mono K5.size))
              rw [ptPut] at BB
              clear hml ff MU
              obtain ⟨uf, huf⟩ : ∃ y_, y_ = (((((((((((u1.setCell ⟨g, k * 11, none⟩ (.bool z.up)).setCell ⟨g, k * 11 + 1, none⟩ (.bool z.has)).setCell ⟨g, k * 11 + 2, none⟩ (.int .i64 z.r)).setCell ⟨g, k * 11 + 3, none⟩ (.int .i64 z.c)).setCell ⟨g, k * 11 + 4, none⟩ (.int .i64 z.b)).setCell ⟨g, k * 11 + 5, none⟩ (.int .i64 z.p)).setCell ⟨g, k * 11 + 6, none⟩ (.int .i64 z.h)).setCell ⟨g, k * 11 + 7, none⟩ (.int .i64 z.l)).setCell ⟨g, k * 11 + 8, none⟩ (.int .i64 z.ro)).setCell ⟨g, k * 11 + 9, none⟩ (.int .i64 z.wa)).setCell ⟨g, k * 11 + 10, none⟩ (.bool z.op)) := ⟨_, rfl⟩
              rw [← huf] at MS SB BB
              go_simp
              rw [← huf]
              have NF := N5.at_.bar SB (by omega) (by omega)
              have NFF : BBox uf N id (.slice (some ⟨g, 0, none⟩) L.length capN) := N5.keep (SB.block N (by omega) (by omega))
              clear huf t0 f0 t1 f1 t2 f2 t3 f3 t4 f4 t5 f5 t6 f6 t7 f7 t8 f8 t9 f9 t10 f10 NF
              refine hK _ _ ⟨SB, ?_⟩
              clear hK K hi
              refine wpAnyH_done (by kernel_rfl) ?_ _
              go_wp2
              go_roundw
              case rel => exact ⟨k + 1, by omega, by go_num, MS, NFF, BB⟩
              case measure => simp [intOf]; omega
      · obtain rfl : k = L.length := by omega
        rw [markd_all] at M
        have RP := R4.put id (.slice (some ⟨g, 0, none⟩) L.length capN)
        obtain ⟨⟨r0, r1⟩, rf⟩ := R4
        obtain ⟨⟨n0, n1⟩, nf⟩ := N4
        have BZ : Below w.heap.size w ((wr.setCell ⟨w.heap.size + 1, 0, none⟩ (.int .i64 id)).setCell ⟨w.heap.size + 1, 1, none⟩ (.slice (some ⟨g, 0, none⟩) L.length capN)) := (B4.setCell (by show _ ≤ w.heap.size + 1; omega) _).setCell (by show _ ≤ w.heap.size + 1; omega) _
        have OZ : FOwn ptEnc 11 47 w.heap.size ((wr.setCell ⟨w.heap.size + 1, 0, none⟩ (.int .i64 id)).setCell ⟨w.heap.size + 1, 1, none⟩ (.slice (some ⟨g, 0, none⟩) L.length capN)) (.slice (some ⟨g, 0, none⟩) L.length capN) ((List.range L.length).map f) := (M.base (by omega)).keep fun g' e => by
          obtain rfl : g = g' := by simpa [Value.ownBlock] using e
          rw [Below.heap_setCell _ _ _ _ (by show g ≠ w.heap.size + 1; omega), Below.heap_setCell _ _ _ _ (by show g ≠ w.heap.size + 1; omega)]
        have hDl : D.length = L.length := by rw [hD2.out]; simp
        replace hDl : Hid _ := hDl
        obtain ⟨⟨p0, p1⟩, _⟩ := RP
        go_wp2
        refine bodyPost_ret (v := .agg #[.int .i64 id, .slice (some ⟨g, 0, none⟩) L.length capN]) (by simp [results, Tryz.results115, go_sem, *]) rfl ⟨_, _, by rw [hDl.out], by rw [hDl.out, hD2.out]; exact OZ, BZ⟩

end Go.Proofs.YthgcbihhdbpbdaaGreatDoor
