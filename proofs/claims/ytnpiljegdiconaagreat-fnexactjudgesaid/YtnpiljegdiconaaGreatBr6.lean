/- impl.Own, impl.Hops, walked. -/
import Derived.Test.YtnpiljegdiconaaGreatRows
import Derived.WalkKit
import Derived.ProofKit
import Derived.OpenShut
import Derived.ShutString
import Derived.ChangeOld
import Derived.Below
import Derived.Deep.QuietTactic
import Derived.BigQuiet
import Derived.WalkSmall
import Derived.Laws.OwnMore
import Derived.WalkSpells
import Derived.WalkLawsBesides
import Derived.Deep.Cut
import Derived.Test.YtnpiljegdiconaaGreatBr5
import Derived.Test.YtnpiljegdiconaaGreatVecIn
namespace Go.Proofs.YtnpiljegdiconaaGreat
open Go.ChangeShapes Go.WideShapes Go.ChangeAt Go.RowKit
open Go.ChangeMaps (open_string shut_string)
set_option linter.unusedVariables false
set_option maxRecDepth 100000

/-- A claim's box that may be written. -/
structure VBox (w : World) (q : Nat) (r c b p : Int) : Prop where
  at_ : VecAt w q r c b p
  fr : ∀ i, w.frozen? ⟨q, i, none⟩ = false
theorem VBox.lt {w : World} {q : Nat} {r c b p : Int} (h : VBox w q r c b p) : q < w.heap.size := World.block_lt_of_cell? w _ h.at_.1
theorem VBox.below {w w' : World} {q n : Nat} {r c b p : Int} (h : VBox w q r c b p) (k : Below n w w') (hq : q < n) : VBox w' q r c b p :=
  ⟨h.at_.below k hq, fun i => (World.frozen?_of_block (a := ⟨q, i, none⟩) (k.block q hq)).trans (h.fr i)⟩
set_option maxHeartbeats 4000000 in
theorem ownI (id : Int) (ad : Option Addr) (cap : Nat) (L : List Pt) (port : Int) (w : World) (hv : FView ptEnc w ad L) (hl : L.length ≤ 1048576) :
    Calls Tryz.prog 221 #[.agg #[.int .i64 id, .slice ad L.length cap], .int .i64 port] w fun e w' => e = .returned (.agg #[.int .i64 (ownR id L port).1, .int .i64 (ownR id L port).2.1, .int .i64 (ownR id L port).2.2.1, .int .i64 (ownR id L port).2.2.2]) ∧ Below w.heap.size w w' := by
  have hB := hv.lt ptEnc_len (by omega)
  obtain ⟨y, hy⟩ : ∃ y, y = (w.alloc (Obj.cells #[.int .i64 id, .slice ad L.length cap] 56)).alloc (Obj.cells #[.int .i64 0, .int .i64 0, .int .i64 0, .int .i64 0] 103) := ⟨_, rfl⟩
  have B0 : Below w.heap.size w y := by rw [hy]; exact ((Below.refl _ _).alloc (Nat.le_refl _) _).alloc (by simp) _
  have A0 : BrAt y w.heap.size id (.slice ad L.length cap) := by rw [hy]; constructor <;> simp [go_sem]
  have V0 : VBox y (w.heap.size + 1) 0 0 0 0 := by rw [hy]; refine ⟨?_, fun i => ?_⟩; (refine ⟨?_, ?_, ?_, ?_⟩ <;> simp [go_sem]); simp [go_sem]
  have S0 : w.heap.size + 1 < y.heap.size := V0.lt
  have hv1 := hv.below B0 hB
  have hB1 := hv1.lt ptEnc_len (by omega)
  obtain ⟨Y, hY⟩ : ∃ Y, Y = ownR id L port := ⟨_, rfl⟩
  rw [← hY]
  replace hY : Hid _ := hY
  go_enter Tryz.func221, Tryz.ntmps221
  go_wp2_with fail
  go_at_call 79
  rw [← hy]
  clear hy hv hB
  refine (bOkI id ad cap L y hv1 hl).mono ?_
  rintro e w1 ⟨rfl, k1⟩
  have B1 : Below w.heap.size w w1 := B0.trans (k1.mono B0.size)
  have A1 := A0.below k1 (by omega)
  have V1 := V0.below k1 (by omega)
  have S1 : w.heap.size + 1 < w1.heap.size := V1.lt
  have hv2 := hv1.below k1 hB1
  have hB2 := hv2.lt ptEnc_len (by omega)
  clear A0 V0 hv1 hB1 k1 B0 S0
  cases hb : bOk id L with
  | false =>
    have hN : Hid (Y = (0, 0, 0, 0)) := by unfold Hid; rw [hY.out]; unfold ownR; rw [hb]; rfl
    clear hY
    obtain ⟨⟨t0, t1, t2, t3⟩, tf⟩ := V1
    have BZ := B1.setCell (p := ⟨w.heap.size + 1, 0, none⟩) (by show _ ≤ w.heap.size + 1; omega) (.int .i64 0)
    have BZ := BZ.setCell (p := ⟨w.heap.size + 1, 1, none⟩) (by show _ ≤ w.heap.size + 1; omega) (.int .i64 0)
    have BZ := BZ.setCell (p := ⟨w.heap.size + 1, 2, none⟩) (by show _ ≤ w.heap.size + 1; omega) (.int .i64 0)
    have BZ := BZ.setCell (p := ⟨w.heap.size + 1, 3, none⟩) (by show _ ≤ w.heap.size + 1; omega) (.int .i64 0)
    go_wp2
    refine bodyPost_ret (v := .agg #[.int .i64 0, .int .i64 0, .int .i64 0, .int .i64 0]) (by simp [results, Tryz.results221, go_sem, *]) rfl ⟨by rw [hN.out], BZ⟩
  | true =>
    have hlen := (bOk_all hb).2.1
    by_cases hp : 0 ≤ port ∧ port < (L.length : Int)
    rotate_left
    · have hN : Hid (Y = (0, 0, 0, 0)) := by unfold Hid; rw [hY.out]; unfold ownR; rw [hb, decide_eq_false hp]; rfl
      have dp : decide (0 ≤ port ∧ port < (L.length : Int)) = false := decide_eq_false hp
      clear hY
      obtain ⟨a0, a1⟩ := A1
      replace hp : Hid _ := hp
      go_wp2_with fail
      go_at_call 191
      refine (portIsI id ad cap L port w1 hl).mono ?_
      rintro e w2 ⟨rfl, kp⟩
      rw [dp]
      have B2 := B1.trans (kp.mono B1.size)
      have V2 := V1.below kp S1
      clear dp
      obtain ⟨⟨t0, t1, t2, t3⟩, tf⟩ := V2
      have BZ := B2.setCell (p := ⟨w.heap.size + 1, 0, none⟩) (by show _ ≤ w.heap.size + 1; omega) (.int .i64 0)
      have BZ := BZ.setCell (p := ⟨w.heap.size + 1, 1, none⟩) (by show _ ≤ w.heap.size + 1; omega) (.int .i64 0)
      have BZ := BZ.setCell (p := ⟨w.heap.size + 1, 2, none⟩) (by show _ ≤ w.heap.size + 1; omega) (.int .i64 0)
      have BZ := BZ.setCell (p := ⟨w.heap.size + 1, 3, none⟩) (by show _ ≤ w.heap.size + 1; omega) (.int .i64 0)
      go_wp2
      refine bodyPost_ret (v := .agg #[.int .i64 0, .int .i64 0, .int .i64 0, .int .i64 0]) (by simp [results, Tryz.results221, go_sem, *]) rfl ⟨by rw [hN.out], BZ⟩
    have dp : decide (0 ≤ port ∧ port < (L.length : Int)) = true := decide_eq_true hp
    have hN : Hid (Y = match rootO id L with
      | none => (id, 0, id, port)
      | some k => ((L.getD k Pt.nil).r, (L.getD k Pt.nil).c + 1, id, port)) := by unfold Hid; rw [hY.out]; unfold ownR; rw [hb, dp]; rfl
    clear hY
    replace hp : Hid _ := hp
    obtain ⟨a0, a1⟩ := A1
    go_wp2_with fail
    go_at_call 191
    refine (portIsI id ad cap L port w1 hl).mono ?_
    rintro e w2 ⟨rfl, kp⟩
    rw [dp]
    have B2 := B1.trans (kp.mono B1.size)
    have A2 := BrAt.below ⟨a0, a1⟩ kp (by omega)
    have V2 := V1.below kp S1
    have S2 : w.heap.size + 1 < w2.heap.size := V2.lt
    have hv3 := hv2.below kp hB2
    have hB3 := hv3.lt ptEnc_len (by omega)
    clear dp a0 a1 kp V1 hv2 hB2 B1
    obtain ⟨a0, a1⟩ := A2
    go_wp2_with fail
    go_at_call 244
    refine (rootPI id ad cap L w2 hv3 hl).mono ?_
    rintro e w3 ⟨rfl, k3⟩
    have B3 := B2.trans (k3.mono B2.size)
    have A3 := BrAt.below ⟨a0, a1⟩ k3 (by omega)
    have V3 := V2.below k3 S2
    have S3 : w.heap.size + 1 < w3.heap.size := V3.lt
    have hv4 := hv3.below k3 hB3
    clear a0 a1 k3 V2 hv3 hB3 B2
    obtain ⟨a0, a1⟩ := A3
    obtain ⟨⟨t0, t1, t2, t3⟩, tf⟩ := V3
    cases hr : rootO id L with
    | none =>
      have hN2 : Hid (Y = (id, 0, id, port)) := by unfold Hid; rw [hN.out, hr]
      clear hN
      have BZ := B3.setCell (p := ⟨w.heap.size + 1, 0, none⟩) (by show _ ≤ w.heap.size + 1; omega) (.int .i64 id)
      have BZ := BZ.setCell (p := ⟨w.heap.size + 1, 1, none⟩) (by show _ ≤ w.heap.size + 1; omega) (.int .i64 0)
      have BZ := BZ.setCell (p := ⟨w.heap.size + 1, 2, none⟩) (by show _ ≤ w.heap.size + 1; omega) (.int .i64 id)
      have BZ := BZ.setCell (p := ⟨w.heap.size + 1, 3, none⟩) (by show _ ≤ w.heap.size + 1; omega) (.int .i64 port)
      simp only [oI, Option.isSome]
      go_wp2
      refine bodyPost_ret (v := .agg #[.int .i64 id, .int .i64 0, .int .i64 id, .int .i64 port]) (by simp [results, Tryz.results221, go_sem, *]) rfl ⟨by rw [hN2.out], BZ⟩
    | some k =>
      obtain ⟨_, hk, hcd⟩ := rootO_some hr
      obtain ⟨g, hg⟩ : ∃ g, L.getD k Pt.nil = g := ⟨_, rfl⟩
      have hN2 : Hid (Y = (g.r, g.c + 1, id, port)) := by unfold Hid; rw [hN.out, hr, ← hg]
      have hc20 : g.c < 20 := by
        rw [hg] at hcd
        simp only [cand, Bool.and_eq_true, decide_eq_true_eq] at hcd
        exact hcd.2.2.2.1
      have hc0 : 0 ≤ g.c := by
        rw [hg] at hcd
        simp only [cand, Bool.and_eq_true, decide_eq_true_eq] at hcd
        have h1 := (bOk_all hb).2.2 k
        rw [hg] at h1
        have h2 := (pOk_has h1 hcd.1).2.1
        simp only [vOk, decide_eq_true_eq] at h2
        omega
      obtain ⟨bk, off, rfl, _⟩ := hv4 (by omega)
      obtain ⟨c0, c1, c2, c3, c4, c5, c6, c7, c8, c9, c10⟩ : PtAtO w3 bk (off + k * 11) g := by rw [← hg]; exact ptAtO_of (hv4.at_ ptEnc_len Pt.nil hk)
      clear hN hg hcd hr hv4
      obtain ⟨y4, hy4⟩ : ∃ y_, y_ = w3.alloc (Obj.cells #[.int .i64 g.r, .int .i64 g.c, .int .i64 g.b, .int .i64 g.p] 103) := ⟨_, rfl⟩
      have kn : Below w3.heap.size w3 y4 := by rw [hy4]; exact below_new _
      have G4 : VecAt y4 w3.heap.size g.r g.c g.b g.p := by rw [hy4]; exact vecAt_box w3 _ _ _ _ _
      have A4 := BrAt.below ⟨a0, a1⟩ kn (by omega)
      have V4 := VBox.below ⟨⟨t0, t1, t2, t3⟩, tf⟩ kn (by omega)
      have B4 := B3.trans (kn.mono B3.size)
      simp only [oI, Option.isSome]
      go_upto_region 7 with fail
      rw [← hy4]
      clear hy4 a0 a1 t0 t1 t2 t3 tf kn c0 c1 c2 c3 c4 c5 c6 c7 c8 c9 c10
      generalize w3.heap.size = Q at S3 G4 ⊢
      obtain ⟨a0, a1⟩ := A4
      obtain ⟨⟨t0, t1, t2, t3⟩, tf⟩ := V4
      obtain ⟨g0, g1, g2, g3⟩ := G4
      have BZ := B4.setCell (p := ⟨w.heap.size + 1, 0, none⟩) (by show _ ≤ w.heap.size + 1; omega) (.int .i64 g.r)
      have BZ := BZ.setCell (p := ⟨w.heap.size + 1, 1, none⟩) (by show _ ≤ w.heap.size + 1; omega) (.int .i64 (g.c + 1))
      have BZ := BZ.setCell (p := ⟨w.heap.size + 1, 2, none⟩) (by show _ ≤ w.heap.size + 1; omega) (.int .i64 id)
      have BZ := BZ.setCell (p := ⟨w.heap.size + 1, 3, none⟩) (by show _ ≤ w.heap.size + 1; omega) (.int .i64 port)
      go_wp2
      refine bodyPost_ret (v := .agg #[.int .i64 g.r, .int .i64 (g.c + 1), .int .i64 id, .int .i64 port]) (by simp [results, Tryz.results221, go_sem, *]) rfl ⟨by rw [hN2.out], BZ⟩
set_option maxHeartbeats 2000000 in
theorem hopsI (id : Int) (ad : Option Addr) (cap : Nat) (L : List Pt) (w : World) (hv : FView ptEnc w ad L) (hl : L.length ≤ 1048576) :
    Calls Tryz.prog 222 #[.agg #[.int .i64 id, .slice ad L.length cap]] w fun e w' => e = .returned (.int .i64 (hopsR id L)) ∧ Below w.heap.size w w' := by
  have hB := hv.lt ptEnc_len (by omega)
  obtain ⟨y, hy⟩ : ∃ y, y = w.alloc (Obj.cells #[.int .i64 id, .slice ad L.length cap] 56) := ⟨_, rfl⟩
  have B0 : Below w.heap.size w y := by rw [hy]; exact below_new _
  have A0 : BrAt y w.heap.size id (.slice ad L.length cap) := by rw [hy]; exact BrAt.new w _ _ _
  have S0 := A0.lt
  have hv1 := hv.below B0 hB
  have hB1 := hv1.lt ptEnc_len (by omega)
  obtain ⟨Y, hY⟩ : ∃ Y, Y = hopsR id L := ⟨_, rfl⟩
  rw [← hY]
  replace hY : Hid _ := hY
  go_enter Tryz.func222, Tryz.ntmps222
  go_wp2_with fail
  go_at_call 244
  rw [← hy]
  clear hy hv hB
  refine (rootPI id ad cap L y hv1 hl).mono ?_
  rintro e w3 ⟨rfl, k3⟩
  have B3 := B0.trans (k3.mono B0.size)
  obtain ⟨a0, a1⟩ := A0.below k3 (by omega)
  have hv4 := hv1.below k3 hB1
  clear k3 hv1 hB1 A0
  cases hr : rootO id L with
  | none =>
    have hN2 : Hid (Y = 0) := by unfold Hid; rw [hY.out]; unfold hopsR; rw [hr]
    simp only [oI, Option.isSome]
    go_wp2
    go_ret
    exact ⟨by rw [hN2.out]; rfl, B3⟩
  | some k =>
    obtain ⟨hb, hk, hcd⟩ := rootO_some hr
    obtain ⟨g, hg⟩ : ∃ g, L.getD k Pt.nil = g := ⟨_, rfl⟩
    have hN2 : Hid (Y = g.h + 1) := by unfold Hid; rw [hY.out]; unfold hopsR; rw [hr, ← hg]
    have hlen := (bOk_all hb).2.1
    have hh8 : 0 ≤ g.h ∧ g.h < 8 := by
      rw [hg] at hcd
      simp only [cand, Bool.and_eq_true, decide_eq_true_eq] at hcd
      have h1 := (bOk_all hb).2.2 k
      rw [hg] at h1
      exact ⟨(pOk_has h1 hcd.1).2.2.1, hcd.2.2.2.2⟩
    obtain ⟨h0, h8⟩ := hh8
    obtain ⟨bk, off, rfl, _⟩ := hv4 (by omega)
    obtain ⟨c0, c1, c2, c3, c4, c5, c6, c7, c8, c9, c10⟩ : PtAtO w3 bk (off + k * 11) g := by rw [← hg]; exact ptAtO_of (hv4.at_ ptEnc_len Pt.nil hk)
    clear hY hg hcd hr hv4 hb
    simp only [oI, Option.isSome]
    go_wp2
    go_ret
    exact ⟨by rw [hN2.out]; rfl, B3⟩

end Go.Proofs.YtnpiljegdiconaaGreat
