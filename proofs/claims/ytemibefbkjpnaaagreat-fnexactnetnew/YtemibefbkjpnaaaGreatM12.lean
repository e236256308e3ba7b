/- impl.endsFit, walked. impl.NetOk, walked. slices.Clone of links and impl.raise, walked. -/
import Derived.Test.YtemibefbkjpnaaaGreatRows
import Derived.WalkKit
import Derived.ProofKit
import Derived.OpenShut
import Derived.ShutString
import Derived.ChangeOld
import Derived.Below
import Derived.Deep.QuietTactic
import Derived.BigQuiet
import Derived.WalkSmall
import Derived.Laws.OwnMore
import Derived.WalkSpells
import Derived.WalkLawsBesides
import Derived.Deep.Cut
import Derived.Laws.StructEq
import Derived.Test.YtemibefbkjpnaaaGreatKNo2
import Derived.Test.YtemibefbkjpnaaaGreatKNi1
import Derived.Test.YtemibefbkjpnaaaGreatKNi3
import Derived.Maps.AppendAt
import Derived.Test.YtemibefbkjpnaaaGreatM4
import Derived.Test.YtemibefbkjpnaaaGreatM11
import Derived.Test.YtemibefbkjpnaaaGreatM10
namespace Go.Proofs.YtemibefbkjpnaaaGreat
open Go.ChangeShapes Go.WideShapes Go.ChangeAt Go.RowKit
open Go.ChangeMaps (open_string shut_string)
set_option linter.unusedVariables false
set_option maxRecDepth 100000

/-- A link leads from a port that there is to one of another bridge. -/
def LinkP (B : List Bg) (l : Lk) : Prop := l.a ≠ l.b ∧ PortP B l.a l.p ∧ PortP B l.b l.q
theorem LkAtO.keep {w w' : World} {q o : Nat} {x : Lk} (h : LkAtO w q o x) (k : w'.heap[q]? = w.heap[q]?) : LkAtO w' q o x :=
  ⟨(World.cell?_of_block (a := ⟨q, o, none⟩) k).trans h.c0, (World.cell?_of_block (a := ⟨q, o + 1, none⟩) k).trans h.c1, (World.cell?_of_block (a := ⟨q, o + 2, none⟩) k).trans h.c2, (World.cell?_of_block (a := ⟨q, o + 3, none⟩) k).trans h.c3⟩
set_option maxHeartbeats 8000000 in
theorem eFitI (adB : Option Addr) (capB : Nat) (Bs : List Bd) (adK : Option Addr) (capK : Nat) (K : List Lk) (w : World) (hN : NN w adB Bs adK K) :
    Calls Tryz.prog 41 #[.agg #[.slice adB Bs.length capB, .slice adK K.length capK]] w fun e w' => YN e (∀ j, j < K.length → LinkP (dB Bs) (K.getD j Lk.nil)) ∧ Below w.heap.size w w' := by
  suffices H : ∀ Q : Prop, Hid (Q ↔ ∀ j, j < K.length → LinkP (dB Bs) (K.getD j Lk.nil)) → Calls Tryz.prog 41 #[.agg #[.slice adB Bs.length capB, .slice adK K.length capK]] w fun e w' => YN e Q ∧ Below w.heap.size w w' from H _ Iff.rfl
  intro Q hQ
  have hv := hN.vk
  have hl := hN.hk
  have hB := hv.lt lkEnc_len (by omega)
  obtain ⟨y, hy⟩ : ∃ y, y = w.alloc (Obj.cells #[.slice adB Bs.length capB, .slice adK K.length capK] 27) := ⟨_, rfl⟩
  have B0 : Below w.heap.size w y := by rw [hy]; exact below_new _
  have A0 : NeAt y w.heap.size (.slice adB Bs.length capB) (.slice adK K.length capK) := by rw [hy]; exact NeAt.new w _
  go_enter Tryz.func41, Tryz.ntmps41
  go_wp2
  rw [← hy]
  clear hy
  go_loopw [9] (fun i wr => ∃ k : Nat, k ≤ K.length ∧ i = .int .i64 k ∧ Hid (∀ j, j < k → LinkP (dB Bs) (K.getD j Lk.nil)) ∧ Below w.heap.size w wr ∧ NeAt wr w.heap.size (.slice adB Bs.length capB) (.slice adK K.length capK)) (fun i _ => K.length - (intOf i).toNat)
  case atStart => exact ⟨0, Nat.zero_le _, rfl, fun j hj => absurd hj (by omega), B0, A0⟩
  case round =>
    obtain ⟨k, hk, rfl, hF, hb, A⟩ := hrel
    clear B0 A0
    by_cases hlt : k < K.length
    · obtain ⟨b, off, rfl, _⟩ := hv (by omega)
      obtain ⟨x, hh⟩ : ∃ h, K.getD k Lk.nil = h := ⟨_, rfl⟩
      have hck : LkAtO wr b (off + k * 4) x := by
        rw [← hh]
        exact lkAtO_of ((hv.below hb hB).at_ lkEnc_len Lk.nil hlt)
      replace hh : Hid _ := hh
      obtain ⟨c0, c1, c2, c3⟩ := hck
      obtain ⟨u, hu⟩ : ∃ u, u = wr.alloc (Obj.cells #[.int .i64 x.a, .int .i64 x.p, .int .i64 x.b, .int .i64 x.q] 34) := ⟨_, rfl⟩
      have bu : Below w.heap.size w u := by rw [hu]; exact hb.alloc hb.size _
      have Au : NeAt u w.heap.size (.slice adB Bs.length capB) (.slice (some ⟨b, off, none⟩) K.length capK) := by rw [hu]; exact A.below (below_new _) A.lt
      have Xu : LkAtO u wr.heap.size 0 x := by rw [hu]; constructor <;> simp [go_sem]
      have xl : wr.heap.size < u.heap.size := World.block_lt_of_cell? u _ Xu.c0
      clear hv hB
      go_wp2_with fail
      go_at_call 63
      rw [← hu]
      clear hu c0 c1 c2 c3 A hb
      refine (endsI x u).mono ?_
      rintro e u1 ⟨rfl, k1⟩
      have b1 := bu.trans (k1.mono bu.size)
      have A1 := Au.below k1 Au.lt
      have X1 := Xu.below k1 xl
      have s1 := k1.size
      clear k1 Au bu Xu
      obtain ⟨z, hz⟩ : ∃ z, z = u1.alloc (Obj.cells #[.int .i64 x.a, .int .i64 x.p, .int .i64 x.b, .int .i64 x.q] 92) := ⟨_, rfl⟩
      have bz : Below w.heap.size w z := by rw [hz]; exact b1.alloc b1.size _
      have kz : Below u1.heap.size u1 z := by rw [hz]; exact below_new _
      have Az := A1.below kz A1.lt
      have Xz := X1.below kz (by omega)
      have Zz : LkAtO z u1.heap.size 0 x := by rw [hz]; constructor <;> simp [go_sem]
      have zl : u1.heap.size < z.heap.size := World.block_lt_of_cell? z _ Zz.c0
      clear kz A1 X1 b1
      by_cases h1 : x.a = x.b
      · have e1 : (x.a == x.b) = true := by simp [h1]
        have e2 : decide (x.a = x.b) = true := decide_eq_true h1
        replace h1 : Hid _ := h1
        go_upto_region 5 with fail
        rw [← hz]
        clear hz
        obtain ⟨q0, q1, q2, q3⟩ := Xz
        simp only [Nat.zero_add] at q0 q1 q2 q3
        go_wp2
        go_ret
        refine ⟨YN.no (fun h => ?_), bz⟩
        have := (hQ.out.1 h) k hlt
        rw [hh.out] at this
        exact this.1 h1.out
      have e1 : (x.a == x.b) = false := by simp [h1]
      have e2 : decide (x.a = x.b) = false := decide_eq_false h1
      replace h1 : Hid _ := h1
      go_upto_region 5 with fail
      rw [← hz]
      clear hz
      have cc := Xz
      obtain ⟨q0, q1, q2, q3⟩ := cc
      have dd := Zz
      obtain ⟨z0, z1, z2, z3⟩ := dd
      have ee := Az
      obtain ⟨a0, a1⟩ := ee
      simp only [Nat.zero_add] at q0 q1 q2 q3 z0 z1 z2 z3
      go_wp2_with fail
      go_at_call 82
      clear q0 q1 q2 q3 z0 z1 z2 z3 a0 a1
      refine (eIsOfI adB capB Bs (some ⟨b, off, none⟩) capK K x.a x.p z (hN.later bz)).mono ?_
      rintro e z1 ⟨⟨R1, rfl, hR1⟩, k1⟩
      have bz1 := bz.trans (k1.mono bz.size)
      have Az := Az.below k1 Az.lt
      have Xz := Xz.below k1 (by omega)
      have Zz := Zz.below k1 zl
      have zl1 := Nat.lt_of_lt_of_le zl k1.size
      clear k1 bz
      by_cases h2 : PortP (dB Bs) x.a x.p
      rotate_left
      · obtain rfl : R1 = false := by
          rcases Bool.eq_false_or_eq_true R1 with q | q
          · exact absurd (hR1.1 q) h2
          · exact q
        clear hR1
        replace h2 : Hid _ := h2
        go_wp2
        go_ret
        refine ⟨YN.no (fun h => ?_), bz1⟩
        have := (hQ.out.1 h) k hlt
        rw [hh.out] at this
        exact h2.out this.2.1
      obtain rfl : R1 = true := hR1.2 h2
      clear hR1
      replace h2 : Hid _ := h2
      have cc := Xz
      obtain ⟨q0, q1, q2, q3⟩ := cc
      have dd := Zz
      obtain ⟨z0, z1_, z2, z3⟩ := dd
      have ee := Az
      obtain ⟨a0, a1⟩ := ee
      simp only [Nat.zero_add] at q0 q1 q2 q3 z0 z1_ z2 z3
      go_wp2_with fail
      go_at_call 82
      clear q0 q1 q2 q3 z0 z1_ z2 z3 a0 a1
      refine (eIsOfI adB capB Bs (some ⟨b, off, none⟩) capK K x.b x.q z1 (hN.later bz1)).mono ?_
      rintro e z2 ⟨⟨R2, rfl, hR2⟩, k2⟩
      have bz2 := bz1.trans (k2.mono bz1.size)
      have Az := Az.below k2 Az.lt
      clear k2 bz1
      by_cases h3 : PortP (dB Bs) x.b x.q
      rotate_left
      · obtain rfl : R2 = false := by
          rcases Bool.eq_false_or_eq_true R2 with q | q
          · exact absurd (hR2.1 q) h3
          · exact q
        clear hR2
        replace h3 : Hid _ := h3
        go_wp2
        go_ret
        refine ⟨YN.no (fun h => ?_), bz2⟩
        have := (hQ.out.1 h) k hlt
        rw [hh.out] at this
        exact h3.out this.2.2
      obtain rfl : R2 = true := hR2.2 h3
      clear hR2
      replace h3 : Hid _ := h3
      go_wp2
      go_roundw
      case rel =>
        refine ⟨k + 1, by omega, by go_num, fun j hj => ?_, bz2, Az⟩
        by_cases ej : j = k
        · rw [ej, hh.out]; exact ⟨h1.out, h2.out, h3.out⟩
        · exact hF.out j (by omega)
      case measure => simp [intOf]; omega
    · obtain rfl : k = K.length := by omega
      go_wp2
      go_ret
      exact ⟨YN.yes (hQ.out.2 hF.out), hb⟩

end Go.Proofs.YtemibefbkjpnaaaGreat
namespace Go.Proofs.YtemibefbkjpnaaaGreat
open Go.ChangeShapes Go.WideShapes Go.ChangeAt Go.RowKit
open Go.ChangeMaps (open_string shut_string)
set_option linter.unusedVariables false
set_option maxRecDepth 100000

theorem netP_impl {B : List Bg} {K : List Lk} : NetP B K ↔ ((1 ≤ B.length ∧ B.length ≤ 5) ∧ FitTo B B.length) ∧ K.length ≤ 6 ∧ (∀ j, j < K.length → LinkP B (K.getD j Lk.nil)) ∧ PortsTo B K B.length := by
  constructor
  · intro h
    refine ⟨⟨h.many, h.ok, fun i k hi hk e => ?_⟩, h.few, fun j hj => ?_, h.once⟩
    · have := h.inj k i (by omega) hi e
      omega
    · have hm : K.getD j Lk.nil ∈ K := by
        rw [show K.getD j Lk.nil = K[j] by simp [List.getD, hj]]
        exact List.getElem_mem hj
      obtain ⟨q1, q2, q3⟩ := h.link _ hm
      exact ⟨q1, q2.port, q3.port⟩
  · rintro ⟨⟨h1, h2, h3⟩, h4, h5, h6⟩
    refine ⟨h1, h4, h2, unlike_inj h3, h6, fun l hl => ?_⟩
    obtain ⟨j, hj, rfl⟩ := List.getElem_of_mem hl
    have := h5 j hj
    rw [show K.getD j Lk.nil = K[j] by simp [List.getD, hj]] at this
    obtain ⟨q1, q2, q3⟩ := this
    have o := once_in hl
    exact ⟨q1, end_up h6 q2 o.1, end_up h6 q3 o.2⟩
theorem bool_no {R : Bool} {Q : Prop} (h : R = true ↔ Q) (n : ¬ Q) : R = false := by
  rcases Bool.eq_false_or_eq_true R with q | q
  · exact absurd (h.1 q) n
  · exact q
set_option maxHeartbeats 4000000 in
theorem netOkI (adB : Option Addr) (capB : Nat) (Bs : List Bd) (adK : Option Addr) (capK : Nat) (K : List Lk) (w : World) (hN : NN w adB Bs adK K) (hcap : Bs.length ≤ capB) :
    Calls Tryz.prog 10 #[.agg #[.slice adB Bs.length capB, .slice adK K.length capK]] w fun e w' => YN e (NetP (dB Bs) K) ∧ Below w.heap.size w w' := by
  suffices H : ∀ Q : Prop, Hid (Q ↔ NetP (dB Bs) K) → Calls Tryz.prog 10 #[.agg #[.slice adB Bs.length capB, .slice adK K.length capK]] w fun e w' => YN e Q ∧ Below w.heap.size w w' from H _ Iff.rfl
  intro Q hQ0
  have hQ : Hid (Q ↔ ((1 ≤ (dB Bs).length ∧ (dB Bs).length ≤ 5) ∧ FitTo (dB Bs) (dB Bs).length) ∧ K.length ≤ 6 ∧ (∀ j, j < K.length → LinkP (dB Bs) (K.getD j Lk.nil)) ∧ PortsTo (dB Bs) K (dB Bs).length) := hQ0.out.trans netP_impl
  clear hQ0
  obtain ⟨y, hy⟩ : ∃ y, y = w.alloc (Obj.cells #[.slice adB Bs.length capB, .slice adK K.length capK] 27) := ⟨_, rfl⟩
  have B0 : Below w.heap.size w y := by rw [hy]; exact below_new _
  have A0 : NeAt y w.heap.size (.slice adB Bs.length capB) (.slice adK K.length capK) := by rw [hy]; exact NeAt.new w _
  have l0 := A0.lt
  have hk := hN.hk
  go_enter Tryz.func10, Tryz.ntmps10
  go_wp2_with fail
  go_at_call 40
  rw [← hy]
  clear hy
  refine (bFitI adB capB Bs y (hN.later B0).vb hN.hl hN.hls hcap).mono ?_
  rintro e w1 ⟨⟨R1, rfl, hR1⟩, k1⟩
  have B1 := B0.trans (k1.mono B0.size)
  have A1 := A0.below k1 l0
  clear A0 k1 B0
  by_cases h1 : (1 ≤ (dB Bs).length ∧ (dB Bs).length ≤ 5) ∧ FitTo (dB Bs) (dB Bs).length
  rotate_left
  · obtain rfl := bool_no hR1 h1
    clear hR1
    replace h1 : Hid _ := h1
    go_wp2
    go_ret
    exact ⟨YN.no (fun h => h1.out (hQ.out.1 h).1), B1⟩
  obtain rfl : R1 = true := hR1.2 h1
  clear hR1
  replace h1 : Hid _ := h1
  have cc := A1
  obtain ⟨c0, c1⟩ := cc
  by_cases h2 : K.length ≤ 6
  rotate_left
  · have d2 : decide ((K.length : Int) ≤ 6) = false := decide_eq_false (by omega)
    have d3 : ¬ (K.length : Int) ≤ 6 := by omega
    replace h2 : Hid _ := h2
    go_wp2
    go_ret
    exact ⟨YN.no (fun h => h2.out (hQ.out.1 h).2.1), B1⟩
  have d2 : decide ((K.length : Int) ≤ 6) = true := decide_eq_true (by omega)
  have d3 : (K.length : Int) ≤ 6 := by omega
  replace h2 : Hid _ := h2
  go_wp2_with fail
  go_at_call 41
  clear c0 c1 d2 d3
  refine (eFitI adB capB Bs adK capK K w1 (hN.later B1)).mono ?_
  rintro e w2 ⟨⟨R2, rfl, hR2⟩, k2⟩
  have B2 := B1.trans (k2.mono B1.size)
  have A2 := A1.below k2 A1.lt
  clear A1 k2 B1
  by_cases h3 : ∀ j, j < K.length → LinkP (dB Bs) (K.getD j Lk.nil)
  rotate_left
  · obtain rfl := bool_no hR2 h3
    clear hR2
    replace h3 : Hid _ := h3
    go_wp2
    go_ret
    exact ⟨YN.no (fun h => h3.out (hQ.out.1 h).2.2.1), B2⟩
  obtain rfl : R2 = true := hR2.2 h3
  clear hR2
  replace h3 : Hid _ := h3
  obtain ⟨c0, c1⟩ := A2
  go_wp2_with fail
  go_at_call 42
  clear c0 c1
  refine (pFitI adB capB Bs adK capK K w2 (hN.later B2)).mono ?_
  rintro e w3 ⟨⟨R3, rfl, hR3⟩, k3⟩
  have B3 := B2.trans (k3.mono B2.size)
  clear k3 B2
  go_wp2
  go_ret
  exact ⟨YN.is (by rw [hR3]; exact ⟨fun h => hQ.out.2 ⟨h1.out, h2.out, h3.out, h⟩, fun h => (hQ.out.1 h).2.2.2⟩), B3⟩

end Go.Proofs.YtemibefbkjpnaaaGreat
namespace Go.Proofs.YtemibefbkjpnaaaGreat
open Go.ChangeShapes Go.WideShapes Go.ChangeAt Go.RowKit
open Go.ChangeMaps (open_string shut_string)
set_option linter.unusedVariables false
set_option maxRecDepth 100000

set_option maxHeartbeats 1000000 in
theorem cloneL (ad : Option Addr) (cap : Nat) (L : List Lk) (w : World) (hv : FView lkEnc w ad L) (hl : L.length ≤ 1048576) :
    Calls Tryz.prog 61 #[.slice ad L.length cap] w fun e w' => ∃ ad' cap', e = .returned (.slice ad' L.length cap') ∧ FOwn lkEnc 4 34 w.heap.size w' (.slice ad' L.length cap') L ∧ Below w.heap.size w w' := by
  obtain ⟨i1, hj, hy0, hy1, hy2⟩ := info_parts lkInfo
  cases ad with
  | none =>
    obtain rfl := hv.none_nil
    have hEq : ∀ (y : World) (c : Nat), (binOp .eql 25 (.slice none 0 c) (.slice none 0 0)).run Tryz.prog y = .ok (.bool true) y := fun y c => Go.Lib.run_eql_slice_nil y 25 34 none 0 c 0 0 Tryz.underlying25
    simp only [List.length_nil]
    go_enter Tryz.func61, Tryz.ntmps61
    go_wp2
    go_ret
    exact ⟨_, _, rfl, FOwn.nil, Below.refl _ _⟩
  | some a =>
    have hB := hv.lt lkEnc_len (by omega)
    have B0 := below_new (w := w) (Obj.cells #[] 34)
    have hv1 : FView lkEnc (w.alloc (Obj.cells #[] 34)) (some a) L := hv.below B0 hB
    have hEq : ∀ (y : World), (binOp .eql 25 (.slice (some a) L.length cap) (.slice none 0 0)).run Tryz.prog y = .ok (.bool false) y := fun y => Go.Lib.run_eql_slice_nil y 25 34 (some a) L.length cap 0 0 Tryz.underlying25
    go_enter Tryz.func61, Tryz.ntmps61
    go_wp2_with (first | (at_builtin; refine fappL lkEnc_len lkEnc_ones rfl _ _ 25 rfl w.heap.size 34 i1 (.agg #[.int .i64 0, .int .i64 0, .int .i64 0, .int .i64 0]) 32 Tryz.underlying25 hj hy0 hy1 hy2 rfl (by decide) (by decide) _ ([] : List Lk) rfl (FOwn.empty w) (some a) cap L rfl (fun e => by cases e) hv1 ?z0 ?z1 ?_) | go_in)
    case z0 => simp; omega
    case z1 => simp
    intro vZ wZ hownZ hgrowZ _
    have BZ : Below w.heap.size w wZ := B0.grown hgrowZ (by simp) (fun j e => ((FOwn.empty w : FOwn lkEnc 4 34 _ _ _ _).lt j e).1)
    replace hownZ : FOwn lkEnc 4 34 w.heap.size wZ vZ L := hownZ
    obtain ⟨adZ, capZ, rfl⟩ := hownZ.open_
    clear hgrowZ B0 hv1
    go_wp2
    go_ret
    exact ⟨_, _, rfl, hownZ, BZ⟩
theorem grown_trans {a b c : World} {g : Option Nat} (h : a.grownBy b g) (k : b.grownBy c g) : a.grownBy c g :=
  ⟨k.os.trans h.os, k.tape.trans h.tape, k.output.trans h.output, Nat.le_trans h.size k.size, fun j hj hn => (k.block j (Nat.lt_of_lt_of_le hj h.size) hn).trans (h.block j hj hn)⟩
theorem grown_of {a b : World} {g : Option Nat} (k : Below a.heap.size a b) : a.grownBy b g := ⟨k.os, k.tape, k.output, k.size, fun j hj _ => k.block j hj⟩
theorem grown_set {a b : World} {g o : Nat} (v : Value) (h : a.grownBy b (some g)) : a.grownBy (b.setCell ⟨g, o, none⟩ v) (some g) :=
  ⟨h.os, h.tape, h.output, by simpa using h.size, fun j hj hn => (Below.heap_setCell _ _ _ _ (fun e => hn (by have : j = g := e; rw [this]))).trans (h.block j hj hn)⟩
set_option maxHeartbeats 8000000 in
theorem raiseI (adB : Option Addr) (capB : Nat) (Bs : List Bd) (adK : Option Addr) (capK : Nat) (K : List Lk) (a p : Int) (mid hi : Nat) (w : World) (hO : NOwn mid hi w (.slice adB Bs.length capB) Bs) (hs : hi ≤ w.heap.size) (hN : NN w adB Bs adK K) :
    Calls Tryz.prog 64 #[.agg #[.slice adB Bs.length capB, .slice adK K.length capK], .agg #[.int .i64 a, .int .i64 p]] w fun e w' => (∃ v, e = .returned v) ∧ ∃ Cs, Cs.length = Bs.length ∧ NOwn mid w'.heap.size w' (.slice adB Cs.length capB) Cs ∧ ((¬ PortP (dB Bs) a p ∧ dB Cs = dB Bs) ∨ (∃ i j : Nat, a = i ∧ p = j ∧ i < (dB Bs).length ∧ j < ((dB Bs).getD i Bg.nil).L.length ∧ dB Cs = (dB Bs).set i ⟨((dB Bs).getD i Bg.nil).id, reactL ((dB Bs).getD i Bg.nil).id ((dB Bs).getD i Bg.nil).L (linkIk (j : Int))⟩)) ∧ w.grownBy w' (Value.slice adB Bs.length capB).ownBlock := by
  obtain ⟨y, hy⟩ : ∃ y, y = (w.alloc (Obj.cells #[.slice adB Bs.length capB, .slice adK K.length capK] 27)).alloc (Obj.cells #[.int .i64 a, .int .i64 p] 91) := ⟨_, rfl⟩
  have B0 : Below w.heap.size w y := by rw [hy]; exact ((Below.refl _ _).alloc (Nat.le_refl _) _).alloc (by simp) _
  have A0 : NeAt y w.heap.size (.slice adB Bs.length capB) (.slice adK K.length capK) := by rw [hy]; constructor <;> simp [go_sem]
  have A1 : EnAt y (w.heap.size + 1) a p := by rw [hy]; constructor <;> simp [go_sem]
  go_enter Tryz.func64, Tryz.ntmps64
  go_wp2_with fail
  go_at_call 82
  rw [← hy]
  clear hy
  refine (eIsOfI adB capB Bs adK capK K a p y (hN.later B0)).mono ?_
  rintro e u ⟨⟨R, rfl, hR⟩, k1⟩
  have B1 := B0.trans (k1.mono B0.size)
  have A0 := A0.below k1 A0.lt
  have A1 := A1.below k1 A1.lt
  clear k1 B0
  by_cases hp : PortP (dB Bs) a p
  rotate_left
  · obtain rfl := bool_no hR hp
    clear hR
    replace hp : Hid _ := hp
    have hO2 := (hO.below B1 hs).wide (Nat.le_refl _) (Nat.le_trans hs B1.size)
    go_wp2
    refine bodyPost_end (results_none Tryz.results64 _ _ _) rfl ?_
    exact ⟨⟨_, rfl⟩, Bs, rfl, hO2, .inl ⟨hp.out, rfl⟩, grown_of B1⟩
  obtain rfl : R = true := hR.2 hp
  clear hR
  have hp := portP_iff.1 hp
  obtain ⟨i, rfl⟩ := Int.eq_ofNat_of_zero_le hp.1.1
  obtain ⟨j, rfl⟩ := Int.eq_ofNat_of_zero_le hp.2.1
  have hi2 : i < Bs.length := by have := hp.1.2; omega
  have hj2 : j < (Bs.getD i Bd.nil).L.length := by have := hp.2.2; simp only [Int.toNat_natCast] at this; omega
  clear hp
  obtain ⟨g, rfl⟩ : ∃ g, adB = some ⟨g, 0, none⟩ := by
    rcases hO.row.2 with ⟨_, q⟩ | ⟨g, cap, cur, q, _⟩
    · omega
    · simp only [Value.slice.injEq] at q
      exact ⟨g, q.1⟩
  have hgh : g < hi := hO.rhi g rfl
  have hO1 := hO.below B1 hs
  have hus := B1.size
  have hA0 : ∀ Y, u.grownBy Y (some g) → NeAt Y w.heap.size (.slice (some ⟨g, 0, none⟩) Bs.length capB) (.slice adK K.length capK) := fun Y hY => A0.keep (hY.block _ A0.lt (fun e => by cases e; omega))
  have hA1 : ∀ Y, u.grownBy Y (some g) → EnAt Y (w.heap.size + 1) i j := fun Y hY => A1.keep (hY.block _ A1.lt (fun e => by cases e; omega))
  have hcr : ∀ Y, Below u.heap.size u Y → BdAtO Y g (i * 2) (Bs.getD i Bd.nil) := fun Y hY => by
    have := ((hO1.below hY (by omega)).view.2).at_ hi2
    rw [Nat.zero_add] at this
    exact this
  have hfz : ∀ Y, Below u.heap.size u Y → ∀ o, Y.frozen? ⟨g, o, none⟩ = false := fun Y hY o => (hO1.below hY (by omega)).row.frozen o
  have hn : ∀ Y, Below u.heap.size u Y → FView ptEnc Y (Bs.getD i Bd.nil).ad (Bs.getD i Bd.nil).L := fun Y hY => (hO1.below hY (by omega)).view.2.nest i hi2
  have hnil := hO.view.2.nil0 i hi2
  have hlk := hN.hls i hi2
  have hst : Hid (∀ (Y : World) (x : Bd), Below u.heap.size u Y → FOwn ptEnc 11 75 mid Y x.v x.L → (∀ k, x.v.ownBlock = some k → u.heap.size ≤ k ∧ k < Y.heap.size) → NOwn mid Y.heap.size (putAll Y g (i * 2) (bdEnc x)) (.slice (some ⟨g, 0, none⟩) (Bs.set i x).length capB) (Bs.set i x)) := fun Y x hY nx hx => by
    have z := hY.size
    have := (hO1.below hY (by omega)).wide (Nat.le_refl _) (show hi ≤ u.heap.size by omega)
    exact this.set z hi2 x nx hx
  have hD : Hid (∀ x : Bd, dB (Bs.set i x) = (dB Bs).set i x.d) := fun x => by unfold dB; rw [List.map_set]
  have hg : Hid ((dB Bs).getD i Bg.nil = (Bs.getD i Bd.nil).d) := bd_get Bs i
  have hmid := (hO.row.lt g rfl).1
  obtain ⟨⟨id, a1, c1, L1⟩, hh⟩ : ∃ q, Bs.getD i Bd.nil = q := ⟨_, rfl⟩
  rw [hh] at hlk hnil hj2 hg
  simp only [hh] at hcr hn
  dsimp only at hlk hnil hj2 hn
  clear hh hN A0 A1 hO1
  go_upto_region 2 with fail
  refine wp_region_held (S := fun Y => u.grownBy Y (some g)) (by kernel_rfl) ?_
  change wpAnyH _ _ _ _ _ _ _ _ (World.drew _)
  have hb0 : u.grownBy u.drew (some g) := ⟨rfl, rfl, rfl, Nat.le_refl _, fun _ _ _ => rfl⟩
  obtain ⟨u0, hy0⟩ : ∃ y_, y_ = u.drew := ⟨_, rfl⟩
  have hd0 : Below u.heap.size u u0 := by rw [hy0]; exact (Below.refl _ _).drew
  rw [← hy0] at hb0 ⊢
  clear hy0
  refine takeW 0 8 (.pointer (some ⟨w.heap.size, 0, none⟩)) rfl rfl (by kernel_rfl) (by kernel_rfl) (by kernel_rfl) (fun _ _ _ h => h) (by kernel_rfl) (by (intro w hSw; go_simp)) (by assumption) ?_
  simp only [List.set_cons_zero, List.set_cons_succ]
  refine takeW 1 9 (.slice (some ⟨g, 0, none⟩) Bs.length capB) rfl rfl (by kernel_rfl) (by kernel_rfl) (by kernel_rfl) (fun _ _ _ h => h) (by kernel_rfl) (by (intro Y hSw; obtain ⟨X0, X1⟩ := hA0 Y hSw; go_simp)) (by assumption) ?_
  simp only [List.set_cons_zero, List.set_cons_succ]
  refine takeW 2 10 (.pointer (some ⟨(w.heap.size + 1), 0, none⟩)) rfl rfl (by kernel_rfl) (by kernel_rfl) (by kernel_rfl) (fun _ _ _ h => h) (by kernel_rfl) (by (intro w hSw; go_simp)) (by assumption) ?_
  simp only [List.set_cons_zero, List.set_cons_succ]
  refine takeW 3 11 (.int .i64 (i : Int)) rfl rfl (by kernel_rfl) (by kernel_rfl) (by kernel_rfl) (fun _ _ _ h => h) (by kernel_rfl) (by (intro Y hSw; obtain ⟨X0, X1⟩ := hA1 Y hSw; go_simp)) (by assumption) ?_
  simp only [List.set_cons_zero, List.set_cons_succ]
  refine takeW 4 12 (.pointer (some ⟨w.heap.size, 0, none⟩)) rfl rfl (by kernel_rfl) (by kernel_rfl) (by kernel_rfl) (fun _ _ _ h => h) (by kernel_rfl) (by (intro w hSw; go_simp)) (by assumption) ?_
  simp only [List.set_cons_zero, List.set_cons_succ]
  refine takeW 5 13 (.slice (some ⟨g, 0, none⟩) Bs.length capB) rfl rfl (by kernel_rfl) (by kernel_rfl) (by kernel_rfl) (fun _ _ _ h => h) (by kernel_rfl) (by (intro Y hSw; obtain ⟨X0, X1⟩ := hA0 Y hSw; go_simp)) (by assumption) ?_
  simp only [List.set_cons_zero, List.set_cons_succ]
  refine takeW 6 14 (.pointer (some ⟨(w.heap.size + 1), 0, none⟩)) rfl rfl (by kernel_rfl) (by kernel_rfl) (by kernel_rfl) (fun _ _ _ h => h) (by kernel_rfl) (by (intro w hSw; go_simp)) (by assumption) ?_
  simp only [List.set_cons_zero, List.set_cons_succ]
  refine takeW 7 15 (.int .i64 (i : Int)) rfl rfl (by kernel_rfl) (by kernel_rfl) (by kernel_rfl) (fun _ _ _ h => h) (by kernel_rfl) (by (intro Y hSw; obtain ⟨X0, X1⟩ := hA1 Y hSw; go_simp)) (by assumption) ?_
  simp only [List.set_cons_zero, List.set_cons_succ]
  refine takeW 8 16 (.pointer (some ⟨g, i * 2, none⟩)) rfl rfl (by kernel_rfl) (by kernel_rfl) (by kernel_rfl) (fun _ _ _ h => h) (by kernel_rfl) (by (intro Y hSw; go_simp; try omega)) (by assumption) ?_
  simp only [List.set_cons_zero, List.set_cons_succ]
  refine takeW 10 18 (.pointer (some ⟨(w.heap.size + 1), 1, none⟩)) rfl rfl (by kernel_rfl) (by kernel_rfl) (by kernel_rfl) (fun _ _ _ h => h) (by kernel_rfl) (by (intro w hSw; go_simp)) (by assumption) ?_
  simp only [List.set_cons_zero, List.set_cons_succ]
  refine takeW 11 19 (.int .i64 (j : Int)) rfl rfl (by kernel_rfl) (by kernel_rfl) (by kernel_rfl) (fun _ _ _ h => h) (by kernel_rfl) (by (intro Y hSw; obtain ⟨X0, X1⟩ := hA1 Y hSw; go_simp)) (by assumption) ?_
  simp only [List.set_cons_zero, List.set_cons_succ]
  refine takeW 12 20 (.agg #[.int .i64 3, .int .i64 (j : Int), .int .i64 0, .int .i64 0, .int .i64 0, .int .i64 0, .int .i64 0, .bool true]) rfl rfl (by kernel_rfl) (by kernel_rfl) (by kernel_rfl) (fun _ _ _ h => h) (by kernel_rfl) (by (intro w hSw; go_simp)) (by assumption) ?_
  simp only [List.set_cons_zero, List.set_cons_succ]
  refine wpAnyH_all (rs := [9]) (by kernel_rfl) (by simp) ?_
  intro i_ hi_; obtain rfl : i_ = 9 := by simpa using hi_
  refine wpOp_step rfl (fun Kz hKz => ?_)
  rw [if_pos (by kernel_rfl)]
  obtain ⟨X0, X1⟩ := hcr u0 hd0
  dsimp only at X0 X1
  go_simp
  refine hKz _ _ ⟨hb0, ?_⟩
  clear hKz Kz hi_ X0 X1
  refine wpAnyH_all (rs := [13]) (by kernel_rfl) (by simp) ?_
  intro i_ hi_; obtain rfl : i_ = 13 := by simpa using hi_
  refine wpOp_step rfl (fun Kz hKz => ?_)
  rw [if_pos (by kernel_rfl)]
  go_simp
  go_at_call 101
  refine (reactI id a1 c1 L1 (linkIk (j : Int)) u0 (hn u0 hd0) hlk hnil).mono ?_
  rintro e u1 ⟨a2, c2, ao, co, rfl, o2, _, _, kq⟩
  obtain ⟨M, hM⟩ : ∃ M, reactL id L1 (linkIk (j : Int)) = M := ⟨_, rfl⟩
  rw [hM] at o2 ⊢
  replace hM : Hid _ := hM
  generalize (reactO id L1 (linkIk (j : Int))).length = no
  have hd1 : Below u.heap.size u u1 := hd0.trans (kq.mono hd0.size)
  have hz1 := kq.size
  have hz0 := hd0.size
  have hb1 : u.grownBy u1 (some g) := grown_of hd1
  clear kq
  refine hKz _ _ ⟨hb1, ?_⟩
  clear hKz Kz hi_
  refine takeW 14 7 (.tuple #[.agg #[.int .i64 id, .slice a2 M.length c2], .slice ao no co]) rfl rfl (by kernel_rfl) (by kernel_rfl) (by kernel_rfl) (fun _ _ _ h => h) (by kernel_rfl) (by (intro w hSw; go_simp)) (by assumption) ?_
  simp only [List.set_cons_zero, List.set_cons_succ]
  refine takeW 15 22 (.agg #[.int .i64 id, .slice a2 M.length c2]) rfl rfl (by kernel_rfl) (by kernel_rfl) (by kernel_rfl) (fun _ _ _ h => h) (by kernel_rfl) (by (intro w hSw; go_simp)) (by assumption) ?_
  simp only [List.set_cons_zero, List.set_cons_succ]
  refine takeW 16 23 (.slice ao no co) rfl rfl (by kernel_rfl) (by kernel_rfl) (by kernel_rfl) (fun _ _ _ h => h) (by kernel_rfl) (by (intro w hSw; go_simp)) (by assumption) ?_
  simp only [List.set_cons_zero, List.set_cons_succ]
  refine takeW 17 24 (.pointer (some ⟨g, i * 2, none⟩)) rfl rfl (by kernel_rfl) (by kernel_rfl) (by kernel_rfl) (fun _ _ _ h => h) (by kernel_rfl) (by (intro Y hSw; go_simp; try omega)) (by assumption) ?_
  simp only [List.set_cons_zero, List.set_cons_succ]
  refine wpAnyH_all (rs := [18]) (by kernel_rfl) (by simp) ?_
  intro i_ hi_; obtain rfl : i_ = 18 := by simpa using hi_
  refine wpOp_step rfl (fun Kz hKz => ?_)
  rw [if_pos (by kernel_rfl)]
  obtain ⟨X0, X1⟩ := hcr u1 hd1
  dsimp only at X0 X1
  have f0 := hfz u1 hd1 (i * 2)
  have f1 := hfz u1 hd1 (i * 2 + 1)
  go_simp
  refine hKz _ _ ⟨grown_set _ (grown_set _ hb1), ?_⟩
  clear hKz Kz hi_ X0 X1 f0 f1
  refine wpAnyH_done (by kernel_rfl) ?_ _
  have hW := hst.out u1 ⟨id, a2, c2, M⟩ hd1 (o2.base (by omega)) (fun k e => ⟨by have := (o2.lt k e).1; omega, (o2.lt k e).2⟩)
  rw [bdPut] at hW
  dsimp only at hW
  have hS : Hid ((((u1.setCell ⟨g, i * 2, none⟩ (.int .i64 id)).setCell ⟨g, i * 2 + 1, none⟩ (.slice a2 M.length c2))).heap.size = u1.heap.size) := by unfold Hid; simp
  have hG := grown_trans (grown_of (g := some g) B1) (grown_set (o := i * 2 + 1) (.slice a2 M.length c2) (grown_set (o := i * 2) (.int .i64 id) hb1))
  go_wp2
  refine bodyPost_end (results_none Tryz.results64 _ _ _) rfl ?_
  refine ⟨⟨_, rfl⟩, Bs.set i ⟨id, a2, c2, M⟩, by simp, by rw [hS.out]; exact hW, .inr ⟨i, j, rfl, rfl, by simpa using hi2, by rw [hg.out]; exact hj2, ?_⟩, hG⟩
  rw [hD.out, hg.out, ← hM.out]
  rfl

end Go.Proofs.YtemibefbkjpnaaaGreat
