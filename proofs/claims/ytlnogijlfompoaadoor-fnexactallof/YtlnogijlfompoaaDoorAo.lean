/- spec.AllOf, walked. -/
import Derived.Test.YtlnogijlfompoaaDoorRows
import Derived.WalkKit
import Derived.ProofKit
import Derived.OpenShut
import Derived.ShutString
import Derived.ChangeOld
import Derived.Below
import Derived.Deep.QuietTactic
import Derived.BigQuiet
import Derived.WalkSmall
import Derived.Laws.OwnMore
import Derived.WalkSpells
import Derived.WalkLawsBesides
import Derived.Deep.Cut
import Derived.Maps.AppendAt
import Derived.Test.YtlnogijlfompoaaDoorIo
import Derived.Test.YtlnogijlfompoaaDoorIns1
import Derived.Test.YtlnogijlfompoaaDoorFlatApp
namespace Go.Proofs.YtlnogijlfompoaaDoor
open Go.ChangeShapes Go.WideShapes Go.ChangeAt Go.RowKit
open Go.ChangeMaps (open_string shut_string)
set_option linter.unusedVariables false
set_option maxRecDepth 100000

theorem ikInfo : (Tryd.prog.info? 26).map (fun i => (i.zero, i.size, i.bytes)) = some (some (.agg #[.int .i64 0, .int .i64 0, .int .i64 0, .int .i64 0, .int .i64 0, .int .i64 0, .int .i64 0, .bool false]), 8, 64) := by kernel_rfl
theorem FView.oneI (w : World) (t : TypeId) (x : Ik) : FView ikEnc (w.alloc (Obj.cells #[.int .i64 x.k, .int .i64 x.q, .int .i64 x.r, .int .i64 x.c, .int .i64 x.b, .int .i64 x.p, .int .i64 x.h, .bool x.up] t)) (some ⟨w.heap.size, 0, none⟩) [x] := by
  intro _
  refine ⟨w.heap.size, 0, rfl, fun j v hv => ?_⟩
  simp only [fcells, ikEnc, List.append_nil] at hv
  have hj : j < 8 := (List.getElem?_eq_some_iff.1 hv).1
  rcases (by omega : j = 0 ∨ j = 1 ∨ j = 2 ∨ j = 3 ∨ j = 4 ∨ j = 5 ∨ j = 6 ∨ j = 7) with rfl | rfl | rfl | rfl | rfl | rfl | rfl | rfl <;> (cases hv; simp [go_sem])
/-- What is still to be read, behind what was. -/
def AllAt (L : List Int) (P : List Ik) (a : Int) (R : List Ik × Int) : Prop := (P ++ (allG L a).1, (allG L a).2) = R
theorem AllAt.stop {L : List Int} {P : List Ik} {a : Int} {R : List Ik × Int} (h : AllAt L P a R) (hn : inAt L a = none) : R = (P, a) := by
  unfold AllAt at h
  rw [allG_none hn] at h
  rw [← h]; simp
theorem AllAt.next {L : List Int} {P : List Ik} {a s : Int} {x : Ik} {R : List Ik × Int} (h : AllAt L P a R) (hn : inAt L a = some (x, s)) : AllAt L (P ++ [x]) s R ∧ a + 6 ≤ s ∧ 0 ≤ a ∧ s ≤ L.length := by
  obtain ⟨g1, g2, g3, g4⟩ := allG_some hn
  unfold AllAt at h ⊢
  rw [g1] at h
  refine ⟨?_, g2, g3, g4⟩
  rw [← h]; simp
theorem inAt_end {L : List Int} {a : Int} (h : (L.length : Int) ≤ a) : inAt L a = none := by
  cases hx : inAt L a with
  | none => rfl
  | some y =>
    obtain ⟨x, s⟩ := y
    have := allG_some hx
    omega
theorem allG_len (L : List Int) : (allG L 0).1.length ≤ L.length := by
  obtain ⟨h1, h2, h3, h4⟩ := allG_back L
  have h5 := allB_long h4
  have h6 := congrArg List.length h3
  simp only [List.length_take] at h6
  omega
set_option maxHeartbeats 8000000 in
theorem allOfS (ad : Option Addr) (cap : Nat) (L : List Int) (w : World) (hv : View w ad L.length (fun i => L.getD i 0)) (hB : ∀ x, ad = some x → 0 < L.length → x.block < w.heap.size) (hl : L.length ≤ 1048576) (hcap : L.length ≤ cap) (hLbd : ∀ x ∈ L, 0 ≤ x ∧ x ≤ 255) :
    Calls Tryd.prog 11 #[.slice ad L.length cap] w fun e w' => ∃ aM cM, e = .returned (.tuple #[.slice aM (allG L 0).1.length cM, .int .i64 (allG L 0).2]) ∧ FOwn ikEnc 8 26 w.heap.size w' (.slice aM (allG L 0).1.length cM) (allG L 0).1 ∧ Below w.heap.size w w' := by
  obtain ⟨i0, hi, hz0, hz1, hz2⟩ := info_parts ikInfo
  obtain ⟨R, hR⟩ : ∃ R, allG L 0 = R := ⟨_, rfl⟩
  have hA : Hid (AllAt L [] 0 R) := by show _ = _; rw [← hR]; simp
  rw [hR]
  clear hR
  go_enter Tryd.func11, Tryd.ntmps11
  go_wp2
  go_loopw [4, 5] (fun v i wr => ∃ (a : Int) (P : List Ik), 0 ≤ a ∧ a ≤ L.length ∧ 6 * (P.length : Int) ≤ a ∧ i = .int .i64 a ∧ Hid (AllAt L P a R) ∧ FOwn ikEnc 8 26 w.heap.size wr v P ∧ Below w.heap.size w wr) (fun _ i _ => L.length - (intOf i).toNat)
  case atStart => exact ⟨0, [], by omega, by omega, by simp, rfl, hA, FOwn.empty w, (Below.refl _ _).alloc (Nat.le_refl _) _⟩
  case round =>
    obtain ⟨a, P, a0, a1, a2, rfl, hG, O, B⟩ := hrel
    clear hA
    have sB := B.size
    go_wp2_with fail
    go_at_call 6
    refine (inOfS ad cap L a wr (hv.carry (fun x h h2 => B.block _ (hB x h h2))) (fun x h h2 => by have := hB x h h2; omega) hl hcap hLbd (by omega)).mono ?_
    rintro e w1 ⟨rfl, k1⟩
    replace B := B.trans (k1.mono sB)
    replace O := O.later k1
    clear k1 sB
    cases hx : inAt L a with
    | none =>
      obtain rfl := hG.out.stop hx
      obtain ⟨aM, cM, rfl⟩ := O.open_
      rw [show inOfV none = .tuple #[.agg #[.int .i64 0, .int .i64 0, .int .i64 0, .int .i64 0, .int .i64 0, .int .i64 0, .int .i64 0, .bool false], .int .i64 0, .bool false] from rfl]
      clear hx hG
      have B1 := B.alloc B.size (Obj.cells #[.int .i64 0, .int .i64 0, .int .i64 0, .int .i64 0, .int .i64 0, .int .i64 0, .int .i64 0, .bool false] 26)
      have O1 := O.later (below_new (w := w1) (Obj.cells #[.int .i64 0, .int .i64 0, .int .i64 0, .int .i64 0, .int .i64 0, .int .i64 0, .int .i64 0, .bool false] 26))
      go_wp2
      go_ret2
      exact ⟨aM, cM, rfl, O1, B1⟩
    | some xs =>
      obtain ⟨x, s⟩ := xs
      obtain ⟨hN, n1, n2, n3⟩ := hG.out.next hx
      replace hN : Hid _ := hN
      rw [show inOfV (some (x, s)) = .tuple #[.agg #[.int .i64 x.k, .int .i64 x.q, .int .i64 x.r, .int .i64 x.c, .int .i64 x.b, .int .i64 x.p, .int .i64 x.h, .bool x.up], .int .i64 s, .bool true] from rfl]
      clear hx hG
      obtain ⟨w2, hw2⟩ : ∃ y_, y_ = w1.alloc (Obj.cells #[.int .i64 x.k, .int .i64 x.q, .int .i64 x.r, .int .i64 x.c, .int .i64 x.b, .int .i64 x.p, .int .i64 x.h, .bool x.up] 26) := ⟨_, rfl⟩
      have X0 : IBox w2 w1.heap.size x := by rw [hw2]; exact ⟨InAt.new w1 _ x, fun i => by simp [go_sem]⟩
      have k2 : Below w1.heap.size w1 w2 := by rw [hw2]; exact below_new _
      replace B := B.trans (k2.mono B.size)
      replace O := O.later k2
      go_upto_region 4 with fail
      rw [← hw2]
      clear hw2 k2
      obtain ⟨w3, hw3⟩ : ∃ y_, y_ = w2.alloc (Obj.cells #[.int .i64 x.k, .int .i64 x.q, .int .i64 x.r, .int .i64 x.c, .int .i64 x.b, .int .i64 x.p, .int .i64 x.h, .bool x.up] 26) := ⟨_, rfl⟩
      have V1 : FView ikEnc w3 (some ⟨w2.heap.size, 0, none⟩) [x] := by rw [hw3]; exact FView.oneI w2 _ x
      have k3 : Below w2.heap.size w2 w3 := by rw [hw3]; exact below_new _
      have O3 := O.later k3
      have B3 := B.trans (k3.mono B.size)
      have z1 := B3.size
      obtain ⟨⟨e0, e1, e2, e3, e4, e5, e6, e7⟩, ef⟩ := X0
      go_wp2_with (first | (at_builtin; refine fappL ikEnc_len ikEnc_ones rfl _ _ 33 rfl w.heap.size 26 i0 (.agg #[.int .i64 0, .int .i64 0, .int .i64 0, .int .i64 0, .int .i64 0, .int .i64 0, .int .i64 0, .bool false]) 64 Tryd.underlying33 hi hz0 hz1 hz2 rfl (by decide) (by decide) _ P rfl ?zs0 (some ⟨w2.heap.size, 0, none⟩) 1 [x] rfl (fun e => by cases e) ?zs1 ?zs2 ?zs3 ?_))
      case zs0 => rw [← hw3]; exact O3
      case zs1 => rw [← hw3]; exact V1
      try case zs2 => simp; omega
      case zs3 => have := B.size; first | omega | (simp; omega)
      rw [← hw3]
      clear hw3 e0 e1 e2 e3 e4 e5 e6 e7 ef
      intro vZ wZ oZ gZ _
      have BZ : Below w.heap.size w wZ := B3.grown gZ z1 (fun g e => (O3.lt g e).1)
      go_wp2
      go_roundw
      case rel => exact ⟨s, P ++ [x], by omega, n3, by simp; omega, rfl, hN, oZ, BZ⟩
      case measure => simp [intOf]; omega

end Go.Proofs.YtlnogijlfompoaaDoor
