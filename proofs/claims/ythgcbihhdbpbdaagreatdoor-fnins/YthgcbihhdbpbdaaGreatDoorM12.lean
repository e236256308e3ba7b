/- spec.InOf, walked. spec.AllOf, walked. How much is said. What is said is small. impl.InOf, walked. impl.AllOf, walked. -/
import Derived.Test.YthgcbihhdbpbdaaGreatDoorRows
import Derived.WalkKit
import Derived.ProofKit
import Derived.OpenShut
import Derived.ShutString
import Derived.ChangeOld
import Derived.Below
import Derived.Deep.QuietTactic
import Derived.BigQuiet
import Derived.WalkSmall
import Derived.Laws.OwnMore
import Derived.WalkSpells
import Derived.WalkLawsBesides
import Derived.Test.YthgcbihhdbpbdaaGreatDoorKIo1
import Derived.Test.YthgcbihhdbpbdaaGreatDoorKIo3
import Derived.Test.YthgcbihhdbpbdaaGreatDoorKIoe
import Derived.Deep.Cut
import Derived.Maps.AppendAt
import Derived.Test.YthgcbihhdbpbdaaGreatDoorM6
import Derived.Test.YthgcbihhdbpbdaaGreatDoorM5
import Derived.Test.YthgcbihhdbpbdaaGreatDoorKRe5
import Derived.Test.YthgcbihhdbpbdaaGreatDoorKIa
import Derived.Test.YthgcbihhdbpbdaaGreatDoorKEr2
namespace Go.Proofs.YthgcbihhdbpbdaaGreatDoor
open Go.ChangeShapes Go.WideShapes Go.ChangeAt Go.RowKit
open Go.ChangeMaps (open_string shut_string)
set_option linter.unusedVariables false
set_option maxRecDepth 100000

theorem inOfS (ad : Option Addr) (cap : Nat) (L : List Int) (a : Int) (w : World) (hv : View w ad L.length (fun i => L.getD i 0)) (hB : ∀ x, ad = some x → 0 < L.length → x.block < w.heap.size) (hl : L.length ≤ 1048576) (hcap : L.length ≤ cap) (hLbd : ∀ x ∈ L, 0 ≤ x ∧ x ≤ 255) (ha0 : -9223372036854775808 ≤ a ∧ a ≤ 9223372036854775807) :
    Calls Tryz.prog 10 #[.slice ad L.length cap, .int .i64 a] w fun e w' => e = .returned (inOfV (inAt L a)) ∧ Below w.heap.size w w' := by
  by_cases h1 : (rdN L (a, true)).1 = 1
  · exact inOfS1 ad cap L a w hv hB hl hcap hLbd h1 ha0
  by_cases h3 : (rdN L (a, true)).1 = 3
  · exact inOfS3 ad cap L a w hv hB hl hcap hLbd h3 ha0
  exact inOfSe ad cap L a w hv hB hl hcap hLbd h1 h3 ha0

end Go.Proofs.YthgcbihhdbpbdaaGreatDoor
namespace Go.Proofs.YthgcbihhdbpbdaaGreatDoor
open Go.ChangeShapes Go.WideShapes Go.ChangeAt Go.RowKit
open Go.ChangeMaps (open_string shut_string)
set_option linter.unusedVariables false
set_option maxRecDepth 100000

theorem ikInfo : (Tryz.prog.info? 27).map (fun i => (i.zero, i.size, i.bytes)) = some (some (.agg #[.int .i64 0, .int .i64 0, .int .i64 0, .int .i64 0, .int .i64 0, .int .i64 0, .int .i64 0, .bool false]), 8, 64) := by kernel_rfl
theorem FView.oneI (w : World) (t : TypeId) (x : Ik) : FView ikEnc (w.alloc (Obj.cells #[.int .i64 x.k, .int .i64 x.q, .int .i64 x.r, .int .i64 x.c, .int .i64 x.b, .int .i64 x.p, .int .i64 x.h, .bool x.up] t)) (some ⟨w.heap.size, 0, none⟩) [x] := by
  intro _
  refine ⟨w.heap.size, 0, rfl, fun j v hv => ?_⟩
  simp only [fcells, ikEnc, List.append_nil] at hv
  have hj : j < 8 := (List.getElem?_eq_some_iff.1 hv).1
  rcases (by omega : j = 0 ∨ j = 1 ∨ j = 2 ∨ j = 3 ∨ j = 4 ∨ j = 5 ∨ j = 6 ∨ j = 7) with rfl | rfl | rfl | rfl | rfl | rfl | rfl | rfl <;> (cases hv; simp [go_sem])
/-- What is still to be read, behind what was. -/
def AllAt (L : List Int) (P : List Ik) (a : Int) (R : List Ik × Int) : Prop := (P ++ (allG L a).1, (allG L a).2) = R
theorem AllAt.stop {L : List Int} {P : List Ik} {a : Int} {R : List Ik × Int} (h : AllAt L P a R) (hn : inAt L a = none) : R = (P, a) := by
  unfold AllAt at h
  rw [allG_none hn] at h
  rw [← h]; simp
theorem AllAt.next {L : List Int} {P : List Ik} {a s : Int} {x : Ik} {R : List Ik × Int} (h : AllAt L P a R) (hn : inAt L a = some (x, s)) : AllAt L (P ++ [x]) s R ∧ a + 6 ≤ s ∧ 0 ≤ a ∧ s ≤ L.length := by
  obtain ⟨g1, g2, g3, g4⟩ := allG_some hn
  unfold AllAt at h ⊢
  rw [g1] at h
  refine ⟨?_, g2, g3, g4⟩
  rw [← h]; simp
theorem inAt_end {L : List Int} {a : Int} (h : (L.length : Int) ≤ a) : inAt L a = none := by
  cases hx : inAt L a with
  | none => rfl
  | some y =>
    obtain ⟨x, s⟩ := y
    have := allG_some hx
    omega
theorem allG_len (L : List Int) : (allG L 0).1.length ≤ L.length := by
  obtain ⟨h1, h2, h3, h4⟩ := allG_back L
  have h5 := allB_long h4
  have h6 := congrArg List.length h3
  simp only [List.length_take] at h6
  omega
set_option maxHeartbeats 8000000 in
theorem allOfS (ad : Option Addr) (cap : Nat) (L : List Int) (w : World) (hv : View w ad L.length (fun i => L.getD i 0)) (hB : ∀ x, ad = some x → 0 < L.length → x.block < w.heap.size) (hl : L.length ≤ 1048576) (hcap : L.length ≤ cap) (hLbd : ∀ x ∈ L, 0 ≤ x ∧ x ≤ 255) :
    Calls Tryz.prog 15 #[.slice ad L.length cap] w fun e w' => ∃ aM cM, e = .returned (.tuple #[.slice aM (allG L 0).1.length cM, .int .i64 (allG L 0).2]) ∧ FOwn ikEnc 8 27 w.heap.size w' (.slice aM (allG L 0).1.length cM) (allG L 0).1 ∧ Below w.heap.size w w' := by
  obtain ⟨i0, hi, hz0, hz1, hz2⟩ := info_parts ikInfo
  obtain ⟨R, hR⟩ : ∃ R, allG L 0 = R := ⟨_, rfl⟩
  have hA : Hid (AllAt L [] 0 R) := by show _ = _; rw [← hR]; simp
  rw [hR]
  clear hR
  go_enter Tryz.func15, Tryz.ntmps15
  go_wp2
  go_loopw [4, 5] (fun v i wr => ∃ (a : Int) (P : List Ik), 0 ≤ a ∧ a ≤ L.length ∧ 6 * (P.length : Int) ≤ a ∧ i = .int .i64 a ∧ Hid (AllAt L P a R) ∧ FOwn ikEnc 8 27 w.heap.size wr v P ∧ Below w.heap.size w wr) (fun _ i _ => L.length - (intOf i).toNat)
  case atStart => exact ⟨0, [], by omega, by omega, by simp, rfl, hA, FOwn.empty w, (Below.refl _ _).alloc (Nat.le_refl _) _⟩
  case round =>
    obtain ⟨a, P, a0, a1, a2, rfl, hG, O, B⟩ := hrel
    clear hA
    have sB := B.size
    go_wp2_with fail
    go_at_call 10
    refine (inOfS ad cap L a wr (hv.carry (fun x h h2 => B.block _ (hB x h h2))) (fun x h h2 => by have := hB x h h2; omega) hl hcap hLbd (by omega)).mono ?_
    rintro e w1 ⟨rfl, k1⟩
    replace B := B.trans (k1.mono sB)
    replace O := O.later k1
    clear k1 sB
    cases hx : inAt L a with
    | none =>
      obtain rfl := hG.out.stop hx
      obtain ⟨aM, cM, rfl⟩ := O.open_
      rw [show inOfV none = .tuple #[.agg #[.int .i64 0, .int .i64 0, .int .i64 0, .int .i64 0, .int .i64 0, .int .i64 0, .int .i64 0, .bool false], .int .i64 0, .bool false] from rfl]
      clear hx hG
      have B1 := B.alloc B.size (Obj.cells #[.int .i64 0, .int .i64 0, .int .i64 0, .int .i64 0, .int .i64 0, .int .i64 0, .int .i64 0, .bool false] 27)
      have O1 := O.later (below_new (w := w1) (Obj.cells #[.int .i64 0, .int .i64 0, .int .i64 0, .int .i64 0, .int .i64 0, .int .i64 0, .int .i64 0, .bool false] 27))
      go_wp2
      go_ret2
      exact ⟨aM, cM, rfl, O1, B1⟩
    | some xs =>
      obtain ⟨x, s⟩ := xs
      obtain ⟨hN, n1, n2, n3⟩ := hG.out.next hx
      replace hN : Hid _ := hN
      rw [show inOfV (some (x, s)) = .tuple #[.agg #[.int .i64 x.k, .int .i64 x.q, .int .i64 x.r, .int .i64 x.c, .int .i64 x.b, .int .i64 x.p, .int .i64 x.h, .bool x.up], .int .i64 s, .bool true] from rfl]
      clear hx hG
      obtain ⟨w2, hw2⟩ : ∃ y_, y_ = w1.alloc (Obj.cells #[.int .i64 x.k, .int .i64 x.q, .int .i64 x.r, .int .i64 x.c, .int .i64 x.b, .int .i64 x.p, .int .i64 x.h, .bool x.up] 27) := ⟨_, rfl⟩
      have X0 : JBox w2 w1.heap.size x := by rw [hw2]; exact ⟨InAt.new w1 _ x, fun i => by simp [go_sem]⟩
      have k2 : Below w1.heap.size w1 w2 := by rw [hw2]; exact below_new _
      replace B := B.trans (k2.mono B.size)
      replace O := O.later k2
      go_upto_region 4 with fail
      rw [← hw2]
      clear hw2 k2
      obtain ⟨w3, hw3⟩ : ∃ y_, y_ = w2.alloc (Obj.cells #[.int .i64 x.k, .int .i64 x.q, .int .i64 x.r, .int .i64 x.c, .int .i64 x.b, .int .i64 x.p, .int .i64 x.h, .bool x.up] 27) := ⟨_, rfl⟩
      have V1 : FView ikEnc w3 (some ⟨w2.heap.size, 0, none⟩) [x] := by rw [hw3]; exact FView.oneI w2 _ x
      have k3 : Below w2.heap.size w2 w3 := by rw [hw3]; exact below_new _
      have O3 := O.later k3
      have B3 := B.trans (k3.mono B.size)
      have z1 := B3.size
      obtain ⟨⟨e0, e1, e2, e3, e4, e5, e6, e7⟩, ef⟩ := X0
      go_wp2_with (first | (at_builtin; refine fappL ikEnc_len ikEnc_ones rfl _ _ 34 rfl w.heap.size 27 i0 (.agg #[.int .i64 0, .int .i64 0, .int .i64 0, .int .i64 0, .int .i64 0, .int .i64 0, .int .i64 0, .bool false]) 64 Tryz.underlying34 hi hz0 hz1 hz2 rfl (by decide) (by decide) _ P rfl ?zs0 (some ⟨w2.heap.size, 0, none⟩) 1 [x] rfl (fun e => by cases e) ?zs1 ?zs2 ?zs3 ?_))
      case zs0 => rw [← hw3]; exact O3
      case zs1 => rw [← hw3]; exact V1
      try case zs2 => simp; omega
      case zs3 => have := B.size; first | omega | (simp; omega)
      rw [← hw3]
      clear hw3 e0 e1 e2 e3 e4 e5 e6 e7 ef
      intro vZ wZ oZ gZ _
      have BZ : Below w.heap.size w wZ := B3.grown gZ z1 (fun g e => (O3.lt g e).1)
      go_wp2
      go_roundw
      case rel => exact ⟨s, P ++ [x], by omega, n3, by simp; omega, rfl, hN, oZ, BZ⟩
      case measure => simp [intOf]; omega

end Go.Proofs.YthgcbihhdbpbdaaGreatDoor
namespace Go.Proofs.YthgcbihhdbpbdaaGreatDoor
open Go.ChangeShapes Go.WideShapes Go.ChangeAt Go.RowKit
open Go.ChangeMaps (open_string shut_string)
set_option linter.unusedVariables false
set_option maxRecDepth 100000

theorem bOk_len4 {id : Int} {L : List Pt} (h : bOk id L = true) : L.length ≤ 4 := (bOk_all h).2.1.2
theorem reactO_len (id : Int) (L : List Pt) (x : Ik) : (reactO id L x).length ≤ 8 := by
  unfold reactO
  split
  · rename_i h
    unfold goes at h
    simp only [Bool.and_eq_true] at h
    have h4 := bOk_len4 h.1
    have h1 := gates_len L (afterL id L x) L.length
    have h2 := told_len id (afterL id L x) L.length
    rw [List.length_append]
    split
    · omega
    · simp; omega
  · simp

end Go.Proofs.YthgcbihhdbpbdaaGreatDoor
namespace Go.Proofs.YthgcbihhdbpbdaaGreatDoor
open Go.ChangeShapes Go.WideShapes Go.ChangeAt Go.RowKit
open Go.ChangeMaps (open_string shut_string)
set_option linter.unusedVariables false
set_option maxRecDepth 100000

/-- The numbers of what is said are small. -/
def B8o (x : Ou) : Prop := (-9 ≤ x.pt ∧ x.pt ≤ 200) ∧ (-9 ≤ x.r ∧ x.r ≤ 200) ∧ (-9 ≤ x.c ∧ x.c ≤ 200) ∧ (-9 ≤ x.b ∧ x.b ≤ 200) ∧ (-9 ≤ x.p ∧ x.p ≤ 200) ∧ (-9 ≤ x.h ∧ x.h ≤ 200)
theorem pOk_claim {x : Pt} (h : pOk x = true) (hh : x.has = true) : vOk x.r x.c x.b x.p = true ∧ 0 ≤ x.h ∧ x.h ≤ 8 := by
  simp only [pOk, Bool.and_eq_true] at h
  have hf := h.2.2.2.2
  unfold fitsB at hf
  rw [if_pos hh] at hf
  simp only [Bool.and_eq_true, decide_eq_true_eq] at hf
  exact ⟨hf.2.1, hf.2.2.1⟩
theorem root_bd {id : Int} {M : List Pt} {k : Nat} (h : rootO id M = some k) : (1 ≤ id ∧ id ≤ 9) ∧ (1 ≤ (M.getD k Pt.nil).r ∧ (M.getD k Pt.nil).r ≤ 9) ∧ (0 ≤ (M.getD k Pt.nil).c ∧ (M.getD k Pt.nil).c ≤ 20) ∧ (0 ≤ (M.getD k Pt.nil).h ∧ (M.getD k Pt.nil).h ≤ 8) := by
  obtain ⟨h1, h2, h3⟩ := rootO_some h
  obtain ⟨a1, a2, a3⟩ := bOk_all h1
  have hc : (M.getD k Pt.nil).has = true := by
    simp only [cand, Bool.and_eq_true] at h3
    exact h3.1
  obtain ⟨v1, v2⟩ := pOk_claim (a3 k) hc
  unfold vOk at v1
  simp only [decide_eq_true_eq] at v1
  exact ⟨a1, by omega, by omega, v2⟩
theorem ownR_bd (id : Int) (M : List Pt) (i : Nat) : (-9 ≤ (ownR id M i).1 ∧ (ownR id M i).1 ≤ 200) ∧ (-9 ≤ (ownR id M i).2.1 ∧ (ownR id M i).2.1 ≤ 200) ∧ (-9 ≤ (ownR id M i).2.2.1 ∧ (ownR id M i).2.2.1 ≤ 200) ∧ (-9 ≤ (ownR id M i).2.2.2 ∧ (ownR id M i).2.2.2 ≤ 200) := by
  unfold ownR
  split
  · rename_i h
    simp only [Bool.and_eq_true, decide_eq_true_eq] at h
    obtain ⟨a1, a2, _⟩ := bOk_all h.1
    cases hr : rootO id M with
    | none => simp only; omega
    | some k =>
      have := root_bd hr
      simp only
      omega
  · simp
theorem hopsR_bd (id : Int) (M : List Pt) : -9 ≤ hopsR id M ∧ hopsR id M ≤ 200 := by
  unfold hopsR
  cases hr : rootO id M with
  | none => simp
  | some k => have := root_bd hr; simp only; omega
theorem told_bd (id : Int) (M : List Pt) : ∀ n, n ≤ 4 → ∀ o ∈ toldTo id M n, B8o o
  | 0, _ => by simp [toldTo]
  | n + 1, hn => by
    intro o ho
    simp only [toldTo, List.mem_append] at ho
    rcases ho with h | h
    · exact told_bd id M n (by omega) o h
    · split at h
      · simp only [List.mem_cons, List.not_mem_nil, or_false] at h
        subst h
        have h1 := ownR_bd id M n
        have h2 := hopsR_bd id M
        unfold B8o toldO
        simp only
        omega
      · simp at h
theorem gates_bd (L M : List Pt) : ∀ n, n ≤ 4 → ∀ o ∈ gatesTo L M n, B8o o
  | 0, _ => by simp [gatesTo]
  | n + 1, hn => by
    intro o ho
    simp only [gatesTo, List.mem_append] at ho
    rcases ho with h | h
    · exact gates_bd L M n (by omega) o h
    · split at h
      · cases h
      · simp only [List.mem_cons, List.not_mem_nil, or_false] at h
        subst h
        unfold B8o gateO
        simp only
        omega
theorem reactO_bd (id : Int) (L : List Pt) (x : Ik) : ∀ o ∈ reactO id L x, B8o o := by
  unfold reactO
  split
  · rename_i h
    unfold goes at h
    simp only [Bool.and_eq_true] at h
    have h4 := bOk_len4 h.1
    intro o ho
    rcases List.mem_append.1 ho with q | q
    · exact gates_bd _ _ _ h4 o q
    · split at q
      · exact told_bd _ _ _ h4 o q
      · simp at q
  · intro o ho; cases ho

end Go.Proofs.YthgcbihhdbpbdaaGreatDoor
namespace Go.Proofs.YthgcbihhdbpbdaaGreatDoor
open Go.ChangeShapes Go.WideShapes Go.ChangeAt Go.RowKit
open Go.ChangeMaps (open_string shut_string)
set_option linter.unusedVariables false
set_option maxRecDepth 100000

set_option maxHeartbeats 8000000 in
theorem inOfI (ad : Option Addr) (cap : Nat) (L : List Int) (a : Int) (w : World) (hv : View w ad L.length (fun i => L.getD i 0)) (hB : ∀ x, ad = some x → 0 < L.length → x.block < w.heap.size) (hl : L.length ≤ 1048576) (hcap : L.length ≤ cap) (hLbd : ∀ x ∈ L, 0 ≤ x ∧ x ≤ 255) (ha0 : -9223372036854775808 ≤ a ∧ a ≤ 9223372036854775807) (tp : TypeId) (pv : Value) (hs : w.cell? ⟨1, 0, none⟩ = some (.iface tp pv)) (hge : w.cell? ⟨0, 0, none⟩ = some (.iface 172 (.agg #[.pointer (some ⟨6, 80, none⟩)]))) :
    Calls Tryz.prog 9 #[.slice ad L.length cap, .int .i64 a] w fun e w' => e = .returned (inOfV (inAt L a)) ∧ Below w.heap.size w w' := by
  have hsl : 1 < w.heap.size := World.block_lt_of_cell? w _ hs
  have hgl : 0 < w.heap.size := World.block_lt_of_cell? w _ hge
  obtain ⟨y0, hy⟩ : ∃ y, y = w.alloc (Obj.cells #[.int .i64 0, .int .i64 0, .int .i64 0, .int .i64 0, .int .i64 0, .int .i64 0, .int .i64 0, .bool false] 27) := ⟨_, rfl⟩
  have Z0 : JBox y0 w.heap.size Ik.nil := by rw [hy]; refine ⟨?_, fun i => by simp [go_sem]⟩; constructor <;> simp [go_sem, Ik.nil]
  have BW : Below w.heap.size w y0 := by rw [hy]; exact below_new _
  have lz := Z0.lt
  obtain ⟨R, hR⟩ : ∃ R, R = inAt L a := ⟨_, rfl⟩
  rw [← hR]
  replace hR : Hid _ := hR
  go_enter Tryz.func9, Tryz.ntmps9
  go_wp2_with fail
  go_at_call 48
  rw [← hy]
  clear hy
  refine (inAtI ad cap L a y0 (hv.carry (fun x h h2 => BW.block _ (hB x h h2))) (fun x h h2 => by have := hB x h h2; omega) hl hcap hLbd ha0 tp pv ((BW.cell (p := ⟨1, 0, none⟩) hsl).trans hs)).mono ?_
  rintro e y1 ⟨rfl, kq⟩
  rw [implAt_eq, ← hR.out]
  clear hR
  replace BW := BW.trans (kq.mono BW.size)
  replace Z0 := Z0.below kq Z0.lt
  have sy1 := kq.size
  clear kq
  cases R with
  | none =>
    rw [show inAtV a none = .tuple #[.agg #[.int .i64 0, .int .i64 0, .int .i64 0, .int .i64 0, .int .i64 0, .int .i64 0, .int .i64 0, .bool false], .int .i64 0, .iface 84 (.agg #[.int .i64 a])] from rfl]
    obtain ⟨y2, hy2⟩ : ∃ y_, y_ = (y1.alloc (Obj.cells #[.int .i64 0, .int .i64 0, .int .i64 0, .int .i64 0, .int .i64 0, .int .i64 0, .int .i64 0, .bool false] 27)).alloc (Obj.cells #[.int .i64 0] 84) := ⟨_, rfl⟩
    have kq : Below y1.heap.size y1 y2 := by rw [hy2]; exact ((Below.refl _ _).alloc (Nat.le_refl _) _).alloc (by simp) _
    have ht : y2.cell? ⟨y1.heap.size + 1, 0, none⟩ = some (.int .i64 0) := by rw [hy2]; simp [go_sem]
    have hf : y2.frozen? ⟨y1.heap.size + 1, 0, none⟩ = false := by rw [hy2]; simp [go_sem]
    replace BW := BW.trans (kq.mono BW.size)
    replace Z0 := Z0.below kq Z0.lt
    have hg2 := (BW.cell (p := ⟨0, 0, none⟩) hgl).trans hge
    clear kq
    go_wp2_with fail
    go_at_call 49
    rw [← hy2]
    clear hy2
    refine (as_hit a (y1.heap.size + 1) (.int .i64 0) y2 hg2 ht hf).mono ?_
    rintro e y3 ⟨rfl, _, kq⟩
    replace BW := BW.trans (kq.mono (by omega))
    replace Z0 := Z0.below kq (by omega)
    clear kq
    obtain ⟨⟨e0, e1, e2, e3, e4, e5, e6, e7⟩, ef⟩ := Z0
    have f0 := ef 0
    have f1 := ef 1
    have f2 := ef 2
    have f3 := ef 3
    have f4 := ef 4
    have f5 := ef 5
    have f6 := ef 6
    have f7 := ef 7
    go_wp2
    refine bodyPost_ret (v := .tuple #[.agg #[.int .i64 0, .int .i64 0, .int .i64 0, .int .i64 0, .int .i64 0, .int .i64 0, .int .i64 0, .bool false], .int .i64 0, .bool false]) (by simp [results, Tryz.results9, go_sem, *]) rfl ⟨rfl, ?_⟩
    exact below_all BW (Nat.le_refl _) Ik.nil
  | some xs =>
    obtain ⟨x, s⟩ := xs
    rw [show inAtV a (some (x, s)) = .tuple #[.agg #[.int .i64 x.k, .int .i64 x.q, .int .i64 x.r, .int .i64 x.c, .int .i64 x.b, .int .i64 x.p, .int .i64 x.h, .bool x.up], .int .i64 s, .nilIface] from rfl]
    obtain ⟨y2, hy2⟩ : ∃ y_, y_ = (y1.alloc (Obj.cells #[.int .i64 x.k, .int .i64 x.q, .int .i64 x.r, .int .i64 x.c, .int .i64 x.b, .int .i64 x.p, .int .i64 x.h, .bool x.up] 27)).alloc (Obj.cells #[.int .i64 0] 84) := ⟨_, rfl⟩
    have kq : Below y1.heap.size y1 y2 := by rw [hy2]; exact ((Below.refl _ _).alloc (Nat.le_refl _) _).alloc (by simp) _
    have X0 : JBox y2 y1.heap.size x := by rw [hy2]; refine ⟨?_, fun i => by simp [go_sem]⟩; constructor <;> simp [go_sem]
    replace BW := BW.trans (kq.mono BW.size)
    replace Z0 := Z0.below kq Z0.lt
    clear kq
    go_wp2_with fail
    go_at_call 49
    rw [← hy2]
    clear hy2
    refine (as_nil _ y2).mono ?_
    rintro e y3 ⟨rfl, hy3⟩
    rw [hy3]
    clear hy3 y3
    obtain ⟨⟨e0, e1, e2, e3, e4, e5, e6, e7⟩, ef⟩ := Z0
    obtain ⟨⟨g0, g1, g2, g3, g4, g5, g6, g7⟩, gf⟩ := X0
    have f0 := ef 0
    have f1 := ef 1
    have f2 := ef 2
    have f3 := ef 3
    have f4 := ef 4
    have f5 := ef 5
    have f6 := ef 6
    have f7 := ef 7
    go_wp2
    refine bodyPost_ret (v := .tuple #[.agg #[.int .i64 x.k, .int .i64 x.q, .int .i64 x.r, .int .i64 x.c, .int .i64 x.b, .int .i64 x.p, .int .i64 x.h, .bool x.up], .int .i64 s, .bool true]) (by simp [results, Tryz.results9, go_sem, *]) rfl ⟨rfl, ?_⟩
    exact below_all BW (Nat.le_refl _) x

end Go.Proofs.YthgcbihhdbpbdaaGreatDoor
namespace Go.Proofs.YthgcbihhdbpbdaaGreatDoor
open Go.ChangeShapes Go.WideShapes Go.ChangeAt Go.RowKit
open Go.ChangeMaps (open_string shut_string)
set_option linter.unusedVariables false
set_option maxRecDepth 100000

set_option maxHeartbeats 8000000 in
theorem wholeI (ad : Option Addr) (cap : Nat) (L : List Int) (w : World) (hv : View w ad L.length (fun i => L.getD i 0)) (hB : ∀ x, ad = some x → 0 < L.length → x.block < w.heap.size) (hl : L.length ≤ 1048576) (hcap : L.length ≤ cap) (hLbd : ∀ x ∈ L, 0 ≤ x ∧ x ≤ 255) (tp : TypeId) (pv : Value) (hs : w.cell? ⟨1, 0, none⟩ = some (.iface tp pv)) :
    Calls Tryz.prog 53 #[.slice ad L.length cap] w fun e w' => ∃ aM cM er, e = .returned (.tuple #[.slice aM (allG L 0).1.length cM, er]) ∧ ((er = .nilIface ∧ (allG L 0).2 = L.length) ∨ er = .iface 84 (.agg #[.int .i64 (allG L 0).2])) ∧ FOwn ikEnc 8 27 w.heap.size w' (.slice aM (allG L 0).1.length cM) (allG L 0).1 ∧ Below w.heap.size w w' := by
  obtain ⟨i0, hi, hz0, hz1, hz2⟩ := info_parts ikInfo
  have hsl : 1 < w.heap.size := World.block_lt_of_cell? w _ hs
  obtain ⟨R, hR⟩ : ∃ R, allG L 0 = R := ⟨_, rfl⟩
  have hA : Hid (AllAt L [] 0 R) := by show _ = _; rw [← hR]; simp
  rw [hR]
  clear hR
  go_enter Tryz.func53, Tryz.ntmps53
  go_wp2
  go_loopw [4, 5] (fun v i wr => ∃ (a : Int) (P : List Ik), 0 ≤ a ∧ a ≤ L.length ∧ 6 * (P.length : Int) ≤ a ∧ i = .int .i64 a ∧ Hid (AllAt L P a R) ∧ FOwn ikEnc 8 27 w.heap.size wr v P ∧ Below w.heap.size w wr) (fun _ i _ => L.length - (intOf i).toNat)
  case atStart => exact ⟨0, [], by omega, by omega, by simp, rfl, hA, FOwn.nil, Below.refl _ _⟩
  case round =>
    obtain ⟨a, P, a0, a1, a2, rfl, hG, O, B⟩ := hrel
    clear hA
    have sB := B.size
    by_cases hlt : a < (L.length : Int)
    · go_wp2_with fail
      go_at_call 48
      refine (inAtI ad cap L a wr (hv.carry (fun x h h2 => B.block _ (hB x h h2))) (fun x h h2 => by have := hB x h h2; omega) hl hcap hLbd (by omega) tp pv ((B.cell (p := ⟨1, 0, none⟩) hsl).trans hs)).mono ?_
      rintro e w1 ⟨rfl, k1⟩
      rw [implAt_eq]
      replace B := B.trans (k1.mono sB)
      replace O := O.later k1
      clear k1 sB
      cases hx : inAt L a with
      | none =>
        obtain rfl := hG.out.stop hx
        obtain ⟨aM, cM, rfl⟩ := O.open_
        rw [show inAtV a none = .tuple #[.agg #[.int .i64 0, .int .i64 0, .int .i64 0, .int .i64 0, .int .i64 0, .int .i64 0, .int .i64 0, .bool false], .int .i64 0, .iface 84 (.agg #[.int .i64 a])] from rfl]
        clear hx hG
        have B1 := B.alloc B.size (Obj.cells #[.int .i64 0, .int .i64 0, .int .i64 0, .int .i64 0, .int .i64 0, .int .i64 0, .int .i64 0, .bool false] 27)
        have O1 := O.later (below_new (w := w1) (Obj.cells #[.int .i64 0, .int .i64 0, .int .i64 0, .int .i64 0, .int .i64 0, .int .i64 0, .int .i64 0, .bool false] 27))
        go_wp2
        go_ret2
        exact ⟨aM, cM, _, rfl, .inr rfl, O1, B1⟩
      | some xs =>
        obtain ⟨x, s⟩ := xs
        obtain ⟨hN, n1, n2, n3⟩ := hG.out.next hx
        replace hN : Hid _ := hN
        rw [show inAtV a (some (x, s)) = .tuple #[.agg #[.int .i64 x.k, .int .i64 x.q, .int .i64 x.r, .int .i64 x.c, .int .i64 x.b, .int .i64 x.p, .int .i64 x.h, .bool x.up], .int .i64 s, .nilIface] from rfl]
        clear hx hG
        obtain ⟨w2, hw2⟩ : ∃ y_, y_ = w1.alloc (Obj.cells #[.int .i64 x.k, .int .i64 x.q, .int .i64 x.r, .int .i64 x.c, .int .i64 x.b, .int .i64 x.p, .int .i64 x.h, .bool x.up] 27) := ⟨_, rfl⟩
        have X0 : JBox w2 w1.heap.size x := by rw [hw2]; exact ⟨InAt.new w1 _ x, fun i => by simp [go_sem]⟩
        have k2 : Below w1.heap.size w1 w2 := by rw [hw2]; exact below_new _
        replace B := B.trans (k2.mono B.size)
        replace O := O.later k2
        go_upto_region 5 with fail
        rw [← hw2]
        clear hw2 k2
        obtain ⟨w3, hw3⟩ : ∃ y_, y_ = w2.alloc (Obj.cells #[.int .i64 x.k, .int .i64 x.q, .int .i64 x.r, .int .i64 x.c, .int .i64 x.b, .int .i64 x.p, .int .i64 x.h, .bool x.up] 27) := ⟨_, rfl⟩
        have V1 : FView ikEnc w3 (some ⟨w2.heap.size, 0, none⟩) [x] := by rw [hw3]; exact FView.oneI w2 _ x
        have k3 : Below w2.heap.size w2 w3 := by rw [hw3]; exact below_new _
        have O3 := O.later k3
        have B3 := B.trans (k3.mono B.size)
        have z1 := B3.size
        obtain ⟨⟨e0, e1, e2, e3, e4, e5, e6, e7⟩, ef⟩ := X0
        go_wp2_with (first | (at_builtin; refine fappL ikEnc_len ikEnc_ones rfl _ _ 34 rfl w.heap.size 27 i0 (.agg #[.int .i64 0, .int .i64 0, .int .i64 0, .int .i64 0, .int .i64 0, .int .i64 0, .int .i64 0, .bool false]) 64 Tryz.underlying34 hi hz0 hz1 hz2 rfl (by decide) (by decide) _ P rfl ?zi0 (some ⟨w2.heap.size, 0, none⟩) 1 [x] rfl (fun e => by cases e) ?zi1 ?zi2 ?zi3 ?_))
        case zi0 => rw [← hw3]; exact O3
        case zi1 => rw [← hw3]; exact V1
        try case zi2 => simp; omega
        case zi3 => have := B.size; first | omega | (simp; omega)
        rw [← hw3]
        clear hw3 e0 e1 e2 e3 e4 e5 e6 e7 ef
        intro vZ wZ oZ gZ _
        have BZ : Below w.heap.size w wZ := B3.grown gZ z1 (fun g e => (O3.lt g e).1)
        go_wp2
        go_roundw
        case rel => exact ⟨s, P ++ [x], by omega, n3, by simp; omega, rfl, hN, oZ, BZ⟩
        case measure => simp [intOf]; omega
    · obtain rfl : a = (L.length : Int) := by omega
      obtain rfl := hG.out.stop (inAt_end (by omega))
      obtain ⟨aM, cM, rfl⟩ := O.open_
      clear hG
      go_wp2
      go_ret2
      first | exact ⟨aM, cM, .nilIface, rfl, .inl ⟨rfl, rfl⟩, O, B⟩ | exact ⟨aM, cM, .nilIface, rfl, .inl rfl, O, B⟩
set_option maxHeartbeats 8000000 in
theorem allOfI (ad : Option Addr) (cap : Nat) (L : List Int) (w : World) (hv : View w ad L.length (fun i => L.getD i 0)) (hB : ∀ x, ad = some x → 0 < L.length → x.block < w.heap.size) (hl : L.length ≤ 1048576) (hcap : L.length ≤ cap) (hLbd : ∀ x ∈ L, 0 ≤ x ∧ x ≤ 255) (tp : TypeId) (pv : Value) (hs : w.cell? ⟨1, 0, none⟩ = some (.iface tp pv)) (hge : w.cell? ⟨0, 0, none⟩ = some (.iface 172 (.agg #[.pointer (some ⟨6, 80, none⟩)]))) :
    Calls Tryz.prog 14 #[.slice ad L.length cap] w fun e w' => ∃ aM cM, e = .returned (.tuple #[.slice aM (allG L 0).1.length cM, .int .i64 (allG L 0).2]) ∧ FOwn ikEnc 8 27 w.heap.size w' (.slice aM (allG L 0).1.length cM) (allG L 0).1 ∧ Below w.heap.size w w' := by
  have hgl : 0 < w.heap.size := World.block_lt_of_cell? w _ hge
  obtain ⟨⟨A, n⟩, hR⟩ : ∃ R, allG L 0 = R := ⟨_, rfl⟩
  rw [hR]
  replace hR : Hid _ := hR
  go_enter Tryz.func14, Tryz.ntmps14
  go_wp2_with fail
  go_at_call 53
  refine (wholeI ad cap L w hv hB hl hcap hLbd tp pv hs).mono ?_
  rintro e y1 ⟨aM, cM, er, rfl, her, O, B⟩
  have sw := B.size
  rw [hR.out] at her O ⊢
  dsimp only at her O ⊢
  clear hR
  obtain ⟨y2, hy2⟩ : ∃ y_, y_ = y1.alloc (Obj.cells #[.int .i64 0] 84) := ⟨_, rfl⟩
  have kq : Below y1.heap.size y1 y2 := by rw [hy2]; exact below_new _
  have ht : y2.cell? ⟨y1.heap.size, 0, none⟩ = some (.int .i64 0) := by rw [hy2]; simp [go_sem]
  have hf : y2.frozen? ⟨y1.heap.size, 0, none⟩ = false := by rw [hy2]; simp [go_sem]
  replace B := B.trans (kq.mono B.size)
  have sy : y1.heap.size < y2.heap.size := by rw [hy2]; simp
  rcases her with ⟨rfl, hn⟩ | rfl
  · replace O := O.later kq
    go_wp2_with fail
    go_at_call 49
    rw [← hy2]
    clear hy2
    refine (as_nil _ y2).mono ?_
    rintro e y3 ⟨rfl, hy3⟩
    rw [hy3]
    clear hy3 y3
    subst hn
    go_wp2
    go_ret2
    exact ⟨aM, cM, rfl, O, B⟩
  · have hg2 := (B.cell (p := ⟨0, 0, none⟩) hgl).trans hge
    go_wp2_with fail
    go_at_call 49
    rw [← hy2]
    clear hy2
    refine (as_hit n y1.heap.size (.int .i64 0) y2 hg2 ht hf).mono ?_
    rintro e y3 ⟨rfl, hc, k3⟩
    have B1 := B.trans (k3.mono sw)
    have O1 := O.keep (w' := y3) (fun g e => ((k3.block g (O.lt g e).2).trans (kq.block g (O.lt g e).2)))
    clear k3 kq O B hg2 ht hf
    go_wp2
    go_quiet (fail)
    go_wp2
    go_ret2
    exact ⟨aM, cM, rfl, O1.later (below_drewN (Below.refl _ _) _), below_drewN B1 _⟩

end Go.Proofs.YthgcbihhdbpbdaaGreatDoor
