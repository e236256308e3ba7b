/- impl.shown. -/
import Derived.Test.YtjholgpjicliaaaDoorRows
import Derived.WalkKit
import Derived.ProofKit
import Derived.OpenShut
import Derived.ShutString
import Derived.ChangeOld
import Derived.Below
import Derived.Deep.QuietTactic
import Derived.BigQuiet
import Derived.WalkSmall
import Derived.Laws.OwnMore
import Derived.WalkSpells
import Derived.WalkLawsBesides
import Derived.Deep.Cut
import Derived.Maps.AppendAt
import Derived.Lib.BufferRead
import Derived.Laws.IdiomStrings
import Derived.Test.YtjholgpjicliaaaDoorSh0
namespace Go.Proofs.YtjholgpjicliaaaDoor
open Go.ChangeShapes Go.WideShapes Go.ChangeAt Go.RowKit
open Go.ChangeMaps (open_string shut_string)
set_option linter.unusedVariables false
set_option maxRecDepth 100000

theorem convU {w : World} {ad : Option Addr} {c : Nat} {L : List UInt8} (hv : FView uEnc w ad L) : (convert 73 9 (.slice ad L.length c)).run Tryd.prog w = .ok (.string ⟨L.toArray⟩) w := by
  cases ad with
  | none =>
    obtain rfl := hv.none_nil
    exact Lib.run_convert_nil_bytes w 73 9 5 c Tryd.underlying73 Tryd.underlying5 Tryd.underlying9
  | some a =>
    exact run_convert_bytes_back (P := Tryd.prog) w 73 9 5 a c L Tryd.underlying73 Tryd.underlying5 Tryd.underlying9 (fun j hj => by
      obtain ⟨b, off, e, hc⟩ := hv (by omega)
      cases e
      have := hc j (.int .u8 L[j].toNat) (by rw [uCells, List.getElem?_map, List.getElem?_eq_getElem hj]; rfl)
      by_cases hj0 : j = 0
      · subst hj0; simpa [Addr.add] using this
      · simpa [Addr.add, hj0] using this)
theorem wordTI (s : ByteArray) (w : World) : Calls Tryd.prog 80 #[.string s] w fun e w' => e = .returned (.string s) ∧ Below w.heap.size w w' := by
  go_enter Tryd.func80, Tryd.ntmps80
  go_wp2
  go_ret
  exact ⟨rfl, Below.refl _ _⟩
theorem endTI (w : World) : Calls Tryd.prog 79 #[.agg #[]] w fun e w' => e = .returned (.string ⟨#[10]⟩) ∧ Below w.heap.size w w' := by
  go_enter Tryd.func79, Tryd.ntmps79
  go_wp2
  go_ret
  exact ⟨rfl, (Below.refl _ _).alloc (Nat.le_refl _) _⟩
theorem numTI (n : Int) (w : World) (hn : I64 n) (htab : TabOk w) : Calls Tryd.prog 78 #[.int .i64 n] w fun e w' => e = .returned (.string (dig n)) ∧ Below w.heap.size w w' := by
  go_enter Tryd.func78, Tryd.ntmps78
  go_wp2_with fail
  go_at_call 34
  refine (digitsImpl n w hn.1 hn.2 htab).mono ?_
  rintro e u1 ⟨rfl, k1⟩
  rw [show (⟨(Lib.itoa n).toArray⟩ : ByteArray) = dig n from rfl]
  go_wp2
  go_ret
  exact ⟨rfl, k1⟩
set_option maxHeartbeats 8000000 in
theorem shownI (ad : Option Addr) (cap : Nat) (L : List Prt) (w : World) (hv : FView prEnc w ad L) (hw : ∀ x ∈ L, pW x) (hl : L.length ≤ 6000000) (htab : TabOk w) :
    Calls Tryd.prog 28 #[.slice ad L.length cap] w fun e w' => e = .returned (.string (shT L)) ∧ Below w.heap.size w w' := by
  have hB := hv.lt prEnc_len (by omega)
  obtain ⟨i0, hi, hz0, hz1, hz2⟩ := info_parts uInfo
  go_enter Tryd.func28, Tryd.ntmps28
  go_wp2
  go_loopw [3, 4, 11] (fun v b i wr => ∃ k : Nat, k ≤ L.length ∧ i = .int .i64 k ∧ FOwn uEnc 1 5 w.heap.size wr v (shF (L.take k)).1 ∧ b = .bool (shF (L.take k)).2 ∧ Below w.heap.size w wr) (fun _ _ i _ => L.length - (intOf i).toNat)
  case atStart => exact ⟨0, Nat.zero_le _, rfl, FOwn.nil, rfl, Below.refl _ _⟩
  case round =>
    obtain ⟨k, hk, rfl, O, rfl, B⟩ := hrel
    by_cases hlt : k < L.length
    · obtain ⟨b, off, rfl, _⟩ := hv (by omega)
      have HT : Hid (shS (shF (L.take k)) (L.getD k (.inr none)) = shF (L.take (k + 1))) := shF_next hlt
      have hml : (shF (L.take k)).1.length ≤ 606000000 := by have := shF_len_take L hw k; omega
      have hx : pW (L.getD k (.inr none)) := hw _ (by rw [show L.getD k (.inr none) = L[k] by simp [List.getD, List.getElem?_eq_getElem hlt]]; exact List.getElem_mem hlt)
      obtain ⟨x, hxe⟩ : ∃ x, L.getD k (.inr none) = x := ⟨_, rfl⟩
      have hc : wr.cell? ⟨b, off + k, none⟩ = some (pV x) := by
        have := (hv.below B hB).at_ prEnc_len (.inr none) hlt 0 (pV x) (by rw [hxe]; rfl)
        simpa using this
      rw [hxe] at HT hx
      clear hxe
      have hbl : b < wr.heap.size := World.block_lt_of_cell? wr _ hc
      obtain ⟨⟨M, o⟩, hM⟩ : ∃ M, shF (L.take k) = M := ⟨_, rfl⟩
      rw [hM] at O HT hml ⊢
      dsimp only at O hml ⊢
      clear hM
      have S := B.size
      rcases x with s | _ | n
      · cases o
        · replace hc : wr.cell? ⟨b, off + k, none⟩ = some (.iface 80 (.string s)) := hc
          have hta : ∀ w_ : World, (Instr.typeAssert (.iface 80 (.string s)) 77 71 true).run Tryd.prog w_ = .ok (.tuple #[.agg #[], .bool false]) w_ := fun _ => by kernel_rfl
          have hm1 : ∀ w_ : World, (method 227 80 (.string s) "loop.example/g00470/impl.text").run Tryd.prog w_ = .ok (80, .string s) w_ := fun _ => by kernel_rfl
          obtain ⟨w1, hw1⟩ : ∃ y, y = wr.alloc (Obj.cells #[] 71) := ⟨_, rfl⟩
          have j1 : Below wr.heap.size wr w1 := by rw [hw1]; exact (Below.refl _ _).alloc (Nat.le_refl _) _
          have B1 := B.trans (j1.mono B.size)
          have O1 := O.later j1
          have S1 := j1.size
          go_wp2_with fail
          go_at_call 80
          rw [← hw1]
          clear hw1
          refine (wordTI s w1).mono ?_
          rintro e w4 ⟨rfl, k4⟩
          have B4 := B1.trans (k4.mono B1.size)
          have O4 := O1.later k4
          have S4 := B4.size
          go_wp2_with (first | (at_builtin; refine strBL rfl _ _ rfl w.heap.size _ M rfl O4 (s) rfl ?yl ?yb ?_))
          try case yl => have z := pT_size hx; (try simp only [List.length_append, List.length_cons, List.length_nil]); have e : (pT (.inl s)).size = (s).size := rfl; omega
          try case yb => omega
          intro v5 w5 O5 g5
          have B5 : Below w.heap.size w w5 := B4.grown g5 S4 (fun g e => (O4.lt g e).1)
          have O6 : FOwn uEnc 1 5 w.heap.size w5 v5 (shF (L.take (k + 1))).1 := by rw [← HT.out]; simpa [shS, pE, pT] using O5
          have e6 : (shF (L.take (k + 1))).2 = true := by rw [← HT.out]; rfl
          go_wp2
          go_roundw
          case rel => exact ⟨k + 1, by omega, by go_num, O6, by rw [e6], B5⟩
          case measure => simp [intOf]; omega
        · replace hc : wr.cell? ⟨b, off + k, none⟩ = some (.iface 80 (.string s)) := hc
          have hta : ∀ w_ : World, (Instr.typeAssert (.iface 80 (.string s)) 77 71 true).run Tryd.prog w_ = .ok (.tuple #[.agg #[], .bool false]) w_ := fun _ => by kernel_rfl
          have hm1 : ∀ w_ : World, (method 227 80 (.string s) "loop.example/g00470/impl.text").run Tryd.prog w_ = .ok (80, .string s) w_ := fun _ => by kernel_rfl
          obtain ⟨w1, hw1⟩ : ∃ y, y = wr.alloc (Obj.cells #[] 71) := ⟨_, rfl⟩
          have j1 : Below wr.heap.size wr w1 := by rw [hw1]; exact (Below.refl _ _).alloc (Nat.le_refl _) _
          have B1 := B.trans (j1.mono B.size)
          have O1 := O.later j1
          have S1 := j1.size
          obtain ⟨w2, hw2⟩ : ∃ y, y = (wr.alloc (Obj.cells #[] 71)).alloc (Obj.cells #[.int .u8 32] 5) := ⟨_, rfl⟩
          have j2 : Below wr.heap.size wr w2 := by rw [hw2]; exact ((Below.refl _ _).alloc (Nat.le_refl _) _).alloc (by simp) _
          have B2 := B.trans (j2.mono B.size)
          have O2 := O.later j2
          have S2 := B2.size
          have V2 : FView uEnc w2 (some ⟨wr.heap.size + 1, 0, none⟩) [32] := fun _ => ⟨wr.heap.size + 1, 0, rfl, fun j v hv => by obtain rfl : j = 0 := (by have h1 : j < 1 := (List.getElem?_eq_some_iff.1 hv).1; omega); cases hv; rw [hw2]; simp [go_sem]⟩
          go_wp2_with (first | (at_builtin; refine fappBL uEnc_len uEnc_ones rfl _ _ 73 rfl w.heap.size 5 i0 (.int .u8 0) 1 Tryd.underlying73 hi hz0 hz1 hz2 rfl (by decide) _ M rfl ?zo (some ⟨wr.heap.size + 1, 0, none⟩) 1 [32] rfl (fun e => by cases e) ?zv ?zl (by decide) ?zb ?_))
          case zo => rw [← hw2]; exact O2
          case zv => rw [← hw2]; exact V2
          try case zl => simp; omega
          try case zb => rw [← hw2]; exact S2
          rw [← hw2]
          clear hw2 V2 O2
          intro v3 w3 O3 g3 _
          have B3 : Below w.heap.size w w3 := B2.grown g3 S2 (fun g e => (O.lt g e).1)
          have S3 := B3.size
          go_wp2_with fail
          go_at_call 80
          clear hw1
          refine (wordTI s w3).mono ?_
          rintro e w4 ⟨rfl, k4⟩
          have B4 := B3.trans (k4.mono B3.size)
          have O4 := O3.later k4
          have S4 := B4.size
          go_wp2_with (first | (at_builtin; refine strBL rfl _ _ rfl w.heap.size v3 (M ++ [32]) rfl O4 (s) rfl ?yl ?yb ?_))
          try case yl => have z := pT_size hx; (try simp only [List.length_append, List.length_cons, List.length_nil]); have e : (pT (.inl s)).size = (s).size := rfl; omega
          try case yb => omega
          intro v5 w5 O5 g5
          have B5 : Below w.heap.size w w5 := B4.grown g5 S4 (fun g e => (O4.lt g e).1)
          have O6 : FOwn uEnc 1 5 w.heap.size w5 v5 (shF (L.take (k + 1))).1 := by rw [← HT.out]; simpa [shS, pE, pT] using O5
          have e6 : (shF (L.take (k + 1))).2 = true := by rw [← HT.out]; rfl
          go_wp2
          go_roundw
          case rel => exact ⟨k + 1, by omega, by go_num, O6, by rw [e6], B5⟩
          case measure => simp [intOf]; omega
      · cases o
        · replace hc : wr.cell? ⟨b, off + k, none⟩ = some (.iface 71 (.agg #[])) := hc
          have hta : ∀ w_ : World, (Instr.typeAssert (.iface 71 (.agg #[])) 77 71 true).run Tryd.prog w_ = .ok (.tuple #[.agg #[], .bool true]) w_ := fun _ => by kernel_rfl
          have hm1 : ∀ w_ : World, (method 227 71 (.agg #[]) "loop.example/g00470/impl.text").run Tryd.prog w_ = .ok (79, .agg #[]) w_ := fun _ => by kernel_rfl
          obtain ⟨w1, hw1⟩ : ∃ y, y = wr.alloc (Obj.cells #[] 71) := ⟨_, rfl⟩
          have j1 : Below wr.heap.size wr w1 := by rw [hw1]; exact (Below.refl _ _).alloc (Nat.le_refl _) _
          have B1 := B.trans (j1.mono B.size)
          have O1 := O.later j1
          have S1 := j1.size
          go_wp2_with fail
          go_at_call 79
          rw [← hw1]
          clear hw1
          refine (endTI w1).mono ?_
          rintro e w4 ⟨rfl, k4⟩
          have B4 := B1.trans (k4.mono B1.size)
          have O4 := O1.later k4
          have S4 := B4.size
          go_wp2_with (first | (at_builtin; refine strBL rfl _ _ rfl w.heap.size _ M rfl O4 ((⟨#[10]⟩ : ByteArray)) rfl ?yl ?yb ?_))
          try case yl => have z := pT_size hx; (try simp only [List.length_append, List.length_cons, List.length_nil]); have e : (pT (.inr none)).size = ((⟨#[10]⟩ : ByteArray)).size := rfl; omega
          try case yb => omega
          intro v5 w5 O5 g5
          have B5 : Below w.heap.size w w5 := B4.grown g5 S4 (fun g e => (O4.lt g e).1)
          have O6 : FOwn uEnc 1 5 w.heap.size w5 v5 (shF (L.take (k + 1))).1 := by rw [← HT.out]; simpa [shS, pE, pT] using O5
          have e6 : (shF (L.take (k + 1))).2 = false := by rw [← HT.out]; rfl
          go_wp2
          go_roundw
          case rel => exact ⟨k + 1, by omega, by go_num, O6, by rw [e6], B5⟩
          case measure => simp [intOf]; omega
        · replace hc : wr.cell? ⟨b, off + k, none⟩ = some (.iface 71 (.agg #[])) := hc
          have hta : ∀ w_ : World, (Instr.typeAssert (.iface 71 (.agg #[])) 77 71 true).run Tryd.prog w_ = .ok (.tuple #[.agg #[], .bool true]) w_ := fun _ => by kernel_rfl
          have hm1 : ∀ w_ : World, (method 227 71 (.agg #[]) "loop.example/g00470/impl.text").run Tryd.prog w_ = .ok (79, .agg #[]) w_ := fun _ => by kernel_rfl
          obtain ⟨w1, hw1⟩ : ∃ y, y = wr.alloc (Obj.cells #[] 71) := ⟨_, rfl⟩
          have j1 : Below wr.heap.size wr w1 := by rw [hw1]; exact (Below.refl _ _).alloc (Nat.le_refl _) _
          have B1 := B.trans (j1.mono B.size)
          have O1 := O.later j1
          have S1 := j1.size
          go_wp2_with fail
          go_at_call 79
          rw [← hw1]
          clear hw1
          refine (endTI w1).mono ?_
          rintro e w4 ⟨rfl, k4⟩
          have B4 := B1.trans (k4.mono B1.size)
          have O4 := O1.later k4
          have S4 := B4.size
          go_wp2_with (first | (at_builtin; refine strBL rfl _ _ rfl w.heap.size _ M rfl O4 ((⟨#[10]⟩ : ByteArray)) rfl ?yl ?yb ?_))
          try case yl => have z := pT_size hx; (try simp only [List.length_append, List.length_cons, List.length_nil]); have e : (pT (.inr none)).size = ((⟨#[10]⟩ : ByteArray)).size := rfl; omega
          try case yb => omega
          intro v5 w5 O5 g5
          have B5 : Below w.heap.size w w5 := B4.grown g5 S4 (fun g e => (O4.lt g e).1)
          have O6 : FOwn uEnc 1 5 w.heap.size w5 v5 (shF (L.take (k + 1))).1 := by rw [← HT.out]; simpa [shS, pE, pT] using O5
          have e6 : (shF (L.take (k + 1))).2 = false := by rw [← HT.out]; rfl
          go_wp2
          go_roundw
          case rel => exact ⟨k + 1, by omega, by go_num, O6, by rw [e6], B5⟩
          case measure => simp [intOf]; omega
      · cases o
        · replace hc : wr.cell? ⟨b, off + k, none⟩ = some (.iface 69 (.int .i64 n)) := hc
          have hta : ∀ w_ : World, (Instr.typeAssert (.iface 69 (.int .i64 n)) 77 71 true).run Tryd.prog w_ = .ok (.tuple #[.agg #[], .bool false]) w_ := fun _ => by kernel_rfl
          have hm1 : ∀ w_ : World, (method 227 69 (.int .i64 n) "loop.example/g00470/impl.text").run Tryd.prog w_ = .ok (78, .int .i64 n) w_ := fun _ => by kernel_rfl
          obtain ⟨w1, hw1⟩ : ∃ y, y = wr.alloc (Obj.cells #[] 71) := ⟨_, rfl⟩
          have j1 : Below wr.heap.size wr w1 := by rw [hw1]; exact (Below.refl _ _).alloc (Nat.le_refl _) _
          have B1 := B.trans (j1.mono B.size)
          have O1 := O.later j1
          have S1 := j1.size
          go_wp2_with fail
          go_at_call 78
          rw [← hw1]
          clear hw1
          refine (numTI n w1 hx (tab_later htab B1)).mono ?_
          rintro e w4 ⟨rfl, k4⟩
          have B4 := B1.trans (k4.mono B1.size)
          have O4 := O1.later k4
          have S4 := B4.size
          go_wp2_with (first | (at_builtin; refine strBL rfl _ _ rfl w.heap.size _ M rfl O4 (dig n) rfl ?yl ?yb ?_))
          try case yl => have z := pT_size hx; (try simp only [List.length_append, List.length_cons, List.length_nil]); have e : (pT (.inr (some n))).size = (dig n).size := rfl; omega
          try case yb => omega
          intro v5 w5 O5 g5
          have B5 : Below w.heap.size w w5 := B4.grown g5 S4 (fun g e => (O4.lt g e).1)
          have O6 : FOwn uEnc 1 5 w.heap.size w5 v5 (shF (L.take (k + 1))).1 := by rw [← HT.out]; simpa [shS, pE, pT] using O5
          have e6 : (shF (L.take (k + 1))).2 = true := by rw [← HT.out]; rfl
          go_wp2
          go_roundw
          case rel => exact ⟨k + 1, by omega, by go_num, O6, by rw [e6], B5⟩
          case measure => simp [intOf]; omega
        · replace hc : wr.cell? ⟨b, off + k, none⟩ = some (.iface 69 (.int .i64 n)) := hc
          have hta : ∀ w_ : World, (Instr.typeAssert (.iface 69 (.int .i64 n)) 77 71 true).run Tryd.prog w_ = .ok (.tuple #[.agg #[], .bool false]) w_ := fun _ => by kernel_rfl
          have hm1 : ∀ w_ : World, (method 227 69 (.int .i64 n) "loop.example/g00470/impl.text").run Tryd.prog w_ = .ok (78, .int .i64 n) w_ := fun _ => by kernel_rfl
          obtain ⟨w1, hw1⟩ : ∃ y, y = wr.alloc (Obj.cells #[] 71) := ⟨_, rfl⟩
          have j1 : Below wr.heap.size wr w1 := by rw [hw1]; exact (Below.refl _ _).alloc (Nat.le_refl _) _
          have B1 := B.trans (j1.mono B.size)
          have O1 := O.later j1
          have S1 := j1.size
          obtain ⟨w2, hw2⟩ : ∃ y, y = (wr.alloc (Obj.cells #[] 71)).alloc (Obj.cells #[.int .u8 32] 5) := ⟨_, rfl⟩
          have j2 : Below wr.heap.size wr w2 := by rw [hw2]; exact ((Below.refl _ _).alloc (Nat.le_refl _) _).alloc (by simp) _
          have B2 := B.trans (j2.mono B.size)
          have O2 := O.later j2
          have S2 := B2.size
          have V2 : FView uEnc w2 (some ⟨wr.heap.size + 1, 0, none⟩) [32] := fun _ => ⟨wr.heap.size + 1, 0, rfl, fun j v hv => by obtain rfl : j = 0 := (by have h1 : j < 1 := (List.getElem?_eq_some_iff.1 hv).1; omega); cases hv; rw [hw2]; simp [go_sem]⟩
          go_wp2_with (first | (at_builtin; refine fappBL uEnc_len uEnc_ones rfl _ _ 73 rfl w.heap.size 5 i0 (.int .u8 0) 1 Tryd.underlying73 hi hz0 hz1 hz2 rfl (by decide) _ M rfl ?zo (some ⟨wr.heap.size + 1, 0, none⟩) 1 [32] rfl (fun e => by cases e) ?zv ?zl (by decide) ?zb ?_))
          case zo => rw [← hw2]; exact O2
          case zv => rw [← hw2]; exact V2
          try case zl => simp; omega
          try case zb => rw [← hw2]; exact S2
          rw [← hw2]
          clear hw2 V2 O2
          intro v3 w3 O3 g3 _
          have B3 : Below w.heap.size w w3 := B2.grown g3 S2 (fun g e => (O.lt g e).1)
          have S3 := B3.size
          go_wp2_with fail
          go_at_call 78
          clear hw1
          refine (numTI n w3 hx (tab_later htab B3)).mono ?_
          rintro e w4 ⟨rfl, k4⟩
          have B4 := B3.trans (k4.mono B3.size)
          have O4 := O3.later k4
          have S4 := B4.size
          go_wp2_with (first | (at_builtin; refine strBL rfl _ _ rfl w.heap.size v3 (M ++ [32]) rfl O4 (dig n) rfl ?yl ?yb ?_))
          try case yl => have z := pT_size hx; (try simp only [List.length_append, List.length_cons, List.length_nil]); have e : (pT (.inr (some n))).size = (dig n).size := rfl; omega
          try case yb => omega
          intro v5 w5 O5 g5
          have B5 : Below w.heap.size w w5 := B4.grown g5 S4 (fun g e => (O4.lt g e).1)
          have O6 : FOwn uEnc 1 5 w.heap.size w5 v5 (shF (L.take (k + 1))).1 := by rw [← HT.out]; simpa [shS, pE, pT] using O5
          have e6 : (shF (L.take (k + 1))).2 = true := by rw [← HT.out]; rfl
          go_wp2
          go_roundw
          case rel => exact ⟨k + 1, by omega, by go_num, O6, by rw [e6], B5⟩
          case measure => simp [intOf]; omega
    · obtain rfl : k = L.length := by omega
      rw [List.take_length] at O
      obtain ⟨a, c, rfl⟩ := O.open_
      have hcv := convU O.view.2 (c := c)
      go_wp2
      go_ret
      exact ⟨rfl, B⟩

end Go.Proofs.YtjholgpjicliaaaDoor
