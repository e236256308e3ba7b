import Derived.Test.YtjmnaeeknomiaaaGreatDoorRM11
import Derived.Test.YtjmnaeeknomiaaaGreatDoorRM17
namespace Go.Proofs.YtjmnaeeknomiaaaGreatDoor
open Go.ChangeShapes Go.WideShapes Go.ChangeAt Go.RowKit
open Go.ChangeMaps (open_string shut_string)
set_option linter.unusedVariables false
set_option maxRecDepth 100000
set_option maxHeartbeats 32000000
set_option linter.unusedSimpArgs false
open Go.Proofs.Tryz
structure Ep (w : World) (q : Nat) (x : Wi) : Prop where
 c0 : w.cell? (ja q 0) = some (ji x.fr)
 c1 : w.cell? (ja q 1) = some (.bool x.ak)
 c2 : w.cell? (ja q 2) = some (ji x.li)
 c3 : w.cell? (ja q 3) = some (ji x.n)
 c4 : w.cell? (ja q 4) = some (ji x.x.k)
 c5 : w.cell? (ja q 5) = some (ji x.x.q)
 c6 : w.cell? (ja q 6) = some (ji x.x.r)
 c7 : w.cell? (ja q 7) = some (ji x.x.c)
 c8 : w.cell? (ja q 8) = some (ji x.x.b)
 c9 : w.cell? (ja q 9) = some (ji x.x.p)
 c10 : w.cell? (ja q 10) = some (ji x.x.h)
 c11 : w.cell? (ja q 11) = some (.bool x.x.up)
theorem Ep.all {w : World} {q : Nat} {x : Wi} (h : Ep w q x) : w.cell? (ja q 0) = some (ji x.fr) ∧ w.cell? (ja q 1) = some (.bool x.ak) ∧ w.cell? (ja q 2) = some (ji x.li) ∧ w.cell? (ja q 3) = some (ji x.n) ∧ w.cell? (ja q 4) = some (ji x.x.k) ∧ w.cell? (ja q 5) = some (ji x.x.q) ∧ w.cell? (ja q 6) = some (ji x.x.r) ∧ w.cell? (ja q 7) = some (ji x.x.c) ∧ w.cell? (ja q 8) = some (ji x.x.b) ∧ w.cell? (ja q 9) = some (ji x.x.p) ∧ w.cell? (ja q 10) = some (ji x.x.h) ∧ w.cell? (ja q 11) = some (.bool x.x.up) := ⟨h.c0, h.c1, h.c2, h.c3, h.c4, h.c5, h.c6, h.c7, h.c8, h.c9, h.c10, h.c11⟩
theorem Ep.new (w : World) (t : TypeId) (x : Wi) : Ep (w.alloc (Obj.cells #[ji x.fr, .bool x.ak, ji x.li, ji x.n, ji x.x.k, ji x.x.q, ji x.x.r, ji x.x.c, ji x.x.b, ji x.x.p, ji x.x.h, .bool x.x.up] t)) w.heap.size x := by
 refine ⟨?_, ?_, ?_, ?_, ?_, ?_, ?_, ?_, ?_, ?_, ?_, ?_⟩ <;> simp [go_sem]
theorem LQ (x : Ik) (w : World) : (binOp .neq 27 (.agg #[ji x.k, ji x.q, ji x.r, ji x.c, ji x.b, ji x.p, ji x.h, .bool x.up]) (.agg #[ji 0, ji 0, ji 0, ji 0, ji 0, ji 0, ji 0, .bool false])).run prog w = .ok (.bool (!Fd x)) w := by
 have hE : (binOp .eql 27 (.agg (ic x)) (.agg #[ji 0, ji 0, ji 0, ji 0, ji 0, ji 0, ji 0, .bool false])).run prog w = .ok (.bool (Fd x)) w := by
  unfold Fd;go_simp
  all_goals ((repeat' split) <;> first | (simp_all; done) | grind)
 unfold Fd;go_simp
 all_goals ((repeat' split) <;> first | (simp_all; done) | grind)
theorem Lh (x : AF) (w : World) (hV : Ck w x) :
  Calls prog 150 #[.agg (bc x)] w fun e w' => e = .returned (.bool (x.net.all Bl && decide (x.net.length ≤ 20))) ∧ Bw w w' := by
 obtain ⟨R, hR⟩ := AC (x.net.all Bl && decide (x.net.length ≤ 20));rw [← hR];replace hR : Hid _ := hR;obtain ⟨y, hy, B0⟩ := AM w (Obj.cells (bc x) 63);have A : Af y w.heap.size x := by rw [hy]; exact Af.new w _ x
 have V := hV.later B0;have S0 := A.lt;have bn := V.bn;go_enter func150, ntmps150
 go_upto_region 1 with fail
 rw [← hy];clear hy hV;go_wp2
 go_loopw [3] (fun i wr => ∃ k : Nat, k ≤ x.net.length ∧ i = .int .i64 k ∧ (x.net.take k).all Bl = true ∧ Below y.heap.size y wr) (fun i _ => x.net.length - (intOf i).toNat)
 case atStart => exact ⟨0, Nat.zero_le _, rfl, rfl, Below.refl _ _⟩
 case round =>
  obtain ⟨k, hk, rfl, T, K⟩ := hrel;replace T : Hid _ := T;have A2 := A.below K S0;have V2 := V.later K;obtain ⟨a0, a1, a2, a3, a4, a5, a6, a7, a8, a9⟩ := id A2;by_cases hlt : k < x.net.length
  ·
   obtain ⟨b, off, hat, _⟩ := V2.n (by omega);rw [hat] at a6;obtain ⟨v, hh⟩ : ∃ v, x.net.getD k Wi.nil = v := ⟨_, rfl⟩;have hck : Cw wr b (off + k * 12) v := by
    have ht := V2.n;rw [hat] at ht;rw [← hh];exact He (ht.at_ CY Wi.nil hlt)
   have hT := Hy Bl x.net Wi.nil hlt;rw [T.out, hh, Bool.true_and] at hT;have hNo : Bl v = false → x.net.all Bl = false := fun e => IU Bl x.net Wi.nil hlt (by rw [hh]; exact e)
   replace hT : Hid _ := hT;replace hh : Hid _ := hh;replace hat : Hid _ := hat;replace hck := hck.all;obtain ⟨u, hu, ku⟩ := AM wr (Obj.cells #[ji v.fr, .bool v.ak, ji v.li, ji v.n, ji v.x.k, ji v.x.q, ji v.x.r, ji v.x.c, ji v.x.b, ji v.x.p, ji v.x.h, .bool v.x.up] 164);have U : Ep u wr.heap.size v := by rw [hu]; exact Ep.new wr _ v
   have K0 := AG K ku;go_upto_region 5 with fail
   rw [← hu];clear hck hu ku K A2 V2 a0 a1 a2 a3 a4 a5 a6 a7 a8 a9;have c0 := U.all;go_wp2_with fail
   go_at_call 66
   clear c0;refine (BE v.fr 0 1 u).mono ?_;rintro e u1 ⟨rfl, hw_⟩;have U := (by rw [hw_]; exact U : Ep u1 wr.heap.size v);have K1 := (by rw [hw_]; exact K0 : Bw y u1);clear hw_ K0;cases h1 : decide (0 ≤ v.fr ∧ v.fr ≤ 1)
   ·
    have hx : Bl v = false := by unfold Bl; rw [h1]; rfl
    have hN : Hid (R = false) := by unfold Hid; rw [hR.out, hNo hx]; rfl
    clear hx hNo h1;go_wp2
    go_ret
    exact ⟨by rw [hN.out]; rfl, AG B0 K1⟩
   replace h1 : Hid _ := h1;have c0 := U.all;go_wp2_with fail
   go_at_call 66
   clear c0;refine (BE v.li 0 100000 u1).mono ?_;rintro e u2 ⟨rfl, hw_⟩;have U := (by rw [hw_]; exact U : Ep u2 wr.heap.size v);have K2 := (by rw [hw_]; exact K1 : Bw y u2);clear hw_ K1;rw [show decide (0 ≤ v.li ∧ v.li ≤ 100000) = CK v.li from rfl];cases h2 : CK v.li
   ·
    have hx : Bl v = false := by unfold Bl; rw [h1.out, h2]; rfl
    have hN : Hid (R = false) := by unfold Hid; rw [hR.out, hNo hx]; rfl
    clear hx hNo h2;go_wp2
    go_ret
    exact ⟨by rw [hN.out]; rfl, AG B0 K2⟩
   replace h2 : Hid _ := h2;have c0 := U.all;go_wp2_with fail
   go_at_call 66
   clear c0;refine (BE v.n 0 100000 u2).mono ?_;rintro e u3 ⟨rfl, hw_⟩;have U := (by rw [hw_]; exact U : Ep u3 wr.heap.size v);have K3 := (by rw [hw_]; exact K2 : Bw y u3);clear hw_ K2;rw [show decide (0 ≤ v.n ∧ v.n ≤ 100000) = CK v.n from rfl];cases h3 : CK v.n
   ·
    have hx : Bl v = false := by unfold Bl; rw [h1.out, h2.out, h3]; rfl
    have hN : Hid (R = false) := by unfold Hid; rw [hR.out, hNo hx]; rfl
    clear hx hNo h3;go_wp2
    go_ret
    exact ⟨by rw [hN.out]; rfl, AG B0 K3⟩
   replace h3 : Hid _ := h3;cases h4 : v.ak
   ·
    obtain ⟨c0, c1, c2, c3, c4, c5, c6, c7, c8, c9, c10, c11⟩ := id U;rw [h4] at c1;replace h4 : Hid _ := h4;go_wp2_with fail
    go_at_call 25
    clear c0 c1 c2 c3 c4 c5 c6 c7 c8 c9 c10 c11;refine (GN v.x u3).mono ?_;rintro e u4 ⟨rfl, k4⟩;have K4 := AG K3 k4;clear k4 K3;cases h5 : CR v.x
    ·
     have hx : Bl v = false := by unfold Bl; rw [h1.out, h2.out, h3.out, h4.out, if_neg (by decide), h5]; rfl
     have hN : Hid (R = false) := by unfold Hid; rw [hR.out, hNo hx]; rfl
     clear hx hNo h5;go_wp2
     go_ret
     exact ⟨by rw [hN.out]; rfl, AG B0 K4⟩
    replace h5 : Hid _ := h5;have hx : Bl v = true := by unfold Bl; rw [h1.out, h2.out, h3.out, h4.out, if_neg (by decide), h5.out]; rfl
    have hT2 : Hid ((x.net.take (k + 1)).all Bl = true) := by unfold Hid; rw [hT.out, hx]
    clear hx hNo;go_wp2
    go_roundw
    case rel => exact ⟨k + 1, by omega, by go_num, hT2.out, K4⟩
    case measure => simp [intOf]; omega
   have eI := LQ v.x;obtain ⟨c0, c1, c2, c3, c4, c5, c6, c7, c8, c9, c10, c11⟩ := id U;rw [h4] at c1;replace h4 : Hid _ := h4;cases h5 : Fd v.x
   ·
    rw [h5] at eI;have hx : Bl v = false := by unfold Bl; rw [h1.out, h2.out, h3.out, h4.out, if_pos rfl, h5]; rfl
    have hN : Hid (R = false) := by unfold Hid; rw [hR.out, hNo hx]; rfl
    clear hx hNo h5;go_wp2
    go_ret
    exact ⟨by rw [hN.out]; rfl, AG B0 K3⟩
   rw [h5] at eI;replace h5 : Hid _ := h5;have hx : Bl v = true := by unfold Bl; rw [h1.out, h2.out, h3.out, h4.out, if_pos rfl, h5.out]; rfl
   have hT2 : Hid ((x.net.take (k + 1)).all Bl = true) := by unfold Hid; rw [hT.out, hx]
   clear hx hNo;go_wp2
   go_roundw
   case rel => exact ⟨k + 1, by omega, by go_num, hT2.out, K3⟩
   case measure => simp [intOf]; omega
  obtain rfl : k = x.net.length := by omega
  have hN : Hid (R = decide ((x.net.length : Int) ≤ 20)) := by
   unfold Hid; rw [hR.out]
   have := T.out;rw [List.take_length] at this;rw [this, Bool.true_and];by_cases h : x.net.length ≤ 20
   ·
    rw [decide_eq_true h, decide_eq_true (by omega)]
   rw [decide_eq_false h, decide_eq_false (by omega)]
  go_wp2
  go_ret
  exact ⟨by rw [hN.out]; rfl, AG B0 K⟩
end Go.Proofs.YtjmnaeeknomiaaaGreatDoor
