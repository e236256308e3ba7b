import Derived.Test.YtjmnaeeknomiaaaGreatDoorRM8
namespace Go.Proofs.YtjmnaeeknomiaaaGreatDoor
open Go.ChangeShapes Go.WideShapes Go.ChangeAt Go.RowKit
open Go.ChangeMaps (open_string shut_string)
set_option linter.unusedVariables false
set_option maxRecDepth 100000
set_option maxHeartbeats 32000000
set_option linter.unusedSimpArgs false
open Go.Proofs.Tryz
theorem KQ {L : List Pt} {k : Nat} (h : k < L.length) (hq : Ae (L.getD k Pt.nil) = false) : L.all Ae = false := by
 rw [List.all_eq_false];exact ⟨L[k], List.getElem_mem h, by rw [show L.getD k Pt.nil = L[k] by simp [List.getD, h]] at hq; simp [hq]⟩
theorem Jm {L : List Pt} (h : ∀ j, j < L.length → Ae (L.getD j Pt.nil) = true) : L.all Ae = true := by
 rw [List.all_eq_true];intro x hx;obtain ⟨i, hi, rfl⟩ := List.getElem_of_mem hx;have := h i hi;rwa [show L.getD i Pt.nil = L[i] by simp [List.getD, hi]] at this
theorem Fh (id : Int) (ad : Option Addr) (cap : Nat) (L : List Pt) (w : World) (hv : AI AK w ad L) (hl : L.length ≤ 1048576) :
  Calls prog 91 #[.agg #[ji id, .slice ad L.length cap]] w fun e w' => e = .returned (.bool (Az id L)) ∧ Bw w w' := by
 have hB := hv.lt AV (by omega);obtain ⟨y, hy, B0⟩ := AM w (Obj.cells #[ji id, .slice ad L.length cap] 51);have A0 : Ap y w.heap.size id (.slice ad L.length cap) := by rw [hy]; exact Ap.new w _ _ _
 have S0 := A0.lt;have hv := hv.below B0 hB;have hB := hv.lt AV (by omega);obtain ⟨R, hR⟩ := AC (Az id L);rw [← hR];replace hR : Hid _ := hR;go_enter func91, ntmps91
 go_wp2
 rw [← hy];clear hy;go_loopw [3] (fun i wr => ∃ k : Nat, i = .int .i64 (k : Int) ∧ k ≤ L.length ∧ Hid (∀ j, j < k → Ae (L.getD j Pt.nil) = true) ∧ Below y.heap.size y wr) (fun i _ => L.length - (intOf i).toNat)
 case atStart => exact ⟨0, rfl, Nat.zero_le _, fun j hj => absurd hj (by omega), Below.refl _ _⟩
 case round =>
  obtain ⟨k, rfl, hk, hF, hb⟩ := hrel;obtain ⟨a0, a1⟩ := A0.below hb S0;by_cases hlt : k < L.length
  ·
   obtain ⟨b, off, rfl, _⟩ := hv (by omega);obtain ⟨h, hh⟩ : ∃ h, L.getD k Pt.nil = h := ⟨_, rfl⟩;have hck : CA wr b (off + k * 11) h := by
    rw [← hh];exact CP ((hv.below hb hB).at_ AV Pt.nil hlt)
   replace hck := hck.all;replace hh : Hid _ := hh;clear hB hv;go_wp2_with fail
   go_at_call 112
   refine (GQ h wr).mono ?_;rintro e w3 ⟨rfl, k3⟩;have b3 := AG hb k3;by_cases hq : Ae h = true
   ·
    rw [hq];go_wp2
    go_roundw
    case rel =>
     refine ⟨k + 1, by go_num, by omega, fun j hj => ?_, b3⟩;by_cases e : j = k
     ·
      rw [e, hh.out]; exact hq
     exact hF.out j (by omega)
    case measure => simp [intOf]; omega
   have hq' : Ae h = false := by simpa using hq
   rw [hq'];have hC : Hid (R = false) := by
    unfold Hid; rw [hR.out, Az, KQ hlt (by rw [hh.out]; exact hq')]; simp
   clear hR;go_wp2
   go_ret
   exact ⟨by rw [hC.out]; rfl, AG B0 b3⟩
  obtain rfl : k = L.length := by omega
  have hP := Jm hF.out;have B1 := AG B0 hb;by_cases h1 : 1 ≤ id ∧ id ≤ 9
  ·
   have d1 : decide (1 ≤ id ∧ id ≤ 9) = true := decide_eq_true h1;have hC : Hid (R = decide (1 ≤ (L.length : Int) ∧ (L.length : Int) ≤ 4)) := by
    unfold Hid; rw [hR.out, Az, hP, d1, Bool.true_and, Bool.and_true]; exact decide_eq_decide.2 (by omega)
   clear hR hP h1;go_wp2_with fail
   go_at_call 66
   refine (BE id 1 9 wr).mono ?_;rintro e w4 ⟨rfl, rfl⟩;rw [d1];go_wp2_with fail
   go_at_call 66
   refine (BE L.length 1 4 w4).mono ?_;rintro e w5 ⟨rfl, rfl⟩;rw [← hC.out];go_wp2
   go_ret
   exact ⟨rfl, B1⟩
  have d1 : decide (1 ≤ id ∧ id ≤ 9) = false := decide_eq_false h1;have hC : Hid (R = false) := by
   unfold Hid; rw [hR.out, Az, d1]; simp
  clear hR hP h1;go_wp2_with fail
  go_at_call 66
  refine (BE id 1 9 wr).mono ?_;rintro e w4 ⟨rfl, rfl⟩;rw [d1];go_wp2
  go_ret
  exact ⟨by rw [hC.out]; rfl, B1⟩
theorem Kb {id : Int} {x : Pt} (h : Ae x = true) : (x.up && Br id x) = Br id x := by
 cases hh : x.has
 ·
  simp [Br, hh]
 rw [(FW h hh).1]; rfl
end Go.Proofs.YtjmnaeeknomiaaaGreatDoor
