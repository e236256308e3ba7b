import Derived.Test.YtnpiljegdiconaaQM6
namespace Go.Proofs.Ytnpiljegdiconaa
open Go.ChangeShapes Go.WideShapes Go.ChangeAt Go.RowKit
open Go.ChangeMaps (open_string shut_string)
set_option linter.unusedVariables false
set_option maxRecDepth 100000
set_option maxHeartbeats 2000000 in
theorem readyI (m : Mi) (ad : Option Addr) (cap : Nat) (p : Int) (w : World) (hm : m.lg.length ≤ maxLen) :
  Calls Try.prog 10 #[.agg #[.bool m.up, .int .i64 m.li, .int .i64 m.ep, .slice ad m.lg.length cap, .int .i64 m.sd, .int .i64 m.ac, .int .i64 m.al], .int .i64 p] w fun e w' => e = .returned (.bool (readyB m p)) ∧ Below w.heap.size w w' := by
 obtain ⟨up, li, ep, L, sd, ac, al⟩ := m
 dsimp only
 dsimp only at hm
 obtain ⟨R, hR⟩ : ∃ R, R = readyB ⟨up, li, ep, L, sd, ac, al⟩ p := ⟨_, rfl⟩
 rw [← hR]
 replace hR : Hid _ := hR
 unfold maxLen at hm
 have B0 := below_new (w := w) (Obj.cells #[.bool up, .int .i64 li, .int .i64 ep, .slice ad L.length cap, .int .i64 sd, .int .i64 ac, .int .i64 al] 26)
 cases up
 ·
  have hN : Hid (R = false) := by unfold Hid; rw [hR.out]; unfold readyB; clear hR B0; first | (simp [*]; done) | (simp [*] at *; done) | (simp_all; done) | omega | grind
  clear hR
  go_enter Try.func10, Try.ntmps10
  go_wp2
  go_ret
  exact ⟨by rw [hN.out]; rfl, B0⟩
 ·
  by_cases q1 : 0 < ep
  ·
   have dq1 : decide (0 < ep) = true := decide_eq_true q1
   by_cases q2 : sd < (L.length : Int)
   ·
    have dq2 : decide (sd < (L.length : Int)) = true := decide_eq_true q2
    by_cases q3 : p = 0
    ·
     have dq3 : (p == 0) = true := by simpa using q3
     replace q3 : Hid _ := q3
     have hN : Hid (R = true) := by unfold Hid; rw [hR.out]; unfold readyB; clear hR B0; have eq3 := q3.out; first | (simp [*]; done) | (simp [*] at *; done) | (simp_all; done) | omega | grind
     clear hR
     go_enter Try.func10, Try.ntmps10
     go_wp2
     go_ret
     exact ⟨by rw [hN.out]; rfl, B0⟩
    ·
     have dq3 : (p == 0) = false := by simpa using q3
     replace q3 : Hid _ := q3
     by_cases q4 : al = p
     ·
      have dq4 : (al == p) = true := by simpa using q4
      replace q4 : Hid _ := q4
      by_cases q5 : sd < ac
      ·
       have dq5 : decide (sd < ac) = true := decide_eq_true q5
       have hN : Hid (R = true) := by unfold Hid; rw [hR.out]; unfold readyB; clear hR B0; have eq3 := q3.out; have eq4 := q4.out; first | (simp [*]; done) | (simp [*] at *; done) | (simp_all; done) | omega | grind
       clear hR
       go_enter Try.func10, Try.ntmps10
       go_wp2
       go_ret
       exact ⟨by rw [hN.out]; rfl, B0⟩
      ·
       have dq5 : decide (sd < ac) = false := decide_eq_false q5
       have hN : Hid (R = false) := by unfold Hid; rw [hR.out]; unfold readyB; clear hR B0; have eq3 := q3.out; have eq4 := q4.out; first | (simp [*]; done) | (simp [*] at *; done) | (simp_all; done) | omega | grind
       clear hR
       go_enter Try.func10, Try.ntmps10
       go_wp2
       go_ret
       exact ⟨by rw [hN.out]; rfl, B0⟩
     ·
      have dq4 : (al == p) = false := by simpa using q4
      replace q4 : Hid _ := q4
      have hN : Hid (R = false) := by unfold Hid; rw [hR.out]; unfold readyB; clear hR B0; have eq3 := q3.out; have eq4 := q4.out; first | (simp [*]; done) | (simp [*] at *; done) | (simp_all; done) | omega | grind
      clear hR
      go_enter Try.func10, Try.ntmps10
      go_wp2
      go_ret
      exact ⟨by rw [hN.out]; rfl, B0⟩
   ·
    have dq2 : decide (sd < (L.length : Int)) = false := decide_eq_false q2
    have hN : Hid (R = false) := by unfold Hid; rw [hR.out]; unfold readyB; clear hR B0; first | (simp [*]; done) | (simp [*] at *; done) | (simp_all; done) | omega | grind
    clear hR
    go_enter Try.func10, Try.ntmps10
    go_wp2
    go_ret
    exact ⟨by rw [hN.out]; rfl, B0⟩
  ·
   have dq1 : decide (0 < ep) = false := decide_eq_false q1
   have hN : Hid (R = false) := by unfold Hid; rw [hR.out]; unfold readyB; clear hR B0; first | (simp [*]; done) | (simp [*] at *; done) | (simp_all; done) | omega | grind
   clear hR
   go_enter Try.func10, Try.ntmps10
   go_wp2
   go_ret
   exact ⟨by rw [hN.out]; rfl, B0⟩
set_option maxHeartbeats 2000000 in
theorem readyS (m : Mi) (ad : Option Addr) (cap : Nat) (p : Int) (w : World) (hm : m.lg.length ≤ maxLen) :
  Calls Try.prog 12 #[.agg #[.bool m.up, .int .i64 m.li, .int .i64 m.ep, .slice ad m.lg.length cap, .int .i64 m.sd, .int .i64 m.ac, .int .i64 m.al], .int .i64 p] w fun e w' => e = .returned (.bool (readyB m p)) ∧ Below w.heap.size w w' := by
 obtain ⟨up, li, ep, L, sd, ac, al⟩ := m
 dsimp only
 dsimp only at hm
 obtain ⟨R, hR⟩ : ∃ R, R = readyB ⟨up, li, ep, L, sd, ac, al⟩ p := ⟨_, rfl⟩
 rw [← hR]
 replace hR : Hid _ := hR
 unfold maxLen at hm
 have B0 := below_new (w := w) (Obj.cells #[.bool up, .int .i64 li, .int .i64 ep, .slice ad L.length cap, .int .i64 sd, .int .i64 ac, .int .i64 al] 26)
 cases up
 ·
  have hN : Hid (R = false) := by unfold Hid; rw [hR.out]; unfold readyB; clear hR B0; first | (simp [*]; done) | (simp [*] at *; done) | (simp_all; done) | omega | grind
  clear hR
  go_enter Try.func12, Try.ntmps12
  go_wp2
  go_ret
  exact ⟨by rw [hN.out]; rfl, B0⟩
 ·
  by_cases q1 : 0 < ep
  ·
   have dq1 : decide (0 < ep) = true := decide_eq_true q1
   by_cases q2 : sd < (L.length : Int)
   ·
    have dq2 : decide (sd < (L.length : Int)) = true := decide_eq_true q2
    by_cases q3 : p = 0
    ·
     have dq3 : (p == 0) = true := by simpa using q3
     replace q3 : Hid _ := q3
     have hN : Hid (R = true) := by unfold Hid; rw [hR.out]; unfold readyB; clear hR B0; have eq3 := q3.out; first | (simp [*]; done) | (simp [*] at *; done) | (simp_all; done) | omega | grind
     clear hR
     go_enter Try.func12, Try.ntmps12
     go_wp2
     go_ret
     exact ⟨by rw [hN.out]; rfl, B0⟩
    ·
     have dq3 : (p == 0) = false := by simpa using q3
     replace q3 : Hid _ := q3
     by_cases q4 : al = p
     ·
      have dq4 : (al == p) = true := by simpa using q4
      replace q4 : Hid _ := q4
      by_cases q5 : sd < ac
      ·
       have dq5 : decide (sd < ac) = true := decide_eq_true q5
       have hN : Hid (R = true) := by unfold Hid; rw [hR.out]; unfold readyB; clear hR B0; have eq3 := q3.out; have eq4 := q4.out; first | (simp [*]; done) | (simp [*] at *; done) | (simp_all; done) | omega | grind
       clear hR
       go_enter Try.func12, Try.ntmps12
       go_wp2
       go_ret
       exact ⟨by rw [hN.out]; rfl, B0⟩
      ·
       have dq5 : decide (sd < ac) = false := decide_eq_false q5
       have hN : Hid (R = false) := by unfold Hid; rw [hR.out]; unfold readyB; clear hR B0; have eq3 := q3.out; have eq4 := q4.out; first | (simp [*]; done) | (simp [*] at *; done) | (simp_all; done) | omega | grind
       clear hR
       go_enter Try.func12, Try.ntmps12
       go_wp2
       go_ret
       exact ⟨by rw [hN.out]; rfl, B0⟩
     ·
      have dq4 : (al == p) = false := by simpa using q4
      replace q4 : Hid _ := q4
      have hN : Hid (R = false) := by unfold Hid; rw [hR.out]; unfold readyB; clear hR B0; have eq3 := q3.out; have eq4 := q4.out; first | (simp [*]; done) | (simp [*] at *; done) | (simp_all; done) | omega | grind
      clear hR
      go_enter Try.func12, Try.ntmps12
      go_wp2
      go_ret
      exact ⟨by rw [hN.out]; rfl, B0⟩
   ·
    have dq2 : decide (sd < (L.length : Int)) = false := decide_eq_false q2
    have hN : Hid (R = false) := by unfold Hid; rw [hR.out]; unfold readyB; clear hR B0; first | (simp [*]; done) | (simp [*] at *; done) | (simp_all; done) | omega | grind
    clear hR
    go_enter Try.func12, Try.ntmps12
    go_wp2
    go_ret
    exact ⟨by rw [hN.out]; rfl, B0⟩
  ·
   have dq1 : decide (0 < ep) = false := decide_eq_false q1
   have hN : Hid (R = false) := by unfold Hid; rw [hR.out]; unfold readyB; clear hR B0; first | (simp [*]; done) | (simp [*] at *; done) | (simp_all; done) | omega | grind
   clear hR
   go_enter Try.func12, Try.ntmps12
   go_wp2
   go_ret
   exact ⟨by rw [hN.out]; rfl, B0⟩
end Go.Proofs.Ytnpiljegdiconaa
