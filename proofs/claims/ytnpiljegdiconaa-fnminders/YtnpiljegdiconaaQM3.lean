import Derived.Test.YtnpiljegdiconaaQKPort3
namespace Go.Proofs.Ytnpiljegdiconaa
open Go.ChangeShapes Go.WideShapes Go.ChangeAt Go.RowKit
open Go.ChangeMaps (open_string shut_string)
set_option linter.unusedVariables false
set_option maxRecDepth 100000
def cnt (x : Pt) (r2 c2 b2 p2 : Int) : Bool := !x.has || (!vLt x.r x.c x.b x.p r2 c2 b2 p2 || ((b2 == x.b) && (p2 == x.p)))
def takes (x : Pt) (r2 c2 b2 p2 k : Int) : Bool := pOk x && (x.up && (vOk r2 c2 b2 p2 && (decide (0 ≤ k ∧ k ≤ 8) && cnt x r2 c2 b2 p2)))
def claimR (x : Pt) (r2 c2 b2 p2 k : Int) : Pt := if takes x r2 c2 b2 p2 k then ⟨x.up, true, r2, c2, b2, p2, k, 3, x.ro, x.wa, x.op⟩ else x
theorem claimR_no {x : Pt} {r2 c2 b2 p2 k : Int} (h : takes x r2 c2 b2 p2 k = false) : claimR x r2 c2 b2 p2 k = x := by unfold claimR; rw [h]; rfl
theorem claimR_yes {x : Pt} {r2 c2 b2 p2 k : Int} (h : takes x r2 c2 b2 p2 k = true) : claimR x r2 c2 b2 p2 k = ⟨x.up, true, r2, c2, b2, p2, k, 3, x.ro, x.wa, x.op⟩ := by unfold claimR; rw [h]; rfl
def fadeR (x : Pt) : Pt := if pOk x && x.has then (if x.l = 1 then x.bare else ⟨x.up, x.has, x.r, x.c, x.b, x.p, x.h, x.l - 1, x.ro, x.wa, x.op⟩) else x
theorem pOk_has {x : Pt} (h : pOk x = true) (hh : x.has = true) : x.up = true ∧ vOk x.r x.c x.b x.p = true ∧ 0 ≤ x.h ∧ x.h ≤ 8 ∧ 1 ≤ x.l ∧ x.l ≤ 3 := by
 rw [pOk_spec _ _ rfl] at h
 simp only [Bool.and_eq_true] at h
 have hf := h.1
 simp only [fitsB, hh, if_true, Bool.and_eq_true, decide_eq_true_eq] at hf
 exact ⟨hf.1, hf.2.1, hf.2.2.1.1, hf.2.2.1.2, hf.2.2.2.1, hf.2.2.2.2⟩
set_option maxHeartbeats 4000000 in
theorem fadeS (x : Pt) (w : World) : Calls Try.prog 88 #[.agg #[.bool x.up, .bool x.has, .int .i64 x.r, .int .i64 x.c, .int .i64 x.b, .int .i64 x.p, .int .i64 x.h, .int .i64 x.l, .int .i64 x.ro, .int .i64 x.wa, .bool x.op]] w fun e w' => e = .returned (.agg #[.bool (fadeR x).up, .bool (fadeR x).has, .int .i64 (fadeR x).r, .int .i64 (fadeR x).c, .int .i64 (fadeR x).b, .int .i64 (fadeR x).p, .int .i64 (fadeR x).h, .int .i64 (fadeR x).l, .int .i64 (fadeR x).ro, .int .i64 (fadeR x).wa, .bool (fadeR x).op]) ∧ Below w.heap.size w w' := by
 have hok := @pOk_has x
 obtain ⟨up, has, r, c, b, p, h, l, ro, wa, op⟩ := x
 dsimp only at hok ⊢
 have hY : Hid (fadeR ⟨up, has, r, c, b, p, h, l, ro, wa, op⟩ = if pOk ⟨up, has, r, c, b, p, h, l, ro, wa, op⟩ && has then (if l = 1 then ⟨up, false, 0, 0, 0, 0, 0, 0, ro, wa, op⟩ else ⟨up, has, r, c, b, p, h, l - 1, ro, wa, op⟩) else ⟨up, has, r, c, b, p, h, l, ro, wa, op⟩) := rfl
 replace hok : Hid (pOk ⟨up, has, r, c, b, p, h, l, ro, wa, op⟩ = true → has = true → 1 ≤ l ∧ l ≤ 3) := fun h h' => (hok h h').2.2.2.2
 generalize fadeR ⟨up, has, r, c, b, p, h, l, ro, wa, op⟩ = Y at hY ⊢
 obtain ⟨y, hy⟩ : ∃ y, y = (w.alloc (Obj.cells #[.bool up, .bool has, .int .i64 r, .int .i64 c, .int .i64 b, .int .i64 p, .int .i64 h, .int .i64 l, .int .i64 ro, .int .i64 wa, .bool op] 119)).alloc (Obj.cells #[.bool false, .bool false, .int .i64 0, .int .i64 0, .int .i64 0, .int .i64 0, .int .i64 0, .int .i64 0, .int .i64 0, .int .i64 0, .bool false] 119) := ⟨_, rfl⟩
 have P0 : PBox y w.heap.size ⟨up, has, r, c, b, p, h, l, ro, wa, op⟩ := by rw [hy]; refine ⟨?_, fun i => by simp [go_sem]⟩; constructor <;> simp [go_sem]
 have Q0 : PBox y (w.heap.size + 1) ⟨false, false, 0, 0, 0, 0, 0, 0, 0, 0, false⟩ := by rw [hy]; refine ⟨?_, fun i => by simp [go_sem]⟩; constructor <;> simp [go_sem]
 have B0 : Below w.heap.size w y := by rw [hy]; exact ((Below.refl _ _).alloc (Nat.le_refl _) _).alloc (by simp) _
 have S0 : w.heap.size + 1 < y.heap.size := Q0.lt
 go_enter Try.func88, Try.ntmps88
 go_wp2_with fail
 go_at_call 75
 rw [← hy]
 clear hy
 refine (pOkS ⟨up, has, r, c, b, p, h, l, ro, wa, op⟩ y).mono ?_
 rintro e w1 ⟨rfl, k1⟩
 have B1 := B0.trans (k1.mono B0.size)
 have S1 := Nat.lt_of_lt_of_le S0 k1.size
 replace P0 := P0.below k1 (by omega)
 have P1 := P0
 replace Q0 := Q0.below k1 (by omega)
 have Q1 := Q0
 clear P0 Q0 B0 S0 k1
 generalize pOk ⟨up, has, r, c, b, p, h, l, ro, wa, op⟩ = ok at hY hok ⊢
 cases ok
 ·
  obtain ⟨cp0, cp1, cp2, cp3, cp4, cp5, cp6, cp7, cp8, cp9, cp10⟩ := P1.at_
  obtain ⟨⟨cq0, cq1, cq2, cq3, cq4, cq5, cq6, cq7, cq8, cq9, cq10⟩, cqf⟩ := Q1
  replace hY : Hid (Y = ⟨up, has, r, c, b, p, h, l, ro, wa, op⟩) := hY.out
  go_wp2
  refine bodyPost_ret (v := .agg #[.bool up, .bool has, .int .i64 r, .int .i64 c, .int .i64 b, .int .i64 p, .int .i64 h, .int .i64 l, .int .i64 ro, .int .i64 wa, .bool op]) (by simp [results, Try.results88, go_sem, *]) rfl ⟨by rw [hY.out], ?_⟩
  repeat' (first | with_reducible exact B1 | with_reducible refine Below.setCell ?_ (by simp <;> omega) _ | with_reducible refine Below.drew ?_)
 cases has
 ·
  obtain ⟨cp0, cp1, cp2, cp3, cp4, cp5, cp6, cp7, cp8, cp9, cp10⟩ := P1.at_
  obtain ⟨⟨cq0, cq1, cq2, cq3, cq4, cq5, cq6, cq7, cq8, cq9, cq10⟩, cqf⟩ := Q1
  replace hY : Hid (Y = ⟨up, false, r, c, b, p, h, l, ro, wa, op⟩) := hY.out
  go_wp2
  refine bodyPost_ret (v := .agg #[.bool up, .bool false, .int .i64 r, .int .i64 c, .int .i64 b, .int .i64 p, .int .i64 h, .int .i64 l, .int .i64 ro, .int .i64 wa, .bool op]) (by simp [results, Try.results88, go_sem, *]) rfl ⟨by rw [hY.out], ?_⟩
  repeat' (first | with_reducible exact B1 | with_reducible refine Below.setCell ?_ (by simp <;> omega) _ | with_reducible refine Below.drew ?_)
 obtain ⟨l1, l3⟩ := hok.out rfl rfl
 clear hok
 replace hY : Hid (Y = if l = 1 then ⟨up, false, 0, 0, 0, 0, 0, 0, ro, wa, op⟩ else ⟨up, true, r, c, b, p, h, l - 1, ro, wa, op⟩) := hY.out
 have hw : IntKind.i64.wrap (l - 1) = l - 1 := by rw [IntKind.wrap_i64]; omega
 obtain ⟨m, hm⟩ : ∃ m, m = l - 1 := ⟨_, rfl⟩
 by_cases hl : l = 1
 ·
  subst hl
  replace hY : Hid (Y = ⟨up, false, 0, 0, 0, 0, 0, 0, ro, wa, op⟩) := hY.out
  clear hw hm
  obtain ⟨⟨cp0, cp1, cp2, cp3, cp4, cp5, cp6, cp7, cp8, cp9, cp10⟩, cpf⟩ := P1
  obtain ⟨⟨cq0, cq1, cq2, cq3, cq4, cq5, cq6, cq7, cq8, cq9, cq10⟩, cqf⟩ := Q1
  go_wp2
  refine bodyPost_ret (v := .agg #[.bool up, .bool false, .int .i64 0, .int .i64 0, .int .i64 0, .int .i64 0, .int .i64 0, .int .i64 0, .int .i64 ro, .int .i64 wa, .bool op]) (by simp [results, Try.results88, go_sem, *]) rfl ⟨by rw [hY.out], ?_⟩
  repeat' (first | with_reducible exact B1 | with_reducible refine Below.setCell ?_ (by simp <;> omega) _ | with_reducible refine Below.drew ?_)
 have hlb : ((l - 1) == 0) = false := by simp; omega
 replace hY : Hid (Y = ⟨up, true, r, c, b, p, h, m, ro, wa, op⟩) := hY.out.trans (by rw [if_neg hl, hm])
 rw [← hm] at hw hlb
 replace hw : IntKind.i64.wrap (l - 1) = m := by rw [← hm]; exact hw
 clear hm
 obtain ⟨⟨cp0, cp1, cp2, cp3, cp4, cp5, cp6, cp7, cp8, cp9, cp10⟩, cpf⟩ := P1
 obtain ⟨⟨cq0, cq1, cq2, cq3, cq4, cq5, cq6, cq7, cq8, cq9, cq10⟩, cqf⟩ := Q1
 go_wp2
 refine bodyPost_ret (v := .agg #[.bool up, .bool true, .int .i64 r, .int .i64 c, .int .i64 b, .int .i64 p, .int .i64 h, .int .i64 m, .int .i64 ro, .int .i64 wa, .bool op]) (by simp [results, Try.results88, go_sem, *]) rfl ⟨by rw [hY.out], ?_⟩
 repeat' (first | with_reducible exact B1 | with_reducible refine Below.setCell ?_ (by simp <;> omega) _ | with_reducible refine Below.drew ?_)
def waitR (ro wa role : Int) : Int := if role = 3 then 0 else if ro = 3 then 4 else wa
def turnR (x : Pt) (role : Int) : Pt := if pOk x && (x.up && raUp role) then ⟨x.up, x.has, x.r, x.c, x.b, x.p, x.h, x.l, role, waitR x.ro x.wa role, raOp role (waitR x.ro x.wa role)⟩ else x
set_option maxHeartbeats 4000000 in
theorem openS (x : Pt) (w : World) : Calls Try.prog 89 #[.agg #[.bool x.up, .bool x.has, .int .i64 x.r, .int .i64 x.c, .int .i64 x.b, .int .i64 x.p, .int .i64 x.h, .int .i64 x.l, .int .i64 x.ro, .int .i64 x.wa, .bool x.op]] w fun e w' => e = .returned (.agg #[.bool x.up, .bool x.has, .int .i64 x.r, .int .i64 x.c, .int .i64 x.b, .int .i64 x.p, .int .i64 x.h, .int .i64 x.l, .int .i64 x.ro, .int .i64 x.wa, .bool (raOp x.ro x.wa)]) ∧ Below w.heap.size w w' := by
 obtain ⟨up, has, r, c, b, p, h, l, ro, wa, op⟩ := x
 dsimp only
 have e : Hid (raOp ro wa = (((ro == 1) || (ro == 2)) && (wa == 0))) := by unfold raOp; rw [Hid, Bool.eq_iff_iff]; simp
 generalize raOp ro wa = o at e ⊢
 cases l1 : (ro == 1)
 ·
  cases l2 : (ro == 2)
  ·
   replace e : Hid (o = false) := e.out.trans (by rw [l1, l2]; rfl)
   go_enter Try.func89, Try.ntmps89
   go_wp2
   refine bodyPost_ret (v := .agg #[.bool up, .bool has, .int .i64 r, .int .i64 c, .int .i64 b, .int .i64 p, .int .i64 h, .int .i64 l, .int .i64 ro, .int .i64 wa, .bool false]) (by simp [results, Try.results89, go_sem]) rfl ⟨by rw [e.out], ?_⟩
   exact ((Below.refl _ _).alloc (Nat.le_refl _) _).alloc (by simp) _
  ·
   replace e : Hid (o = (wa == 0)) := e.out.trans (by rw [l1, l2]; rfl)
   go_enter Try.func89, Try.ntmps89
   go_wp2
   refine bodyPost_ret (v := .agg #[.bool up, .bool has, .int .i64 r, .int .i64 c, .int .i64 b, .int .i64 p, .int .i64 h, .int .i64 l, .int .i64 ro, .int .i64 wa, .bool (wa == 0)]) (by simp [results, Try.results89, go_sem]) rfl ⟨by rw [e.out], ?_⟩
   exact ((Below.refl _ _).alloc (Nat.le_refl _) _).alloc (by simp) _
 ·
  replace e : Hid (o = (wa == 0)) := e.out.trans (by rw [l1]; rfl)
  go_enter Try.func89, Try.ntmps89
  go_wp2
  refine bodyPost_ret (v := .agg #[.bool up, .bool has, .int .i64 r, .int .i64 c, .int .i64 b, .int .i64 p, .int .i64 h, .int .i64 l, .int .i64 ro, .int .i64 wa, .bool (wa == 0)]) (by simp [results, Try.results89, go_sem]) rfl ⟨by rw [e.out], ?_⟩
  exact ((Below.refl _ _).alloc (Nat.le_refl _) _).alloc (by simp) _
structure CodeIn (w : World) (ad : Option Addr) (len : Nat) (f : Nat → Int) : Prop where
 lm : len ≤ maxLen
 view : View w ad len f
 lt : ∀ a, ad = some a → 0 < len → a.block < w.heap.size
 bytes : ∀ i, 0 ≤ f i ∧ f i ≤ 255
theorem codeIn_open {H : Type} {enc : TypeId × Value → H} {w : World} {r : Reach} {b0 : Nat} {v : Value} {d : DataW H} {p : List MemPlace} (hv : Value.okWide Try.prog w r b0 22 v) (h : DataW.Trod enc Try.prog w 0 (fun _ => true) true 22 v d p) :
  ∃ ad len cap f, v = .slice ad len cap ∧ CodeIn w ad len f := by
 obtain ⟨n, hn⟩ := h
 obtain ⟨a0, len0, cap0, rfl⟩ := okWide_slice (P := Try.prog) (t := 22) (e := 5) Try.underlying22 hv
 have hcell0 : ∀ x, (Value.slice a0 len0 cap0).cells.toList = [x] → Value.slice a0 len0 cap0 = x := fun x h => by simpa [Value.cells] using h
 rcases open_ints Try.underlying22 Try.underlying5 (by kernel_rfl) hn with ⟨hcs, _⟩ | ⟨x, l, cp, zs, hcs, _, hl, hm, hz, _, hcell, hwz⟩
 ·
  exact ⟨none, 0, 0, fun _ => 0, hcell0 _ hcs, by unfold maxLen; omega, fun h => absurd h (by omega), fun a h => by simp at h, fun i => by simp⟩
 ·
  simp at hz
  refine ⟨some x, l, cp, fun i => zs.getD i 0, hcell0 _ hcs, by omega, fun hp => ?_, fun a h hp => ?_, fun i => ?_⟩
  ·
   obtain ⟨b, off, rfl, hc⟩ := ints_at hcell (by omega)
   exact ⟨b, off, rfl, fun i hi => hc i (by omega)⟩
  ·
   obtain rfl : x = a := by simpa using h
   have hc := hcell 0 (by omega)
   simpa [Addr.add] using World.block_lt_of_cell? w _ hc
  ·
   by_cases hi : i < zs.length
   ·
    have := bounds_u8 (hwz (zs.getD i 0) (by simp [List.getD, hi]))
    exact this
   ·
    simp [List.getD, List.getElem?_eq_none (by omega : zs.length ≤ i)]
theorem bigYes (ad : Option Addr) (len cap : Nat) (w : World) (h : (1048576 : Int) < (len : Int)) : Calls Try.prog 4 #[.slice ad len cap] w fun e w' => e = .returned (.bool true) ∧ w' = w := by
 go_enter Try.func4, Try.ntmps4
 go_wp2
 go_ret
 exact ⟨rfl, rfl⟩
theorem bigNo (ad : Option Addr) (len cap : Nat) (w : World) (h : len ≤ 1048576) : Calls Try.prog 4 #[.slice ad len cap] w fun e w' => e = .returned (.bool false) ∧ w' = w := by
 have h' : decide ((1048576 : Int) < (len : Int)) = false := decide_eq_false (by omega)
 go_enter Try.func4, Try.ntmps4
 go_wp2
 go_ret
 exact ⟨rfl, rfl⟩
end Go.Proofs.Ytnpiljegdiconaa
