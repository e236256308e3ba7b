/- Bridges drawn: right ones. -/
import Derived.Test.YthgcbihhdbpbdaaGreatDoorRows
import Derived.WalkKit
import Derived.ProofKit
import Derived.OpenShut
import Derived.ShutString
import Derived.ChangeOld
import Derived.Below
import Derived.Deep.QuietTactic
import Derived.BigQuiet
import Derived.WalkSmall
import Derived.Laws.OwnMore
import Derived.WalkSpells
import Derived.WalkLawsBesides
import Derived.Deep.Cut
import Derived.Test.YthgcbihhdbpbdaaGreatDoorM7
import Derived.Test.YthgcbihhdbpbdaaGreatDoorKRe5
import Derived.Test.YthgcbihhdbpbdaaGreatDoorM14
namespace Go.Proofs.YthgcbihhdbpbdaaGreatDoor
open Go.ChangeShapes Go.WideShapes Go.ChangeAt Go.RowKit
open Go.ChangeMaps (open_string shut_string)
set_option linter.unusedVariables false
set_option maxRecDepth 100000

def DrewB (m : Nat) (w : World) (cb : Nat) (ad : Option Addr) (len cap : Nat) (f : Nat → Int) (e : Ending) (w' : World) : Prop := ∃ id ad' cap' L, e = .returned (.agg #[.int .i64 id, .slice ad' (List.length L) cap']) ∧ (1 ≤ L.length ∧ L.length ≤ m) ∧ FOwn ptEnc 11 47 w.heap.size w' (.slice ad' L.length cap') L ∧ Src w' cb ad len cap f ∧ w.grownBy w' (some cb)
theorem newL_len {id n : Int} (h1 : 1 ≤ id) (h2 : id ≤ 9) (h3 : 1 ≤ n) (h4 : n ≤ 4) : (newL id n).length = n.toNat := by
  unfold newL
  rw [if_pos (by unfold nOk; rw [decide_eq_true (show 1 ≤ id ∧ id ≤ 9 from ⟨h1, h2⟩), decide_eq_true (show 1 ≤ n ∧ n ≤ 4 from ⟨h3, h4⟩)]; rfl), List.length_replicate]
set_option maxHeartbeats 8000000 in
theorem drawR8 {cb : Nat} {ad : Option Addr} {len cap : Nat} {f : Nat → Int} (w : World) (hs : Src w cb ad len cap f) (hcb : cb < w.heap.size) : Calls Tryz.prog 55 #[.pointer (some ⟨cb, 0, none⟩)] w fun e w' => DrewB 4 w cb ad len cap f e w' := by
  obtain ⟨R, hRe⟩ : ∃ R, R = w.heap.size := ⟨_, rfl⟩
  have hR : w.heap.size ≤ R := by omega
  have hRc : R ≠ cb := by omega
  obtain ⟨x0, hx0⟩ : ∃ x, x = w.alloc (Obj.cells #[.int .i64 0, .slice none 0 0] 51) := ⟨_, rfl⟩
  have D0 : DV w cb ad len cap x0 := by rw [hx0]; exact (DV.start hs).alloc _
  have R0 : BBox x0 R 0 (.slice none 0 0) := by rw [hx0, hRe]; exact BBox.new w _ _ _
  go_enter Tryz.func55, Tryz.ntmps55
  go_wp2_with fail
  go_at_call 56
  rw [← hx0, ← hRe]
  clear hx0 hRe
  refine (drawBelow (D0.src hs) 6 (by decide) (by decide)).mono ?_
  rintro e y1 ⟨i1, rfl, i10, i11, s1, g1⟩
  have D1 := D0.step s1 g1
  have R1 := R0.grown g1 hRc
  clear D0 R0 s1 g1
  go_wp2_with fail
  go_at_call 56
  refine (drawBelow (D1.src hs) 4 (by decide) (by decide)).mono ?_
  rintro e y2 ⟨i2, rfl, i20, i21, s2, g2⟩
  have D2 := D1.step s2 g2
  have R2 := R1.grown g2 hRc
  clear D1 R1 s2 g2
  go_wp2_with fail
  go_at_call 96
  refine (newBS (1 + i1) (1 + i2) y2).mono ?_
  rintro e y3 ⟨a0, c0, rfl, o3, k3⟩
  have hln := newL_len (id := 1 + i1) (n := 1 + i2) (by omega) (by omega) (by omega) (by omega)
  have R2l := R2.lt
  have D3 := D2.later8 k3
  have R3 := R2.below k3 R2.lt
  have z3 := k3.size
  obtain ⟨L0, hL0⟩ : ∃ L, newL (1 + i1) (1 + i2) = L := ⟨_, rfl⟩
  rw [hL0] at o3 hln ⊢
  have hl1 : 1 ≤ L0.length ∧ L0.length ≤ 4 := by omega
  obtain ⟨id0, hid⟩ : ∃ v, newI (1 + i1) (1 + i2) = v := ⟨_, rfl⟩
  obtain ⟨nk, hnk⟩ : ∃ v, nOk (1 + i1) (1 + i2) = v := ⟨_, rfl⟩
  rw [hid, hnk]
  clear hid hnk hL0 hln D2 R2 k3
  obtain ⟨y4, hy4⟩ : ∃ y_, y_ = y3.alloc (Obj.cells #[.int .i64 id0, .slice a0 L0.length c0] 51) := ⟨_, rfl⟩
  have kn : Below y3.heap.size y3 y4 := by rw [hy4]; exact below_new _
  have Q4 : BBox y4 y3.heap.size id0 (.slice a0 L0.length c0) := by rw [hy4]; exact BBox.new y3 _ _ _
  have D4 := D3.later8 kn
  have R4 := R3.below kn R3.lt
  have o4 := o3.later kn
  have og : ∀ g_, (Value.slice a0 L0.length c0).ownBlock = some g_ → y2.heap.size ≤ g_ ∧ g_ < y3.heap.size := fun g_ e => o3.lt g_ e
  go_upto_region 2 with fail
  rw [← hy4]
  clear hy4 kn D3 R3 o3
  generalize hQ : y3.heap.size = Q at Q4 og z3 ⊢
  have hRQ : R < Q := by omega
  clear hQ
  obtain ⟨n, hn⟩ : ∃ n, L0.length = n := ⟨_, rfl⟩
  have o5 : FOwn ptEnc 11 47 (R + 1) y4 (.slice a0 L0.length c0) L0 := o4.base (by omega)
  have hj : ∀ g_, (Value.slice a0 L0.length c0).ownBlock = some g_ → g_ ≠ Q := fun g_ e => by have := og g_ e; omega
  have hn4 : 1 ≤ n ∧ n ≤ 4 := by omega
  replace hn : Hid _ := hn
  clear og o4
  go_wp2
  go_loopw [5] (fun i wr => ∃ k : Nat, k ≤ n ∧ i = .int .i64 (k : Int) ∧ (∃ id L a c, (1 ≤ List.length L ∧ List.length L ≤ 4) ∧ BBox wr Q id (.slice a (List.length L) c) ∧ FOwn ptEnc 11 47 (R + 1) wr (.slice a (List.length L) c) L ∧ (∀ g_, (Value.slice a (List.length L) c).ownBlock = some g_ → g_ ≠ Q) ∧ List.length L = n) ∧ BBox wr R 0 (.slice none 0 0) ∧ DV w cb ad len cap wr) (fun i _ => n - (intOf i).toNat)
  case atStart => exact ⟨0, Nat.zero_le _, rfl, ⟨id0, L0, a0, c0, hl1, Q4, o5, hj, hn.out⟩, R4, D4⟩
  case round =>
    clear Q4 R4 D4 o5 hj
    obtain ⟨k, hk, rfl, ⟨id, L, a, c, hL, Q4, o4, hj, hLn⟩, R4, D4⟩ := hrel
    replace hLn : Hid _ := hLn
    have hQl := Q4.lt
    obtain ⟨⟨q0, q1⟩, qf⟩ := Q4
    have Q4 : BBox wr Q id (.slice a L.length c) := ⟨⟨q0, q1⟩, qf⟩
    have hQc : Q ≠ cb := by omega
    by_cases hlt : k < n
    · have hltL : k < L.length := by rw [hLn.out]; exact hlt
      go_wp2_with fail
      go_at_call 52
      refine (drawOnce (D4.src hs) 4 (by decide) (by decide)).mono ?_
      rintro e y5 ⟨bo, rfl, s5, g5⟩
      have D5 := D4.step s5 g5
      have R5 := R4.grown g5 hRc
      have Q5 := Q4.grown g5 hQc
      have o5 := o4.grown g5 (by omega)
      clear D4 R4 Q4 o4 s5 g5 q0 q1 qf
      cases bo
      · obtain ⟨⟨q0, q1⟩, qf⟩ := Q5
        have Q5 : BBox y5 Q id (.slice a L.length c) := ⟨⟨q0, q1⟩, qf⟩
        have hc := reactS id a c L ⟨3, (k : Int), 0, 0, 0, 0, 0, true⟩ y5 o5.view.2 (by omega) o5.capn
        go_wp2_with fail
        go_at_call 54
        refine hc.mono ?_
        rintro e y6 ⟨a6, c6, ao, co, rfl, o6, oo6, dd, k6⟩
        have hrl := reactL_len id L ⟨3, (k : Int), 0, 0, 0, 0, 0, true⟩
        obtain ⟨L6, hL6⟩ : ∃ L6, reactL id L ⟨3, (k : Int), 0, 0, 0, 0, 0, true⟩ = L6 := ⟨_, rfl⟩
        obtain ⟨O6, hO6⟩ : ∃ O6, reactO id L ⟨3, (k : Int), 0, 0, 0, 0, 0, true⟩ = O6 := ⟨_, rfl⟩
        rw [hL6] at o6 hrl ⊢
        rw [hO6] 
        have D6 := D5.later8 k6
        have R6 := R5.below k6 R5.lt
        have Q6 := Q5.below k6 Q5.lt
        have Q5l := Q5.lt
        have j6 : ∀ g_, (Value.slice a6 L6.length c6).ownBlock = some g_ → g_ ≠ Q := fun g_ e => by have := (o6.lt g_ e).1; omega
        have o6 : FOwn ptEnc 11 47 (R + 1) y6 (.slice a6 L6.length c6) L6 := o6.base (by omega)
        clear hc oo6 dd hL6 hO6 k6 D5 R5 Q5 o5 q0 q1 qf
        have QP := Q6.put id (.slice a6 L6.length c6)
        have RP := (R6.other (q' := Q) (i := 0) (u := .int .i64 id) (by omega)).other (q' := Q) (i := 1) (u := .slice a6 L6.length c6) (by omega)
        have DP := (D6.set (N := Q) (i := 0) (by omega) hcb (.int .i64 id)).set (N := Q) (i := 1) (by omega) hcb (.slice a6 L6.length c6)
        have OP : FOwn ptEnc 11 47 (R + 1) ((y6.setCell ⟨Q, 0, none⟩ (.int .i64 id)).setCell ⟨Q, 1, none⟩ (.slice a6 L6.length c6)) (.slice a6 L6.length c6) L6 := o6.keep fun g_ e => by
          rw [Below.heap_setCell _ _ _ _ (by show g_ ≠ Q; exact j6 g_ e), Below.heap_setCell _ _ _ _ (by show g_ ≠ Q; exact j6 g_ e)]
        obtain ⟨⟨q0, q1⟩, qf⟩ := Q6
        replace hrl : Hid _ := hrl
        have hl6 : 1 ≤ L6.length ∧ L6.length ≤ 4 := by have := hrl.out; omega
        go_wp2
        go_roundw
        case rel => exact ⟨k + 1, by omega, by go_num, ⟨id, L6, a6, c6, hl6, QP, OP, j6, by rw [hrl.out, hLn.out]⟩, RP, DP⟩
        case measure => simp [intOf]; omega
      · go_wp2
        go_roundw
        case rel => exact ⟨k + 1, by omega, by go_num, ⟨id, L, a, c, hL, Q5, o5, hj, hLn.out⟩, R5, D5⟩
        case measure => simp [intOf]; omega
    · have hge : ¬ k < L.length := by rw [hLn.out]; exact hlt
      have dL : decide ((k : Int) < (L.length : Int)) = false := decide_eq_false (by omega)
      have dL' : decide (k < L.length) = false := decide_eq_false hge
      replace hge : Hid _ := hge
      replace hlt : Hid _ := hlt
      go_upto_region 7 with fail
      clear q0 q1 qf
      go_wp2
      go_loopw [6] (fun i wr => ∃ k : Nat, k ≤ 10 ∧ i = .int .i64 (k : Int) ∧ (∃ id L a c, (1 ≤ List.length L ∧ List.length L ≤ 4) ∧ BBox wr Q id (.slice a (List.length L) c) ∧ FOwn ptEnc 11 47 (R + 1) wr (.slice a (List.length L) c) L ∧ (∀ g_, (Value.slice a (List.length L) c).ownBlock = some g_ → g_ ≠ Q)) ∧ BBox wr R 0 (.slice none 0 0) ∧ DV w cb ad len cap wr) (fun i _ => 10 - (intOf i).toNat)
      case atStart => exact ⟨0, Nat.zero_le _, rfl, ⟨id, L, a, c, hL, Q4, o4, hj⟩, R4, D4⟩
      case round =>
        clear Q4 R4 D4 o4 hj hL hLn hQl hlt
        obtain ⟨k, hk, rfl, ⟨id, L, a, c, hL, Q4, o4, hj⟩, R4, D4⟩ := hrel
        have hQl := Q4.lt
        go_wp2_with fail
        go_at_call 56
        refine (drawBelow (D4.src hs) 10 (by decide) (by decide)).mono ?_
        rintro e y5 ⟨t, rfl, t0, t1, s5, g5⟩
        have D5 := D4.step s5 g5
        have R5 := R4.grown g5 hRc
        have Q5 := Q4.grown g5 hQc
        have o5 := o4.grown g5 (by omega)
        clear D4 R4 Q4 o4 s5 g5
        by_cases hlt : (k : Int) < t
        · have dl : decide ((k : Int) < t) = true := decide_eq_true hlt
          have hk10 : k < 10 := by omega
          replace hlt : Hid _ := hlt
          go_upto_region 10 with fail
          refine wp_region_held (S := fun _ => True) (by kernel_rfl) ?_
          change wpAnyH _ _ _ _ _ _ _ _ (World.drew _)
          have D6 := D5.drew
          have R6 : BBox y5.drew R 0 (.slice none 0 0) := R5.keep rfl
          have Q6 : BBox y5.drew Q id (.slice a L.length c) := Q5.keep rfl
          have o6 : FOwn ptEnc 11 47 (R + 1) y5.drew (.slice a L.length c) L := o5.keep (fun _ _ => rfl)
          have hQd : Q < y5.drew.heap.size := Q6.lt
          obtain ⟨u0, hu0⟩ : ∃ y_, y_ = y5.drew := ⟨_, rfl⟩
          rw [← hu0] at D6 R6 Q6 o6 hQd ⊢
          clear hu0 D5 R5 Q5 o5
          have hT : True := trivial
          refine takeW 1 42 (.pointer (some ⟨cb, 0, none⟩)) rfl rfl (by kernel_rfl) (by kernel_rfl) (by kernel_rfl) (fun _ _ _ h => h) (by kernel_rfl) (by (intro w hSw; go_simp)) (by assumption) ?_
          simp only [List.set_cons_zero, List.set_cons_succ]
          refine wpAnyH_all (rs := [0, 2]) (by kernel_rfl) (by simp) ?_
          intro i hi; rcases (by simpa using hi : i = 0 ∨ i = 2) with rfl | rfl
          · refine wpOp_step rfl (fun K hK => ?_)
            rw [if_pos (by kernel_rfl)]
            have cc_ := Q6
            obtain ⟨⟨t0_, t1_⟩, tf_⟩ := cc_
            go_simp
            clear t0_ t1_ tf_
            refine hK _ _ ⟨trivial, ?_⟩
            clear hK K hi
            refine wpAnyH_all (rs := [2]) (by kernel_rfl) (by simp) ?_
            intro i hi; obtain rfl : i = 2 := by simpa using hi
            refine wpOp_step rfl (fun K hK => ?_)
            rw [if_pos (by kernel_rfl)]
            go_simp
            go_at_call 45
            refine (drawI8 u0 (D6.src hs) D6.cur.lt).mono ?_
            rintro e v1 ⟨x, rfl, s7, g7⟩
            have D6 := D6.step s7 g7
            have R6 := R6.grown g7 hRc
            have Q6 := Q6.grown g7 hQc
            have o6 := o6.grown g7 (by omega)
            clear s7 g7
            refine hK _ _ ⟨trivial, ?_⟩
            clear hK K hi
            refine wpAnyH_all (rs := [3]) (by kernel_rfl) (by simp) ?_
            intro i hi; obtain rfl : i = 3 := by simpa using hi
            refine wpOp_step rfl (fun K hK => ?_)
            rw [if_pos (by kernel_rfl)]
            go_simp
            go_at_call 54
            refine (reactS id a c L x v1 o6.view.2 (by omega) o6.capn).mono ?_
            rintro e v2 ⟨a6, c6, ao, co, rfl, o7, oo6, dd, k6⟩
            have hrl := reactL_len id L x
            obtain ⟨L6, hL6⟩ : ∃ L6, reactL id L x = L6 := ⟨_, rfl⟩
            obtain ⟨O6, hO6⟩ : ∃ O6, reactO id L x = O6 := ⟨_, rfl⟩
            rw [hL6] at o7 hrl ⊢
            rw [hO6]
            replace hrl : Hid _ := hrl
            have Q6l := Q6.lt
            have j6 : ∀ g_, (Value.slice a6 L6.length c6).ownBlock = some g_ → g_ ≠ Q := fun g_ e => by have := (o7.lt g_ e).1; omega
            have D6 := D6.later8 k6
            have R6 := R6.below k6 R6.lt
            have Q6 := Q6.below k6 Q6.lt
            have o7 : FOwn ptEnc 11 47 (R + 1) v2 (.slice a6 L6.length c6) L6 := o7.base (by omega)
            clear oo6 dd hL6 hO6 k6 o6
            refine hK _ _ ⟨trivial, ?_⟩
            clear hK K hi
            refine takeW 4 40 (.tuple #[.agg #[.int .i64 id, .slice a6 L6.length c6], .slice ao O6.length co]) rfl rfl (by kernel_rfl) (by kernel_rfl) (by kernel_rfl) (fun _ _ _ h => h) (by kernel_rfl) (by (intro w hSw; go_simp)) (by assumption) ?_
            simp only [List.set_cons_zero, List.set_cons_succ]
            refine takeW 5 45 (.agg #[.int .i64 id, .slice a6 L6.length c6]) rfl rfl (by kernel_rfl) (by kernel_rfl) (by kernel_rfl) (fun _ _ _ h => h) (by kernel_rfl) (by (intro w hSw; go_simp)) (by assumption) ?_
            simp only [List.set_cons_zero, List.set_cons_succ]
            refine takeW 6 46 (.slice ao O6.length co) rfl rfl (by kernel_rfl) (by kernel_rfl) (by kernel_rfl) (fun _ _ _ h => h) (by kernel_rfl) (by (intro w hSw; go_simp)) (by assumption) ?_
            simp only [List.set_cons_zero, List.set_cons_succ]
            refine wpAnyH_all (rs := [7]) (by kernel_rfl) (by simp) ?_
            intro i hi; obtain rfl : i = 7 := by simpa using hi
            refine wpOp_step rfl (fun K hK => ?_)
            rw [if_pos (by kernel_rfl)]
            have QP := Q6.put id (.slice a6 L6.length c6)
            have RP := (R6.other (q' := Q) (i := 0) (u := .int .i64 id) (by omega)).other (q' := Q) (i := 1) (u := .slice a6 L6.length c6) (by omega)
            have DP := (D6.set (N := Q) (i := 0) (by omega) hcb (.int .i64 id)).set (N := Q) (i := 1) (by omega) hcb (.slice a6 L6.length c6)
            have OP : FOwn ptEnc 11 47 (R + 1) ((v2.setCell ⟨Q, 0, none⟩ (.int .i64 id)).setCell ⟨Q, 1, none⟩ (.slice a6 L6.length c6)) (.slice a6 L6.length c6) L6 := o7.keep fun g_ e => by
              rw [Below.heap_setCell _ _ _ _ (by show g_ ≠ Q; exact j6 g_ e), Below.heap_setCell _ _ _ _ (by show g_ ≠ Q; exact j6 g_ e)]
            obtain ⟨⟨q0, q1⟩, qf⟩ := Q6
            go_simp
            refine hK _ _ ⟨trivial, ?_⟩
            clear hK K hi
            refine wpAnyH_done (by kernel_rfl) ?_ _
            have hl6 : 1 ≤ L6.length ∧ L6.length ≤ 4 := by have := hrl.out; omega
            go_wp2
            go_roundw
            case rel => exact ⟨k + 1, by omega, by go_num, ⟨id, L6, a6, c6, hl6, QP, OP, j6⟩, RP, DP⟩
            case measure => simp [intOf]; omega
          · refine wpOp_step rfl (fun K hK => ?_)
            rw [if_pos (by kernel_rfl)]
            go_simp
            go_at_call 45
            refine (drawI8 u0 (D6.src hs) D6.cur.lt).mono ?_
            rintro e v1 ⟨x, rfl, s7, g7⟩
            have D6 := D6.step s7 g7
            have R6 := R6.grown g7 hRc
            have Q6 := Q6.grown g7 hQc
            have o6 := o6.grown g7 (by omega)
            clear s7 g7
            refine hK _ _ ⟨trivial, ?_⟩
            clear hK K hi
            refine wpAnyH_all (rs := [0]) (by kernel_rfl) (by simp) ?_
            intro i hi; obtain rfl : i = 0 := by simpa using hi
            refine wpOp_step rfl (fun K hK => ?_)
            rw [if_pos (by kernel_rfl)]
            have cc_ := Q6
            obtain ⟨⟨t0_, t1_⟩, tf_⟩ := cc_
            go_simp
            clear t0_ t1_ tf_
            refine hK _ _ ⟨trivial, ?_⟩
            clear hK K hi
            refine wpAnyH_all (rs := [3]) (by kernel_rfl) (by simp) ?_
            intro i hi; obtain rfl : i = 3 := by simpa using hi
            refine wpOp_step rfl (fun K hK => ?_)
            rw [if_pos (by kernel_rfl)]
            go_simp
            go_at_call 54
            refine (reactS id a c L x v1 o6.view.2 (by omega) o6.capn).mono ?_
            rintro e v2 ⟨a6, c6, ao, co, rfl, o7, oo6, dd, k6⟩
            have hrl := reactL_len id L x
            obtain ⟨L6, hL6⟩ : ∃ L6, reactL id L x = L6 := ⟨_, rfl⟩
            obtain ⟨O6, hO6⟩ : ∃ O6, reactO id L x = O6 := ⟨_, rfl⟩
            rw [hL6] at o7 hrl ⊢
            rw [hO6]
            replace hrl : Hid _ := hrl
            have Q6l := Q6.lt
            have j6 : ∀ g_, (Value.slice a6 L6.length c6).ownBlock = some g_ → g_ ≠ Q := fun g_ e => by have := (o7.lt g_ e).1; omega
            have D6 := D6.later8 k6
            have R6 := R6.below k6 R6.lt
            have Q6 := Q6.below k6 Q6.lt
            have o7 : FOwn ptEnc 11 47 (R + 1) v2 (.slice a6 L6.length c6) L6 := o7.base (by omega)
            clear oo6 dd hL6 hO6 k6 o6
            refine hK _ _ ⟨trivial, ?_⟩
            clear hK K hi
            refine takeW 4 40 (.tuple #[.agg #[.int .i64 id, .slice a6 L6.length c6], .slice ao O6.length co]) rfl rfl (by kernel_rfl) (by kernel_rfl) (by kernel_rfl) (fun _ _ _ h => h) (by kernel_rfl) (by (intro w hSw; go_simp)) (by assumption) ?_
            simp only [List.set_cons_zero, List.set_cons_succ]
            refine takeW 5 45 (.agg #[.int .i64 id, .slice a6 L6.length c6]) rfl rfl (by kernel_rfl) (by kernel_rfl) (by kernel_rfl) (fun _ _ _ h => h) (by kernel_rfl) (by (intro w hSw; go_simp)) (by assumption) ?_
            simp only [List.set_cons_zero, List.set_cons_succ]
            refine takeW 6 46 (.slice ao O6.length co) rfl rfl (by kernel_rfl) (by kernel_rfl) (by kernel_rfl) (fun _ _ _ h => h) (by kernel_rfl) (by (intro w hSw; go_simp)) (by assumption) ?_
            simp only [List.set_cons_zero, List.set_cons_succ]
            refine wpAnyH_all (rs := [7]) (by kernel_rfl) (by simp) ?_
            intro i hi; obtain rfl : i = 7 := by simpa using hi
            refine wpOp_step rfl (fun K hK => ?_)
            rw [if_pos (by kernel_rfl)]
            have QP := Q6.put id (.slice a6 L6.length c6)
            have RP := (R6.other (q' := Q) (i := 0) (u := .int .i64 id) (by omega)).other (q' := Q) (i := 1) (u := .slice a6 L6.length c6) (by omega)
            have DP := (D6.set (N := Q) (i := 0) (by omega) hcb (.int .i64 id)).set (N := Q) (i := 1) (by omega) hcb (.slice a6 L6.length c6)
            have OP : FOwn ptEnc 11 47 (R + 1) ((v2.setCell ⟨Q, 0, none⟩ (.int .i64 id)).setCell ⟨Q, 1, none⟩ (.slice a6 L6.length c6)) (.slice a6 L6.length c6) L6 := o7.keep fun g_ e => by
              rw [Below.heap_setCell _ _ _ _ (by show g_ ≠ Q; exact j6 g_ e), Below.heap_setCell _ _ _ _ (by show g_ ≠ Q; exact j6 g_ e)]
            obtain ⟨⟨q0, q1⟩, qf⟩ := Q6
            go_simp
            refine hK _ _ ⟨trivial, ?_⟩
            clear hK K hi
            refine wpAnyH_done (by kernel_rfl) ?_ _
            have hl6 : 1 ≤ L6.length ∧ L6.length ≤ 4 := by have := hrl.out; omega
            go_wp2
            go_roundw
            case rel => exact ⟨k + 1, by omega, by go_num, ⟨id, L6, a6, c6, hl6, QP, OP, j6⟩, RP, DP⟩
            case measure => simp [intOf]; omega
        · have dl : decide ((k : Int) < t) = false := decide_eq_false hlt
          replace hlt : Hid _ := hlt
          go_upto_region 11 with fail
          have RP := R5.put id (.slice a L.length c)
          have DZ := (D5.set (N := R) (i := 0) (by omega) hcb (.int .i64 id)).set (N := R) (i := 1) (by omega) hcb (.slice a L.length c)
          have OZ : FOwn ptEnc 11 47 w.heap.size ((y5.setCell ⟨R, 0, none⟩ (.int .i64 id)).setCell ⟨R, 1, none⟩ (.slice a L.length c)) (.slice a L.length c) L := ((o5.other (q := R) (i := 0) (u := .int .i64 id) (by omega)).other (q := R) (i := 1) (u := .slice a L.length c) (by omega)).base (by omega)
          obtain ⟨⟨r0, r1⟩, rf⟩ := R5
          obtain ⟨⟨q0, q1⟩, qf⟩ := Q5
          obtain ⟨⟨p0, p1⟩, _⟩ := RP
          go_wp2
          refine bodyPost_ret (v := .agg #[.int .i64 id, .slice a L.length c]) (by simp [results, Tryz.results55, go_sem, *]) rfl ⟨id, a, c, L, rfl, by omega, OZ, DZ.src hs, DZ.gr⟩

end Go.Proofs.YthgcbihhdbpbdaaGreatDoor
