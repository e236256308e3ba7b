/- impl.Reach, walked. -/
import Derived.Test.YtdfjfodfnildiaaRows
import Derived.WalkKit
import Derived.ProofKit
import Derived.OpenShut
import Derived.ShutString
import Derived.ChangeOld
import Derived.Below
import Derived.Deep.QuietTactic
import Derived.BigQuiet
import Derived.WalkSmall
import Derived.Laws.OwnMore
import Derived.WalkSpells
import Derived.WalkLawsBesides
import Derived.Deep.Cut
import Derived.Laws.StructEq
import Derived.Maps.AppendAt
import Derived.Test.YtdfjfodfnildiaaTr9
import Derived.Test.YtdfjfodfnildiaaTr3
import Derived.Test.YtdfjfodfnildiaaTr5
namespace Go.Proofs.Ytdfjfodfnildiaa
open Go.ChangeShapes Go.WideShapes Go.ChangeAt Go.RowKit
open Go.ChangeMaps (open_string shut_string)
set_option linter.unusedVariables false
set_option maxRecDepth 100000

theorem ix5 (M : List Bool) {b0 b1 b2 b3 b4 : Bool} (h0 : M.getD 0 false = b0) (h1 : M.getD 1 false = b1) (h2 : M.getD 2 false = b2) (h3 : M.getD 3 false = b3) (h4 : M.getD 4 false = b4) (k : Nat) (hk : k < 5) : ∀ w : World, (Instr.index 58 (.agg #[.bool b0, .bool b1, .bool b2, .bool b3, .bool b4]) (.int .i64 (k : Int))).run Try.prog w = .ok (.bool (M.getD k false)) w := by
  rcases (by omega : k = 0 ∨ k = 1 ∨ k = 2 ∨ k = 3 ∨ k = 4) with rfl | rfl | rfl | rfl | rfl
  · intro w; rw [h0]; kernel_rfl
  · intro w; rw [h1]; kernel_rfl
  · intro w; rw [h2]; kernel_rfl
  · intro w; rw [h3]; kernel_rfl
  · intro w; rw [h4]; kernel_rfl
set_option maxHeartbeats 8000000 in
theorem reachI (adB : Option Addr) (capB : Nat) (Bs : List Bd) (adK : Option Addr) (capK : Nat) (K : List Lk) (m : Int) (al : Bool) (w : World) (h : NN w adB Bs adK K) (hcap : Bs.length ≤ capB) :
    Calls Try.prog 9 #[.agg #[.slice adB Bs.length capB, .slice adK K.length capK], .int .i64 m, .bool al] w fun e w' => ∃ L a c, ReachIs (dB Bs) K m al L ∧ e = .returned (.slice a (List.length L) c) ∧ FOwn ivEnc 1 3 w.heap.size w' (.slice a L.length c) L ∧ Below w.heap.size w w' := by
  obtain ⟨j0, hj, hj0, hj1, hj2⟩ := info_parts ivInfo
  obtain ⟨y, hy⟩ : ∃ y, y = w.alloc (Obj.cells #[.slice adB Bs.length capB, .slice adK K.length capK] 27) := ⟨_, rfl⟩
  have B0 : Below w.heap.size w y := by rw [hy]; exact below_new _
  have A : NeAt y w.heap.size (.slice adB Bs.length capB) (.slice adK K.length capK) := by rw [hy]; exact NeAt.new w _
  have hN := h.later B0
  have hk := h.hk
  have hlB := h.hl
  clear h
  by_cases hok : NetP (dB Bs) K
  rotate_left
  · replace hok : Hid _ := hok
    go_enter Try.func9, Try.ntmps9
    go_wp2_with fail
    go_at_call 27
    rw [← hy]
    clear hy
    refine (netOkI adB capB Bs adK capK K y hN hcap).mono ?_
    rintro e y1 ⟨⟨R1, rfl, hR1⟩, kq⟩
    obtain rfl := bool_no hR1 hok.out
    clear hR1
    have B1 := B0.trans (kq.mono B0.size)
    have A := A.below kq A.lt
    have hN := hN.later kq
    clear kq B0
    go_wp2
    go_ret
    exact ⟨[], _, _, .inl ⟨fun q => hok.out q.1, rfl⟩, rfl, FOwn.nil, B1⟩
  replace hok : Hid _ := hok
  go_enter Try.func9, Try.ntmps9
  go_wp2_with fail
  go_at_call 27
  rw [← hy]
  clear hy
  refine (netOkI adB capB Bs adK capK K y hN hcap).mono ?_
  rintro e y1 ⟨⟨R1, rfl, hR1⟩, kq⟩
  obtain rfl : R1 = true := hR1.2 hok.out
  clear hR1
  have B1 := B0.trans (kq.mono B0.size)
  have A := A.below kq A.lt
  have hN := hN.later kq
  clear kq B0
  by_cases h1 : m < 0
  · have d1 : decide (m < 0) = true := decide_eq_true h1
    go_wp2
    go_ret
    exact ⟨[], _, _, .inl ⟨fun q => by have := q.2.1; omega, rfl⟩, rfl, FOwn.nil, B1⟩
  have d1 : decide (m < 0) = false := decide_eq_false h1
  have cc := A
  obtain ⟨a0, a1⟩ := cc
  by_cases h2 : (Bs.length : Int) ≤ m
  · have d2 : decide ((Bs.length : Int) ≤ m) = true := decide_eq_true h2
    go_wp2
    go_ret
    exact ⟨[], _, _, .inl ⟨fun q => by have := q.2.2; rw [dB_len] at this; omega, rfl⟩, rfl, FOwn.nil, B1⟩
  have d2 : decide ((Bs.length : Int) ≤ m) = false := decide_eq_false h2
  clear a0 a1
  obtain ⟨f, rfl⟩ := Int.eq_ofNat_of_zero_le (show 0 ≤ m by omega)
  have hf : f < Bs.length := by omega
  have h5 : Bs.length ≤ 5 := by have := hok.out.many.2; rwa [dB_len] at this
  have hNn : InN K Bs.length := by have := hok.out.inN; rwa [dB_len] at this
  have h5N : InN K 5 := fun l hl => ⟨⟨(hNn l hl).1.1, by have := (hNn l hl).1.2; omega⟩, (hNn l hl).2.1, by have := (hNn l hl).2.2; omega⟩
  cases al
  · have cc := A
    obtain ⟨a0, a1⟩ := cc
    go_wp2_with fail
    go_at_call 40
    clear a0 a1
    refine (openLI adB capB Bs adK capK K y1 hN (fun l hl => netP_ports hok.out hl)).mono ?_
    rintro e y2 ⟨aO, cO, rfl, O, k2⟩
    have B2 := B1.trans (k2.mono B1.size)
    have VO := O.view.2
    have hlO : (K.filter (openB (dB Bs))).length ≤ 1048576 := Nat.le_trans (List.length_filter_le _ _) hk
    clear k2 O B1
    go_wp2_with fail
    go_at_call 41
    refine (cameI aO cO (K.filter (openB (dB Bs))) f y2 VO hlO (by omega) (h5N.sub (fun l hl => (List.mem_filter.1 hl).1))).mono ?_
    rintro e z ⟨M, hM, rfl, kz⟩
    have bz := B2.trans (kz.mono B2.size)
    clear kz VO hlO B2
    obtain ⟨hM1, hM2⟩ := hM.cut (hNn.sub (fun l hl => (List.mem_filter.1 hl).1)) ⟨by omega, by omega⟩ h5
    have hlM : M.length = 5 := hM.len
    have hRI : Hid (ReachIs (dB Bs) K (f : Int) false (idx 0 M)) := .inr ⟨hok.out, f, rfl, by rw [dB_len]; exact hf, M.take Bs.length, by rw [dB_len]; exact hM1, hM2⟩
    clear hM hM1 hM2
    obtain ⟨b0, g0⟩ : ∃ b, M.getD 0 false = b := ⟨_, rfl⟩
    obtain ⟨b1, g1⟩ : ∃ b, M.getD 1 false = b := ⟨_, rfl⟩
    obtain ⟨b2, g2⟩ : ∃ b, M.getD 2 false = b := ⟨_, rfl⟩
    obtain ⟨b3, g3⟩ : ∃ b, M.getD 3 false = b := ⟨_, rfl⟩
    obtain ⟨b4, g4⟩ : ∃ b, M.getD 4 false = b := ⟨_, rfl⟩
    rw [g0, g1, g2, g3, g4]
    replace g0 : Hid _ := g0
    replace g1 : Hid _ := g1
    replace g2 : Hid _ := g2
    replace g3 : Hid _ := g3
    replace g4 : Hid _ := g4
    replace hlM : Hid _ := hlM
    go_wp2
    have zs := bz.size
    go_loopw [8, 34] (fun v q wr => ∃ k : Nat, k ≤ 5 ∧ q = .int .i64 k ∧ FOwn ivEnc 1 3 z.heap.size wr v (idx 0 (M.take k)) ∧ Below z.heap.size z wr) (fun _ q _ => 5 - (intOf q).toNat)
    case atStart => exact ⟨0, Nat.zero_le _, rfl, FOwn.nil, Below.refl _ _⟩
    case round =>
      obtain ⟨k, hk2, rfl, O, kb⟩ := hrel
      by_cases hlt : k < 5
      · have hst := idx_take M (i := k) (by rw [hlM.out]; exact hlt)
        have ix := ix5 M g0.out g1.out g2.out g3.out g4.out k hlt
        obtain ⟨L, hL⟩ : ∃ L, idx 0 (M.take k) = L := ⟨_, rfl⟩
        have hLl : L.length ≤ k := by rw [← hL]; exact Nat.le_trans (idx_len _ _) (by simp; omega)
        rw [hL] at O hst
        clear hL
        obtain ⟨ak, ck2, rfl⟩ := O.open_
        obtain ⟨o, ho⟩ : ∃ o, M.getD k false = o := ⟨_, rfl⟩
        rw [ho] at ix hst
        clear ho
        replace hst : Hid _ := hst
        cases o
        · have hst : Hid (idx 0 (M.take (k + 1)) = L) := by have := hst.out; unfold Hid; simpa using this
          go_wp2
          go_roundw
          case rel => exact ⟨k + 1, by omega, by go_num, by rw [hst.out]; exact O, kb⟩
          case measure => simp [intOf]; omega
        · have hst : Hid (idx 0 (M.take (k + 1)) = L ++ [(k : Int)]) := by have := hst.out; unfold Hid; simpa using this
          have V1 := FView.oneI wr 3 (k : Int)
          have kx : Below wr.heap.size wr (wr.alloc (Obj.cells #[.int .i64 (k : Int)] 3)) := below_new _
          have O4 := O.later kx
          have b4 := kb.trans (kx.mono kb.size)
          have s4 := b4.size
          clear kx
          go_wp2_with (first | (at_builtin; refine fappL ivEnc_len ivEnc_ones rfl _ _ 30 rfl z.heap.size 3 j0 (.int .i64 0) 8 Try.underlying30 hj hj0 hj1 hj2 rfl (by decide) (by decide) (.slice ak L.length ck2) L rfl O4 (some ⟨wr.heap.size, 0, none⟩) 1 [(k : Int)] rfl (fun e => by cases e) V1 ?z0False ?z1False ?_) | go_in)
          case z0False => first | omega | (simp; omega)
          case z1False => have := kb.size; omega
          intro vZ wZ hownZ hgrowZ _
          have hob : ∀ q, (Value.slice ak L.length ck2).ownBlock = some q → z.heap.size ≤ q := fun q e => (O4.lt q e).1
          have bZ : Below z.heap.size z wZ := b4.grown hgrowZ (by exact s4) hob
          clear hgrowZ V1 O4 hob O b4 ix
          go_wp2
          go_roundw
          case rel => exact ⟨k + 1, by omega, by go_num, by rw [hst.out]; exact hownZ, bZ⟩
          case measure => simp [intOf]; omega
      · obtain rfl : k = 5 := by omega
        rw [show M.take 5 = M by rw [← hlM.out, List.take_length]] at O
        obtain ⟨ak, ck2, rfl⟩ := O.open_
        have OZ := O.base zs
        have bZ := bz.trans (kb.mono zs)
        go_wp2
        go_ret
        exact ⟨_, _, _, hRI.out, rfl, OZ, bZ⟩
  · have cc := A
    obtain ⟨a0, a1⟩ := cc
    go_wp2_with fail
    go_at_call 41
    clear a0 a1
    refine (cameI adK capK K f y1 hN.vk hk (by omega) h5N).mono ?_
    rintro e z ⟨M, hM, rfl, kz⟩
    have bz := B1.trans (kz.mono B1.size)
    clear kz
    obtain ⟨hM1, hM2⟩ := hM.cut hNn ⟨by omega, by omega⟩ h5
    have hlM : M.length = 5 := hM.len
    have hRI : Hid (ReachIs (dB Bs) K (f : Int) true (idx 0 M)) := .inr ⟨hok.out, f, rfl, by rw [dB_len]; exact hf, M.take Bs.length, by rw [dB_len]; exact hM1, hM2⟩
    clear hM hM1 hM2
    obtain ⟨b0, g0⟩ : ∃ b, M.getD 0 false = b := ⟨_, rfl⟩
    obtain ⟨b1, g1⟩ : ∃ b, M.getD 1 false = b := ⟨_, rfl⟩
    obtain ⟨b2, g2⟩ : ∃ b, M.getD 2 false = b := ⟨_, rfl⟩
    obtain ⟨b3, g3⟩ : ∃ b, M.getD 3 false = b := ⟨_, rfl⟩
    obtain ⟨b4, g4⟩ : ∃ b, M.getD 4 false = b := ⟨_, rfl⟩
    rw [g0, g1, g2, g3, g4]
    replace g0 : Hid _ := g0
    replace g1 : Hid _ := g1
    replace g2 : Hid _ := g2
    replace g3 : Hid _ := g3
    replace g4 : Hid _ := g4
    replace hlM : Hid _ := hlM
    go_wp2
    have zs := bz.size
    go_loopw [8, 34] (fun v q wr => ∃ k : Nat, k ≤ 5 ∧ q = .int .i64 k ∧ FOwn ivEnc 1 3 z.heap.size wr v (idx 0 (M.take k)) ∧ Below z.heap.size z wr) (fun _ q _ => 5 - (intOf q).toNat)
    case atStart => exact ⟨0, Nat.zero_le _, rfl, FOwn.nil, Below.refl _ _⟩
    case round =>
      obtain ⟨k, hk2, rfl, O, kb⟩ := hrel
      by_cases hlt : k < 5
      · have hst := idx_take M (i := k) (by rw [hlM.out]; exact hlt)
        have ix := ix5 M g0.out g1.out g2.out g3.out g4.out k hlt
        obtain ⟨L, hL⟩ : ∃ L, idx 0 (M.take k) = L := ⟨_, rfl⟩
        have hLl : L.length ≤ k := by rw [← hL]; exact Nat.le_trans (idx_len _ _) (by simp; omega)
        rw [hL] at O hst
        clear hL
        obtain ⟨ak, ck2, rfl⟩ := O.open_
        obtain ⟨o, ho⟩ : ∃ o, M.getD k false = o := ⟨_, rfl⟩
        rw [ho] at ix hst
        clear ho
        replace hst : Hid _ := hst
        cases o
        · have hst : Hid (idx 0 (M.take (k + 1)) = L) := by have := hst.out; unfold Hid; simpa using this
          go_wp2
          go_roundw
          case rel => exact ⟨k + 1, by omega, by go_num, by rw [hst.out]; exact O, kb⟩
          case measure => simp [intOf]; omega
        · have hst : Hid (idx 0 (M.take (k + 1)) = L ++ [(k : Int)]) := by have := hst.out; unfold Hid; simpa using this
          have V1 := FView.oneI wr 3 (k : Int)
          have kx : Below wr.heap.size wr (wr.alloc (Obj.cells #[.int .i64 (k : Int)] 3)) := below_new _
          have O4 := O.later kx
          have b4 := kb.trans (kx.mono kb.size)
          have s4 := b4.size
          clear kx
          go_wp2_with (first | (at_builtin; refine fappL ivEnc_len ivEnc_ones rfl _ _ 30 rfl z.heap.size 3 j0 (.int .i64 0) 8 Try.underlying30 hj hj0 hj1 hj2 rfl (by decide) (by decide) (.slice ak L.length ck2) L rfl O4 (some ⟨wr.heap.size, 0, none⟩) 1 [(k : Int)] rfl (fun e => by cases e) V1 ?z0True ?z1True ?_) | go_in)
          case z0True => first | omega | (simp; omega)
          case z1True => have := kb.size; omega
          intro vZ wZ hownZ hgrowZ _
          have hob : ∀ q, (Value.slice ak L.length ck2).ownBlock = some q → z.heap.size ≤ q := fun q e => (O4.lt q e).1
          have bZ : Below z.heap.size z wZ := b4.grown hgrowZ (by exact s4) hob
          clear hgrowZ V1 O4 hob O b4 ix
          go_wp2
          go_roundw
          case rel => exact ⟨k + 1, by omega, by go_num, by rw [hst.out]; exact hownZ, bZ⟩
          case measure => simp [intOf]; omega
      · obtain rfl : k = 5 := by omega
        rw [show M.take 5 = M by rw [← hlM.out, List.take_length]] at O
        obtain ⟨ak, ck2, rfl⟩ := O.open_
        have OZ := O.base zs
        have bZ := bz.trans (kb.mono zs)
        go_wp2
        go_ret
        exact ⟨_, _, _, hRI.out, rfl, OZ, bZ⟩

end Go.Proofs.Ytdfjfodfnildiaa
