/- impl.cameTo, walked. -/
import Derived.Test.YtdfjfodfnildiaaRows
import Derived.WalkKit
import Derived.ProofKit
import Derived.OpenShut
import Derived.ShutString
import Derived.ChangeOld
import Derived.Below
import Derived.Deep.QuietTactic
import Derived.BigQuiet
import Derived.WalkSmall
import Derived.Laws.OwnMore
import Derived.WalkSpells
import Derived.WalkLawsBesides
import Derived.Deep.Cut
import Derived.ScopeJumps
import Derived.WalkMore
import Derived.Test.YtdfjfodfnildiaaQM2
import Derived.Test.YtdfjfodfnildiaaQM10
namespace Go.Proofs.Ytdfjfodfnildiaa
open Go.ChangeShapes Go.WideShapes Go.ChangeAt Go.RowKit
open Go.ChangeMaps (open_string shut_string)
set_option linter.unusedVariables false
set_option maxRecDepth 100000

theorem clo_next {S : List Bool} {K : List Lk} {k : Nat} {x : Lk} (h : Hid (∀ j, j < k → Clo S (K.getD j Lk.nil))) (hh : Hid (K.getD k Lk.nil = x)) (hx : Clo S x) : Hid (∀ j, j < k + 1 → Clo S (K.getD j Lk.nil)) := fun j hj => by
  by_cases e : j = k
  · rw [e, hh.out]; exact hx
  · exact h.out j (by omega)
theorem clo_all {S : List Bool} {K : List Lk} (h : ∀ j, j < K.length → Clo S (K.getD j Lk.nil)) : ∀ l, l ∈ K → Clo S l := fun l hl => by
  obtain ⟨j, hj, rfl⟩ := List.getElem_of_mem hl
  have := h j hj
  rwa [show K.getD j Lk.nil = K[j] by simp [List.getD, hj]] at this
set_option maxHeartbeats 16000000 in
theorem cameI (ad : Option Addr) (cap : Nat) (K : List Lk) (f : Nat) (w : World) (hv : FView lkEnc w ad K) (hl : K.length ≤ 1048576) (hf : f < 5) (hN : InN K 5) :
    Calls Try.prog 41 #[.slice ad K.length cap, .int .i64 (f : Int)] w fun e w' => ∃ M, Marks K 5 (f : Int) M ∧ e = .returned (.agg #[.bool (M.getD 0 false), .bool (M.getD 1 false), .bool (M.getD 2 false), .bool (M.getD 3 false), .bool (M.getD 4 false)]) ∧ Below w.heap.size w w' := by
  have hB := hv.lt lkEnc_len (by omega)
  go_enter Try.func41, Try.ntmps41
  go_wp2
  refine wp_scope_jumps 0 (fun a' w' => ∃ S : List Bool, Hid (S.length = 5) ∧ Hid (Sound K f S) ∧ Below w.heap.size w w' ∧ B5 w' (w.heap.size + 1) S ∧ B5 w' w.heap.size (List.replicate 5 false) ∧ ∃ u2 u3 u7 u8 u9 u10 u11 u12 u13 u14 u15 u16 u17 u18 u19 u20 u21 u22 u23 u24 u25 u26 u27 u28 u29 u30 u31 u32 u33 u34 u35 u36 u37 u38 u39 u40 u41 u42 : Value, a' = { tmps := #[.slice ad K.length cap, .int .i64 (f : Int), u2, u3, .pointer (some ⟨w.heap.size, 0, none⟩), .pointer (some ⟨w.heap.size + 1, 0, none⟩), .func (Fn.func 65) #[] #[.pointer (some ⟨w.heap.size + 1, 0, none⟩)], u7, u8, u9, u10, u11, u12, u13, u14, u15, u16, u17, u18, u19, u20, u21, u22, u23, u24, u25, u26, u27, u28, u29, u30, u31, u32, u33, u34, u35, u36, u37, u38, u39, u40, u41, u42], defers := [] }) (fun _ w' => 5 - cntAt w' (w.heap.size + 1)) rfl ?_ ?_
  · obtain ⟨y, hy⟩ : ∃ y, y = (w.alloc (Obj.cells #[.bool false, .bool false, .bool false, .bool false, .bool false] 58)).alloc (Obj.cells #[.bool false, .bool false, .bool false, .bool false, .bool false] 58) := ⟨_, rfl⟩
    have B0 : Below w.heap.size w y := by rw [hy]; exact ((Below.refl _ _).alloc (Nat.le_refl _) _).alloc (by simp) _
    have A0 : B5 y (w.heap.size + 1) (List.replicate 5 false) := by rw [hy]; have := B5.new5 (w.alloc (Obj.cells #[.bool false, .bool false, .bool false, .bool false, .bool false] 58)) 58; simpa using this
    have R0 : B5 y w.heap.size (List.replicate 5 false) := by rw [hy]; exact (B5.new5 w 58).below (below_new _) (by simp)
    go_wp2_with fail
    go_at_call 65
    rw [← hy]
    clear hy
    refine (markC (w.heap.size + 1) f (List.replicate 5 false) y A0 hf).mono ?_
    rintro e x ⟨rfl, hx⟩
    have A : B5 x (w.heap.size + 1) ((List.replicate 5 false).set f true) := by rw [hx]; exact A0.set hf (by simp)
    have R : B5 x w.heap.size (List.replicate 5 false) := by rw [hx]; exact R0.other (by omega)
    have B : Below w.heap.size w x := by rw [hx]; exact B0.setCell (by simp) _
    clear hx A0 R0 B0
    obtain ⟨S, hS', hl5, hS⟩ : ∃ S, Hid (S = ((List.replicate 5 false).set f true)) ∧ Hid (S.length = 5) ∧ Hid (Sound K f S) := ⟨_, rfl, by unfold Hid; simp, Sound.start hf⟩
    rw [← hS'.out] at A
    clear hS'
    go_wp2
    go_step3
    go_wp2
    go_loopw [15] (fun i wr => ∃ k : Nat, k ≤ K.length ∧ i = .int .i64 k ∧ Hid (∀ j, j < k → Clo S (K.getD j Lk.nil)) ∧ Below w.heap.size w wr ∧ B5 wr (w.heap.size + 1) S ∧ B5 wr w.heap.size (List.replicate 5 false)) (fun i _ => K.length - (intOf i).toNat)
    case atStart => exact ⟨0, Nat.zero_le _, rfl, fun j hj => absurd hj (by omega), B, A, R⟩
    case round =>
      obtain ⟨k, hk, rfl, hC, hb, A, R⟩ := hrel
      by_cases hlt : k < K.length
      · obtain ⟨b, off, rfl, _⟩ := hv (by omega)
        obtain ⟨x, hh⟩ : ∃ h, K.getD k Lk.nil = h := ⟨_, rfl⟩
        have hck : LkAtO wr b (off + k * 4) x := by
          rw [← hh]
          exact lkAtO_of ((hv.below hb hB).at_ lkEnc_len Lk.nil hlt)
        have hm : x ∈ K := by
          rw [← hh, show K.getD k Lk.nil = K[k] by simp [List.getD, hlt]]
          exact List.getElem_mem hlt
        replace hh : Hid _ := hh
        obtain ⟨⟨xa0, xa1⟩, xb0, xb1⟩ := hN x hm
        obtain ⟨xa, xp, xb, xq⟩ := x
        dsimp only at xa0 xa1 xb0 xb1
        obtain ⟨i, rfl⟩ := Int.eq_ofNat_of_zero_le xa0
        obtain ⟨j, rfl⟩ := Int.eq_ofNat_of_zero_le xb0
        have hi : i < 5 := by omega
        have hj : j < 5 := by omega
        obtain ⟨c0, c1, c2, c3⟩ := hck
        dsimp only at c0 c1 c2 c3
        obtain ⟨u, hu⟩ : ∃ u, u = wr.alloc (Obj.cells #[.int .i64 (i : Int), .int .i64 xp, .int .i64 (j : Int), .int .i64 xq] 64) := ⟨_, rfl⟩
        have bu : Below w.heap.size w u := by rw [hu]; exact hb.alloc hb.size _
        have ku : Below wr.heap.size wr u := by rw [hu]; exact below_new _
        have Au := A.below ku A.lt
        have Ru := R.below ku R.lt
        have X : LkAtO u wr.heap.size 0 ⟨i, xp, j, xq⟩ := by rw [hu]; constructor <;> simp [go_sem]
        have al := A.lt
        clear ku hB
        have ci := Au.at_ i hi
        have cj := Au.at_ j hj
        have hcl : Hid (Clo S ⟨i, xp, j, xq⟩ ↔ S.getD i false = S.getD j false) := by unfold Hid Clo; simp
        have hE : Hid (∀ (q : Bool), S.getD i false = q ∨ S.getD j false = q → q = true → Con K (f : Int) (i : Int) ∧ Con K (f : Int) (j : Int)) := by
          unfold Hid
          intro q hq e
          subst e
          exact hS.out.ends hm xa0 xb0 (by simpa using hq)
        obtain ⟨o1, h1⟩ : ∃ o, S.getD i false = o := ⟨_, rfl⟩
        obtain ⟨o2, h2⟩ : ∃ o, S.getD j false = o := ⟨_, rfl⟩
        rw [h1] at ci
        rw [h2] at cj
        rw [h1, h2] at hcl hE
        replace h1 : Hid _ := h1
        replace h2 : Hid _ := h2
        obtain ⟨x0, x1, x2, x3⟩ := X
        dsimp only at x0 x1 x2 x3
        simp only [Nat.zero_add] at x0 x1 x2 x3
        clear hm hv xa0 xb0
        cases o1
        · cases o2
          · go_upto_region 7 with fail
            rw [← hu]
            clear hu
            go_wp2
            go_roundw
            case rel => exact ⟨k + 1, by omega, by go_num, clo_next hC hh (hcl.out.2 (by first | trivial | rfl)), bu, Au, Ru⟩
            case measure => simp [intOf]; omega
          · go_upto_region 7 with fail
            rw [← hu]
            clear hu
            go_wp2_with fail
            go_at_call 65
            refine (markC (w.heap.size + 1) i S _ Au (by omega)).mono ?_
            rintro e u1 ⟨rfl, hu1⟩
            rw [h1.out]
            have Au1 : B5 u1 (w.heap.size + 1) (S.set i true) := by rw [hu1]; exact Au.set (by omega) hl5.out
            have Ru1 : B5 u1 w.heap.size (List.replicate 5 false) := by rw [hu1]; exact Ru.other (by omega)
            have bu1 : Below w.heap.size w u1 := by rw [hu1]; exact bu.setCell (by simp) _
            clear hu1 x0 x1 x2 x3 ci cj c0 c1 c2 c3
            go_wp2
            go_step3
            have hnew : S.getD i false = false := h1.out
            have hlt5 : S.count true < (S.set i true).count true := by rw [(cnt_set S i (by rw [hl5.out]; omega)).2 hnew]; omega
            refine ⟨rfl, S.set i true, by unfold Hid; rw [List.length_set]; exact hl5.out, hS.out.set (by rw [hl5.out]; omega) (hE.out true (.inr rfl) rfl).1, bu1, Au1, Ru1, _, _, _, _, _, _, _, _, _, _, _, _, _, _, _, _, _, _, _, _, _, _, _, _, _, _, _, _, _, _, _, _, _, _, _, _, _, _, rfl⟩
        · cases o2
          · go_upto_region 7 with fail
            rw [← hu]
            clear hu
            go_wp2_with fail
            go_at_call 65
            refine (markC (w.heap.size + 1) j S _ Au (by omega)).mono ?_
            rintro e u1 ⟨rfl, hu1⟩
            rw [h2.out]
            have Au1 : B5 u1 (w.heap.size + 1) (S.set j true) := by rw [hu1]; exact Au.set (by omega) hl5.out
            have Ru1 : B5 u1 w.heap.size (List.replicate 5 false) := by rw [hu1]; exact Ru.other (by omega)
            have bu1 : Below w.heap.size w u1 := by rw [hu1]; exact bu.setCell (by simp) _
            clear hu1 x0 x1 x2 x3 ci cj c0 c1 c2 c3
            go_wp2
            go_step3
            have hnew : S.getD j false = false := h2.out
            have hlt5 : S.count true < (S.set j true).count true := by rw [(cnt_set S j (by rw [hl5.out]; omega)).2 hnew]; omega
            refine ⟨rfl, S.set j true, by unfold Hid; rw [List.length_set]; exact hl5.out, hS.out.set (by rw [hl5.out]; omega) (hE.out true (.inl rfl) rfl).2, bu1, Au1, Ru1, _, _, _, _, _, _, _, _, _, _, _, _, _, _, _, _, _, _, _, _, _, _, _, _, _, _, _, _, _, _, _, _, _, _, _, _, _, _, rfl⟩
          · go_upto_region 7 with fail
            rw [← hu]
            clear hu
            go_wp2_with fail
            go_at_call 65
            refine (markC (w.heap.size + 1) j S _ Au (by omega)).mono ?_
            rintro e u1 ⟨rfl, hu1⟩
            rw [h2.out]
            have Au1 : B5 u1 (w.heap.size + 1) (S.set j true) := by rw [hu1]; exact Au.set (by omega) hl5.out
            have Ru1 : B5 u1 w.heap.size (List.replicate 5 false) := by rw [hu1]; exact Ru.other (by omega)
            have bu1 : Below w.heap.size w u1 := by rw [hu1]; exact bu.setCell (by simp) _
            rw [set_true h2.out] at Au1
            have X1 : LkAtO u1 wr.heap.size 0 ⟨i, xp, j, xq⟩ := by
              have e : u1.heap[wr.heap.size]? = u.heap[wr.heap.size]? := by rw [hu1]; exact Below.heap_setCell _ _ _ _ (by simp; omega)
              exact (LkAtO.mk (x := ⟨i, xp, j, xq⟩) (by simpa using x0) (by simpa using x1) (by simpa using x2) (by simpa using x3)).keep e
            obtain ⟨y0, y1, y2, y3⟩ := X1
            dsimp only at y0 y1 y2 y3
            simp only [Nat.zero_add] at y0 y1 y2 y3
            have di := Au1.at_ i hi
            have dj := Au1.at_ j hj
            rw [h1.out] at di
            rw [h2.out] at dj
            clear hu1 x0 x1 x2 x3 ci cj c0 c1 c2 c3
            go_wp2_with fail
            go_at_call 65
            refine (markC (w.heap.size + 1) i S _ Au1 (by omega)).mono ?_
            rintro e u2 ⟨rfl, hu2⟩
            rw [h1.out]
            have Au2 : B5 u2 (w.heap.size + 1) (S.set i true) := by rw [hu2]; exact Au1.set (by omega) hl5.out
            have Ru2 : B5 u2 w.heap.size (List.replicate 5 false) := by rw [hu2]; exact Ru1.other (by omega)
            have bu2 : Below w.heap.size w u2 := by rw [hu2]; exact bu1.setCell (by simp) _
            rw [set_true h1.out] at Au2
            clear hu2 y0 y1 y2 y3 di dj
            go_wp2
            go_roundw
            case rel => exact ⟨k + 1, by omega, by go_num, clo_next hC hh (hcl.out.2 (by first | trivial | rfl)), bu2, Au2, Ru2⟩
            case measure => simp [intOf]; omega
      · obtain rfl : k = K.length := by omega
        have hM : Hid (Marks K 5 (f : Int) S) := hS.out.marks hl5.out hN (clo_all hC.out)
        have z0 := A.at_ 0 (by omega)
        have z1 := A.at_ 1 (by omega)
        have z2 := A.at_ 2 (by omega)
        have z3 := A.at_ 3 (by omega)
        have z4 := A.at_ 4 (by omega)
        have r0 := R.at_ 0 (by omega)
        have r1 := R.at_ 1 (by omega)
        have r2 := R.at_ 2 (by omega)
        have r3 := R.at_ 3 (by omega)
        have r4 := R.at_ 4 (by omega)
        have al := A.lt
        have rl := R.lt
        have rf := R.fr
        go_wp2
        simp only [Exit.jump]
        refine bodyPost_ret (v := .agg #[.bool (S.getD 0 false), .bool (S.getD 1 false), .bool (S.getD 2 false), .bool (S.getD 3 false), .bool (S.getD 4 false)]) (by simp [results, Try.results41, go_sem, *]) rfl ⟨S, hM.out, rfl, ?_⟩
        (repeat (first | exact hb | refine Below.setCell ?_ (by simp) _))
  · rintro a' w' ⟨S, hl5, hS, B, A, R, u2, u3, u7, u8, u9, u10, u11, u12, u13, u14, u15, u16, u17, u18, u19, u20, u21, u22, u23, u24, u25, u26, u27, u28, u29, u30, u31, u32, u33, u34, u35, u36, u37, u38, u39, u40, u41, u42, rfl⟩
    have A' := A
    go_wp2
    go_loopw [15] (fun i wr => ∃ k : Nat, k ≤ K.length ∧ i = .int .i64 k ∧ Hid (∀ j, j < k → Clo S (K.getD j Lk.nil)) ∧ Below w.heap.size w wr ∧ B5 wr (w.heap.size + 1) S ∧ B5 wr w.heap.size (List.replicate 5 false)) (fun i _ => K.length - (intOf i).toNat)
    case atStart => exact ⟨0, Nat.zero_le _, rfl, fun j hj => absurd hj (by omega), B, A, R⟩
    case round =>
      obtain ⟨k, hk, rfl, hC, hb, A, R⟩ := hrel
      by_cases hlt : k < K.length
      · obtain ⟨b, off, rfl, _⟩ := hv (by omega)
        obtain ⟨x, hh⟩ : ∃ h, K.getD k Lk.nil = h := ⟨_, rfl⟩
        have hck : LkAtO wr b (off + k * 4) x := by
          rw [← hh]
          exact lkAtO_of ((hv.below hb hB).at_ lkEnc_len Lk.nil hlt)
        have hm : x ∈ K := by
          rw [← hh, show K.getD k Lk.nil = K[k] by simp [List.getD, hlt]]
          exact List.getElem_mem hlt
        replace hh : Hid _ := hh
        obtain ⟨⟨xa0, xa1⟩, xb0, xb1⟩ := hN x hm
        obtain ⟨xa, xp, xb, xq⟩ := x
        dsimp only at xa0 xa1 xb0 xb1
        obtain ⟨i, rfl⟩ := Int.eq_ofNat_of_zero_le xa0
        obtain ⟨j, rfl⟩ := Int.eq_ofNat_of_zero_le xb0
        have hi : i < 5 := by omega
        have hj : j < 5 := by omega
        obtain ⟨c0, c1, c2, c3⟩ := hck
        dsimp only at c0 c1 c2 c3
        obtain ⟨u, hu⟩ : ∃ u, u = wr.alloc (Obj.cells #[.int .i64 (i : Int), .int .i64 xp, .int .i64 (j : Int), .int .i64 xq] 64) := ⟨_, rfl⟩
        have bu : Below w.heap.size w u := by rw [hu]; exact hb.alloc hb.size _
        have ku : Below wr.heap.size wr u := by rw [hu]; exact below_new _
        have Au := A.below ku A.lt
        have Ru := R.below ku R.lt
        have X : LkAtO u wr.heap.size 0 ⟨i, xp, j, xq⟩ := by rw [hu]; constructor <;> simp [go_sem]
        have al := A.lt
        clear ku hB
        have ci := Au.at_ i hi
        have cj := Au.at_ j hj
        have hcl : Hid (Clo S ⟨i, xp, j, xq⟩ ↔ S.getD i false = S.getD j false) := by unfold Hid Clo; simp
        have hE : Hid (∀ (q : Bool), S.getD i false = q ∨ S.getD j false = q → q = true → Con K (f : Int) (i : Int) ∧ Con K (f : Int) (j : Int)) := by
          unfold Hid
          intro q hq e
          subst e
          exact hS.out.ends hm xa0 xb0 (by simpa using hq)
        obtain ⟨o1, h1⟩ : ∃ o, S.getD i false = o := ⟨_, rfl⟩
        obtain ⟨o2, h2⟩ : ∃ o, S.getD j false = o := ⟨_, rfl⟩
        rw [h1] at ci
        rw [h2] at cj
        rw [h1, h2] at hcl hE
        replace h1 : Hid _ := h1
        replace h2 : Hid _ := h2
        obtain ⟨x0, x1, x2, x3⟩ := X
        dsimp only at x0 x1 x2 x3
        simp only [Nat.zero_add] at x0 x1 x2 x3
        clear hm hv xa0 xb0
        cases o1
        · cases o2
          · go_upto_region 7 with fail
            rw [← hu]
            clear hu
            go_wp2
            go_roundw
            case rel => exact ⟨k + 1, by omega, by go_num, clo_next hC hh (hcl.out.2 (by first | trivial | rfl)), bu, Au, Ru⟩
            case measure => simp [intOf]; omega
          · go_upto_region 7 with fail
            rw [← hu]
            clear hu
            go_wp2_with fail
            go_at_call 65
            refine (markC (w.heap.size + 1) i S _ Au (by omega)).mono ?_
            rintro e u1 ⟨rfl, hu1⟩
            rw [h1.out]
            have Au1 : B5 u1 (w.heap.size + 1) (S.set i true) := by rw [hu1]; exact Au.set (by omega) hl5.out
            have Ru1 : B5 u1 w.heap.size (List.replicate 5 false) := by rw [hu1]; exact Ru.other (by omega)
            have bu1 : Below w.heap.size w u1 := by rw [hu1]; exact bu.setCell (by simp) _
            clear hu1 x0 x1 x2 x3 ci cj c0 c1 c2 c3
            go_wp2
            go_step3
            have hnew : S.getD i false = false := h1.out
            have hlt5 : S.count true < (S.set i true).count true := by rw [(cnt_set S i (by rw [hl5.out]; omega)).2 hnew]; omega
            refine ⟨rfl, ⟨S.set i true, by unfold Hid; rw [List.length_set]; exact hl5.out, hS.out.set (by rw [hl5.out]; omega) (hE.out true (.inr rfl) rfl).1, bu1, Au1, Ru1, _, _, _, _, _, _, _, _, _, _, _, _, _, _, _, _, _, _, _, _, _, _, _, _, _, _, _, _, _, _, _, _, _, _, _, _, _, _, rfl⟩, ?_⟩
            have e1 : cntAt u1 (w.heap.size + 1) = _ := cnt_at Au1 (by rw [List.length_set]; exact hl5.out)
            have e2 := cnt_at A' hl5.out
            have e3 := cnt5 _ (show (S.set i true).length = 5 by rw [List.length_set]; exact hl5.out)
            show 5 - cntAt u1 (w.heap.size + 1) < 5 - cntAt w' (w.heap.size + 1)
            omega
        · cases o2
          · go_upto_region 7 with fail
            rw [← hu]
            clear hu
            go_wp2_with fail
            go_at_call 65
            refine (markC (w.heap.size + 1) j S _ Au (by omega)).mono ?_
            rintro e u1 ⟨rfl, hu1⟩
            rw [h2.out]
            have Au1 : B5 u1 (w.heap.size + 1) (S.set j true) := by rw [hu1]; exact Au.set (by omega) hl5.out
            have Ru1 : B5 u1 w.heap.size (List.replicate 5 false) := by rw [hu1]; exact Ru.other (by omega)
            have bu1 : Below w.heap.size w u1 := by rw [hu1]; exact bu.setCell (by simp) _
            clear hu1 x0 x1 x2 x3 ci cj c0 c1 c2 c3
            go_wp2
            go_step3
            have hnew : S.getD j false = false := h2.out
            have hlt5 : S.count true < (S.set j true).count true := by rw [(cnt_set S j (by rw [hl5.out]; omega)).2 hnew]; omega
            refine ⟨rfl, ⟨S.set j true, by unfold Hid; rw [List.length_set]; exact hl5.out, hS.out.set (by rw [hl5.out]; omega) (hE.out true (.inl rfl) rfl).2, bu1, Au1, Ru1, _, _, _, _, _, _, _, _, _, _, _, _, _, _, _, _, _, _, _, _, _, _, _, _, _, _, _, _, _, _, _, _, _, _, _, _, _, _, rfl⟩, ?_⟩
            have e1 : cntAt u1 (w.heap.size + 1) = _ := cnt_at Au1 (by rw [List.length_set]; exact hl5.out)
            have e2 := cnt_at A' hl5.out
            have e3 := cnt5 _ (show (S.set j true).length = 5 by rw [List.length_set]; exact hl5.out)
            show 5 - cntAt u1 (w.heap.size + 1) < 5 - cntAt w' (w.heap.size + 1)
            omega
          · go_upto_region 7 with fail
            rw [← hu]
            clear hu
            go_wp2_with fail
            go_at_call 65
            refine (markC (w.heap.size + 1) j S _ Au (by omega)).mono ?_
            rintro e u1 ⟨rfl, hu1⟩
            rw [h2.out]
            have Au1 : B5 u1 (w.heap.size + 1) (S.set j true) := by rw [hu1]; exact Au.set (by omega) hl5.out
            have Ru1 : B5 u1 w.heap.size (List.replicate 5 false) := by rw [hu1]; exact Ru.other (by omega)
            have bu1 : Below w.heap.size w u1 := by rw [hu1]; exact bu.setCell (by simp) _
            rw [set_true h2.out] at Au1
            have X1 : LkAtO u1 wr.heap.size 0 ⟨i, xp, j, xq⟩ := by
              have e : u1.heap[wr.heap.size]? = u.heap[wr.heap.size]? := by rw [hu1]; exact Below.heap_setCell _ _ _ _ (by simp; omega)
              exact (LkAtO.mk (x := ⟨i, xp, j, xq⟩) (by simpa using x0) (by simpa using x1) (by simpa using x2) (by simpa using x3)).keep e
            obtain ⟨y0, y1, y2, y3⟩ := X1
            dsimp only at y0 y1 y2 y3
            simp only [Nat.zero_add] at y0 y1 y2 y3
            have di := Au1.at_ i hi
            have dj := Au1.at_ j hj
            rw [h1.out] at di
            rw [h2.out] at dj
            clear hu1 x0 x1 x2 x3 ci cj c0 c1 c2 c3
            go_wp2_with fail
            go_at_call 65
            refine (markC (w.heap.size + 1) i S _ Au1 (by omega)).mono ?_
            rintro e u2 ⟨rfl, hu2⟩
            rw [h1.out]
            have Au2 : B5 u2 (w.heap.size + 1) (S.set i true) := by rw [hu2]; exact Au1.set (by omega) hl5.out
            have Ru2 : B5 u2 w.heap.size (List.replicate 5 false) := by rw [hu2]; exact Ru1.other (by omega)
            have bu2 : Below w.heap.size w u2 := by rw [hu2]; exact bu1.setCell (by simp) _
            rw [set_true h1.out] at Au2
            clear hu2 y0 y1 y2 y3 di dj
            go_wp2
            go_roundw
            case rel => exact ⟨k + 1, by omega, by go_num, clo_next hC hh (hcl.out.2 (by first | trivial | rfl)), bu2, Au2, Ru2⟩
            case measure => simp [intOf]; omega
      · obtain rfl : k = K.length := by omega
        have hM : Hid (Marks K 5 (f : Int) S) := hS.out.marks hl5.out hN (clo_all hC.out)
        have z0 := A.at_ 0 (by omega)
        have z1 := A.at_ 1 (by omega)
        have z2 := A.at_ 2 (by omega)
        have z3 := A.at_ 3 (by omega)
        have z4 := A.at_ 4 (by omega)
        have r0 := R.at_ 0 (by omega)
        have r1 := R.at_ 1 (by omega)
        have r2 := R.at_ 2 (by omega)
        have r3 := R.at_ 3 (by omega)
        have r4 := R.at_ 4 (by omega)
        have al := A.lt
        have rl := R.lt
        have rf := R.fr
        go_wp2
        simp only [Exit.jump]
        refine bodyPost_ret (v := .agg #[.bool (S.getD 0 false), .bool (S.getD 1 false), .bool (S.getD 2 false), .bool (S.getD 3 false), .bool (S.getD 4 false)]) (by simp [results, Try.results41, go_sem, *]) rfl ⟨S, hM.out, rfl, ?_⟩
        (repeat (first | exact hb | refine Below.setCell ?_ (by simp) _))

end Go.Proofs.Ytdfjfodfnildiaa
