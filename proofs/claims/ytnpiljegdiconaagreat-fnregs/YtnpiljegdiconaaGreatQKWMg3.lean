import Derived.Test.YtnpiljegdiconaaGreatQM12
namespace Go.Proofs.YtnpiljegdiconaaGreat
open Go.ChangeShapes Go.WideShapes Go.ChangeAt Go.RowKit
open Go.ChangeMaps (open_string shut_string)
set_option linter.unusedVariables false
set_option maxRecDepth 100000
def fitsM (m : Mi) : Bool :=
 numB m.li && (numB m.ep && (numB m.al && (decide ((m.lg.length : Int) ≤ 60) && (m.lg.all inOk && (decide (0 ≤ m.sd ∧ m.sd ≤ (m.lg.length : Int)) && decide (0 ≤ m.ac ∧ m.ac ≤ (m.lg.length : Int)))))))
set_option maxHeartbeats 4000000 in
theorem fitsI (m : Mi) (q : Nat) (ad : Option Addr) (cap : Nat) (w : World) (M : MgBox w q m (.slice ad m.lg.length cap)) (hv : FView ikEnc w ad m.lg) (hl : m.lg.length ≤ 1048577) :
  Calls Tryz.prog 126 #[.pointer (some ⟨q, 0, none⟩)] w fun e w' => e = .returned (.bool (fitsM m)) ∧ Below w.heap.size w w' := by
 obtain ⟨R, hR⟩ := mk_ (fitsM m);rw [← hR];replace hR : Hid _ := hR;go_enter Tryz.func126, Tryz.ntmps126
 go_upto_region 1 with fail
 refine wp_region_held (S := fun Y => Below w.heap.size w Y) (by kernel_rfl) ?_;change wpAnyH _ _ _ _ _ _ _ _ (World.drew _);have hb0 : Below w.heap.size w w.drew := (Below.refl _ _).drew;obtain ⟨u0, hy0⟩ := mk_ w.drew;rw [← hy0] at hb0 ⊢;clear hy0;refine tw 0 3 (.pointer (some ⟨q, 0, none⟩)) ?_;refine tw 1 4 (.pointer (some ⟨q, 0, none⟩)) ?_;refine tw 2 5 (.pointer (some ⟨q, 1, none⟩)) ?_;refine tw 3 6 (.pointer (some ⟨q, 2, none⟩)) ?_;refine tw 4 7 (.int .i64 m.li) ?_ (hy := by intro Y hSw; obtain ⟨X0, X1, X2, X3, X4, X5, X6, XF⟩ := M.below hSw M.lt; go_simp);refine w1 5 fun Kz hKz => ?_
 go_simp
 go_at_call 72
 refine (numFitsI m.li u0).mono ?_;rintro e u1 ⟨rfl, kq⟩;replace kq : Below u0.heap.size u0 u1 := by rw [kq]; exact Below.refl _ _
 have hb1 : Below w.heap.size w u1 := hb0.trans (kq.mono hb0.size);clear kq;refine hKz _ _ ⟨hb1, ?_⟩;clear hKz Kz;cases h_li : (numB m.li)
 ·
  replace h_li : Hid _ := h_li;refine tw 6 9 (.bool false) ?_;refine ts 7 10 ?_;refine ts 8 11 ?_;refine ts 9 12 ?_;refine ts 10 13 ?_;refine ts 11 14 ?_;refine ts 12 15 ?_;refine tw 13 16 (.bool false) ?_;refine tw 14 17 (.bool false) ?_;refine ts 15 18 ?_;refine ts 16 19 ?_;refine ts 17 20 ?_;refine ts 18 21 ?_;refine ts 19 22 ?_;refine ts 20 23 ?_;refine tw 21 24 (.bool false) ?_;refine tw 22 25 (.bool false) ?_;refine ts 23 26 ?_;refine ts 24 27 ?_;refine ts 25 28 ?_;refine ts 26 29 ?_;refine ts 27 30 ?_;refine tw 28 31 (.bool false) ?_;refine tw 29 32 (.bool false) ?_;refine ts 30 33 ?_;refine ts 31 34 ?_;refine ts 32 35 ?_;refine ts 33 36 ?_;refine tw 34 37 (.bool false) ?_;refine tw 35 38 (.bool false) ?_;refine ts 36 39 ?_;refine ts 37 40 ?_;refine ts 38 41 ?_;refine ts 39 42 ?_;refine ts 40 43 ?_;refine ts 41 44 ?_;refine ts 42 45 ?_;refine ts 43 46 ?_;refine ts 44 47 ?_;refine tw 45 48 (.bool false) ?_;refine tw 46 49 (.bool false) ?_;refine ts 47 50 ?_;refine ts 48 51 ?_;refine ts 49 52 ?_;refine ts 50 53 ?_;refine ts 51 54 ?_;refine ts 52 55 ?_;refine ts 53 56 ?_;refine ts 54 57 ?_;refine ts 55 58 ?_;refine tw 56 59 (.bool false) ?_;refine tw 57 2 (.bool false) ?_;refine wpAnyH_done (by kernel_rfl) ?_ _;have hN : Hid (R = false) := by unfold Hid; rw [hR.out]; unfold fitsM; rw [h_li.out]; rfl
  go_wp2
  go_ret
  exact ⟨by rw [hN.out]; rfl, hb1⟩
 replace h_li : Hid _ := h_li;refine tw 6 9 (.bool true) ?_;refine tw 7 10 (.pointer (some ⟨q, 0, none⟩)) ?_;refine tw 8 11 (.pointer (some ⟨q, 0, none⟩)) ?_;refine tw 9 12 (.pointer (some ⟨q, 1, none⟩)) ?_;refine tw 10 13 (.pointer (some ⟨q, 3, none⟩)) ?_;refine tw 11 14 (.int .i64 m.ep) ?_ (hy := by intro Y hSw; obtain ⟨X0, X1, X2, X3, X4, X5, X6, XF⟩ := M.below hSw M.lt; go_simp);refine w1 12 fun Kz hKz => ?_
 go_simp
 go_at_call 72
 refine (numFitsI m.ep u1).mono ?_;rintro e u2 ⟨rfl, kq⟩;replace kq : Below u1.heap.size u1 u2 := by rw [kq]; exact Below.refl _ _
 have hb2 : Below w.heap.size w u2 := hb1.trans (kq.mono hb1.size);clear kq;refine hKz _ _ ⟨hb2, ?_⟩;clear hKz Kz;cases h_ep : (numB m.ep)
 ·
  replace h_ep : Hid _ := h_ep;refine tw 13 16 (.bool false) ?_;refine tw 14 17 (.bool false) ?_;refine ts 15 18 ?_;refine ts 16 19 ?_;refine ts 17 20 ?_;refine ts 18 21 ?_;refine ts 19 22 ?_;refine ts 20 23 ?_;refine tw 21 24 (.bool false) ?_;refine tw 22 25 (.bool false) ?_;refine ts 23 26 ?_;refine ts 24 27 ?_;refine ts 25 28 ?_;refine ts 26 29 ?_;refine ts 27 30 ?_;refine tw 28 31 (.bool false) ?_;refine tw 29 32 (.bool false) ?_;refine ts 30 33 ?_;refine ts 31 34 ?_;refine ts 32 35 ?_;refine ts 33 36 ?_;refine tw 34 37 (.bool false) ?_;refine tw 35 38 (.bool false) ?_;refine ts 36 39 ?_;refine ts 37 40 ?_;refine ts 38 41 ?_;refine ts 39 42 ?_;refine ts 40 43 ?_;refine ts 41 44 ?_;refine ts 42 45 ?_;refine ts 43 46 ?_;refine ts 44 47 ?_;refine tw 45 48 (.bool false) ?_;refine tw 46 49 (.bool false) ?_;refine ts 47 50 ?_;refine ts 48 51 ?_;refine ts 49 52 ?_;refine ts 50 53 ?_;refine ts 51 54 ?_;refine ts 52 55 ?_;refine ts 53 56 ?_;refine ts 54 57 ?_;refine ts 55 58 ?_;refine tw 56 59 (.bool false) ?_;refine tw 57 2 (.bool false) ?_;refine wpAnyH_done (by kernel_rfl) ?_ _;have hN : Hid (R = false) := by unfold Hid; rw [hR.out]; unfold fitsM; rw [h_li.out, h_ep.out]; rfl
  go_wp2
  go_ret
  exact ⟨by rw [hN.out]; rfl, hb2⟩
 replace h_ep : Hid _ := h_ep;refine tw 13 16 (.bool true) ?_;refine tw 14 17 (.bool true) ?_;refine tw 15 18 (.pointer (some ⟨q, 0, none⟩)) ?_;refine tw 16 19 (.pointer (some ⟨q, 0, none⟩)) ?_;refine tw 17 20 (.pointer (some ⟨q, 1, none⟩)) ?_;refine tw 18 21 (.pointer (some ⟨q, 6, none⟩)) ?_;refine tw 19 22 (.int .i64 m.al) ?_ (hy := by intro Y hSw; obtain ⟨X0, X1, X2, X3, X4, X5, X6, XF⟩ := M.below hSw M.lt; go_simp);refine w1 20 fun Kz hKz => ?_
 go_simp
 go_at_call 72
 refine (numFitsI m.al u2).mono ?_;rintro e u3 ⟨rfl, kq⟩;replace kq : Below u2.heap.size u2 u3 := by rw [kq]; exact Below.refl _ _
 have hb3 : Below w.heap.size w u3 := hb2.trans (kq.mono hb2.size);clear kq;refine hKz _ _ ⟨hb3, ?_⟩;clear hKz Kz;cases h_al : (numB m.al)
 ·
  replace h_al : Hid _ := h_al;refine tw 21 24 (.bool false) ?_;refine tw 22 25 (.bool false) ?_;refine ts 23 26 ?_;refine ts 24 27 ?_;refine ts 25 28 ?_;refine ts 26 29 ?_;refine ts 27 30 ?_;refine tw 28 31 (.bool false) ?_;refine tw 29 32 (.bool false) ?_;refine ts 30 33 ?_;refine ts 31 34 ?_;refine ts 32 35 ?_;refine ts 33 36 ?_;refine tw 34 37 (.bool false) ?_;refine tw 35 38 (.bool false) ?_;refine ts 36 39 ?_;refine ts 37 40 ?_;refine ts 38 41 ?_;refine ts 39 42 ?_;refine ts 40 43 ?_;refine ts 41 44 ?_;refine ts 42 45 ?_;refine ts 43 46 ?_;refine ts 44 47 ?_;refine tw 45 48 (.bool false) ?_;refine tw 46 49 (.bool false) ?_;refine ts 47 50 ?_;refine ts 48 51 ?_;refine ts 49 52 ?_;refine ts 50 53 ?_;refine ts 51 54 ?_;refine ts 52 55 ?_;refine ts 53 56 ?_;refine ts 54 57 ?_;refine ts 55 58 ?_;refine tw 56 59 (.bool false) ?_;refine tw 57 2 (.bool false) ?_;refine wpAnyH_done (by kernel_rfl) ?_ _;have hN : Hid (R = false) := by unfold Hid; rw [hR.out]; unfold fitsM; rw [h_li.out, h_ep.out, h_al.out]; rfl
  go_wp2
  go_ret
  exact ⟨by rw [hN.out]; rfl, hb3⟩
 replace h_al : Hid _ := h_al;refine tw 21 24 (.bool true) ?_;refine tw 22 25 (.bool true) ?_;refine tw 23 26 (.pointer (some ⟨q, 0, none⟩)) ?_;refine tw 24 27 (.pointer (some ⟨q, 0, none⟩)) ?_;refine tw 25 28 (.pointer (some ⟨q, 0, none⟩)) ?_;refine w1 26 fun Kz hKz => ?_
 go_simp
 go_at_call 172
 refine (countI q m.lg.length ad cap u3 (M.below hb3 M.lt).c0).mono ?_;rintro e u4 ⟨rfl, kq⟩;replace kq : Below u3.heap.size u3 u4 := by rw [kq]; exact Below.refl _ _
 have hb4 : Below w.heap.size w u4 := hb3.trans (kq.mono hb3.size);clear kq;refine hKz _ _ ⟨hb4, ?_⟩;clear hKz Kz;refine tw 27 30 (.bool (decide ((m.lg.length : Int) ≤ 60))) ?_;cases h_len : (decide ((m.lg.length : Int) ≤ 60))
 ·
  replace h_len : Hid _ := h_len;refine tw 28 31 (.bool false) ?_;refine tw 29 32 (.bool false) ?_;refine ts 30 33 ?_;refine ts 31 34 ?_;refine ts 32 35 ?_;refine ts 33 36 ?_;refine tw 34 37 (.bool false) ?_;refine tw 35 38 (.bool false) ?_;refine ts 36 39 ?_;refine ts 37 40 ?_;refine ts 38 41 ?_;refine ts 39 42 ?_;refine ts 40 43 ?_;refine ts 41 44 ?_;refine ts 42 45 ?_;refine ts 43 46 ?_;refine ts 44 47 ?_;refine tw 45 48 (.bool false) ?_;refine tw 46 49 (.bool false) ?_;refine ts 47 50 ?_;refine ts 48 51 ?_;refine ts 49 52 ?_;refine ts 50 53 ?_;refine ts 51 54 ?_;refine ts 52 55 ?_;refine ts 53 56 ?_;refine ts 54 57 ?_;refine ts 55 58 ?_;refine tw 56 59 (.bool false) ?_;refine tw 57 2 (.bool false) ?_;refine wpAnyH_done (by kernel_rfl) ?_ _;have hN : Hid (R = false) := by unfold Hid; rw [hR.out]; unfold fitsM; rw [h_li.out, h_ep.out, h_al.out, h_len.out]; rfl
  go_wp2
  go_ret
  exact ⟨by rw [hN.out]; rfl, hb4⟩
 replace h_len : Hid _ := h_len;refine tw 28 31 (.bool true) ?_;refine tw 29 32 (.bool true) ?_;refine tw 30 33 (.pointer (some ⟨q, 0, none⟩)) ?_;refine tw 31 34 (.pointer (some ⟨q, 0, none⟩)) ?_;refine tw 32 35 (.pointer (some ⟨q, 0, none⟩)) ?_;refine w1 33 fun Kz hKz => ?_
 go_simp
 go_at_call 173
 refine (eachI q ad cap m.lg u4 (M.below hb4 M.lt).c0 (hv.below hb4 (hv.lt ikEnc_len (by omega))) hl).mono ?_;rintro e u5 ⟨rfl, kq⟩;have hb5 : Below w.heap.size w u5 := hb4.trans (kq.mono hb4.size);clear kq;refine hKz _ _ ⟨hb5, ?_⟩;clear hKz Kz;cases h_all : (m.lg.all inOk)
 ·
  replace h_all : Hid _ := h_all;refine tw 34 37 (.bool false) ?_;refine tw 35 38 (.bool false) ?_;refine ts 36 39 ?_;refine ts 37 40 ?_;refine ts 38 41 ?_;refine ts 39 42 ?_;refine ts 40 43 ?_;refine ts 41 44 ?_;refine ts 42 45 ?_;refine ts 43 46 ?_;refine ts 44 47 ?_;refine tw 45 48 (.bool false) ?_;refine tw 46 49 (.bool false) ?_;refine ts 47 50 ?_;refine ts 48 51 ?_;refine ts 49 52 ?_;refine ts 50 53 ?_;refine ts 51 54 ?_;refine ts 52 55 ?_;refine ts 53 56 ?_;refine ts 54 57 ?_;refine ts 55 58 ?_;refine tw 56 59 (.bool false) ?_;refine tw 57 2 (.bool false) ?_;refine wpAnyH_done (by kernel_rfl) ?_ _;have hN : Hid (R = false) := by unfold Hid; rw [hR.out]; unfold fitsM; rw [h_li.out, h_ep.out, h_al.out, h_len.out, h_all.out]; rfl
  go_wp2
  go_ret
  exact ⟨by rw [hN.out]; rfl, hb5⟩
 replace h_all : Hid _ := h_all;refine tw 34 37 (.bool true) ?_;refine tw 35 38 (.bool true) ?_;refine tw 36 39 (.pointer (some ⟨q, 0, none⟩)) ?_;refine tw 37 40 (.pointer (some ⟨q, 0, none⟩)) ?_;refine tw 38 41 (.pointer (some ⟨q, 0, none⟩)) ?_;refine tw 39 42 (.pointer (some ⟨q, 0, none⟩)) ?_;refine tw 40 43 (.pointer (some ⟨q, 0, none⟩)) ?_;refine tw 41 44 (.pointer (some ⟨q, 1, none⟩)) ?_;refine tw 42 45 (.pointer (some ⟨q, 4, none⟩)) ?_;refine tw 43 46 (.int .i64 m.sd) ?_ (hy := by intro Y hSw; obtain ⟨X0, X1, X2, X3, X4, X5, X6, XF⟩ := M.below hSw M.lt; go_simp);refine w1 44 fun Kz hKz => ?_
 go_simp
 go_at_call 174
 refine (begI q m.lg.length ad cap m.sd u5 (M.below hb5 M.lt).c0).mono ?_;rintro e u6 ⟨rfl, kq⟩;replace kq : Below u5.heap.size u5 u6 := by rw [kq]; exact Below.refl _ _
 have hb6 : Below w.heap.size w u6 := hb5.trans (kq.mono hb5.size);clear kq;refine hKz _ _ ⟨hb6, ?_⟩;clear hKz Kz;cases h_sd : (decide (0 ≤ m.sd ∧ m.sd ≤ (m.lg.length : Int)))
 ·
  replace h_sd : Hid _ := h_sd;refine tw 45 48 (.bool false) ?_;refine tw 46 49 (.bool false) ?_;refine ts 47 50 ?_;refine ts 48 51 ?_;refine ts 49 52 ?_;refine ts 50 53 ?_;refine ts 51 54 ?_;refine ts 52 55 ?_;refine ts 53 56 ?_;refine ts 54 57 ?_;refine ts 55 58 ?_;refine tw 56 59 (.bool false) ?_;refine tw 57 2 (.bool false) ?_;refine wpAnyH_done (by kernel_rfl) ?_ _;have hN : Hid (R = false) := by unfold Hid; rw [hR.out]; unfold fitsM; rw [h_li.out, h_ep.out, h_al.out, h_len.out, h_all.out, h_sd.out]; rfl
  go_wp2
  go_ret
  exact ⟨by rw [hN.out]; rfl, hb6⟩
 replace h_sd : Hid _ := h_sd;refine tw 45 48 (.bool true) ?_;refine tw 46 49 (.bool true) ?_;refine tw 47 50 (.pointer (some ⟨q, 0, none⟩)) ?_;refine tw 48 51 (.pointer (some ⟨q, 0, none⟩)) ?_;refine tw 49 52 (.pointer (some ⟨q, 0, none⟩)) ?_;refine tw 50 53 (.pointer (some ⟨q, 0, none⟩)) ?_;refine tw 51 54 (.pointer (some ⟨q, 0, none⟩)) ?_;refine tw 52 55 (.pointer (some ⟨q, 1, none⟩)) ?_;refine tw 53 56 (.pointer (some ⟨q, 5, none⟩)) ?_;refine tw 54 57 (.int .i64 m.ac) ?_ (hy := by intro Y hSw; obtain ⟨X0, X1, X2, X3, X4, X5, X6, XF⟩ := M.below hSw M.lt; go_simp);refine w1 55 fun Kz hKz => ?_
 go_simp
 go_at_call 174
 refine (begI q m.lg.length ad cap m.ac u6 (M.below hb6 M.lt).c0).mono ?_;rintro e u7 ⟨rfl, kq⟩;replace kq : Below u6.heap.size u6 u7 := by rw [kq]; exact Below.refl _ _
 have hb7 : Below w.heap.size w u7 := hb6.trans (kq.mono hb6.size);clear kq;refine hKz _ _ ⟨hb7, ?_⟩;clear hKz Kz;cases h_ac : (decide (0 ≤ m.ac ∧ m.ac ≤ (m.lg.length : Int)))
 ·
  replace h_ac : Hid _ := h_ac;refine tw 56 59 (.bool false) ?_;refine tw 57 2 (.bool false) ?_;refine wpAnyH_done (by kernel_rfl) ?_ _;have hN : Hid (R = false) := by unfold Hid; rw [hR.out]; unfold fitsM; rw [h_li.out, h_ep.out, h_al.out, h_len.out, h_all.out, h_sd.out, h_ac.out]; rfl
  go_wp2
  go_ret
  exact ⟨by rw [hN.out]; rfl, hb7⟩
 replace h_ac : Hid _ := h_ac;refine tw 56 59 (.bool true) ?_;refine tw 57 2 (.bool true) ?_;refine wpAnyH_done (by kernel_rfl) ?_ _;have hN : Hid (R = true) := by unfold Hid; rw [hR.out]; unfold fitsM; rw [h_li.out, h_ep.out, h_al.out, h_len.out, h_all.out, h_sd.out, h_ac.out]; rfl
 go_wp2
 go_ret
 exact ⟨by rw [hN.out]; rfl, hb7⟩
end Go.Proofs.YtnpiljegdiconaaGreat
