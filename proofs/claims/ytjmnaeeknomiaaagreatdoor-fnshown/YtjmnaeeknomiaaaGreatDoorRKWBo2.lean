import Derived.Test.YtjmnaeeknomiaaaGreatDoorRM22
import Derived.Test.YtjmnaeeknomiaaaGreatDoorRM17
namespace Go.Proofs.YtjmnaeeknomiaaaGreatDoor
open Go.ChangeShapes Go.WideShapes Go.ChangeAt Go.RowKit
open Go.ChangeMaps (open_string shut_string)
set_option linter.unusedVariables false
set_option maxRecDepth 100000
set_option maxHeartbeats 32000000
set_option linter.unusedSimpArgs false
open Go.Proofs.Tryz
theorem It (id n : Int) (ad : Option Addr) (cap : Nat) (X : List Ik) (w : World) (hv : AI AW w ad X) (hl : X.length ≤ 1048576) :
  Calls prog 171 #[.int .i64 id, .int .i64 n, .slice ad X.length cap] w fun e w' => ∃ a c, e = .returned (.agg #[.int .i64 (Bp id n), .slice a (EW id n X).length c]) ∧ AA AK 11 47 w.heap.size w' (.slice a (EW id n X).length c) (EW id n X) ∧ Below w.heap.size w w' := by
 have hB := hv.lt Av (by omega)
 obtain ⟨y, hy, B0⟩ := AM w (Obj.cells #[.int .i64 0, .slice none 0 0] 51)
 have A0 : AR y w.heap.size 0 (.slice none 0 0) := by rw [hy]; exact AR.new w _ _ _
 have S0 := A0.lt
 have hR : EW id n X = Db (Bp id n) (Ao id n) X := rfl
 have hNl := HK id n
 have hno := fun h => KR (id := id) (n := n) X h
 obtain ⟨I, hI⟩ : ∃ v, Bp id n = v := ⟨_, rfl⟩
 obtain ⟨N, hN⟩ : ∃ v, Ao id n = v := ⟨_, rfl⟩
 obtain ⟨ok, hok⟩ : ∃ v, Au id n = v := ⟨_, rfl⟩
 obtain ⟨D, hD⟩ : ∃ v, EW id n X = v := ⟨_, rfl⟩
 rw [hI, hN, hD] at hR
 rw [hI, hD, hok] at hno
 rw [hN] at hNl
 rw [hI, hD]
 replace hR : Hid _ := hR
 replace hno : Hid _ := hno
 replace hI : Hid _ := hI
 replace hN : Hid _ := hN
 replace hok : Hid _ := hok
 clear hD
 go_enter func171, ntmps171
 go_wp2_with fail
 go_at_call 96
 rw [← hy]
 clear hy
 refine (GM id n y).mono ?_
 rintro e u1 ⟨a1, c1, rfl, O1, k1⟩
 rw [hN.out] at O1
 rw [hI.out, hN.out, hok.out]
 clear hI hN hok
 have B1 := AG B0 k1
 have A0 := A0.below k1 A0.lt
 have s1 := k1.size
 have lo1 := O1.lt
 clear k1 B0
 obtain ⟨u2, hu2, k2⟩ := AM u1 (Obj.cells #[.int .i64 I, .slice a1 N.length c1] 51)
 have P2 : AR u2 u1.heap.size I (.slice a1 N.length c1) := by rw [hu2]; exact AR.new u1 _ _ _
 have B2 := AG B1 k2
 have A0 := A0.below k2 A0.lt
 have O1 := O1.later k2
 have s2 := P2.lt
 go_upto_region 2 with fail
 rw [← hu2]
 clear hu2 k2 B1
 obtain ⟨p, hp⟩ := AC u1.heap.size
 rw [← hp] at P2 s1 s2 lo1 ⊢
 clear hp
 have lp : w.heap.size < p := by omega
 clear hno
 go_wp2
 go_loopw [9] (fun i wr => ∃ (k : Nat) (a : Option Addr) (c : Nat) (L : List Pt), k ≤ X.length ∧ i = .int .i64 k ∧ Db I N (X.take k) = L ∧ AR wr p I (.slice a L.length c) ∧ AA AK 11 47 w.heap.size wr (.slice a L.length c) L ∧ (∀ g, (Value.slice a L.length c).ownBlock = some g → g ≠ p ∧ g ≠ w.heap.size) ∧ AR wr w.heap.size 0 (.slice none 0 0) ∧ Below w.heap.size w wr) (fun i _ => X.length - (intOf i).toNat)
 case atStart => exact ⟨0, a1, c1, N, Nat.zero_le _, rfl, rfl, P2, O1.base (by omega), fun g e => by have := lo1 g e; omega, A0, B2⟩
 case round =>
  obtain ⟨k, a, c, L, hk, rfl, hL, P, O, hne, A, B⟩ := hrel
  have hLl : L.length ≤ 4 := by rw [← hL, H5]; exact hNl
  clear A0 P2 O1 B2 lo1
  by_cases hlt : k < X.length
  ·
   have hst := Jp I N X Ik.nil hlt
   rw [hL] at hst
   replace hL : Hid _ := hL
   obtain ⟨b, off, rfl, _⟩ := hv (by omega)
   obtain ⟨x, hh⟩ : ∃ x, X.getD k Ik.nil = x := ⟨_, rfl⟩
   rw [hh] at hst
   have hck : CJ wr b (off + k * 8) x := by
    rw [← hh]
    exact FU ((hv.below B hB).at_ Av Ik.nil hlt)
   have hcB : b < w.heap.size := hB ⟨b, off, none⟩ rfl (by omega)
   replace hst : Hid _ := hst
   clear hh
   have lp2 := P.lt
   have bs := B.size
   have ln := O.lt
   go_upto_region 5 with fail
   refine wp_region_held (S := fun Y => Below w.heap.size wr Y) (by kernel_rfl) ?_
   change wpAnyH _ _ _ _ _ _ _ _ (World.drew _)
   have hb0 : Below wr.heap.size wr wr.drew := (Below.refl _ _).drew
   obtain ⟨u, hy0'⟩ : ∃ y_, y_ = wr.drew := ⟨_, rfl⟩
   rw [← hy0'] at hb0 ⊢
   clear hy0'
   have hc0 : Below w.heap.size wr u := hb0.mono (by omega)
   refine tw 1 24 (.slice (some ⟨b, off, none⟩) X.length cap) ?_
   refine tw 2 25 (.int .i64 (k : Int)) ?_
   refine tw 3 26 (.pointer (some ⟨b, off + k * 8, none⟩)) ?_
   refine tw 4 27 (.agg #[.int .i64 x.k, .int .i64 x.q, .int .i64 x.r, .int .i64 x.c, .int .i64 x.b, .int .i64 x.p, .int .i64 x.h, .bool x.up]) ?_ (hy := by intro Y hSw; have X := (hck.below hSw hcB).all; go_simp)
   have P := P.below hb0 P.lt
   have A := A.below hb0 A.lt
   have O := O.later hb0
   have B3 := AG B hb0
   have su := hb0.size
   refine w1 0 fun Kz hKz => ?_
   have cc := P
   obtain ⟨⟨p0, p1⟩, pf⟩ := cc
   go_simp
   clear p0 p1 pf
   refine hKz _ _ ⟨hc0, ?_⟩
   clear hKz Kz
   refine w1 5 fun Kz hKz => ?_
   go_simp
   go_at_call 54
   refine (FG I a c L x u O.view.2 (by omega) O.capn).mono ?_
   rintro e w2 ⟨a2, c2, o2, d2, rfl, O2, _, _, k2⟩
   obtain ⟨M, hM⟩ : ∃ M, CG I L x = M := ⟨_, rfl⟩
   obtain ⟨OO, hOO⟩ : ∃ M, Cn I L x = M := ⟨_, rfl⟩
   rw [hM] at O2 ⊢
   rw [hOO]
   have hst2 : Hid (Db I N (X.take (k + 1)) = M) := by unfold Hid; rw [hst.out]; exact hM
   clear hM hOO hst
   have hc1 : Below w.heap.size wr w2 := hc0.trans (k2.mono (by omega))
   have P := P.below k2 P.lt
   have A := A.below k2 A.lt
   have B3 := AG B3 k2
   refine hKz _ _ ⟨hc1, ?_⟩
   clear hKz Kz
   refine tw 6 22 (.tuple #[.agg #[.int .i64 I, .slice a2 M.length c2], .slice o2 OO.length d2]) ?_
   refine tw 7 29 (.agg #[.int .i64 I, .slice a2 M.length c2]) ?_
   refine tw 8 30 (.slice o2 OO.length d2) ?_
   refine w1 9 fun Kz hKz => ?_
   have cc := P
   obtain ⟨⟨p0, p1⟩, pf⟩ := cc
   have g0 := pf 0
   have g1 := pf 1
   clear pf
   go_simp
   clear p0 p1 g0 g1
   have hc2 : Below w.heap.size wr ((w2.setCell ⟨p, 0, none⟩ (.int .i64 I)).setCell ⟨p, 1, none⟩ (.slice a2 M.length c2)) := (hc1.setCell (p := ⟨p, 0, none⟩) (by show _ ≤ p; omega) _).setCell (p := ⟨p, 1, none⟩) (by show _ ≤ p; omega) _
   refine hKz _ _ ⟨hc2, ?_⟩
   clear hKz Kz
   refine Ag ?_
   have P9 := P.put I (.slice a2 M.length c2)
   have lo2 := O2.lt
   have O9 : AA AK 11 47 w.heap.size ((w2.setCell ⟨p, 0, none⟩ (.int .i64 I)).setCell ⟨p, 1, none⟩ (.slice a2 M.length c2)) (.slice a2 M.length c2) M := (O2.base (by omega)).keep (fun g e => P.put1 I _ g (by have := lo2 g e; omega))
   have A9 := A.keep (P.put1 I (.slice a2 M.length c2) w.heap.size (by omega))
   have B9 : Below w.heap.size w ((w2.setCell ⟨p, 0, none⟩ (.int .i64 I)).setCell ⟨p, 1, none⟩ (.slice a2 M.length c2)) := (B3.setCell (p := ⟨p, 0, none⟩) (by show _ ≤ p; omega) _).setCell (p := ⟨p, 1, none⟩) (by show _ ≤ p; omega) _
   have hne9 : ∀ g, (Value.slice a2 M.length c2).ownBlock = some g → g ≠ p ∧ g ≠ w.heap.size := fun g e => by have := lo2 g e; omega
   clear O O2 hne ln A k2 B3 lo2 P
   go_wp2
   go_roundw
   case rel => exact ⟨k + 1, a2, c2, M, by omega, by go_num, hst2.out, P9, O9, hne9, A9, B9⟩
   case measure => simp [intOf]; omega
  ·
   obtain rfl : k = X.length := by omega
   rw [List.take_length] at hL
   obtain rfl : D = L := hR.out.trans hL
   have O9 : AA AK 11 47 w.heap.size ((wr.setCell ⟨w.heap.size, 0, none⟩ (.int .i64 I)).setCell ⟨w.heap.size, 1, none⟩ (.slice a D.length c)) (.slice a D.length c) D := O.keep (fun g e => A.put1 I _ g (hne g e).2)
   have B9 : Below w.heap.size w ((wr.setCell ⟨w.heap.size, 0, none⟩ (.int .i64 I)).setCell ⟨w.heap.size, 1, none⟩ (.slice a D.length c)) := (B.setCell (p := ⟨w.heap.size, 0, none⟩) (Nat.le_refl _) _).setCell (p := ⟨w.heap.size, 1, none⟩) (Nat.le_refl _) _
   obtain ⟨⟨p0, p1⟩, pf⟩ := P
   obtain ⟨⟨z0, z1⟩, zf⟩ := A
   have g0 := zf 0
   have g1 := zf 1
   clear pf zf hne O B hL hR
   go_wp2
   refine bodyPost_ret (v := .agg #[.int .i64 I, .slice a D.length c]) (by simp [results, results171, go_sem, *]) rfl ⟨a, c, rfl, O9, B9⟩
end Go.Proofs.YtjmnaeeknomiaaaGreatDoor
