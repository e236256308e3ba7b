/-  impl.turnGates, walked.  Boxes whose said is a piece of a list: marked. impl.Accept, walked.         -/
import Derived.Test.YtjmnaeeknomiaaaGreatRM18
import Derived.Lib.AppendZeros
import Derived.Test.YtjmnaeeknomiaaaGreatRM30
import Derived.Test.YtjmnaeeknomiaaaGreatRM25
import Derived.Defers
import Derived.Recover
import Derived.Shelf.Abstract
namespace Go.Proofs.YtjmnaeeknomiaaaGreat
open Go.ChangeShapes Go.WideShapes Go.ChangeAt Go.RowKit
open Go.ChangeMaps (open_string shut_string)
set_option linter.unusedVariables false
set_option maxRecDepth 100000
set_option maxHeartbeats 32000000
set_option linter.unusedSimpArgs false
open Go.Proofs.Tryz
attribute [local go_sem] ji ja bc mc
theorem HG (x : AG) (s : Int) (w : World) (hV : BT w x) :
  Calls prog 60 #[.agg (bc x), ji s] w fun e w' => e = .returned (.bool (Bp x.p s)) ∧ Bw w w' := by
 obtain ⟨R, hR⟩ := AC (Bp x.p s);rw [← hR];replace hR : Hid _ := hR;obtain ⟨y, hy, B0⟩ := AI w (Obj.cells (bc x) 34);have A : AS y w.heap.size x := by rw [hy]; exact AS.new w _ x
 have V := hV.later B0;go_enter func60, ntmps60
 go_upto_region 1 with fail
 rw [← hy];clear hy hV;refine AV (fun Y => Bw y Y) fun u0 hb0 => ?_
 refine tw 0 5 (ji s) ?_;by_cases h1 : 0 ≤ s
 focus
  have d1 : decide (0 ≤ s) = true := decide_eq_true h1;refine tw 1 6 (.bool true) ?_;refine tw 2 7 (.bool true) ?_;refine tw 3 8 (ji s) ?_;refine tw 4 9 (.pointer (some (ja w.heap.size 5))) ?_;refine tw 5 10 (.slice x.aT x.two.length x.cT) ?_ (hy := by intro Y hSw; have X := (A.below hSw A.lt).all; go_simp);refine tw 6 11 (ji (x.two.length : Int)) ?_;by_cases h2 : s < (x.two.length : Int)
  ·
   have d2 : decide (s < (x.two.length : Int)) = true := decide_eq_true h2;refine tw 7 12 (.bool true) ?_;refine tw 8 13 (.bool true) ?_;refine tw 9 14 (.bool true) ?_;clear d1 d2;obtain ⟨k, rfl⟩ : ∃ k : Nat, s = (k : Int) := ⟨s.toNat, by omega⟩;have hk : k < x.two.length := by omega
   have hcap := V.ct;obtain ⟨d, hd⟩ : ∃ d, x.two.getD k AD.nil = d := ⟨_, rfl⟩;have hvl := V.l k hk;have hll := V.bl k hk;rw [hd] at hvl hll;have hN : Hid (R = Cq x.rg (k : Int) d.m) := by unfold Hid; rw [hR.out]; unfold Bp; rw [show decide (0 ≤ (k : Int) ∧ (k : Int) < ((x.p.two).length : Int)) = true from decide_eq_true (by rw [Em]; omega), Br, Int.toNat_natCast, hd]; rfl
   obtain ⟨b, off, hat, _⟩ := V.t (by omega);have hck : ∀ Y, Bw y Y → A8 Y b (off + k * 7) d := fun Y hY => by have ht := (V.later hY).t; rw [hat] at ht; rw [← hd]; exact Bo (ht.at_ Ai AD.nil hk)
   replace hd : Hid _ := hd;clear h1 h2;refine tw 10 15 (.pointer (some (ja w.heap.size 2))) ?_;refine tw 11 16 (.agg #[ji x.rg.ep, ji x.rg.ow, ji x.rg.pa]) ?_ (hy := by intro Y hSw; have X := (A.below hSw A.lt).all; go_simp);refine tw 12 17 (ji (k : Int)) ?_;refine tw 13 18 (.pointer (some (ja w.heap.size 5))) ?_;refine tw 14 19 (.slice (some (ja b off)) x.two.length x.cT) ?_ (hy := by intro Y hSw; have X := (A.below hSw A.lt).all; rw [hat] at X; go_simp);refine tw 15 20 (ji (k : Int)) ?_;refine tw 16 21 (.pointer (some ⟨b, off + k * 7, none⟩)) ?_ (hy := by intro Y hSw; go_simp; try omega);refine tw 17 22 (.agg (mc d.m d.ad d.cap)) ?_ (hy := by intro Y hSw; have X := (hck Y hSw).all; go_simp);refine w1 18 fun Kz hKz => ?_
   go_simp
   go_at_call 24
   refine (HX x.rg (k : Int) d.m d.ad d.cap u0 (hvl.below hb0 (hvl.lt AT (by omega))) (by omega)).mono ?_;rintro e u2 ⟨rfl, kq⟩;rw [← hN.out];have hb2 := AE hb0 kq;clear kq;refine hKz _ _ ⟨hb2, ?_⟩;clear hKz Kz;refine tw 19 24 (.bool R) ?_;refine tw 20 4 (.bool R) ?_;refine AR ?_;go_wp2
   go_ret
   exact ⟨rfl, AE B0 hb2⟩
  focus
   have d2 : decide (s < (x.two.length : Int)) = false := decide_eq_false h2;have hN : Hid (R = false) := by unfold Hid; rw [hR.out]; unfold Bp; rw [show decide (0 ≤ s ∧ s < ((x.p.two).length : Int)) = false from decide_eq_false (by rw [Em]; omega)]; rfl
   refine tw 7 12 (.bool false) ?_
  rotate_left
 rotate_left;focus
  have d1 : decide (0 ≤ s) = false := decide_eq_false h1;have hN : Hid (R = false) := by unfold Hid; rw [hR.out]; unfold Bp; rw [show decide (0 ≤ s ∧ s < ((x.p.two).length : Int)) = false from decide_eq_false (by omega)]; rfl
  refine tw 1 6 (.bool false) ?_;refine tw 2 7 (.bool false) ?_;refine ts 3 8 ?_;refine ts 4 9 ?_;refine ts 5 10 ?_;refine ts 6 11 ?_;refine ts 7 12 ?_
 rotate_left;all_goals
  refine tw 8 13 (.bool false) ?_;refine tw 9 14 (.bool false) ?_;refine ts 10 15 ?_;refine ts 11 16 ?_;refine ts 12 17 ?_;refine ts 13 18 ?_;refine ts 14 19 ?_;refine ts 15 20 ?_;refine ts 16 21 ?_;refine ts 17 22 ?_;refine ts 18 23 ?_;refine tw 19 24 (.bool false) ?_;refine tw 20 4 (.bool false) ?_;refine AR ?_;go_wp2
  go_ret
  exact ⟨by rw [hN.out]; rfl, AE B0 hb0⟩
theorem H4 {a w : World} {g : Nat} (vs : List Value) (o : Nat) (h : a.grownBy w (some g)) : a.grownBy (CB w g o vs) (some g) := by
  induction vs generalizing w o with
  | nil => exact h
  | cons v vs ih =>
    refine ih (o + 1) ⟨h.os, h.tape, h.output, by have := h.size; simp; omega, fun k hk hne => ?_⟩
    have hn : k ≠ g := fun e => hne (by rw [e])
    rw [AF hn]
    exact h.block k hk hne
theorem H0 {w wr : World} {row : Option Nat} (h : w.grownBy wr row) (o : Obj) : w.grownBy (wr.alloc o) row :=
  ⟨(Ae o).os.trans h.os, (Ae o).tape.trans h.tape, (Ae o).output.trans h.output, Nat.le_trans h.size (Ae o).size, fun k hk hne => ((Ae o).block k (Nat.lt_of_lt_of_le hk h.size)).trans (h.block k hk hne)⟩
theorem JN (aG : Option Addr) (cG : Nat) (G : List Bool) (aO : Option Addr) (cO : Nat) (L : List Ou) (base : Nat) (w : World) (OG : AB Az 1 4 base w (.slice aG G.length cG) G) (hL : AH Ag w aO L) (hLb : ∀ a, aO = some a → 0 < L.length → ∀ g, (Value.slice aG G.length cG).ownBlock = some g → g ≠ a.block) (hl : L.length ≤ 1048576) (hg : G.length ≤ 1048576) :
    Calls prog 61 #[.slice aG G.length cG, .slice aO L.length cO] w fun e w' => e = .returned (.tuple #[]) ∧ AB Az 1 4 base w' (.slice aG G.length cG) (L.foldl CG G) ∧ w.grownBy w' (Value.slice aG G.length cG).ownBlock := by
  rcases OG.2 with ⟨e, h0⟩ | ⟨gg, c, cur, e, _⟩
  · simp only [Value.slice.injEq] at e
    obtain ⟨rfl, hG0, rfl⟩ := e
    obtain rfl : G = [] := List.eq_nil_of_length_eq_zero hG0
    clear hG0 hg hLb
    go_enter func61, ntmps61
    go_wp2
    go_loopw [8] (fun i wr => ∃ (k : Nat) (H : List Bool), k ≤ L.length ∧ i = .int .i64 k ∧ Hid (H = (L.take k).foldl CG ([] : List Bool)) ∧ AB Az 1 4 base wr (.slice none 0 0) H ∧ w.grownBy wr none) (fun i _ => L.length - (intOf i).toNat)
    case atStart => exact ⟨0, ([] : List Bool), Nat.zero_le _, rfl, by unfold Hid; rfl, OG, ⟨rfl, rfl, rfl, Nat.le_refl _, fun _ _ _ => rfl⟩⟩
    case round =>
      obtain ⟨k, H, hk_, rfl, hH, O, GR⟩ := hrel
      clear OG
      have hHl : H.length = ([] : List Bool).length := by rw [hH.out]; exact E4 _ _
      have hHl2 := Nat.le_of_eq hHl
      replace hHl := Nat.le_of_eq hHl.symm
      have zr := GR.size
      by_cases hlt : k < L.length
      · obtain ⟨b, off, rfl, _⟩ := hL (by omega)
        have hbl : b < w.heap.size := hL.lt BN (by omega) _ rfl (by omega)
        obtain ⟨⟨hk, hpt, hr, hc, hb, hp, hh_, hon⟩, hh⟩ : ∃ h, L.getD k Ou.nil = h := ⟨_, rfl⟩
        have E : Cj wr b (off + k * 8) ⟨hk, hpt, hr, hc, hb, hp, hh_, hon⟩ := by rw [← hh]; exact E8 ((hL.carry (fun a e p => GR.block _ (hL.lt BN (by omega) a e p) (fun e2 => by cases e2))).at_ BN Ou.nil hlt)
        have hT : (L.take (k + 1)).foldl CG ([] : List Bool) = CG H (⟨hk, hpt, hr, hc, hb, hp, hh_, hon⟩ : Ou) := by rw [E3 hlt, hh, List.foldl_append, hH.out]; rfl
        replace hT : Hid _ := hT
        replace hh : Hid _ := hh
        obtain ⟨c0, c1, c2, c3, c4, c5, c6, c7⟩ := E
        go_upto_region 3 with fail
        clear c0 c1 c2 c3 c4 c5 c6 c7
        obtain ⟨u1, hu1⟩ : ∃ y_, y_ = wr.alloc (Obj.cells #[.int .i64 hk, .int .i64 hpt, .int .i64 hr, .int .i64 hc, .int .i64 hb, .int .i64 hp, .int .i64 hh_, .bool hon] 77) := ⟨_, rfl⟩
        rw [← hu1]
        have n0 : u1.cell? ⟨wr.heap.size, 0, none⟩ = some (.int .i64 hk) := by rw [hu1]; simp [go_sem]
        have n1 : u1.cell? ⟨wr.heap.size, 1, none⟩ = some (.int .i64 hpt) := by rw [hu1]; simp [go_sem]
        have n7 : u1.cell? ⟨wr.heap.size, 7, none⟩ = some (.bool hon) := by rw [hu1]; simp [go_sem]
        have GR : w.grownBy u1 none := by rw [hu1]; exact H0 GR _
        have O := O.later (w' := u1) (by rw [hu1]; exact Ae _)
        clear hu1
        by_cases e2 : hk = 2
        · have d2 : (hk == 2) = true := by simpa using e2
          by_cases e3 : 0 ≤ hpt
          · have d3 : decide (0 ≤ hpt) = true := decide_eq_true e3
            have d4 : decide (hpt < 0) = false := decide_eq_false (by omega)
            have hg : CG H (⟨hk, hpt, hr, hc, hb, hp, hh_, hon⟩ : Ou) = H := if_neg (fun h => by have h3 : hpt < (H.length : Int) := h.2.2; simp at hHl2; rw [hHl2] at h3; simp at h3; omega)
            replace hg : Hid _ := hg
            replace e2 : Hid _ := e2
            replace e3 : Hid _ := e3
            go_wp2
            go_roundw
            case rel => exact ⟨k + 1, H, by omega, by go_num, by { unfold Hid; rw [hT.out]; exact hg.out.symm }, O, GR⟩
            case measure => simp [intOf]; omega
          · have d3 : decide (0 ≤ hpt) = false := decide_eq_false e3
            have hg : CG H (⟨hk, hpt, hr, hc, hb, hp, hh_, hon⟩ : Ou) = H := if_neg (fun h => e3 h.2.1)
            replace hg : Hid _ := hg
            replace e2 : Hid _ := e2
            replace e3 : Hid (¬ 0 ≤ hpt) := e3
            go_wp2
            go_roundw
            case rel => exact ⟨k + 1, H, by omega, by go_num, by { unfold Hid; rw [hT.out]; exact hg.out.symm }, O, GR⟩
            case measure => simp [intOf]; omega
        · have d2 : (hk == 2) = false := by simpa using e2
          have hg : CG H (⟨hk, hpt, hr, hc, hb, hp, hh_, hon⟩ : Ou) = H := if_neg (fun h => e2 h.1)
          replace hg : Hid _ := hg
          replace e2 : Hid (¬ hk = 2) := e2
          go_wp2
          go_roundw
          case rel => exact ⟨k + 1, H, by omega, by go_num, by { unfold Hid; rw [hT.out]; exact hg.out.symm }, O, GR⟩
          case measure => simp [intOf]; omega
      · obtain rfl : k = L.length := by omega
        rw [List.take_length] at hH
        have hH2 := hH.out
        subst hH2
        go_wp2
        go_end0
        exact ⟨rfl, O, GR⟩
  · simp only [Value.slice.injEq] at e
    obtain ⟨rfl, _, rfl⟩ := e
    go_enter func61, ntmps61
    go_wp2
    go_loopw [8] (fun i wr => ∃ (k : Nat) (H : List Bool), k ≤ L.length ∧ i = .int .i64 k ∧ Hid (H = (L.take k).foldl CG G) ∧ AB Az 1 4 base wr (.slice (some ⟨gg, 0, none⟩) G.length cG) H ∧ w.grownBy wr (some gg)) (fun i _ => L.length - (intOf i).toNat)
    case atStart => exact ⟨0, G, Nat.zero_le _, rfl, by unfold Hid; rfl, OG, ⟨rfl, rfl, rfl, Nat.le_refl _, fun _ _ _ => rfl⟩⟩
    case round =>
      obtain ⟨k, H, hk_, rfl, hH, O, GR⟩ := hrel
      clear OG
      have hHl : H.length = G.length := by rw [hH.out]; exact E4 _ _
      have hHl2 := Nat.le_of_eq hHl
      replace hHl := Nat.le_of_eq hHl.symm
      have zr := GR.size
      by_cases hlt : k < L.length
      · obtain ⟨b, off, rfl, _⟩ := hL (by omega)
        have hbl : b < w.heap.size := hL.lt BN (by omega) _ rfl (by omega)
        obtain ⟨⟨hk, hpt, hr, hc, hb, hp, hh_, hon⟩, hh⟩ : ∃ h, L.getD k Ou.nil = h := ⟨_, rfl⟩
        have E : Cj wr b (off + k * 8) ⟨hk, hpt, hr, hc, hb, hp, hh_, hon⟩ := by rw [← hh]; exact E8 ((hL.carry (fun a e p => GR.block _ (hL.lt BN (by omega) a e p) (fun e2 => hLb a e p _ e2.symm rfl))).at_ BN Ou.nil hlt)
        have hT : (L.take (k + 1)).foldl CG G = CG H (⟨hk, hpt, hr, hc, hb, hp, hh_, hon⟩ : Ou) := by rw [E3 hlt, hh, List.foldl_append, hH.out]; rfl
        replace hT : Hid _ := hT
        replace hh : Hid _ := hh
        obtain ⟨c0, c1, c2, c3, c4, c5, c6, c7⟩ := E
        go_upto_region 3 with fail
        clear c0 c1 c2 c3 c4 c5 c6 c7
        obtain ⟨u1, hu1⟩ : ∃ y_, y_ = wr.alloc (Obj.cells #[.int .i64 hk, .int .i64 hpt, .int .i64 hr, .int .i64 hc, .int .i64 hb, .int .i64 hp, .int .i64 hh_, .bool hon] 77) := ⟨_, rfl⟩
        rw [← hu1]
        have n0 : u1.cell? ⟨wr.heap.size, 0, none⟩ = some (.int .i64 hk) := by rw [hu1]; simp [go_sem]
        have n1 : u1.cell? ⟨wr.heap.size, 1, none⟩ = some (.int .i64 hpt) := by rw [hu1]; simp [go_sem]
        have n7 : u1.cell? ⟨wr.heap.size, 7, none⟩ = some (.bool hon) := by rw [hu1]; simp [go_sem]
        have GR : w.grownBy u1 (some gg) := by rw [hu1]; exact H0 GR _
        have O := O.later (w' := u1) (by rw [hu1]; exact Ae _)
        clear hu1
        by_cases e2 : hk = 2
        · have d2 : (hk == 2) = true := by simpa using e2
          by_cases e3 : 0 ≤ hpt
          · have d3 : decide (0 ≤ hpt) = true := decide_eq_true e3
            by_cases e4 : hpt < (G.length : Int)
            · have d4 : decide (hpt < (G.length : Int)) = true := decide_eq_true e4
              obtain ⟨j, rfl⟩ : ∃ j : Nat, hpt = (j : Int) := ⟨hpt.toNat, by omega⟩
              have hj : j < H.length := by omega
              have hjG : j < G.length := by omega
              have hg : CG H (⟨hk, (j : Int), hr, hc, hb, hp, hh_, hon⟩ : Ou) = H.set j hon := if_pos ⟨e2, by show (0 : Int) ≤ (j : Int); omega, by show (j : Int) < (H.length : Int); omega⟩
              replace hg : Hid _ := hg
              replace e2 : Hid _ := e2
              replace e3 : Hid _ := e3
              replace e4 : Hid _ := e4
              have O' : AB Az 1 4 base u1 (.slice (some ⟨gg, 0, none⟩) H.length cG) H := by rw [show H.length = G.length by omega]; exact O
              have cj : u1.cell? ⟨gg, j, none⟩ = some (.bool (H.getD j false)) := by have h9 := O'.cell Bj false hj 0 _ rfl; rw [Nat.mul_one] at h9; exact h9
              have fj := O'.frozen j
              have hgc : G.length ≤ cG := by have := O'.capM; omega
              go_upto_region 5 with fail
              clear cj fj
              obtain ⟨u2, hu2⟩ : ∃ y_, y_ = u1.setCell ⟨gg, j, none⟩ (.bool hon) := ⟨_, rfl⟩
              rw [← hu2]
              have O2 : AB Az 1 4 base u2 (.slice (some ⟨gg, 0, none⟩) G.length cG) (H.set j hon) := by have h9 := O'.set Bj (by omega) hj hon; rw [Nat.mul_one, show H.length = G.length by omega] at h9; rw [hu2]; exact h9
              have GR2 : w.grownBy u2 (some gg) := by rw [hu2]; exact H4 (Az hon) j GR
              clear O O' GR hu2
              go_wp2
              go_roundw
              case rel => exact ⟨k + 1, H.set j hon, by omega, by go_num, by { unfold Hid; rw [hT.out]; exact hg.out.symm }, O2, GR2⟩
              case measure => simp [intOf]; omega
            · have d4 : decide (hpt < (G.length : Int)) = false := decide_eq_false e4
              have hg : CG H (⟨hk, hpt, hr, hc, hb, hp, hh_, hon⟩ : Ou) = H := if_neg (fun h => e4 (by have h3 : hpt < (H.length : Int) := h.2.2; omega))
              replace hg : Hid _ := hg
              replace e2 : Hid _ := e2
              replace e3 : Hid _ := e3
              replace e4 : Hid (¬ hpt < (G.length : Int)) := e4
              go_wp2
              go_roundw
              case rel => exact ⟨k + 1, H, by omega, by go_num, by { unfold Hid; rw [hT.out]; exact hg.out.symm }, O, GR⟩
              case measure => simp [intOf]; omega
          · have d3 : decide (0 ≤ hpt) = false := decide_eq_false e3
            have hg : CG H (⟨hk, hpt, hr, hc, hb, hp, hh_, hon⟩ : Ou) = H := if_neg (fun h => e3 h.2.1)
            replace hg : Hid _ := hg
            replace e2 : Hid _ := e2
            replace e3 : Hid (¬ 0 ≤ hpt) := e3
            go_wp2
            go_roundw
            case rel => exact ⟨k + 1, H, by omega, by go_num, by { unfold Hid; rw [hT.out]; exact hg.out.symm }, O, GR⟩
            case measure => simp [intOf]; omega
        · have d2 : (hk == 2) = false := by simpa using e2
          have hg : CG H (⟨hk, hpt, hr, hc, hb, hp, hh_, hon⟩ : Ou) = H := if_neg (fun h => e2 h.1)
          replace hg : Hid _ := hg
          replace e2 : Hid (¬ hk = 2) := e2
          go_wp2
          go_roundw
          case rel => exact ⟨k + 1, H, by omega, by go_num, by { unfold Hid; rw [hT.out]; exact hg.out.symm }, O, GR⟩
          case measure => simp [intOf]; omega
      · obtain rfl : k = L.length := by omega
        rw [List.take_length] at hH
        have hH2 := hH.out
        subst hH2
        go_wp2
        go_end0
        exact ⟨rfl, O, GR⟩
theorem KU (n : Int) (w : World) (h0 : 0 ≤ n) (h1 : n ≤ 3000000) :
  Calls prog 133 #[.slice none 0 0, ji n] w fun e w' => ∃ ad cap, e = .returned (.slice ad 0 cap) ∧ AB Ag 8 77 w.heap.size w' (.slice ad 0 cap) [] ∧ Bw w w' := by
 obtain ⟨i0, hi, hz0, hz1, hz2⟩ := info_parts Es;have d0 : decide (n < 0) = false := decide_eq_false (by omega);have d1 : ¬ n < 0 := by omega
 have hw : IntKind.i64.wrap n = n := by rw [IntKind.wrap_i64]; omega
 by_cases hn : n = 0
 ·
  subst hn;go_enter func133, ntmps133
  go_wp2
  go_ret
  exact ⟨none, 0, rfl, AB.nil, Below.refl _ _⟩
 obtain ⟨m, rfl⟩ := Int.eq_ofNat_of_zero_le h0;have hm : 0 < m := by omega
 have d2 : decide (0 < (m : Int)) = true := decide_eq_true (by omega);have d3 : 0 < (m : Int) := by omega
 have hr : ∀ ty, (Builtin.append_ #[32, 3] ty #[.slice none 0 0, ji (m : Int)]).run prog w = _ := fun ty => Lib.run_append_nil_zeros w 32 3 ty 77 i0 (.agg #[ji 0, ji 0, ji 0, ji 0, ji 0, ji 0, ji 0, .bool false]) .i64 .i64 underlying32 underlying3 hi hz0 m hm (by omega) (by omega) (by rw [hz2]; omega)
 obtain ⟨c, hc⟩ : ∃ c, grownCap w m 0 77 = c := ⟨_, rfl⟩;have hc1 : m ≤ c := by rw [← hc]; exact grownCap_ge w m 0 _
 have hc2 : c ≤ maxLen := by rw [← hc]; exact grownCap_le_maxLen w m 0 _ (by unfold maxLen; omega)
 rw [hc] at hr;replace hc : Hid _ := hc;obtain ⟨w1, hw1⟩ := AC (w.drew.alloc (.cells (Builtin.zeroCells (Value.cells (.agg #[ji 0, ji 0, ji 0, ji 0, ji 0, ji 0, ji 0, .bool false])) m ++ Builtin.zeroCells (Value.cells (.agg #[ji 0, ji 0, ji 0, ji 0, ji 0, ji 0, ji 0, .bool false])) (c - m)) 77));have B1 : Bw w w1 := by
  rw [hw1];exact ((Below.refl _ _).drew).alloc (by simp) _
 have O1 : AB Ag 8 77 w.heap.size w1 (.slice (some (ja w.heap.size 0)) 0 c) [] := by
  refine ⟨by simp [Aa], .inr ⟨w.heap.size, c, Builtin.zeroCells (Value.cells (.agg #[ji 0, ji 0, ji 0, ji 0, ji 0, ji 0, ji 0, .bool false])) m ++ Builtin.zeroCells (Value.cells (.agg #[ji 0, ji 0, ji 0, ji 0, ji 0, ji 0, ji 0, .bool false])) (c - m), rfl, Nat.le_refl _, ?_, Nat.zero_le _, hc2, ?_, by simp [Aa]⟩⟩
  ·
   rw [hw1];exact CU w.drew _
  simp [Builtin.zeroCells, Value.cells]
  omega
 rw [← hw1] at hr;clear hw1;go_enter func133, ntmps133
 go_wp2_with (at_builtin; refine Lib.wpList_append_run _ rfl _ _ _ _ rfl _ _ rfl rfl _ _ (hr _) ?_)
 go_wp2
 go_ret
 exact ⟨_, _, rfl, O1, B1⟩
theorem JF (q : Nat) (a1 a2 : Option Addr) (c1 c2 : Nat) (L1 L2 : List Ou) (w : World) (h1 : w.cell? (ja q 0) = some (.slice a1 L1.length c1)) (h2 : w.cell? (ja q 1) = some (.slice a2 L2.length c2)) (v1 : AH Ag w a1 L1) (v2 : AH Ag w a2 L2) (n1 : a1 = none → c1 = 0) (n2 : a2 = none → c2 = 0) (l1 : L1.length ≤ 1048576) (l2 : L2.length ≤ 1048576) :
  Calls prog 104 #[.slice (some (ja q 0)) 2 2] w fun e w' => ∃ ad cap, e = .returned (.slice ad (L1 ++ L2).length cap) ∧ AB Ag 8 77 w.heap.size w' (.slice ad (L1 ++ L2).length cap) (L1 ++ L2) ∧ Bw w w' := by
 obtain ⟨i0, hi, hz0, hz1, hz2⟩ := info_parts Es;have d1 : ¬ (L1.length : Int) < 0 := by omega
 have d2 : ¬ (L1.length : Int) + (L2.length : Int) < 0 := by omega
 have e1 : decide ((L1.length : Int) < 0) = false := decide_eq_false d1;have e2 : decide ((L1.length : Int) + (L2.length : Int) < 0) = false := decide_eq_false d2;have hql := World.block_lt_of_cell? w _ h1;have b1 := v1.lt BN (by omega);have b2 := v2.lt BN (by omega);go_enter func104, ntmps104
 go_wp2
 refine wp_loop_rounds 3 ?_;rw [rounds_succ];go_wp2_with fail
 rw [rounds_succ];go_wp2_with fail
 rw [rounds_succ];go_wp2_with fail
 go_at_call 133
 refine (KU _ w (by omega) (by omega)).mono ?_;rintro e y ⟨ad, cap, rfl, O, ky⟩;have h1 := (World.cell?_of_block (a := (ja q 0)) (ky.block q hql)).trans h1;have h2 := (World.cell?_of_block (a := (ja q 1)) (ky.block q hql)).trans h2;have v1 := v1.below ky b1;have v2 := v2.below ky b2;have hsz := ky.size;go_wp2
 refine wp_loop_rounds 3 ?_;rw [rounds_succ];go_wp2_with (first | (at_builtin; refine DT BN Dz rfl _ _ 32 rfl w.heap.size 77 i0 (.agg #[ji 0, ji 0, ji 0, ji 0, ji 0, ji 0, ji 0, .bool false]) 64 underlying32 hi hz0 hz1 hz2 rfl (by decide) (by decide) (.slice ad 0 cap) [] rfl O a1 c1 L1 rfl n1 v1 ?z0 ?z1 ?_) | go_in)
 case z0 => first | omega | (simp; omega)
 case z1 => exact hsz
 intro v' z O1 g1 _;replace O1 : AB Ag 8 77 w.heap.size z v' L1 := O1;obtain ⟨ad', cap', rfl⟩ := O1.open_;have ob : ∀ k, (Value.slice ad 0 cap).ownBlock = some k → w.heap.size ≤ k := fun k e => (O.lt k e).1
 have kz : Bw w z := ky.grown g1 hsz ob;have hq2 : z.heap[q]? = y.heap[q]? := g1.block q (by omega) (fun e => by have := ob q e.symm; omega);have h2 := (World.cell?_of_block (a := (ja q 1)) hq2).trans h2;have h1 := (World.cell?_of_block (a := (ja q 0)) hq2).trans h1;have v2 : AH Ag z a2 L2 := v2.carry (fun a e p => g1.block _ (by have := b2 a e p; omega) (fun e2 => by have h3 := ob _ e2.symm; have h4 := b2 a e p; omega));have hs2 := kz.size;clear g1 ob hq2 O ky;go_wp2_with fail
 rw [rounds_succ];go_wp2_with (first | (at_builtin; refine DT BN Dz rfl _ _ 32 rfl w.heap.size 77 i0 (.agg #[ji 0, ji 0, ji 0, ji 0, ji 0, ji 0, ji 0, .bool false]) 64 underlying32 hi hz0 hz1 hz2 rfl (by decide) (by decide) (.slice ad' L1.length cap') L1 rfl O1 a2 c2 L2 rfl n2 v2 ?y0 ?y1 ?_) | go_in)
 case y0 => first | omega | (simp; omega)
 case y1 => exact hs2
 intro v' x O2 g2 _;obtain ⟨ad2, cap2, rfl⟩ := O2.open_;have ob : ∀ k, (Value.slice ad' L1.length cap').ownBlock = some k → w.heap.size ≤ k := fun k e => (O1.lt k e).1
 have kx : Bw w x := kz.grown g2 hs2 ob;clear g2 ob O1 kz h1 h2 v1 v2;obtain ⟨M, hM⟩ : ∃ M, L1 ++ L2 = M := ⟨_, rfl⟩;rw [hM] at O2 ⊢;replace hM : Hid _ := hM;go_wp2_with fail
 rw [rounds_succ];go_wp2
 go_ret
 obtain rfl := hM.out;exact ⟨_, _, rfl, O2, kx⟩
def C8 (base : Nat) (w : World) (a : Option Addr) (c : Nat) (L : List Ou) : Prop := (a = none ∧ c = 0 ∧ L = []) ∨ ∃ (g : Nat) (pre : List Ou) (cap : Nat), a = some ⟨g, pre.length * 8, none⟩ ∧ c + pre.length = cap ∧ AB Ag 8 77 base w (.slice (some (ja g 0)) (pre ++ L).length cap) (pre ++ L)
theorem C8.of {base : Nat} {w : World} {a : Option Addr} {c : Nat} {L : List Ou} (h : AB Ag 8 77 base w (.slice a L.length c) L) : C8 base w a c L := by
 rcases h.2 with ⟨e, h0⟩ | ⟨g, c2, cur, e, _⟩
 ·
  simp only [Value.slice.injEq] at e;exact .inl ⟨e.1, e.2.2, List.eq_nil_of_length_eq_zero e.2.1⟩
 simp only [Value.slice.injEq] at e;obtain ⟨rfl, _, _⟩ := e;exact .inr ⟨g, [], c, rfl, rfl, h⟩
theorem C8.view {base : Nat} {w : World} {a : Option Addr} {c : Nat} {L : List Ou} (h : C8 base w a c L) : AH Ag w a L := by
 rcases h with ⟨_, _, rfl⟩ | ⟨g, pre, cap, rfl, _, O⟩
 ·
  exact AH.nil
 have := O.view.2.dropO (k := pre.length) (by simp);rwa [List.drop_left] at this
theorem C8.keep {base : Nat} {w w' : World} {a : Option Addr} {c : Nat} {L : List Ou} (h : C8 base w a c L) (k : ∀ g, base ≤ g → g < w.heap.size → (∀ n, (Value.slice a n c).ownBlock = some g) → w'.heap[g]? = w.heap[g]?) : C8 base w' a c L := by
 rcases h with h | ⟨g, pre, cap, rfl, hc, O⟩
 ·
  exact .inl h
 exact .inr ⟨g, pre, cap, rfl, hc, O.keep (fun g2 e => k g2 (O.lt g2 e).1 (O.lt g2 e).2 (fun n => e))⟩
theorem C8.base {b1 b2 : Nat} {w : World} {a : Option Addr} {c : Nat} {L : List Ou} (h : C8 b1 w a c L) (hb : b2 ≤ b1) : C8 b2 w a c L := by
 rcases h with h | ⟨g, pre, cap, e, hc, O⟩
 ·
  exact .inl h
 exact .inr ⟨g, pre, cap, e, hc, O.base hb⟩
theorem KB (a1 a2 : Option Addr) (c1 c2 : Nat) (S L : List Ou) (w : World) (v1 : AH Ag w a1 S) (v2 : AH Ag w a2 L) (n1 : a1 = none → c1 = 0) (n2 : a2 = none → c2 = 0) (l1 : S.length ≤ 1048576) (l2 : L.length ≤ 1048576) :
  Calls prog 62 #[.slice a1 S.length c1, .slice a2 L.length c2] w fun e w' => ∃ a c, e = .returned (.slice a (DC (S ++ L)).length c) ∧ C8 w.heap.size w' a c (DC (S ++ L)) ∧ Bw w w' := by
 obtain ⟨Q, hQ⟩ := AC (S ++ L);rw [← hQ];replace hQ : Hid _ := hQ;obtain ⟨y, hy, B0⟩ := AI w (Obj.cells #[.slice a1 S.length c1, .slice a2 L.length c2] 32);have h1 : y.cell? (ja w.heap.size 0) = some (.slice a1 S.length c1) := by rw [hy]; simp [go_sem]
 have h2 : y.cell? (ja w.heap.size 1) = some (.slice a2 L.length c2) := by rw [hy]; simp [go_sem]
 have v1 := v1.below B0 (v1.lt BN (by omega));have v2 := v2.below B0 (v2.lt BN (by omega));go_enter func62, ntmps62
 go_wp2_with fail
 go_at_call 104
 rw [← hy];clear hy;refine (JF w.heap.size a1 a2 c1 c2 S L y h1 h2 v1 v2 n1 n2 l1 l2).mono ?_;rintro e z ⟨ad, cap, rfl, O, kq⟩;have B1 := AE B0 kq;have O := O.base B0.size;have bl : (S ++ L).length ≤ 2097152 := by rw [List.length_append]; omega
 rw [← hQ.out] at O bl ⊢;clear hQ kq h1 h2 v1 v2 B0;have hcap := O.capM;have hcm : cap ≤ maxLen := by
  rcases O.2 with ⟨e, _⟩ | ⟨g, c, cur, e, _, _, _, hm, _⟩
  ·
   simp only [Value.slice.injEq] at e; omega
  simp only [Value.slice.injEq] at e; omega
 by_cases h40 : Q.length ≤ 40
 ·
  have hw : IntKind.i64.wrap ((Q.length : Int) - 40) = (Q.length : Int) - 40 := by rw [IntKind.wrap_i64]; omega
  have hm : max (0 : Int) ((Q.length : Int) - 40) = 0 := by omega
  have hX : DC Q = Q := HB h40;cases ad with
  | none =>
   obtain rfl := O.view.2.none_nil;obtain rfl := EH O;go_wp2
   go_ret
   exact ⟨none, 0, by rw [hX]; rfl, .inl ⟨rfl, rfl, hX⟩, B1⟩
  | some a =>
   obtain ⟨g, rfl⟩ : ∃ g, a = (ja g 0) := by
    rcases O.2 with ⟨e, _⟩ | ⟨g, c, cur, e, _⟩
    ·
     simp at e
    simp only [Value.slice.injEq, Option.some.injEq] at e; exact ⟨g, e.1⟩
   replace hX : Hid _ := hX;go_wp2
   go_ret
   exact ⟨_, cap, by rw [hX.out]; rfl, by rw [hX.out]; exact C8.of O, B1⟩
 obtain ⟨n, hn⟩ : ∃ n, Q.length = n + 40 := ⟨Q.length - 40, by omega⟩;have hw : IntKind.i64.wrap ((Q.length : Int) - 40) = (n : Int) := by rw [IntKind.wrap_i64]; omega
 have hm : max (0 : Int) (n : Int) = (n : Int) := by omega
 obtain ⟨g, rfl⟩ : ∃ g, ad = some (ja g 0) := by
  rcases O.2 with ⟨e, _⟩ | ⟨g, c, cur, e, _⟩
  ·
   simp only [Value.slice.injEq] at e; omega
  simp only [Value.slice.injEq] at e; exact ⟨g, e.1⟩
 have hX : DC Q = Q.drop n := by unfold DC; rw [show Q.length - 40 = n by omega]
 have hl : (DC Q).length = 40 := by rw [hX, List.length_drop]; omega
 have hpre : (Q.take n).length = n := by rw [List.length_take]; omega
 have hS : C8 w.heap.size z (some ⟨g, n * 8, none⟩) (cap - n) (DC Q) := .inr ⟨g, Q.take n, cap, by rw [hpre], by rw [hpre]; omega, by rw [hX, List.take_append_drop]; exact O⟩;replace hX : Hid _ := hX;replace hl : Hid _ := hl;replace hS : Hid _ := hS;replace hpre : Hid _ := hpre;have hlt : n < cap := by omega
 have hq2 : n ≤ Q.length := by omega
 have hn2 : Q.length - n = 40 := by omega
 replace hn : Hid _ := hn;clear O;go_wp2
 go_ret
 exact ⟨_, _, by rw [hl.out]; rfl, hS.out, B1⟩
structure EE (lo mid hi : Nat) (w : World) (x : AG) : Prop where
  t : CC lo mid w (.slice x.aT x.two.length x.cT) x.two
  n : AB At 12 75 mid w (.slice x.aN x.net.length x.cN) x.net
  g : AB Az 1 4 mid w (.slice x.aG x.ga.length x.cG) x.ga
  i : AB AO 8 64 mid w (.slice x.aL x.ln.length x.cL) x.ln
  s : C8 mid w x.aS x.cS x.sd
  nh : ∀ b, (Value.slice x.aN x.net.length x.cN).ownBlock = some b → b < hi
  gh : ∀ b, (Value.slice x.aG x.ga.length x.cG).ownBlock = some b → b < hi
  ih : ∀ b, (Value.slice x.aL x.ln.length x.cL).ownBlock = some b → b < hi
  sh : ∀ b, (Value.slice x.aS x.sd.length x.cS).ownBlock = some b → b < hi
  lm : lo ≤ mid
  mh : mid ≤ hi
theorem Cx.pc {lo mid hi : Nat} {w : World} {x : AG} (h : Cx lo mid hi w x) : EE lo mid hi w x := ⟨h.t, h.n, h.g, h.i, C8.of h.s, h.nh, h.gh, h.ih, h.sh, h.lm, h.mh⟩
theorem EE.keep {lo mid hi : Nat} {w w' : World} {x : AG} (h : EE lo mid hi w x) (k : ∀ g, lo ≤ g → g < hi → w'.heap[g]? = w.heap[g]?) : EE lo mid hi w' x := by
  have h1 := h.lm
  have h2 := h.mh
  exact ⟨h.t.keep (fun g p q => k g p (by omega)), h.n.keep (fun g e => k g (by have := (h.n.lt g e).1; omega) (h.nh g e)), h.g.keep (fun g e => k g (by have := (h.g.lt g e).1; omega) (h.gh g e)), h.i.keep (fun g e => k g (by have := (h.i.lt g e).1; omega) (h.ih g e)), h.s.keep (fun g p q e => k g (by omega) (h.sh g (e _))), h.nh, h.gh, h.ih, h.sh, h1, h2⟩
theorem AB.apartN {X Y : Type} {e1 : X → List Value} {e2 : Y → List Value} {n1 n2 : Nat} {T1 T2 : TypeId} {b1 b2 : Nat} {w : World} {v1 v2 : Value} {L1 : List X} {L2 : List Y} (h1 : AB e1 n1 T1 b1 w v1 L1) (h2 : AB e2 n2 T2 b2 w v2 L2) (hT : T1 ≠ T2) {g : Nat} (e : v1.ownBlock = some g) : v2.ownBlock ≠ some g := by
  intro e2'
  rcases h1.2 with ⟨q, _⟩ | ⟨g1, c1, u1, q1, _, o1, _⟩
  · rw [q] at e; cases e
  · rcases h2.2 with ⟨q, _⟩ | ⟨g2, c2, u2, q2, _, o2, _⟩
    · rw [q] at e2'; cases e2'
    · rw [q1] at e
      rw [q2] at e2'
      cases e
      cases e2'
      rw [o1] at o2
      simp only [Option.some.injEq, Obj.cells.injEq] at o2
      exact hT o2.2.1
theorem C8.lt {base : Nat} {w : World} {a : Option Addr} {c n : Nat} {L : List Ou} (h : C8 base w a c L) : ∀ k, (Value.slice a n c).ownBlock = some k → base ≤ k ∧ k < w.heap.size := by
  intro k e
  rcases h with ⟨rfl, _, _⟩ | ⟨g, pre, cap, rfl, _, O⟩
  · cases e
  · exact O.lt k e
theorem Cx.below {lo mid hi B : Nat} {w w' : World} {x : AG} (h : Cx lo mid hi w x) (k : Below B w w') (hB : hi ≤ B) : Cx lo mid hi w' x := h.keep fun g _ hg => k.block _ (by omega)
theorem JK (x : AG) (s : Int) (aO : Option Addr) (cO : Nat) (L : List Ou) (w : World) (hV : BT w x) (bg0 : x.ga.length ≤ 1048576) (bs0 : x.sd.length ≤ 1048576) (hL : AH Ag w aO L) (hn : aO = none → cO = 0) (hl : L.length ≤ 1048576) :
    Calls prog 20 #[.agg #[.int .i64 x.id, .int .i64 x.po, .int .i64 x.rg.ep, .int .i64 x.rg.ow, .int .i64 x.rg.pa, .slice x.aT x.two.length x.cT, .slice x.aN x.net.length x.cN, .slice x.aG x.ga.length x.cG, .slice x.aL x.ln.length x.cL, .slice x.aS x.sd.length x.cS], .int .i64 s, .slice aO L.length cO] w fun e w' => ∃ x3 : AG, ∃ mid : Nat, e = .returned (.agg #[.int .i64 x3.id, .int .i64 x3.po, .int .i64 x3.rg.ep, .int .i64 x3.rg.ow, .int .i64 x3.rg.pa, .slice x3.aT x3.two.length x3.cT, .slice x3.aN x3.net.length x3.cN, .slice x3.aG x3.ga.length x3.cG, .slice x3.aL x3.ln.length x3.cL, .slice x3.aS x3.sd.length x3.cS]) ∧ x3.p = CI x.p s L ∧ EE w.heap.size mid w'.heap.size w' x3 ∧ Below w.heap.size w w' := by
  obtain ⟨y, hy⟩ : ∃ y, y = (w.alloc (Obj.cells #[.int .i64 x.id, .int .i64 x.po, .int .i64 x.rg.ep, .int .i64 x.rg.ow, .int .i64 x.rg.pa, .slice x.aT x.two.length x.cT, .slice x.aN x.net.length x.cN, .slice x.aG x.ga.length x.cG, .slice x.aL x.ln.length x.cL, .slice x.aS x.sd.length x.cS] 34)).alloc (Obj.cells #[.int .i64 0, .int .i64 0, .int .i64 0, .int .i64 0, .int .i64 0, .slice none 0 0, .slice none 0 0, .slice none 0 0, .slice none 0 0, .slice none 0 0] 34) := ⟨_, rfl⟩
  have B : Below w.heap.size w y := by rw [hy]; exact ((Below.refl _ _).alloc (Nat.le_refl _) _).alloc (by simp) _
  have A : AS y w.heap.size x := by rw [hy]; constructor <;> simp [go_sem]
  have Z : AN y (w.heap.size + 1) AG.zero := by rw [hy]; refine ⟨?_, fun i => ?_⟩; constructor <;> simp [go_sem, AG.zero]; simp [go_sem]
  have V := hV.later B
  have zA := A.lt
  have zZ := Z.lt
  have hL0 := hL.lt BN (by omega)
  clear hV
  go_enter func20, ntmps20
  have cc := A
  obtain ⟨a0, a1, a2, a3, a4, a5, a6, a7, a8, a9⟩ := cc
  go_wp2_with fail
  go_at_call 59
  rw [← hy]
  clear hy a0 a1 a2 a3 a4 a5 a6 a7 a8 a9
  refine (JE x y V).mono ?_
  rintro e u1 ⟨x2, mid, rfl, p2, M, kq⟩
  replace p2 : Hid _ := p2
  have A := A.below kq A.lt
  have Z := Z.below kq Z.lt
  have V := V.later kq
  have B := B.trans (kq.mono B.size)
  have z1 := kq.size
  clear kq
  obtain ⟨u2, hu2⟩ : ∃ y_, y_ = u1.alloc (Obj.cells #[.int .i64 x2.id, .int .i64 x2.po, .int .i64 x2.rg.ep, .int .i64 x2.rg.ow, .int .i64 x2.rg.pa, .slice x2.aT x2.two.length x2.cT, .slice x2.aN x2.net.length x2.cN, .slice x2.aG x2.ga.length x2.cG, .slice x2.aL x2.ln.length x2.cL, .slice x2.aS x2.sd.length x2.cS] 34) := ⟨_, rfl⟩
  have kq : Below u1.heap.size u1 u2 := by rw [hu2]; exact Ae _
  have Q : AN u2 u1.heap.size x2 := by rw [hu2]; refine ⟨AS.new u1 _ x2, fun i => ?_⟩; simp [go_sem]
  go_upto_region 2 with fail
  rw [← hu2]
  clear hu2
  obtain ⟨q7, hq7⟩ : ∃ q, q = u1.heap.size := ⟨_, rfl⟩
  rw [← hq7] at Q M ⊢
  have hq71 := Nat.le_of_eq hq7
  replace hq7 := Nat.le_of_eq hq7.symm
  have A := A.below kq A.lt
  have Z := Z.below kq Z.lt
  have V := V.later kq
  have M := M.below kq (by omega)
  have B := B.trans (kq.mono B.size)
  have z2 := Q.lt
  clear kq
  have cc := A
  obtain ⟨a0, a1, a2, a3, a4, a5, a6, a7, a8, a9⟩ := cc
  go_wp2_with fail
  go_at_call 60
  clear a0 a1 a2 a3 a4 a5 a6 a7 a8 a9
  refine (HG x s u2 V).mono ?_
  rintro e u3 ⟨rfl, kq⟩
  have Z := Z.below kq Z.lt
  have Q := Q.below kq Q.lt
  have M := M.below kq (by omega)
  have B := B.trans (kq.mono B.size)
  have z3 := kq.size
  clear kq A V
  have hlm := M.lm
  have hmh := M.mh
  cases hm : Bp x.p s
  · have hX : Hid (x2.p = CI x.p s L) := by unfold Hid CI; rw [hm, p2.out]; rfl
    replace hm : Hid _ := hm
    have M := M.pc
    obtain ⟨W9, hW9⟩ : ∃ y_, y_ = ((((((((((u3.setCell ⟨(w.heap.size + 1), 0, none⟩ (.int .i64 x2.id)).setCell ⟨(w.heap.size + 1), 1, none⟩ (.int .i64 x2.po)).setCell ⟨(w.heap.size + 1), 2, none⟩ (.int .i64 x2.rg.ep)).setCell ⟨(w.heap.size + 1), 3, none⟩ (.int .i64 x2.rg.ow)).setCell ⟨(w.heap.size + 1), 4, none⟩ (.int .i64 x2.rg.pa)).setCell ⟨(w.heap.size + 1), 5, none⟩ (.slice x2.aT x2.two.length x2.cT)).setCell ⟨(w.heap.size + 1), 6, none⟩ (.slice x2.aN x2.net.length x2.cN)).setCell ⟨(w.heap.size + 1), 7, none⟩ (.slice x2.aG x2.ga.length x2.cG)).setCell ⟨(w.heap.size + 1), 8, none⟩ (.slice x2.aL x2.ln.length x2.cL)).setCell ⟨(w.heap.size + 1), 9, none⟩ (.slice x2.aS x2.sd.length x2.cS)) := ⟨_, rfl⟩
    have z9 : u3.heap.size ≤ W9.heap.size := by rw [hW9]; simp
    have hN9 : EE w.heap.size mid W9.heap.size W9 x2 := by
      have h := M.keep (w' := W9) (fun g h1 h2 => by rw [hW9]; exact Am u3 (w.heap.size + 1) g x2 (by omega))
      exact ⟨h.t.wide (by omega) (Nat.le_refl _), h.n, h.g, h.i, h.s, fun g e => Nat.lt_of_lt_of_le (h.nh g e) (by omega), fun g e => Nat.lt_of_lt_of_le (h.gh g e) (by omega), fun g e => Nat.lt_of_lt_of_le (h.ih g e) (by omega), fun g e => Nat.lt_of_lt_of_le (h.sh g e) (by omega), by have := h.lm; omega, by have := h.mh; omega⟩
    have B9 : Below w.heap.size w W9 := by rw [hW9]; exact Bm (q := w.heap.size + 1) x2 B (by omega)
    clear M z9
    obtain ⟨⟨r0, r1, r2, r3, r4, r5, r6, r7, r8, r9⟩, rf⟩ := Z
    dsimp only [AG.zero] at r0 r1 r2 r3 r4 r5 r6 r7 r8 r9
    have g0 := rf 0
    have g1 := rf 1
    have g2 := rf 2
    have g3 := rf 3
    have g4 := rf 4
    have g5 := rf 5
    have g6 := rf 6
    have g7 := rf 7
    have g8 := rf 8
    have g9 := rf 9
    clear rf
    have cc := Q
    obtain ⟨⟨a0, a1, a2, a3, a4, a5, a6, a7, a8, a9⟩, af⟩ := cc
    clear af Q
    go_wp2
    refine bodyPost_ret (v := .agg #[.int .i64 x2.id, .int .i64 x2.po, .int .i64 x2.rg.ep, .int .i64 x2.rg.ow, .int .i64 x2.rg.pa, .slice x2.aT x2.two.length x2.cT, .slice x2.aN x2.net.length x2.cN, .slice x2.aG x2.ga.length x2.cG, .slice x2.aL x2.ln.length x2.cL, .slice x2.aS x2.sd.length x2.cS]) (by simp [results, results20, go_sem, *]) rfl ⟨x2, mid, rfl, hX.out, by rw [← hW9]; exact hN9, by rw [← hW9]; exact B9⟩
  · replace hm : Hid _ := hm
    have bg : x2.ga.length ≤ 1048576 := by have h := congrArg (fun b => b.ga.length) p2.out; have h2 : x2.ga.length = x.ga.length := h; omega
    have bs : x2.sd.length ≤ 1048576 := by have h := congrArg (fun b => b.sd.length) p2.out; have h2 : x2.sd.length = x.sd.length := h; omega
    have hL3 := hL.below B hL0
    have cc := Q
    obtain ⟨⟨a0, a1, a2, a3, a4, a5, a6, a7, a8, a9⟩, af⟩ := cc
    clear af
    go_wp2_with fail
    go_at_call 61
    clear a0 a1 a2 a3 a4 a5 a6 a7 a8 a9
    refine (JN x2.aG x2.cG x2.ga aO cO L mid u3 M.g hL3 (fun a e p g e2 => by have h1 := hL0 a e p; have h2 := (M.g.lt g e2).1; omega) hl bg).mono ?_
    rintro e u4 ⟨rfl, OG, gr⟩
    have lb : ∀ g, (Value.slice x2.aG x2.ga.length x2.cG).ownBlock = some g → mid ≤ g ∧ g < q7 := fun g e => ⟨(M.g.lt g e).1, M.gh g e⟩
    obtain ⟨G, hG⟩ : ∃ G, G = L.foldl CG x2.ga := ⟨_, rfl⟩
    rw [← hG] at OG
    have hGl : G.length = x2.ga.length := by rw [hG]; exact E4 L x2.ga
    have Z := Z.keep (gr.block _ Z.lt (fun e => by have := lb _ e.symm; omega))
    have Q := Q.keep (gr.block _ Q.lt (fun e => by have := lb _ e.symm; omega))
    have B := B.grown gr (by have := B.size; omega) (fun k e => by have := lb k e; omega)
    have hL4 := hL.below B hL0
    have T4 := M.t.keep (fun g h1 h2 => gr.block g (by omega) (fun e => by have := lb _ e.symm; omega))
    have N4 := M.n.keep (fun g e => gr.block g (M.n.lt g e).2 (fun e2 => M.g.apartN M.n (by decide) e2.symm e))
    have I4 := M.i.keep (fun g e => gr.block g (M.i.lt g e).2 (fun e2 => M.g.apartN M.i (by decide) e2.symm e))
    have S4 := M.s.keep (fun g e => gr.block g (M.s.lt g e).2 (fun e2 => M.g.apartN M.s (by decide) e2.symm e))
    have z4 := gr.size
    replace hGl : Hid _ := hGl
    replace hG : Hid _ := hG
    have M : Cx y.heap.size mid q7 u4 { x2 with ga := G } := ⟨T4, N4, by show AB _ _ _ _ _ (.slice _ G.length _) _; rw [hGl.out]; exact OG, I4, S4, M.nh, fun b e => M.gh b (by rw [← hGl.out]; exact e), M.ih, M.sh, M.lm, M.mh⟩
    have Q : AN u4 q7 { x2 with ga := G } := ⟨⟨Q.at_.c0, Q.at_.c1, Q.at_.c2, Q.at_.c3, Q.at_.c4, Q.at_.c5, Q.at_.c6, by show _ = some (Value.slice _ G.length _); rw [hGl.out]; exact Q.at_.c7, Q.at_.c8, Q.at_.c9⟩, Q.fr⟩
    clear T4 N4 I4 S4 OG gr lb hL3
    obtain ⟨x4, hx4⟩ : ∃ x4 : AG, x4 = { x2 with ga := G } := ⟨_, rfl⟩
    rw [← hx4] at M Q
    have eS : x4.sd = x2.sd := by rw [hx4]
    have bs4 : x4.sd.length ≤ 1048576 := by rw [eS]; exact bs
    replace eS : Hid _ := eS
    have P4 : Hid (x4.p = ⟨x2.p.id, x2.p.po, x2.p.rg, x2.p.two, x2.p.net, L.foldl CG x2.p.ga, x2.p.ln, x2.p.sd⟩) := by unfold Hid; rw [hx4, hG.out]; rfl
    clear hx4 bs bg
    have nS : x4.aS = none → x4.cS = 0 := fun e => EH (by have := M.s; rw [e] at this; exact this)
    have cc := Q
    obtain ⟨⟨a0, a1, a2, a3, a4, a5, a6, a7, a8, a9⟩, af⟩ := cc
    clear af
    go_wp2_with fail
    go_at_call 62
    clear a0 a1 a2 a3 a4 a5 a6 a7 a8 a9
    refine (KB x4.aS aO x4.cS cO x4.sd L u4 M.s.view.2 hL4 nS hn bs4 hl).mono ?_
    rintro e u5 ⟨aN, cN, rfl, SO, kq⟩
    obtain ⟨N, hN⟩ : ∃ N, N = DC (x4.sd ++ L) := ⟨_, rfl⟩
    rw [← hN] at SO ⊢
    replace hN : Hid _ := hN
    have lo := SO.lt (n := N.length)
    have Z := Z.below kq Z.lt
    have Q := Q.below kq Q.lt
    have M := M.below kq (by omega)
    have B := B.trans (kq.mono B.size)
    have z5 := kq.size
    clear kq hL4 nS
    have cc := Q
    obtain ⟨⟨a0, a1, a2, a3, a4, a5, a6, a7, a8, a9⟩, af⟩ := cc
    have f9 := af 9
    clear af
    go_upto_region 6 with fail
    clear a0 a1 a2 a3 a4 a5 a6 a7 a8 a9 f9
    obtain ⟨u6, hu6⟩ : ∃ y_, y_ = u5.setCell ⟨q7, 9, none⟩ (.slice aN N.length cN) := ⟨_, rfl⟩
    rw [← hu6]
    have Q := Q.sS N aN N.length cN rfl
    rw [← hu6] at Q
    have kp : ∀ g, g ≠ q7 → u6.heap[g]? = u5.heap[g]? := fun g hg => by rw [hu6]; exact AF hg
    have Z := Z.keep (kp _ (by omega))
    have B : Below w.heap.size w u6 := by rw [hu6]; exact B.setCell (p := ⟨q7, 9, none⟩) (by show w.heap.size ≤ q7; omega) _
    have s6 : u6.heap.size = u5.heap.size := by rw [hu6]; simp
    have s6 := Nat.le_of_eq s6.symm
    have M := M.keep (fun g _ h2 => kp g (by omega))
    have SO := SO.keep (fun g h1 _ _ => kp g (by omega))
    clear hu6 kp
    obtain ⟨z, hz⟩ : ∃ z : AG, z = { x4 with sd := N, aS := aN, cS := cN } := ⟨_, rfl⟩
    rw [← hz] at Q
    have M : EE y.heap.size mid u6.heap.size u6 z := by
      rw [hz]
      exact ⟨M.t, M.n, M.g, M.i, SO.base (by omega), fun b e => by have := M.nh b e; omega, fun b e => by have := M.gh b e; omega, fun b e => by have := M.ih b e; omega, fun b e => by have := (lo b e).2; omega, M.lm, by have := M.mh; omega⟩
    have hX : Hid (z.p = CI x.p s L) := by
      unfold Hid
      rw [GB hm.out, ← p2.out, hz]
      show (⟨x4.p.id, x4.p.po, x4.p.rg, x4.p.two, x4.p.net, x4.p.ga, x4.p.ln, N⟩ : Bx) = _
      rw [hN.out, eS.out, P4.out]
      rfl
    clear hz SO lo hN eS P4
    obtain ⟨W9, hW9⟩ : ∃ y_, y_ = ((((((((((u6.setCell ⟨(w.heap.size + 1), 0, none⟩ (.int .i64 z.id)).setCell ⟨(w.heap.size + 1), 1, none⟩ (.int .i64 z.po)).setCell ⟨(w.heap.size + 1), 2, none⟩ (.int .i64 z.rg.ep)).setCell ⟨(w.heap.size + 1), 3, none⟩ (.int .i64 z.rg.ow)).setCell ⟨(w.heap.size + 1), 4, none⟩ (.int .i64 z.rg.pa)).setCell ⟨(w.heap.size + 1), 5, none⟩ (.slice z.aT z.two.length z.cT)).setCell ⟨(w.heap.size + 1), 6, none⟩ (.slice z.aN z.net.length z.cN)).setCell ⟨(w.heap.size + 1), 7, none⟩ (.slice z.aG z.ga.length z.cG)).setCell ⟨(w.heap.size + 1), 8, none⟩ (.slice z.aL z.ln.length z.cL)).setCell ⟨(w.heap.size + 1), 9, none⟩ (.slice z.aS z.sd.length z.cS)) := ⟨_, rfl⟩
    have z9 : u6.heap.size ≤ W9.heap.size := by rw [hW9]; simp
    have hN9 : EE w.heap.size mid W9.heap.size W9 z := by
      have h := M.keep (w' := W9) (fun g h1 h2 => by rw [hW9]; exact Am u6 (w.heap.size + 1) g z (by omega))
      exact ⟨h.t.wide (by omega) (Nat.le_refl _), h.n, h.g, h.i, h.s, fun g e => Nat.lt_of_lt_of_le (h.nh g e) (by omega), fun g e => Nat.lt_of_lt_of_le (h.gh g e) (by omega), fun g e => Nat.lt_of_lt_of_le (h.ih g e) (by omega), fun g e => Nat.lt_of_lt_of_le (h.sh g e) (by omega), by have := h.lm; omega, by have := h.mh; omega⟩
    have B9 : Below w.heap.size w W9 := by rw [hW9]; exact Bm (q := w.heap.size + 1) z B (by omega)
    clear M z9
    obtain ⟨⟨r0, r1, r2, r3, r4, r5, r6, r7, r8, r9⟩, rf⟩ := Z
    dsimp only [AG.zero] at r0 r1 r2 r3 r4 r5 r6 r7 r8 r9
    have g0 := rf 0
    have g1 := rf 1
    have g2 := rf 2
    have g3 := rf 3
    have g4 := rf 4
    have g5 := rf 5
    have g6 := rf 6
    have g7 := rf 7
    have g8 := rf 8
    have g9 := rf 9
    clear rf
    have cc := Q
    obtain ⟨⟨a0, a1, a2, a3, a4, a5, a6, a7, a8, a9⟩, af⟩ := cc
    clear af Q
    go_wp2
    refine bodyPost_ret (v := .agg #[.int .i64 z.id, .int .i64 z.po, .int .i64 z.rg.ep, .int .i64 z.rg.ow, .int .i64 z.rg.pa, .slice z.aT z.two.length z.cT, .slice z.aN z.net.length z.cN, .slice z.aG z.ga.length z.cG, .slice z.aL z.ln.length z.cL, .slice z.aS z.sd.length z.cS]) (by simp [results, results20, go_sem, *]) rfl ⟨z, mid, rfl, hX.out, by rw [← hW9]; exact hN9, by rw [← hW9]; exact B9⟩
theorem A8.belowJ {w w' : World} {q o n : Nat} {x : AD} (h : A8 w q o x) (k : Below n w w') (hq : q < n) : A8 w' q o x :=
 ⟨(World.cell?_of_block (a := (ja q o)) (k.block q hq)).trans h.c0, (World.cell?_of_block (a := ⟨q, o + 1, none⟩) (k.block q hq)).trans h.c1, (World.cell?_of_block (a := ⟨q, o + 2, none⟩) (k.block q hq)).trans h.c2, (World.cell?_of_block (a := ⟨q, o + 3, none⟩) (k.block q hq)).trans h.c3, (World.cell?_of_block (a := ⟨q, o + 4, none⟩) (k.block q hq)).trans h.c4, (World.cell?_of_block (a := ⟨q, o + 5, none⟩) (k.block q hq)).trans h.c5, (World.cell?_of_block (a := ⟨q, o + 6, none⟩) (k.block q hq)).trans h.c6⟩
def YN (e : Ending) (Q : Prop) : Prop := ∃ R : Bool, e = .returned (.bool R) ∧ (R = true ↔ Q)
theorem YN.no {Q : Prop} (h : ¬ Q) : YN (.returned (.bool false)) Q := ⟨false, rfl, ⟨fun h => (by cases h), fun q => absurd q h⟩⟩
theorem YN.yes {Q : Prop} (h : Q) : YN (.returned (.bool true)) Q := ⟨true, rfl, ⟨fun _ => h, fun _ => rfl⟩⟩
structure DN (w : World) (x : AG) : Prop where
 v : BT w x
 c : ∀ i, i < x.two.length → (x.two.getD i AD.nil).m.lg.length ≤ (x.two.getD i AD.nil).cap
theorem DN.later {w w' : World} {x : AG} (h : DN w x) (k : Bw w w') : DN w' x := ⟨h.v.later k, h.c⟩
theorem Gf (x : AG) (w : World) (hl : x.ln.length ≤ 1048576) :
  Calls prog 18 #[.agg (bc x)] w fun e w' => e = .returned (ji (x.ln.length : Int)) ∧ Bw w w' := by
 go_enter func18, ntmps18
 go_wp2
 go_ret
 exact ⟨rfl, Ae _⟩
attribute [local go_sem] ic
theorem KE (m : Mi) (ad : Option Addr) (cap : Nat) (w : World) (hv : AH AO w ad m.lg) (hl : m.lg.length ≤ 1048577) : Calls prog 50 #[.agg #[.bool m.up, ji m.li, ji m.ep, .slice ad m.lg.length cap, ji m.sd, ji m.ac, ji m.al]] w fun e w' => e = .returned (.bool (!Au m)) ∧ Bw w w' := by
 obtain ⟨y, hy, B0⟩ := AI w (Obj.cells (mc m ad cap) 52);obtain ⟨o, ho⟩ := AC (Au m);rw [← ho];replace ho : Hid _ := ho;go_enter func50, ntmps50
 go_wp2_with fail
 go_at_call 71
 rw [← hy];clear hy;refine (Hl m ad cap y (hv.below B0 (hv.lt AT (by omega))) hl).mono ?_;rintro e w1 ⟨rfl, k1⟩;have B1 := AE B0 k1;rw [← ho.out];go_wp2
 go_ret
 exact ⟨rfl, B1⟩
theorem KF (x : Ik) (w : World) : Calls prog 54 #[.agg #[ji x.k, ji x.q, ji x.r, ji x.c, ji x.b, ji x.p, ji x.h, .bool x.up]] w fun e w' => e = .returned (.bool (!Ay x)) ∧ Bw w w' := by
 obtain ⟨y, hy, B0⟩ := AI w (Obj.cells (ic x) 64);obtain ⟨o, ho⟩ := AC (Ay x);rw [← ho];replace ho : Hid _ := ho;go_enter func54, ntmps54
 go_wp2_with fail
 go_at_call 97
 rw [← hy];clear hy;refine (Gb x y).mono ?_;rintro e w1 ⟨rfl, k1⟩;have B1 := AE B0 k1;rw [← ho.out];go_wp2
 go_ret
 exact ⟨rfl, B1⟩
theorem KZ (x : Ik) (w : World) : (binOp .eql 64 (.agg #[ji x.k, ji x.q, ji x.r, ji x.c, ji x.b, ji x.p, ji x.h, .bool x.up]) (.agg #[ji 0, ji 0, ji 0, ji 0, ji 0, ji 0, ji 0, .bool false])).run prog w = .ok (.bool (Db x)) w := by
 unfold Db;go_simp
 all_goals ((repeat' split) <;> first | (simp_all; done) | grind)
theorem JW (x : Wi) (w : World) : Calls prog 95 #[.agg #[ji x.fr, .bool x.ak, ji x.li, ji x.n, ji x.x.k, ji x.x.q, ji x.x.r, ji x.x.c, ji x.x.b, ji x.x.p, ji x.x.h, .bool x.x.up]] w fun e w' => e = .returned (.bool (if x.ak then Db x.x else Ay x.x)) ∧ Bw w w' := by
 obtain ⟨y, hy, B0⟩ := AI w (Obj.cells #[ji x.fr, .bool x.ak, ji x.li, ji x.n, ji x.x.k, ji x.x.q, ji x.x.r, ji x.x.c, ji x.x.b, ji x.x.p, ji x.x.h, .bool x.x.up] 75);have U : Di y w.heap.size x := by rw [hy]; exact Di.new w _ x
 have eI := KZ x.x;obtain ⟨R, hR⟩ := AC (if x.ak then Db x.x else Ay x.x);rw [← hR];replace hR : Hid _ := hR;obtain ⟨c0, c1, c2, c3, c4, c5, c6, c7, c8, c9, c10, c11⟩ := U;go_enter func95, ntmps95
 go_upto_region 1 with fail
 rw [← hy];clear hy;cases h : x.ak
 ·
  have hN : Hid (R = Ay x.x) := by unfold Hid; rw [hR.out, h]; rfl
  rw [h] at c1;replace h : Hid _ := h;go_wp2_with fail
  go_at_call 97
  refine (Gb x.x y).mono ?_;rintro e u1 ⟨rfl, k1⟩;go_wp2
  go_ret
  exact ⟨by rw [hN.out]; rfl, AE B0 k1⟩
 have hN : Hid (R = Db x.x) := by unfold Hid; rw [hR.out, h]; rfl
 rw [h] at c1;replace h : Hid _ := h;go_wp2
 go_ret
 exact ⟨by rw [hN.out]; rfl, B0⟩
theorem KD (x : Wi) (w : World) : Calls prog 52 #[.agg #[ji x.fr, .bool x.ak, ji x.li, ji x.n, ji x.x.k, ji x.x.q, ji x.x.r, ji x.x.c, ji x.x.b, ji x.x.p, ji x.x.h, .bool x.x.up]] w fun e w' => e = .returned (.bool (!BI x)) ∧ Bw w w' := by
 obtain ⟨y, hy, B0⟩ := AI w (Obj.cells #[ji x.fr, .bool x.ak, ji x.li, ji x.n, ji x.x.k, ji x.x.q, ji x.x.r, ji x.x.c, ji x.x.b, ji x.x.p, ji x.x.h, .bool x.x.up] 75);have U : Di y w.heap.size x := by rw [hy]; exact Di.new w _ x
 obtain ⟨R, hR⟩ := AC (!BI x);rw [← hR];replace hR : Hid _ := hR;replace U := U.all;go_enter func52, ntmps52
 go_upto_region 1 with fail
 rw [← hy];clear hy;by_cases e1 : x.fr = 0
 focus
  have d1 : (x.fr == 0) = true := by simpa using e1
  have b1 : (x.fr != 0) = false := by simpa using e1
  have hfr : Hid (decide (0 ≤ x.fr ∧ x.fr ≤ 1) = true) := decide_eq_true (by omega);replace e1 : Hid _ := e1
 rotate_left;focus
  have d1 : (x.fr == 0) = false := by simpa using e1
  have b1 : (x.fr != 0) = true := by simpa using e1
  by_cases e2 : x.fr = 1
  focus
   have d2 : (x.fr == 1) = true := by simpa using e2
   have b2 : (x.fr != 1) = false := by simpa using e2
   have hfr : Hid (decide (0 ≤ x.fr ∧ x.fr ≤ 1) = true) := decide_eq_true (by omega);replace e1 : Hid _ := e1;replace e2 : Hid _ := e2
  rotate_left
  ·
   have d2 : (x.fr == 1) = false := by simpa using e2
   have b2 : (x.fr != 1) = true := by simpa using e2
   have hN : Hid (R = true) := by unfold Hid; rw [hR.out]; unfold BI; rw [decide_eq_false (show ¬ (0 ≤ x.fr ∧ x.fr ≤ 1) by omega)]; rfl
   replace e1 : Hid _ := e1;replace e2 : Hid _ := e2;go_wp2
   go_ret
   exact ⟨by rw [hN.out]; rfl, B0⟩
 rotate_left;all_goals
  go_wp2_with fail
  go_at_call 92
  refine (En x.li y).mono ?_;rintro e w1 ⟨rfl, hw_⟩;rw [hw_];clear hw_;cases h1 : BR x.li
  ·
   have hN : Hid (R = true) := by unfold Hid; rw [hR.out]; unfold BI; rw [hfr.out, h1]; rfl
   clear h1;go_wp2
   go_ret
   exact ⟨by rw [hN.out]; rfl, B0⟩
  ·
   replace h1 : Hid _ := h1;go_wp2_with fail
   go_at_call 92
   refine (En x.n y).mono ?_;rintro e w1 ⟨rfl, hw_⟩;rw [hw_];clear hw_;cases h2 : BR x.n
   ·
    have hN : Hid (R = true) := by unfold Hid; rw [hR.out]; unfold BI; rw [hfr.out, h1.out, h2]; rfl
    clear h2;go_wp2
    go_ret
    exact ⟨by rw [hN.out]; rfl, B0⟩
   ·
    replace h2 : Hid _ := h2;have hN : Hid (R = !(if x.ak then Db x.x else Ay x.x)) := by unfold Hid; rw [hR.out]; unfold BI; rw [hfr.out, h1.out, h2.out]; rfl
    go_wp2_with fail
    go_at_call 95
    refine (JW x y).mono ?_;rintro e u1 ⟨rfl, k1⟩;obtain ⟨o, ho⟩ := AC (if x.ak then Db x.x else Ay x.x);rw [← ho] at hN ⊢;clear ho;go_wp2
    go_ret
    exact ⟨by rw [hN.out]; rfl, AE B0 k1⟩
end Go.Proofs.YtjmnaeeknomiaaaGreat
namespace Go.Proofs.YtjmnaeeknomiaaaGreat
open Go.ChangeShapes Go.WideShapes Go.ChangeAt Go.RowKit
open Go.ChangeMaps (open_string shut_string)
set_option linter.unusedVariables false
set_option maxRecDepth 100000
set_option maxHeartbeats 32000000
set_option linter.unusedSimpArgs false
open Go.Proofs.Tryz
theorem GF {X : Type} {p : X → Bool} {L : List X} (d : X) {k : Nat} (h : k < L.length) (hq : p (L.getD k d) = false) : L.all p = false := by
 rw [Bool.eq_false_iff];intro e;have := List.all_eq_true.1 e (L.getD k d) (by simp [List.getD, h]);rw [hq] at this;cases this
theorem GA {X : Type} {p : X → Bool} {L : List X} (d : X) (h : ∀ j, j < L.length → p (L.getD j d) = true) : L.all p = true := by
 rw [List.all_eq_true];intro x hx;obtain ⟨i, hi, rfl⟩ := List.mem_iff_getElem.1 hx;have := h i hi;rwa [show L.getD i d = L[i] by simp [List.getD, hi]] at this
theorem KQ (ad : Option Addr) (cap : Nat) (L : List AD) (w : World) (hv : AH BC w ad L) (hl : L.length ≤ 1048576) (hn : ∀ i, i < L.length → AH AO w (L.getD i AD.nil).ad (L.getD i AD.nil).m.lg) (hm : ∀ i, i < L.length → (L.getD i AD.nil).m.lg.length ≤ 1048576) :
  Calls prog 93 #[.slice ad L.length cap, .func (Fn.func 50) #[] #[]] w fun e w' => (∃ r : Int, e = .returned (ji r) ∧ (decide (0 ≤ r) = !L.all (fun d => Au d.m)) ∧ r ≤ 1048576 ∧ -1 ≤ r) ∧ Bw w w' := by
 have hB := hv.lt Ai (by omega);go_enter func93, ntmps93
 go_wp2
 go_loopw [8] (fun i wr => ∃ k : Nat, i = .int .i64 (k : Int) ∧ k ≤ L.length ∧ Hid (∀ j, j < k → (fun d => Au d.m) (L.getD j AD.nil) = true) ∧ Below w.heap.size w wr) (fun i _ => L.length - (intOf i).toNat)
 case atStart => exact ⟨0, rfl, Nat.zero_le _, fun j hj => absurd hj (by omega), Below.refl _ _⟩
 case round =>
  obtain ⟨k, rfl, hk, hF, hb⟩ := hrel;by_cases hlt : k < L.length
  ·
   obtain ⟨b, off, rfl, _⟩ := hv (by omega);obtain ⟨h, hh⟩ : ∃ h, L.getD k AD.nil = h := ⟨_, rfl⟩;have hck : A8 wr b (off + k * 7) h := by
    rw [← hh];exact Bo ((hv.below hb hB).at_ Ai AD.nil hlt)
   have hvw : AH AO wr h.ad h.m.lg := by rw [← hh]; exact (hn k hlt).below hb ((hn k hlt).lt AT (by omega))
   have hlw : h.m.lg.length ≤ 1048577 := by rw [← hh]; exact Nat.le_trans (hm k hlt) (by omega)
   clear hn hm;replace hck := hck.all;replace hh : Hid _ := hh;clear hB hv;go_wp2_with fail
   go_at_call 50
   refine (KE h.m h.ad h.cap wr hvw hlw).mono ?_;rintro e w3 ⟨rfl, k3⟩;have b3 := AE hb k3;by_cases hq : Au h.m = true
   ·
    rw [hq];go_wp2
    go_roundw
    case rel =>
     refine ⟨k + 1, by go_num, by omega, fun j hj => ?_, b3⟩;by_cases e : j = k
     ·
      rw [e, hh.out]; exact hq
     exact hF.out j (by omega)
    case measure => simp [intOf]; omega
   have hq' : Au h.m = false := by simpa using hq
   rw [hq'];go_wp2
   go_ret
   refine ⟨⟨k, rfl, ?_, by omega, by omega⟩, b3⟩;rw [GF AD.nil hlt (by rw [hh.out]; exact hq')];simp
  obtain rfl : k = L.length := by omega
  go_wp2
  go_ret
  refine ⟨⟨-1, rfl, ?_, by omega, by omega⟩, hb⟩;rw [GA AD.nil hF.out];rfl
theorem Jq (ad : Option Addr) (cap : Nat) (L : List AD) (w : World) (hv : AH BC w ad L) (hl : L.length ≤ 1048576) (hn : ∀ i, i < L.length → AH AO w (L.getD i AD.nil).ad (L.getD i AD.nil).m.lg) (hm : ∀ i, i < L.length → (L.getD i AD.nil).m.lg.length ≤ 1048576) :
  Calls prog 49 #[.slice ad L.length cap, .func (Fn.func 50) #[] #[]] w fun e w' => e = .returned (.bool (!L.all (fun d => Au d.m))) ∧ Bw w w' := by
 have hI := KQ ad cap L w hv hl hn hm;generalize (!L.all (fun d => Au d.m)) = B at *
 go_enter func49, ntmps49
 go_wp2_with fail
 go_at_call 93
 refine hI.mono ?_;rintro e w1 ⟨⟨r, rfl, hr, r1, r2⟩, k1⟩;go_wp2
 go_ret
 exact ⟨rfl, k1⟩
theorem KP (ad : Option Addr) (cap : Nat) (L : List Wi) (w : World) (hv : AH At w ad L) (hl : L.length ≤ 1048576) :
  Calls prog 94 #[.slice ad L.length cap, .func (Fn.func 52) #[] #[]] w fun e w' => (∃ r : Int, e = .returned (ji r) ∧ (decide (0 ≤ r) = !L.all BI) ∧ r ≤ 1048576 ∧ -1 ≤ r) ∧ Bw w w' := by
 have hB := hv.lt Be (by omega);go_enter func94, ntmps94
 go_wp2
 go_loopw [8] (fun i wr => ∃ k : Nat, i = .int .i64 (k : Int) ∧ k ≤ L.length ∧ Hid (∀ j, j < k → BI (L.getD j Wi.nil) = true) ∧ Below w.heap.size w wr) (fun i _ => L.length - (intOf i).toNat)
 case atStart => exact ⟨0, rfl, Nat.zero_le _, fun j hj => absurd hj (by omega), Below.refl _ _⟩
 case round =>
  obtain ⟨k, rfl, hk, hF, hb⟩ := hrel;by_cases hlt : k < L.length
  ·
   obtain ⟨b, off, rfl, _⟩ := hv (by omega);obtain ⟨h, hh⟩ : ∃ h, L.getD k Wi.nil = h := ⟨_, rfl⟩;have hck : CX wr b (off + k * 12) h := by
    rw [← hh];exact E7 ((hv.below hb hB).at_ Be Wi.nil hlt)
   replace hck := hck.all;replace hh : Hid _ := hh;clear hB hv;go_wp2_with fail
   go_at_call 52
   refine (KD h wr).mono ?_;rintro e w3 ⟨rfl, k3⟩;have b3 := AE hb k3;by_cases hq : BI h = true
   ·
    rw [hq];go_wp2
    go_roundw
    case rel =>
     refine ⟨k + 1, by go_num, by omega, fun j hj => ?_, b3⟩;by_cases e : j = k
     ·
      rw [e, hh.out]; exact hq
     exact hF.out j (by omega)
    case measure => simp [intOf]; omega
   have hq' : BI h = false := by simpa using hq
   rw [hq'];go_wp2
   go_ret
   refine ⟨⟨k, rfl, ?_, by omega, by omega⟩, b3⟩;rw [GF Wi.nil hlt (by rw [hh.out]; exact hq')];simp
  obtain rfl : k = L.length := by omega
  go_wp2
  go_ret
  refine ⟨⟨-1, rfl, ?_, by omega, by omega⟩, hb⟩;rw [GA Wi.nil hF.out];rfl
theorem Jp (ad : Option Addr) (cap : Nat) (L : List Wi) (w : World) (hv : AH At w ad L) (hl : L.length ≤ 1048576) :
  Calls prog 51 #[.slice ad L.length cap, .func (Fn.func 52) #[] #[]] w fun e w' => e = .returned (.bool (!L.all BI)) ∧ Bw w w' := by
 have hI := KP ad cap L w hv hl;generalize (!L.all BI) = B at *
 go_enter func51, ntmps51
 go_wp2_with fail
 go_at_call 94
 refine hI.mono ?_;rintro e w1 ⟨⟨r, rfl, hr, r1, r2⟩, k1⟩;go_wp2
 go_ret
 exact ⟨rfl, k1⟩
theorem KR (ad : Option Addr) (cap : Nat) (L : List Ik) (w : World) (hv : AH AO w ad L) (hl : L.length ≤ 1048576) :
  Calls prog 96 #[.slice ad L.length cap, .func (Fn.func 54) #[] #[]] w fun e w' => (∃ r : Int, e = .returned (ji r) ∧ (decide (0 ≤ r) = !L.all Ay) ∧ r ≤ 1048576 ∧ -1 ≤ r) ∧ Bw w w' := by
 have hB := hv.lt AT (by omega);go_enter func96, ntmps96
 go_wp2
 go_loopw [8] (fun i wr => ∃ k : Nat, i = .int .i64 (k : Int) ∧ k ≤ L.length ∧ Hid (∀ j, j < k → Ay (L.getD j Ik.nil) = true) ∧ Below w.heap.size w wr) (fun i _ => L.length - (intOf i).toNat)
 case atStart => exact ⟨0, rfl, Nat.zero_le _, fun j hj => absurd hj (by omega), Below.refl _ _⟩
 case round =>
  obtain ⟨k, rfl, hk, hF, hb⟩ := hrel;by_cases hlt : k < L.length
  ·
   obtain ⟨b, off, rfl, _⟩ := hv (by omega);obtain ⟨h, hh⟩ : ∃ h, L.getD k Ik.nil = h := ⟨_, rfl⟩;have hck : Bk wr b (off + k * 8) h := by
    rw [← hh];exact EA ((hv.below hb hB).at_ AT Ik.nil hlt)
   replace hck := hck.all;replace hh : Hid _ := hh;clear hB hv;go_wp2_with fail
   go_at_call 54
   refine (KF h wr).mono ?_;rintro e w3 ⟨rfl, k3⟩;have b3 := AE hb k3;by_cases hq : Ay h = true
   ·
    rw [hq];go_wp2
    go_roundw
    case rel =>
     refine ⟨k + 1, by go_num, by omega, fun j hj => ?_, b3⟩;by_cases e : j = k
     ·
      rw [e, hh.out]; exact hq
     exact hF.out j (by omega)
    case measure => simp [intOf]; omega
   have hq' : Ay h = false := by simpa using hq
   rw [hq'];go_wp2
   go_ret
   refine ⟨⟨k, rfl, ?_, by omega, by omega⟩, b3⟩;rw [GF Ik.nil hlt (by rw [hh.out]; exact hq')];simp
  obtain rfl : k = L.length := by omega
  go_wp2
  go_ret
  refine ⟨⟨-1, rfl, ?_, by omega, by omega⟩, hb⟩;rw [GA Ik.nil hF.out];rfl
theorem Jr (ad : Option Addr) (cap : Nat) (L : List Ik) (w : World) (hv : AH AO w ad L) (hl : L.length ≤ 1048576) :
  Calls prog 53 #[.slice ad L.length cap, .func (Fn.func 54) #[] #[]] w fun e w' => e = .returned (.bool (!L.all Ay)) ∧ Bw w w' := by
 have hI := KR ad cap L w hv hl;generalize (!L.all Ay) = B at *
 go_enter func53, ntmps53
 go_wp2_with fail
 go_at_call 96
 refine hI.mono ?_;rintro e w1 ⟨⟨r, rfl, hr, r1, r2⟩, k1⟩;go_wp2
 go_ret
 exact ⟨rfl, k1⟩
attribute [local go_sem] ji ja bc
theorem Dr (x : AG) : Aw x.p = (Aq x.id x.po && (BV x.rg && (decide (x.two.length = 2) && (x.two.all (fun d => Au d.m) && (decide (x.net.length ≤ 20) && (x.net.all BI && (decide ((x.ga.length : Int) = x.po) && (decide (x.ln.length ≤ 60) && (x.ln.all Ay && (decide (x.sd.length ≤ 40))))))))))) := by
 rw [Bool.eq_iff_iff, Ds];simp only [Bool.and_eq_true, decide_eq_true_eq];have hl : x.p.two.length = x.two.length := by unfold AG.p; simp
 have h2 : x.two.length = 2 → (x.two.all (fun d => Au d.m) = true ↔ Au (Ab x.p 0) = true ∧ Au (Ab x.p 1) = true) := by
  intro h;obtain ⟨a, b, e⟩ : ∃ a b, x.two = [a, b] := by
   match hx : x.two, h with
   | [a, b], _ => exact ⟨a, b, rfl⟩
  rw [Br, Br, e];simp
 have hi : Cn x.p.ln = true ↔ x.ln.length ≤ 60 ∧ x.ln.all Ay = true := by
  show Cn x.ln = true ↔ _;unfold Cn;simp only [Bool.and_eq_true, decide_eq_true_eq];exact And.comm
 rw [hl, hi];constructor
 ·
  rintro ⟨a1, a2, a3, a4, a5, a6, a7, a8, ⟨a9, b9⟩, a10⟩;exact ⟨a1, a2, a3, (h2 a3).2 ⟨a4, a5⟩, a7, a6, a8, a9, b9, a10⟩
 rintro ⟨a1, a2, a3, a4, a7, a6, a8, a9, b9, a10⟩;exact ⟨a1, a2, a3, ((h2 a3).1 a4).1, ((h2 a3).1 a4).2, a6, a7, a8, ⟨a9, b9⟩, a10⟩
theorem GW (x : AG) (w : World) (hV : BT w x) :
  Calls prog 16 #[.agg (bc x)] w fun e w' => e = .returned (.bool (Aw x.p)) ∧ Bw w w' := by
 obtain ⟨R, hR⟩ := AC (Aw x.p);rw [← hR];replace hR : Hid _ := hR;obtain ⟨y, hy, B0⟩ := AI w (Obj.cells (bc x) 34);have A : AS y w.heap.size x := by rw [hy]; exact AS.new w _ x
 have V := hV.later B0;clear hV;go_enter func16, ntmps16
 have a0 := A.all;go_wp2_with fail
 go_at_call 13
 rw [← hy];clear a0 hy;refine (FH x.id x.po y).mono ?_;rintro e u0 ⟨ad', cap', rfl, O', k0⟩;have A := A.below k0 A.lt;have V := V.later k0;have B1 := AE B0 k0;clear k0 O';obtain ⟨u1, hu1, kk⟩ := AI u0 (Obj.cells #[ji (BJ x.id x.po), .slice ad' (AX x.id x.po).length cap'] 42);have A := A.below kk A.lt;have V := V.later kk;have B2 := AE B1 kk;clear kk B1;go_upto_region 2 with fail
 rw [← hu1];clear hu1;cases h1 : Aq x.id x.po
 ·
  have hN : Hid (R = false) := by unfold Hid; rw [hR.out, Dr, h1]; rfl
  replace h1 : Hid _ := h1;have a0 := A.all;go_wp2
  go_ret
  exact ⟨by rw [hN.out]; rfl, B2⟩
 replace h1 : Hid _ := h1;have a0 := A.all;go_wp2_with fail
 go_at_call 48
 clear a0;refine (HT x.rg u1).mono ?_;rintro e u2 ⟨rfl, kk⟩;have A := A.below kk A.lt;have V := V.later kk;have B2' := AE B2 kk;clear kk;cases h2 : BV x.rg
 ·
  have hN : Hid (R = false) := by unfold Hid; rw [hR.out, Dr, h1.out, h2]; rfl
  replace h2 : Hid _ := h2;have a0 := A.all;go_wp2
  go_ret
  exact ⟨by rw [hN.out]; rfl, B2'⟩
 replace h2 : Hid _ := h2;by_cases e3 : x.two.length = 2
 ·
  have d3 : ((x.two.length : Int) == 2) = true := by rw [beq_iff_eq]; omega
  have h3 : Hid (decide (x.two.length = 2) = true) := decide_eq_true e3;replace e3 : Hid _ := e3;have a0 := A.all;go_wp2_with fail
  go_at_call 49
  clear a0;refine (Jq x.aT x.cT x.two u2 V.t V.bt V.l V.bl).mono ?_;rintro e u4 ⟨rfl, kk⟩;have A := A.below kk A.lt;have V := V.later kk;have B2'' := B2'.trans (kk.mono B2'.size);clear kk;cases h4 : x.two.all (fun d => Au d.m)
  ·
   have hN : Hid (R = false) := by unfold Hid; rw [hR.out, Dr, h1.out, h2.out, h3.out, h4]; rfl
   replace h4 : Hid _ := h4;have a0 := A.all;go_wp2
   go_ret
   exact ⟨by rw [hN.out]; rfl, B2''⟩
  replace h4 : Hid _ := h4;by_cases e5 : x.net.length ≤ 20
  ·
   have d5 : decide ((x.net.length : Int) ≤ 20) = true := decide_eq_true (by omega);have h5 : Hid (decide (x.net.length ≤ 20) = true) := decide_eq_true e5;replace e5 : Hid _ := e5;have a0 := A.all;go_wp2_with fail
   go_at_call 51
   clear a0;refine (Jp x.aN x.cN x.net u4 V.n V.bn).mono ?_;rintro e u6 ⟨rfl, kk⟩;have A := A.below kk A.lt;have V := V.later kk;have B2''' := B2''.trans (kk.mono B2''.size);clear kk;cases h6 : x.net.all BI
   focus
    have hN : Hid (R = false) := by unfold Hid; rw [hR.out, Dr, h1.out, h2.out, h3.out, h4.out, h5.out, h6]; rfl
    replace h6 : Hid _ := h6
   rotate_left;focus
    replace h6 : Hid _ := h6;by_cases e7 : (x.ga.length : Int) = x.po
    focus
     have d7 : ((x.ga.length : Int) == x.po) = true := by simpa using e7
     have h7 : Hid (decide ((x.ga.length : Int) = x.po) = true) := decide_eq_true e7;replace e7 : Hid _ := e7;by_cases e8 : x.ln.length ≤ 60
     ·
      have d8 : decide ((x.ln.length : Int) ≤ 60) = true := decide_eq_true (by omega);have h8 : Hid (decide (x.ln.length ≤ 60) = true) := decide_eq_true e8;replace e8 : Hid _ := e8;have a0 := A.all;go_wp2_with fail
      go_at_call 53
      clear a0;refine (Jr x.aL x.cL x.ln u6 V.i V.bi).mono ?_;rintro e u9 ⟨rfl, kk⟩;have A := A.below kk A.lt;have V := V.later kk;have B2'''' := B2'''.trans (kk.mono B2'''.size);clear kk;cases h9 : x.ln.all Ay
      focus
       have hN : Hid (R = false) := by unfold Hid; rw [hR.out, Dr, h1.out, h2.out, h3.out, h4.out, h5.out, h6.out, h7.out, h8.out, h9]; rfl
       replace h9 : Hid _ := h9
      rotate_left;focus
       replace h9 : Hid _ := h9;by_cases e10 : x.sd.length ≤ 40
       focus
        have d10 : decide ((x.sd.length : Int) ≤ 40) = true := decide_eq_true (by omega);have h10 : Hid (decide (x.sd.length ≤ 40) = true) := decide_eq_true e10;replace e10 : Hid _ := e10;have hN : Hid (R = true) := by unfold Hid; rw [hR.out, Dr, h1.out, h2.out, h3.out, h4.out, h5.out, h6.out, h7.out, h8.out, h9.out, h10.out]; rfl
       rotate_left;focus
        have d10 : decide ((x.sd.length : Int) ≤ 40) = false := decide_eq_false (by omega);have h10 : decide (x.sd.length ≤ 40) = false := decide_eq_false e10;replace e10 : Hid _ := e10;have hN : Hid (R = false) := by unfold Hid; rw [hR.out, Dr, h1.out, h2.out, h3.out, h4.out, h5.out, h6.out, h7.out, h8.out, h9.out, h10]; rfl
        replace h10 : Hid _ := h10
       rotate_left
      rotate_left 2;all_goals
       have a0 := A.all;go_wp2
       go_ret
       exact ⟨by rw [hN.out]; rfl, B2''''⟩
     focus
      have d8 : decide ((x.ln.length : Int) ≤ 60) = false := decide_eq_false (by omega);have h8 : decide (x.ln.length ≤ 60) = false := decide_eq_false e8;replace e8 : Hid _ := e8;have hN : Hid (R = false) := by unfold Hid; rw [hR.out, Dr, h1.out, h2.out, h3.out, h4.out, h5.out, h6.out, h7.out, h8]; rfl
      replace h8 : Hid _ := h8
     rotate_left
    rotate_left;focus
     have d7 : ((x.ga.length : Int) == x.po) = false := by simpa using e7
     have h7 : decide ((x.ga.length : Int) = x.po) = false := decide_eq_false e7;replace e7 : Hid _ := e7;have hN : Hid (R = false) := by unfold Hid; rw [hR.out, Dr, h1.out, h2.out, h3.out, h4.out, h5.out, h6.out, h7]; rfl
     replace h7 : Hid _ := h7
    rotate_left
   rotate_left 2;all_goals
    have a0 := A.all;go_wp2
    go_ret
    exact ⟨by rw [hN.out]; rfl, B2'''⟩
  have d5 : decide ((x.net.length : Int) ≤ 20) = false := decide_eq_false (by omega);have h5 : decide (x.net.length ≤ 20) = false := decide_eq_false e5;replace e5 : Hid _ := e5;have hN : Hid (R = false) := by unfold Hid; rw [hR.out, Dr, h1.out, h2.out, h3.out, h4.out, h5]; rfl
  replace h5 : Hid _ := h5;have a0 := A.all;go_wp2
  go_ret
  exact ⟨by rw [hN.out]; rfl, B2''⟩
 have d3 : ((x.two.length : Int) == 2) = false := by rw [beq_eq_false_iff_ne]; omega
 have h3 : decide (x.two.length = 2) = false := decide_eq_false e3;replace e3 : Hid _ := e3;have hN : Hid (R = false) := by unfold Hid; rw [hR.out, Dr, h1.out, h2.out, h3]; rfl
 replace h3 : Hid _ := h3;have a0 := A.all;go_wp2
 go_ret
 exact ⟨by rw [hN.out]; rfl, B2'⟩
end Go.Proofs.YtjmnaeeknomiaaaGreat
namespace Go.Proofs.YtjmnaeeknomiaaaGreat
open Go.ChangeShapes Go.WideShapes Go.ChangeAt Go.RowKit
open Go.ChangeMaps (open_string shut_string)
set_option linter.unusedVariables false
set_option maxRecDepth 100000
set_option maxHeartbeats 32000000
set_option linter.unusedSimpArgs false
open Go.Proofs.Tryz
def Eh (f : Nat) : List Value := [.func (.func f) #[] #[]]
theorem FU (f : Nat) : (Eh f).length = 1 := rfl
theorem GN (p5 p4 : Nat) (b c : Bool) (u : FrameMode) (w : World) (h5 : w.cell? (ja p5 0) = some (.bool b)) (h4 : w.cell? (ja p4 0) = some (.bool c)) (hf : w.frozen? (ja p4 0) = false) :
  CallsD prog 107 #[.pointer (some (ja p5 0)), .pointer (some (ja p4 0))] u w fun e u' w' => u' = u ∧ (e = .returned (.tuple #[]) ∧ w' = w.setCell (ja p4 0) (.bool (!b))) := by
 go_enter_d func107, ntmps107
 go_wp2
 go_end0
 first | exact ⟨rfl, rfl⟩ | simp
structure Ce (w : World) (q : Nat) (b : Bool) : Prop where
 c : w.cell? (ja q 0) = some (.bool b)
 f : w.frozen? (ja q 0) = false
theorem Ce.keep {w w' : World} {q : Nat} {b : Bool} (h : Ce w q b) (k : w'.heap[q]? = w.heap[q]?) : Ce w' q b := ⟨(World.cell?_of_block (a := (ja q 0)) k).trans h.c, (World.frozen?_of_block (a := (ja q 0)) k).trans h.f⟩
theorem Ce.lt {w : World} {q : Nat} {b : Bool} (h : Ce w q b) : q < w.heap.size := World.block_lt_of_cell? w _ h.c
theorem Ce.below {w w' : World} {q n : Nat} {b : Bool} (h : Ce w q b) (k : Below n w w') (hq : q < n) : Ce w' q b := h.keep (k.block q hq)
theorem Ce.put {w : World} {q : Nat} {b : Bool} (h : Ce w q b) (c : Bool) : Ce (w.setCell (ja q 0) (.bool c)) q c := ⟨Aj h.c, by rw [World.frozen?_setCell]; exact h.f⟩
theorem Ce.new (w : World) (b : Bool) : Ce (w.alloc (Obj.cells #[.bool b] 4)) w.heap.size b := ⟨by simp [go_sem], by simp [go_sem]⟩
theorem Ha (x : AG) (Fs : List Nat) (Q : Nat → Prop) (aF : Option Addr) (cF : Nat) (w : World) (hJ : DN w x) (hF : AH Eh w aF Fs) (hl : Fs.length ≤ 8)
  (hE : ∀ k, k < Fs.length → Enters prog (Fs.getD k 0))
  (hc : Aw x.p = true → ∀ k, k < Fs.length → ∀ w', DN w' x → Calls prog (Fs.getD k 0) #[.agg (bc x)] w' fun e w2 => YN e (Q k) ∧ Below w'.heap.size w' w2) :
  Calls prog 66 #[.agg (bc x), .slice aF Fs.length cF] w fun e w' => YN e (Aw x.p = true ∧ ∀ k, k < Fs.length → Q k) ∧ Bw w w' := by
 have hmf : ∀ (fn : Fn) (first cap : Array Value) (w : World), (Instr.makeFunc fn first cap).run prog w = .ok (.func fn first cap) w := fun _ _ _ _ => rfl
 obtain ⟨R, hR⟩ : ∃ R : Prop, R = (Aw x.p = true ∧ ∀ k, k < Fs.length → Q k) := ⟨_, rfl⟩;rw [← hR];replace hR : Hid _ := hR;obtain ⟨y, hy⟩ := AC (((w.alloc (Obj.cells (bc x) 34)).alloc (Obj.cells #[.bool false] 4)).alloc (Obj.cells #[.bool false] 4));obtain ⟨w1, h1⟩ := AC (w.alloc (Obj.cells (bc x) 34));obtain ⟨w2, h2⟩ := AC (w1.alloc (Obj.cells #[.bool false] 4));have A : AS w1 w.heap.size x := by rw [h1]; exact AS.new w _ x
 have C1 : Ce w2 w1.heap.size false := by rw [h2]; exact Ce.new w1 false
 have C2 : Ce y w2.heap.size false := by rw [hy, ← h1, ← h2]; exact Ce.new w2 false
 have k1 : Bw w w1 := by rw [h1]; exact Ae _
 have k2 : Bw w1 w2 := by rw [h2]; exact Ae _
 have k3 : Bw w2 y := by rw [hy, ← h1, ← h2]; exact Ae _
 have s1 : w1.heap.size = w.heap.size + 1 := by rw [h1]; simp
 have s2 : w2.heap.size = w.heap.size + 1 + 1 := by rw [h2]; simp [s1]
 have A := (A.below k2 A.lt).below k3 (by have := A.lt; have := k2.size; omega);have C1 := C1.below k3 C1.lt;have B : Bw w y := (AE k1 k2).trans (k3.mono (by omega));rw [s1] at C1;rw [s2] at C2;have A := A;replace k1 : True := trivial;clear k1 k2 k3 s1 s2;have J := hJ.later B;have F := hF.below B (hF.lt FU (by omega));clear hJ hF;go_enter_defers func66, ntmps66
 go_wp2_with fail
 go_at_call 16
 rw [← hy];clear hy;obtain ⟨qh, hqh⟩ := AC (w.heap.size + 1);obtain ⟨qf, hqf⟩ := AC (w.heap.size + 1 + 1);rw [← hqf] at C2 ⊢;rw [← hqh] at C1 ⊢;replace hqh : w.heap.size ≤ qh ∧ qh < qf ∧ w.heap.size < qh := by omega
 clear hqf;refine (GW x y J.v).mono ?_;rintro e u1 ⟨rfl, kq⟩;have J := J.later kq;have F := F.below kq (F.lt FU (by omega));have B1 := AE B kq;have A := A.below kq A.lt;have C1 := C1.below kq C1.lt;have C2 := C2.below kq C2.lt;clear kq B;have B := B1;clear B1;obtain ⟨ob, hob⟩ : ∃ b, Aw x.p = b := ⟨_, rfl⟩;rw [hob];cases ob
 ·
  replace hob : Hid _ := hob;obtain ⟨c2, f2⟩ := C2;go_wp2
  have C2 := (Ce.mk c2 f2).put true;have C1 := C1.keep (w' := u1.setCell (ja qf 0) (.bool true)) (AF (by show qh ≠ qf; omega));have B := B.setCell (p := (ja qf 0)) (by show w.heap.size ≤ qf; omega) (.bool true);refine leaves_cons (f := 107) (args := #[.pointer (some (ja qf 0)), .pointer (some (ja qh 0))]) (by simp) (by simp [go_sem]) ?_;refine (GN qf qh true false .returning _ C2.c C1.c C1.f).mono ?_;rintro e u' w'' ⟨rfl, rfl, rfl⟩;have C9 := (C1.put false).c;have B9 : Bw w ((u1.setCell (ja qf 0) (.bool true)).setCell (ja qh 0) (.bool (!true))) := B.setCell (p := (ja qh 0)) (by show w.heap.size ≤ qh; omega) _;simp only [Bool.not_true, Bool.not_false] at B9;simp [Leaves, settle, results, results66, go_sem, C9]
  exact ⟨YN.no (by rw [hR.out, hob.out]; rintro ⟨h, _⟩; cases h), B9⟩
 have hc := hc hob;replace hob : Hid _ := hob;go_upto_region 6 with fail
 go_loopw [14] (fun i wr => ∃ k : Nat, k ≤ Fs.length ∧ i = .int .i64 (k : Int) ∧ Hid (∀ j, j < k → Q j) ∧ AS wr w.heap.size x ∧ Ce wr qh false ∧ Ce wr qf false ∧ DN wr x ∧ AH Eh wr aF Fs ∧ Below w.heap.size w wr) (fun i _ => Fs.length - (intOf i).toNat)
 case atStart => exact ⟨0, Nat.zero_le _, rfl, fun j hj => absurd hj (by omega), A, C1, C2, J, F, B⟩
 case round =>
  clear A C1 C2 J F B;obtain ⟨k, hk, rfl, hQ, A, C1, C2, J, F, B⟩ := hrel;by_cases hlt : k < Fs.length
  ·
   obtain ⟨g, off, rfl, _⟩ := F (by omega);obtain ⟨f, hf⟩ : ∃ f, Fs.getD k 0 = f := ⟨_, rfl⟩;have cF : wr.cell? ⟨g, off + k, none⟩ = some (.func (.func f) #[] #[]) := by have h1 := F.at_ FU 0 hlt 0 (.func (.func (Fs.getD k 0)) #[] #[]) rfl; rw [hf] at h1; simpa using h1
   have ef : ∀ (args : Array Value) (w : World), (callFunc (Fs.getD k 0) args).run prog w = .ok (.enter (Fs.getD k 0) args) w := hE k hlt;have hcf := hc k hlt wr J;rw [hf] at ef hcf;replace hf : Hid _ := hf;have a0 := A.all;go_wp2_with fail
   clear a0;refine hcf.mono ?_;rintro e u2 ⟨⟨rb, rfl, hrb⟩, kq⟩;clear hcf ef cF;have A := A.below kq A.lt;have C1 := C1.below kq C1.lt;have C2 := C2.below kq C2.lt;have J := J.later kq;have F := F.below kq (F.lt FU (by omega));have B := AE B kq;replace hrb : Hid _ := hrb;cases rb
   ·
    obtain ⟨c2, f2⟩ := C2;go_wp2
    have C2 := (Ce.mk c2 f2).put true;have C1 := C1.keep (w' := u2.setCell (ja qf 0) (.bool true)) (AF (by show qh ≠ qf; omega));have B := B.setCell (p := (ja qf 0)) (by show w.heap.size ≤ qf; omega) (.bool true);refine leaves_cons (f := 107) (args := #[.pointer (some (ja qf 0)), .pointer (some (ja qh 0))]) (by simp) (by simp [go_sem]) ?_;refine (GN qf qh true false .returning _ C2.c C1.c C1.f).mono ?_;rintro e u' w'' ⟨rfl, rfl, rfl⟩;have C9 := (C1.put false).c;have B9 : Bw w ((u2.setCell (ja qf 0) (.bool true)).setCell (ja qh 0) (.bool (!true))) := B.setCell (p := (ja qh 0)) (by show w.heap.size ≤ qh; omega) _;simp only [Bool.not_true, Bool.not_false] at B9;simp [Leaves, settle, results, results66, go_sem, C9]
    exact ⟨YN.no (by rw [hR.out]; rintro ⟨_, h⟩; have h1 := hrb.out.2 (h k hlt); cases h1), B9⟩
   go_wp2
   go_roundw
   case rel =>
    refine ⟨k + 1, by omega, by go_num, fun j hj => ?_, A, C1, C2, J, F, B⟩;by_cases ej : j = k
    ·
     rw [ej]; first | exact hrb.out.1 rfl | exact hrb.out.1 trivial
    exact hQ.out j (by omega)
   case measure => simp [intOf]; omega
  obtain rfl : k = Fs.length := by omega
  go_wp2
  refine leaves_cons (f := 107) (args := #[.pointer (some (ja qf 0)), .pointer (some (ja qh 0))]) (by simp) (by simp [go_sem]) ?_;refine (GN qf qh false false .returning _ C2.c C1.c C1.f).mono ?_;rintro e u' w'' ⟨rfl, rfl, rfl⟩;have C9 := (C1.put true).c;have B9 : Bw w (wr.setCell (ja qh 0) (.bool (!false))) := B.setCell (p := (ja qh 0)) (by show w.heap.size ≤ qh; omega) _;simp only [Bool.not_true, Bool.not_false] at B9;simp [Leaves, settle, results, results66, go_sem, C9]
  exact ⟨YN.yes (by rw [hR.out]; exact ⟨hob.out, hQ.out⟩), B9⟩
attribute [local go_sem] ji ja bc
theorem Kd (ad ad' : Option Addr) (cap cap' : Nat) (L : List Bool) (w : World) (hv : AH Az w ad L) (hv' : AH Az w ad' L) (hl : L.length ≤ 1048576) :
  Calls prog 108 #[.slice ad L.length cap, .slice ad' L.length cap'] w fun e w' => e = .returned (.bool true) ∧ Bw w w' := by
 go_enter func108, ntmps108
 go_wp2
 go_loopw [13] (fun i wr => ∃ k : Nat, k ≤ L.length ∧ i = .int .i64 (k : Int) ∧ Below w.heap.size w wr) (fun i _ => L.length - (intOf i).toNat)
 case atStart => exact ⟨0, Nat.zero_le _, rfl, Below.refl _ _⟩
 case round =>
  obtain ⟨k, hk, rfl, K⟩ := hrel
  have qA := hv.below K (hv.lt Bj (by omega))
  have qC := hv'.below K (hv'.lt Bj (by omega))
  by_cases hlt : k < L.length
  ·
   obtain ⟨bA, oA, rfl, _⟩ := qA (by omega)
   obtain ⟨bC, oC, rfl, _⟩ := qC (by omega)
   obtain ⟨o, ho⟩ := AC (L.getD k false)
   have hA : ∀ Y, Bw wr Y → Y.cell? (ja bA (oA + k * 1)) = some (.bool o) := fun Y hY => by rw [ho]; exact ((qA.below hY (qA.lt Bj (by omega))).at_ Bj false hlt 0 _ rfl)
   have hC : ∀ Y, Bw wr Y → Y.cell? (ja bC (oC + k * 1)) = some (.bool o) := fun Y hY => by rw [ho]; exact ((qC.below hY (qC.lt Bj (by omega))).at_ Bj false hlt 0 _ rfl)
   clear ho
   go_upto_region 6 with fail
   refine AV (fun Y => Bw wr Y) fun u0 hb0 => ?_
   refine tw 0 16 (.slice (some (ja bA oA)) L.length cap) ?_
   refine tw 1 17 (ji (k : Int)) ?_
   refine tw 2 18 (.pointer (some (ja bA (oA + k * 1)))) ?_ (hy := by intro Y hSw; go_simp; try omega)
   refine tw 3 19 (.bool o) ?_ (hy := by intro Y hSw; have X := hA Y hSw; rw [Nat.mul_one] at X; go_simp)
   refine tw 4 20 (.slice (some (ja bC oC)) L.length cap') ?_
   refine tw 5 21 (ji (k : Int)) ?_
   refine tw 6 22 (.pointer (some (ja bC (oC + k * 1)))) ?_ (hy := by intro Y hSw; go_simp; try omega)
   refine tw 7 23 (.bool o) ?_ (hy := by intro Y hSw; have X := hC Y hSw; rw [Nat.mul_one] at X; go_simp)
   refine tw 8 24 (.bool false) ?_
   refine AR ?_
   go_wp2
   go_roundw
   case rel => exact ⟨k + 1, by omega, by go_num, AE K hb0⟩
   case measure => simp [intOf]; omega
  obtain rfl : k = L.length := by omega
  go_wp2
  go_ret
  exact ⟨rfl, K⟩
theorem KC (a b : Option Addr) (c d : Nat) (w : World) : Calls prog 111 #[.slice a 0 c, .slice b 0 d] w fun e w' => e = .returned (.bool true) ∧ Bw w w' := by
 go_enter func111, ntmps111
 go_wp2
 refine wp_loop_rounds 1 ?_
 rw [rounds_succ]
 go_wp2
 go_ret
 exact ⟨rfl, Below.refl _ _⟩
theorem KO (a b : Option Addr) (c d : Nat) (w : World) : Calls prog 139 #[.slice a 0 c, .slice b 0 d] w fun e w' => e = .returned (.bool true) ∧ Bw w w' := by
 go_enter func139, ntmps139
 go_wp2
 refine wp_loop_rounds 1 ?_
 rw [rounds_succ]
 go_wp2
 go_ret
 exact ⟨rfl, Below.refl _ _⟩
structure NB (x : AG) : Prop where
 ok : Aq x.id x.po = true
 rg : x.rg = ⟨1, 0, 0⟩
 l2 : x.two.length = 2
 m0 : (x.two.getD 0 AD.nil).m = ⟨true, 1, 1, [], 0, 0, 0⟩
 m1 : (x.two.getD 1 AD.nil).m = ⟨true, 2, 0, [], 0, 0, 0⟩
 ga : BH (AX x.id x.po) = x.ga
 ln : x.ln = []
 sd : x.sd = []
 mx : Bp x.p x.rg.ow = true
theorem NB.of {x : AG} {id po : Int} (hp : x.p = EK id po) (h : Aq id po = true) : NB x := by
 have hi : x.id = id := congrArg Bx.id hp
 have ho : x.po = po := congrArg Bx.po hp
 have hr : x.rg = ⟨1, 0, 0⟩ := congrArg Bx.rg hp
 have h2 : (x.two.map AD.m).length = 2 := congrArg (fun q : Bx => q.two.length) hp
 rw [List.length_map] at h2
 refine ⟨by rw [hi, ho]; exact h, hr, h2, (Br x 0).symm.trans (by rw [hp]; rfl), (Br x 1).symm.trans (by rw [hp]; rfl), by rw [hi, ho]; exact (congrArg Bx.ga hp).symm, congrArg Bx.ln hp, congrArg Bx.sd hp, by rw [hr, hp]; rfl⟩
theorem Ks (id po : Int) (a : Option Addr) (c : Nat) (w : World) (hk : Aq id po = true) :
  Calls prog 109 #[ji id, ji po, .slice a 0 c] w fun e w' => ∃ a1 c1, e = .returned (.agg #[ji (BJ id po), .slice a1 (AX id po).length c1]) ∧ AB AL 11 70 w.heap.size w' (.slice a1 (AX id po).length c1) (AX id po) ∧ Bw w w' := by
 obtain ⟨y, hy, B0⟩ := AI w (Obj.cells #[ji 0, .slice none 0 0] 42)
 have R : AU y w.heap.size 0 (.slice none 0 0) := by rw [hy]; exact AU.new w _ _ _
 have l0 := R.lt
 go_enter func109, ntmps109
 go_wp2_with fail
 go_at_call 13
 rw [← hy]
 clear hy
 refine (FH id po y).mono ?_
 rintro e u1 ⟨a1, c1, rfl, O1, k1⟩
 rw [hk]
 have B1 := AE B0 k1
 have R := R.below k1 R.lt
 obtain ⟨I, hI⟩ := AC (BJ id po)
 obtain ⟨D, hD⟩ := AC (AX id po)
 rw [← hD] at O1 ⊢
 rw [← hI]
 replace hI : Hid _ := hI
 replace hD : Hid _ := hD
 clear k1 B0
 obtain ⟨u2, hu2, k2⟩ := AI u1 (Obj.cells #[ji I, .slice a1 D.length c1] 42)
 have P : As u2 u1.heap.size I (.slice a1 D.length c1) := by rw [hu2]; constructor <;> simp [go_sem]
 have lR := R.lt
 have lo := O1.lt
 have R := R.below k2 R.lt
 have O1 := O1.later k2
 have B := AE B1 k2
 clear k2 B1
 go_upto_region 4 with fail
 rw [← hu2]
 clear hu2
 obtain ⟨p0, p1⟩ := P
 go_wp2
 refine wp_loop_rounds 1 ?_
 rw [rounds_succ]
 have OZ : AB AL 11 70 w.heap.size ((u2.setCell (ja w.heap.size 0) (ji I)).setCell (ja w.heap.size 1) (.slice a1 D.length c1)) (.slice a1 D.length c1) D := (O1.keep (fun g e => R.put1 I _ g (by have := lo g e; omega))).base (by omega)
 have BZ := (B.setCell (p := ja w.heap.size 0) (Nat.le_refl _) (ji I)).setCell (p := ja w.heap.size 1) (Nat.le_refl _) (.slice a1 D.length c1)
 obtain ⟨⟨r0, r1⟩, rf⟩ := R
 have f0 := rf 0
 have f1 := rf 1
 clear rf O1
 go_wp2
 refine bodyPost_ret (v := .agg #[ji I, .slice a1 D.length c1]) (by simp [results, results109, go_sem, *]) rfl ⟨a1, c1, by rw [hI.out, hD.out], by rw [← hD.out]; exact OZ, BZ⟩
theorem Jb (x : AG) (w : World) (hJ : DN w x) (n : NB x) : Calls prog 67 #[.agg (bc x)] w fun e w' => e = .returned (.bool true) ∧ Bw w w' := by
 obtain ⟨y, hy, B⟩ := AI w (Obj.cells (bc x) 34)
 have A : AS y w.heap.size x := by rw [hy]; exact AS.new w _ x
 have J := hJ.later B
 have hln : Hid (x.ln.length = 0) := by unfold Hid; rw [n.ln]; rfl
 have h4 := FC x.id x.po
 have hg := n.ga
 have hg4 : x.ga.length ≤ 4 := by rw [← hg, Eb]; exact h4
 have hk := n.ok
 replace hg : Hid _ := hg
 go_enter func67, ntmps67
 go_upto_region 1 with fail
 rw [← hy]
 clear hy
 refine AV (fun Y => Bw y Y) fun u0 hb0 => ?_
 refine tw 0 3 (.pointer (some (ja w.heap.size 7))) ?_
 refine tw 1 4 (.slice x.aG x.ga.length x.cG) ?_ (hy := by intro Y hSw; have X := (A.below hSw A.lt).all; go_simp)
 refine tw 2 5 (.pointer (some (ja w.heap.size 0))) ?_
 refine tw 3 6 (ji x.id) ?_ (hy := by intro Y hSw; have X := (A.below hSw A.lt).all; go_simp)
 refine tw 4 7 (.pointer (some (ja w.heap.size 1))) ?_
 refine tw 5 8 (ji x.po) ?_ (hy := by intro Y hSw; have X := (A.below hSw A.lt).all; go_simp)
 refine tw 6 9 (.pointer (some (ja w.heap.size 8))) ?_
 refine tw 7 10 (.slice x.aL 0 x.cL) ?_ (hy := by intro Y hSw; have X := (A.below hSw A.lt).all; rw [hln.out] at X; go_simp)
 refine w1 8 fun Kz hKz => ?_
 go_simp
 go_at_call 109
 refine (Ks x.id x.po x.aL x.cL u0 hk).mono ?_
 rintro e u1 ⟨a1, c1, rfl, O1, kq⟩
 have hb1 := AE hb0 kq
 clear kq
 refine hKz _ _ ⟨hb1, ?_⟩
 clear hKz Kz
 refine w1 9 fun Kz hKz => ?_
 go_simp
 go_at_call 34
 refine (HI (BJ x.id x.po) a1 c1 (AX x.id x.po) u1 O1.view.2 (by omega)).mono ?_
 rintro e u2 ⟨a2, c2, rfl, O2, kq⟩
 have hb2 := AE hb1 kq
 clear kq
 rw [hg.out] at O2 ⊢
 refine hKz _ _ ⟨hb2, ?_⟩
 clear hKz Kz
 refine w1 10 fun Kz hKz => ?_
 go_simp
 go_at_call 108
 refine (Kd x.aG a2 x.cG c2 x.ga u2 (J.later hb2).v.g O2.view.2 (by omega)).mono ?_
 rintro e u3 ⟨rfl, kq⟩
 have hb3 := AE hb2 kq
 clear kq
 refine hKz _ _ ⟨hb3, ?_⟩
 clear hKz Kz
 refine tw 11 2 (.bool true) ?_
 refine AR ?_
 go_wp2
 go_ret
 exact ⟨rfl, AE B hb3⟩
theorem KA (x : AG) (w : World) (hJ : DN w x) (n : NB x) : Calls prog 68 #[.agg (bc x)] w fun e w' => e = .returned (.bool true) ∧ Bw w w' := by
 obtain ⟨y, hy, B⟩ := AI w (Obj.cells (bc x) 34)
 have A : AS y w.heap.size x := by rw [hy]; exact AS.new w _ x
 have J := hJ.later B
 go_enter func68, ntmps68
 go_upto_region 1 with fail
 rw [← hy]
 clear hy
 have ca := A.all
 go_wp2_with fail
 go_at_call 13
 clear ca
 refine (FH x.id x.po y).mono ?_
 rintro e u1 ⟨a1, c1, rfl, _, k1⟩
 generalize AX x.id x.po = D
 generalize BJ x.id x.po = I
 have A := A.below k1 A.lt
 have B := AE B k1
 obtain ⟨u2, hu2, k2⟩ := AI u1 (Obj.cells #[ji I, .slice a1 D.length c1] 42)
 have A := A.below k2 A.lt
 have B := AE B k2
 go_upto_region 2 with fail
 rw [← hu2]
 clear hu2 k1 k2 J
 have ca := A.all
 rw [n.ln, n.sd] at ca
 go_wp2
 refine wp_loop_rounds 1 ?_
 rw [rounds_succ]
 go_wp2_with fail
 go_at_call 111
 refine (KC x.aS none x.cS 0 u2).mono ?_
 rintro e u3 ⟨rfl, k3⟩
 go_wp2
 go_ret
 exact ⟨rfl, AE B k3⟩
theorem J6 (x : AG) (q : Nat) (w : World) (hA : AS w q x) (hV : BT w x) :
  Calls prog 112 #[.pointer (some (ja q 0))] w fun e w' => e = .returned (.tuple #[ji x.rg.ow, .bool (Bp x.p x.rg.ow)]) ∧ Bw w w' := by
 have A := hA;have J := hV;go_enter func112, ntmps112
 go_upto_region 1 with fail
 refine AV (fun Y => Bw w Y) fun u0 hb0 => ?_
 refine tw 0 4 (.pointer (some (ja q 0))) ?_;refine tw 1 5 (.pointer (some (ja q 0))) ?_;refine tw 2 6 (.pointer (some (ja q 2))) ?_;refine tw 3 7 (.pointer (some (ja q 3))) ?_;refine tw 4 8 (ji x.rg.ow) ?_ (hy := by intro Y hSw; have X := (A.below hSw A.lt).all; go_simp);refine tw 5 9 (.pointer (some (ja q 0))) ?_;refine tw 6 10 (.pointer (some (ja q 0))) ?_;refine tw 7 11 (.agg (bc x)) ?_ (hy := by intro Y hSw; have X := (A.below hSw A.lt).all; go_simp);refine tw 8 12 (.pointer (some (ja q 0))) ?_;refine tw 9 13 (.pointer (some (ja q 0))) ?_;refine tw 10 14 (.pointer (some (ja q 2))) ?_;refine tw 11 15 (.pointer (some (ja q 3))) ?_;refine tw 12 16 (ji x.rg.ow) ?_ (hy := by intro Y hSw; have X := (A.below hSw A.lt).all; go_simp);refine w1 13 fun Kz hKz => ?_
 go_simp
 go_at_call 60
 refine (HG x x.rg.ow u0 (J.later hb0)).mono ?_;rintro e u1 ⟨rfl, kq⟩;have hb1 := AE hb0 kq;clear kq;refine hKz _ _ ⟨hb1, ?_⟩;clear hKz Kz;refine tw 14 2 (ji x.rg.ow) ?_;refine tw 15 3 (.bool (Bp x.p x.rg.ow)) ?_;refine AR ?_;go_wp2
 refine bodyPost_ret (v := .tuple #[ji x.rg.ow, .bool (Bp x.p x.rg.ow)]) (by simp [results, results112, go_sem, *]) rfl ⟨rfl, hb1⟩
theorem Jz (x : AG) (w : World) (hJ : DN w x) (n : NB x) : Calls prog 113 #[.agg (bc x), ji 0] w fun e w' => e = .returned (.bool true) ∧ Bw w w' := by
 obtain ⟨y, hy, B⟩ := AI w (Obj.cells (bc x) 34)
 have A : AS y w.heap.size x := by rw [hy]; exact AS.new w _ x
 have J := hJ.later B
 have h2 : Hid (x.two.length = 2) := n.l2
 obtain ⟨g, off, hat, _⟩ := J.v.t (by rw [n.l2]; decide)
 replace hat : Hid (x.aT = some ⟨g, off, none⟩) := hat
 obtain ⟨m, hm⟩ := AC (x.two.getD 0 AD.nil)
 have M0 : A8 y g off m := by have h1 := J.v.t; rw [hat.out] at h1; have h := Bo (h1.at_ Ai AD.nil (i := 0) (by rw [n.l2]; decide)); rw [← hm] at h; simpa using h
 have gl : g < y.heap.size := World.block_lt_of_cell? y _ M0.c0
 have hmm := n.m0
 rw [← hm] at hmm
 clear hm
 have hlg : Hid (m.m.lg.length = 0) := by unfold Hid; rw [hmm]; rfl
 have hln : Hid (x.ln.length = 0) := by unfold Hid; rw [n.ln]; rfl
 clear hmm J
 go_enter func113, ntmps113
 go_upto_region 1 with fail
 rw [← hy]
 clear hy
 refine AV (fun Y => Bw y Y) fun u0 hb0 => ?_
 refine tw 0 7 (.pointer (some (ja w.heap.size 5))) ?_
 refine tw 1 8 (.slice (some (ja g off)) 2 x.cT) ?_ (hy := by intro Y hSw; have X := (A.below hSw A.lt).all; rw [hat.out, h2.out] at X; go_simp)
 refine tw 2 9 (ji 0) ?_
 refine tw 3 10 (.pointer (some (ja g off))) ?_ (hy := by intro Y hSw; go_simp; try omega)
 refine tw 4 11 (.pointer (some ⟨g, off + 3, none⟩)) ?_
 refine tw 5 12 (.slice m.ad 0 m.cap) ?_ (hy := by intro Y hSw; have X := (M0.belowJ hSw gl).all; rw [hlg.out] at X; go_simp)
 refine tw 6 13 (.agg (bc x)) ?_ (hy := by intro Y hSw; have X := (A.below hSw A.lt).all; go_simp)
 refine w1 7 fun Kz hKz => ?_
 go_simp
 go_at_call 18
 refine (Gf x u0 (by rw [hln.out]; decide)).mono ?_
 rintro e u1 ⟨rfl, kq⟩
 have hb1 := AE hb0 kq
 clear kq
 rw [hln.out]
 refine hKz _ _ ⟨hb1, ?_⟩
 clear hKz Kz
 refine tw 8 5 (.slice m.ad 0 m.cap) ?_
 refine tw 9 6 (ji 0) ?_
 refine AR ?_
 have A := A.below hb1 A.lt
 have B := AE B hb1
 go_upto_region 2 with fail
 refine AV (fun Y => Bw u1 Y) fun v0 hc0 => ?_
 refine tw 0 15 (.slice m.ad 0 m.cap) ?_
 refine tw 1 16 (ji 0) ?_
 refine tw 2 17 (ji 0) ?_
 refine tw 3 18 (.bool true) ?_
 refine tw 4 19 (.bool true) ?_
 refine tw 5 20 (.slice m.ad 0 m.cap) ?_
 refine tw 6 21 (ji 0) ?_
 refine tw 7 22 (.slice m.ad 0 m.cap) ?_ (hy := by intro Y hSw; go_simp; try omega)
 refine tw 8 23 (.pointer (some (ja w.heap.size 8))) ?_
 refine tw 9 24 (.slice x.aL 0 x.cL) ?_ (hy := by intro Y hSw; have X := (A.below hSw A.lt).all; rw [hln.out] at X; go_simp)
 refine w1 10 fun Kz hKz => ?_
 go_simp
 go_at_call 139
 refine (KO m.ad x.aL m.cap x.cL v0).mono ?_
 rintro e v1 ⟨rfl, kq⟩
 have hc1 := AE hc0 kq
 clear kq
 refine hKz _ _ ⟨hc1, ?_⟩
 clear hKz Kz
 refine tw 11 26 (.bool true) ?_
 refine tw 12 4 (.bool true) ?_
 refine AR ?_
 go_wp2
 go_ret
 exact ⟨rfl, AE B hc1⟩
theorem Km (x : AG) (w : World) (hJ : DN w x) (n : NB x) : Calls prog 69 #[.agg (bc x)] w fun e w' => e = .returned (.bool true) ∧ Bw w w' := by
 obtain ⟨y, hy, B⟩ := AI w (Obj.cells (bc x) 34)
 have A : AS y w.heap.size x := by rw [hy]; exact AS.new w _ x
 have J := hJ.later B
 have h2 : Hid (x.two.length = 2) := n.l2
 obtain ⟨g, off, hat, _⟩ := J.v.t (by rw [n.l2]; decide)
 replace hat : Hid (x.aT = some ⟨g, off, none⟩) := hat
 obtain ⟨m, hm⟩ := AC (x.two.getD 0 AD.nil)
 have M0 : A8 y g off m := by have h1 := J.v.t; rw [hat.out] at h1; have h := Bo (h1.at_ Ai AD.nil (i := 0) (by rw [n.l2]; decide)); rw [← hm] at h; simpa using h
 have gl : g < y.heap.size := World.block_lt_of_cell? y _ M0.c0
 have hmm := n.m0
 rw [← hm] at hmm
 clear hm
 have hsd : Hid (m.m.sd = 0) := by unfold Hid; rw [hmm]
 have hln : Hid (x.ln.length = 0) := by unfold Hid; rw [n.ln]; rfl
 have ho : Hid (x.rg.ow = 0) := by unfold Hid; rw [n.rg]
 clear hmm
 go_enter func69, ntmps69
 go_upto_region 1 with fail
 rw [← hy]
 clear hy
 go_wp2_with fail
 go_at_call 112
 refine (J6 x w.heap.size y A J.v).mono ?_
 rintro e u1 ⟨rfl, kq⟩
 rw [n.mx, ho.out]
 have A := A.below kq A.lt
 have J := J.later kq
 have B := AE B kq
 have M0 := M0.belowJ kq gl
 have gl : g < u1.heap.size := World.block_lt_of_cell? u1 _ M0.c0
 clear kq
 go_upto_region 2 with fail
 refine AV (fun Y => Bw u1 Y) fun u0 hb0 => ?_
 refine tw 0 9 (.bool true) ?_
 refine tw 1 10 (.bool false) ?_
 refine tw 2 11 (.bool false) ?_
 refine tw 3 12 (.agg (bc x)) ?_ (hy := by intro Y hSw; have X := (A.below hSw A.lt).all; go_simp)
 refine tw 4 13 (ji 0) ?_
 refine w1 5 fun Kz hKz => ?_
 go_simp
 go_at_call 113
 refine (Jz x u0 (J.later hb0) n).mono ?_
 rintro e u2 ⟨rfl, kq⟩
 have hb1 := AE hb0 kq
 clear kq
 refine hKz _ _ ⟨hb1, ?_⟩
 clear hKz Kz
 refine tw 6 15 (.bool true) ?_
 refine tw 7 16 (.pointer (some (ja w.heap.size 5))) ?_
 refine tw 8 17 (.slice (some (ja g off)) 2 x.cT) ?_ (hy := by intro Y hSw; have X := (A.below hSw A.lt).all; rw [hat.out, h2.out] at X; go_simp)
 refine tw 9 18 (ji 0) ?_
 refine tw 10 19 (.pointer (some (ja g off))) ?_ (hy := by intro Y hSw; go_simp; try omega)
 refine tw 11 20 (.pointer (some ⟨g, off + 4, none⟩)) ?_
 refine tw 12 21 (ji 0) ?_ (hy := by intro Y hSw; have X := (M0.belowJ hSw gl).all; rw [hsd.out] at X; go_simp)
 refine tw 13 22 (.agg (bc x)) ?_ (hy := by intro Y hSw; have X := (A.below hSw A.lt).all; go_simp)
 refine w1 14 fun Kz hKz => ?_
 go_simp
 go_at_call 18
 refine (Gf x u2 (by rw [hln.out]; decide)).mono ?_
 rintro e u3 ⟨rfl, kq⟩
 have hb2 := AE hb1 kq
 clear kq
 rw [hln.out]
 refine hKz _ _ ⟨hb2, ?_⟩
 clear hKz Kz
 refine tw 15 24 (.bool true) ?_
 refine tw 16 25 (.bool true) ?_
 refine tw 17 26 (.bool true) ?_
 refine tw 18 2 (.bool true) ?_
 refine AR ?_
 go_wp2
 go_ret
 exact ⟨rfl, AE B hb2⟩
theorem Hj (x : AG) (w : World) (hJ : DN w x) (n : NB x) : Calls prog 74 #[.agg (bc x)] w fun e w' => e = .returned (.bool false) ∧ Bw w w' := by
 obtain ⟨y, hy, B⟩ := AI w (Obj.cells (bc x) 34)
 have A : AS y w.heap.size x := by rw [hy]; exact AS.new w _ x
 have J := hJ.later B
 have h2 : Hid (x.two.length = 2) := n.l2
 obtain ⟨g, off, hat, _⟩ := J.v.t (by rw [n.l2]; decide)
 replace hat : Hid (x.aT = some ⟨g, off, none⟩) := hat
 obtain ⟨m, hm⟩ := AC (x.two.getD 1 AD.nil)
 have M0 : A8 y g (off + 7) m := by have h1 := J.v.t; rw [hat.out] at h1; have h := Bo (h1.at_ Ai AD.nil (i := 1) (by rw [n.l2]; decide)); rw [← hm] at h; simpa using h
 have gl : g < y.heap.size := World.block_lt_of_cell? y _ M0.c0
 have hmm := n.m1
 rw [← hm] at hmm
 clear hm
 go_enter func74, ntmps74
 go_upto_region 1 with fail
 rw [← hy]
 clear hy J
 have lA := A.lt
 have ca := A.all
 rw [hat.out, h2.out, n.rg] at ca
 have cm := M0.all
 rw [hmm] at cm
 clear hmm
 dsimp only at ca cm
 go_wp2
 go_ret
 exact ⟨rfl, B.alloc B.size _⟩
theorem KT (x : AG) (w : World) (hJ : DN w x) (n : NB x) : Calls prog 70 #[.agg (bc x)] w fun e w' => e = .returned (.bool true) ∧ Bw w w' := by
 obtain ⟨y, hy, B⟩ := AI w (Obj.cells (bc x) 34)
 have A : AS y w.heap.size x := by rw [hy]; exact AS.new w _ x
 have J := hJ.later B
 go_enter func70, ntmps70
 go_upto_region 1 with fail
 rw [← hy]
 clear hy
 have ca := A.all
 go_wp2_with fail
 go_at_call 74
 refine (Hj x y J n).mono ?_
 rintro e u1 ⟨rfl, kq⟩
 go_wp2
 go_ret
 exact ⟨rfl, AE B kq⟩
theorem KL (x : AG) (w : World) (hJ : DN w x) (n : NB x) (hb : Aw x.p = true) : Calls prog 23 #[.agg (bc x)] w fun e w' => e = .returned (.bool true) ∧ Bw w w' := by
 obtain ⟨y, hy, B⟩ := AI w (Obj.cells (bc x) 34)
 have A : AS y w.heap.size x := by rw [hy]; exact AS.new w _ x
 have J := hJ.later B
 go_enter func23, ntmps23
 go_upto_region 1 with fail
 rw [← hy]
 clear hy
 have a0 := A.all
 go_wp2_with fail
 go_at_call 66
 clear a0
 obtain ⟨y2, hy2, kq⟩ := AI y (Obj.cells #[.func (.func 67) #[] #[], .func (.func 68) #[] #[], .func (.func 69) #[] #[], .func (.func 70) #[] #[]] 123)
 have V2 : AH Eh y2 (some (ja y.heap.size 0)) [67, 68, 69, 70] := by
  rw [hy2]
  intro _
  refine ⟨y.heap.size, 0, rfl, fun j v hv => ?_⟩
  simp only [Aa, Eh, List.append_nil, List.cons_append, List.nil_append] at hv
  have hj : j < 4 := (List.getElem?_eq_some_iff.1 hv).1
  rcases (by omega : j = 0 ∨ j = 1 ∨ j = 2 ∨ j = 3) with rfl | rfl | rfl | rfl <;> (cases hv; simp [go_sem])
 rw [← hy2]
 have J := J.later kq
 have B := AE B kq
 clear hy2 kq A
 refine (Ha x [67, 68, 69, 70] (fun _ => True) (some (ja y.heap.size 0)) 4 y2 J V2 (by decide) (fun k hk => ?_) (fun h0 k hk w' hj => ?_)).mono ?_
 ·
  have hk : k < 4 := hk
  rcases (by omega : k = 0 ∨ k = 1 ∨ k = 2 ∨ k = 3) with rfl | rfl | rfl | rfl
  · exact enters_of func67 (by kernel_rfl) rfl
  · exact enters_of func68 (by kernel_rfl) rfl
  · exact enters_of func69 (by kernel_rfl) rfl
  · exact enters_of func70 (by kernel_rfl) rfl
 ·
  have hk : k < 4 := hk
  rcases (by omega : k = 0 ∨ k = 1 ∨ k = 2 ∨ k = 3) with rfl | rfl | rfl | rfl
  · refine (Jb x w' hj n).mono ?_; rintro e w2 ⟨rfl, kq⟩; exact ⟨YN.yes trivial, kq⟩
  · refine (KA x w' hj n).mono ?_; rintro e w2 ⟨rfl, kq⟩; exact ⟨YN.yes trivial, kq⟩
  · refine (Km x w' hj n).mono ?_; rintro e w2 ⟨rfl, kq⟩; exact ⟨YN.yes trivial, kq⟩
  · refine (KT x w' hj n).mono ?_; rintro e w2 ⟨rfl, kq⟩; exact ⟨YN.yes trivial, kq⟩
 rintro e u9 ⟨⟨rb, rfl, hrb⟩, kq⟩
 obtain rfl : rb = true := hrb.2 ⟨hb, fun _ _ => trivial⟩
 have B := AE B kq
 clear kq J V2
 go_wp2
 go_ret
 exact ⟨rfl, B⟩
theorem Ja (x : AG) (w : World) (hJ : DN w x) (n : NB x) (hb : Aw x.p = true) : Calls prog 25 #[.agg (bc x)] w fun e w' => e = .returned (.bool false) ∧ Bw w w' := by
 obtain ⟨y, hy, B⟩ := AI w (Obj.cells (bc x) 34)
 have A : AS y w.heap.size x := by rw [hy]; exact AS.new w _ x
 have J := hJ.later B
 go_enter func25, ntmps25
 go_upto_region 1 with fail
 rw [← hy]
 clear hy
 have a0 := A.all
 go_wp2_with fail
 go_at_call 66
 clear a0
 obtain ⟨y2, hy2, kq⟩ := AI y (Obj.cells #[.func (.func 74) #[] #[]] 123)
 have V2 : AH Eh y2 (some (ja y.heap.size 0)) [74] := by
  rw [hy2]
  intro _
  refine ⟨y.heap.size, 0, rfl, fun j v hv => ?_⟩
  simp only [Aa, Eh, List.append_nil, List.cons_append, List.nil_append] at hv
  have hj : j < 1 := (List.getElem?_eq_some_iff.1 hv).1
  rcases (by omega : j = 0) with rfl <;> (cases hv; simp [go_sem])
 rw [← hy2]
 have J := J.later kq
 have B := AE B kq
 clear hy2 kq A
 refine (Ha x [74] (fun _ => False) (some (ja y.heap.size 0)) 1 y2 J V2 (by decide) (fun k hk => ?_) (fun h0 k hk w' hj => ?_)).mono ?_
 ·
  have hk : k < 1 := hk
  rcases (by omega : k = 0) with rfl
  · exact enters_of func74 (by kernel_rfl) rfl
 ·
  have hk : k < 1 := hk
  rcases (by omega : k = 0) with rfl
  · refine (Hj x w' hj n).mono ?_; rintro e w2 ⟨rfl, kq⟩; exact ⟨YN.no id, kq⟩
 rintro e u9 ⟨⟨rb, rfl, hrb⟩, kq⟩
 obtain rfl : rb = false := by cases rb; rfl; exact ((hrb.1 rfl).2 0 (by decide)).elim
 have B := AE B kq
 clear kq J V2
 go_wp2
 go_ret
 exact ⟨rfl, B⟩
end Go.Proofs.YtjmnaeeknomiaaaGreat
