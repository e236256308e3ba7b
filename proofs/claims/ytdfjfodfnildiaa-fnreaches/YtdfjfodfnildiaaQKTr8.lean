/- spec.l11Reach, walked. -/
import Derived.Test.YtdfjfodfnildiaaRows
import Derived.WalkKit
import Derived.ProofKit
import Derived.OpenShut
import Derived.ShutString
import Derived.ChangeOld
import Derived.Below
import Derived.Deep.QuietTactic
import Derived.BigQuiet
import Derived.WalkSmall
import Derived.Laws.OwnMore
import Derived.WalkSpells
import Derived.WalkLawsBesides
import Derived.Deep.Cut
import Derived.Laws.StructEq
import Derived.Maps.AppendAt
import Derived.Test.YtdfjfodfnildiaaQKTr7
import Derived.Test.YtdfjfodfnildiaaQM12
namespace Go.Proofs.Ytdfjfodfnildiaa
open Go.ChangeShapes Go.WideShapes Go.ChangeAt Go.RowKit
open Go.ChangeMaps (open_string shut_string)
set_option linter.unusedVariables false
set_option maxRecDepth 100000

structure SeenAt (w : World) (g : Nat) (S : List Bool) : Prop where
  at_ : ∀ i, i < S.length → w.cell? ⟨g, i, none⟩ = some (.bool (S.getD i false))
  fr : ∀ i, w.frozen? ⟨g, i, none⟩ = false
theorem SeenAt.keep {w w' : World} {g : Nat} {M : List Bool} (h : SeenAt w g M) (k : w'.heap[g]? = w.heap[g]?) : SeenAt w' g M := ⟨fun i hi => (World.cell?_of_block (a := ⟨g, i, none⟩) k).trans (h.at_ i hi), fun i => (World.frozen?_of_block (a := ⟨g, i, none⟩) k).trans (h.fr i)⟩
theorem SeenAt.below {w w' : World} {g n : Nat} {M : List Bool} (h : SeenAt w g M) (k : Below n w w') (hq : g < n) : SeenAt w' g M := h.keep (k.block g hq)
theorem SeenAt.set {w : World} {g x : Nat} {M : List Bool} (h : SeenAt w g M) (hx : x < M.length) : SeenAt (w.setCell ⟨g, x, none⟩ (.bool true)) g (M.set x true) := by
  refine ⟨fun i hi => ?_, fun i => by rw [World.frozen?_setCell]; exact h.fr i⟩
  rw [List.length_set] at hi
  rw [getD_set hx]
  by_cases e : x = i
  · subst e
    rw [World.cell?_setCell_same _ _ _ (h.at_ x hx), if_pos rfl]
  · rw [World.cell?_setCell_other _ _ _ _ (by intro q; simp only [Addr.mk.injEq] at q; omega), h.at_ i hi, if_neg e]
theorem boolInfo : (Try.prog.info? 4).map (fun i => (i.zero, i.size, i.bytes)) = some (some (.bool false), 1, 1) := by kernel_rfl
theorem NeAt.set {w : World} {q g x : Nat} {v0 v1 v : Value} (h : NeAt w q v0 v1) (hn : g ≠ q) : NeAt (w.setCell ⟨g, x, none⟩ v) q v0 v1 := h.keep (Below.heap_setCell _ _ _ _ (fun e => hn e.symm))
def pickF (B : List Bg) (al : Bool) (x : Int) (k : Nat) (l : Lk) : Bool := decide ((k : Int) ≠ x) && (al || openB B l)
theorem mk_no {S : List Bool} {i j : Nat} {xp xq : Int} (h1 : S.getD i false = false) (h2 : S.getD j false = false) : markL S ⟨i, xp, j, xq⟩ = S := by
  unfold markL
  simp only [Int.toNat_natCast]
  rw [if_neg (by rw [h1, h2]; simp)]
theorem mk_yes {S : List Bool} {i j : Nat} {xp xq : Int} (h : S.getD i false = true ∨ S.getD j false = true) : markL S ⟨i, xp, j, xq⟩ = (S.set i true).set j true := by
  unfold markL
  simp only [Int.toNat_natCast]
  rw [if_pos h]
set_option maxHeartbeats 16000000 in
theorem reachL (adB : Option Addr) (capB : Nat) (Bs : List Bd) (adK : Option Addr) (capK : Nat) (K : List Lk) (f : Nat) (al : Bool) (x : Int) (w : World) (h : NN w adB Bs adK K) (hok : Hid (NetP (dB Bs) K)) (hf : f < Bs.length) :
    Calls Try.prog 44 #[.agg #[.slice adB Bs.length capB, .slice adK K.length capK], .int .i64 (f : Int), .bool al, .int .i64 x] w fun e w' => ∃ M a c, Marks (selL (pickF (dB Bs) al x) 0 K) Bs.length (f : Int) M ∧ e = .returned (.slice a (idx 0 M).length c) ∧ FOwn ivEnc 1 3 w.heap.size w' (.slice a (idx 0 M).length c) (idx 0 M) ∧ Below w.heap.size w w' := by
  obtain ⟨i0, hi, hz0, hz1, hz2⟩ := info_parts boolInfo
  obtain ⟨j0, hj, hj0, hj1, hj2⟩ := info_parts ivInfo
  obtain ⟨F, hF⟩ : ∃ F, Hid (F = pickF (dB Bs) al x) := ⟨_, rfl⟩
  rw [← hF.out]
  have hNs : Hid (InN (selL F 0 K) Bs.length) := by
    have := hok.out.inN
    rw [dB_len] at this
    exact this.sub (fun l hl => selL_mem F K 0 l hl)
  obtain ⟨y, hy⟩ : ∃ y, y = w.alloc (Obj.cells #[.slice adB Bs.length capB, .slice adK K.length capK] 27) := ⟨_, rfl⟩
  have B0 : Below w.heap.size w y := by rw [hy]; exact below_new _
  have A : NeAt y w.heap.size (.slice adB Bs.length capB) (.slice adK K.length capK) := by rw [hy]; exact NeAt.new w _
  have hN := h.later B0
  have hk := h.hk
  have hlB := h.hl
  have h5 : Bs.length ≤ 5 := by have := hok.out.many.2; rwa [dB_len] at this
  have hvk := h.vk
  have hvB := hvk.lt lkEnc_len (by omega)
  clear hN
  have hN := h
  clear h
  go_enter Try.func44, Try.ntmps44
  go_upto_region 1 with fail
  rw [← hy]
  clear hy
  have S0 := A.lt
  have cc := A
  obtain ⟨a0, a1⟩ := cc
  go_wp2_with (first | (refine wpList_make_full _ rfl _ _ 93 rfl y.heap.size 4 i0 (.bool false) 1 Try.underlying93 hi hz0 hz1 .i64 .i64 _ _ Bs.length rfl rfl rfl rfl ?c1 ?c2 ?c3 ?_))
  case c1 => rw [hz2]; omega
  case c2 => unfold maxLen; omega
  case c3 => exact Nat.le_refl _
  intro w1 hown hgrow
  have k1 : Below y.heap.size y w1 := (Below.refl _ _).grown hgrow (Nat.le_refl _) (by simp)
  have B1 := B0.trans (k1.mono B0.size)
  have A1 := A.below k1 A.lt
  have Sn : SeenAt w1 y.heap.size (List.replicate Bs.length false) := by
    refine ⟨fun i hi => ?_, fun i => hown.frozenAt i⟩
    rw [List.length_replicate] at hi
    rw [hown.cellAt i (by omega), toList_madeCells_one]
    simp [hi, List.getD]
  clear hown hgrow k1 a0 a1 A
  obtain ⟨G, hG⟩ : ∃ G, y.heap.size = G := ⟨_, rfl⟩
  rw [hG] at Sn S0 ⊢
  have hwG : w.heap.size ≤ G := by rw [← hG]; exact B0.size
  clear hG B0 y
  have cf := Sn.at_ f (by simpa using hf)
  have ff := Sn.fr
  obtain ⟨w2, hw2⟩ : ∃ v, v = w1.setCell ⟨G, f, none⟩ (.bool true) := ⟨_, rfl⟩
  have Sn2 : SeenAt w2 G ((List.replicate Bs.length false).set f true) := by rw [hw2]; exact Sn.set (by simpa using hf)
  have A2 : NeAt w2 w.heap.size (.slice adB Bs.length capB) (.slice adK K.length capK) := by rw [hw2]; exact A1.set (by omega)
  have B2 : Below w.heap.size w w2 := by rw [hw2]; exact B1.setCell (by simp; omega) _
  go_upto_region 3 with fail
  rw [← hw2]
  clear hw2 cf ff Sn A1 B1 w1
  go_wp2
  go_loopw [10] (fun q wr => ∃ (m : Nat) (S : List Bool), m ≤ Bs.length ∧ q = .int .i64 m ∧ Hid (S.length = Bs.length) ∧ Hid (Sound (selL F 0 K) f S) ∧ Hid (Far (selL F 0 K) m S) ∧ Below w.heap.size w wr ∧ NeAt wr w.heap.size (.slice adB Bs.length capB) (.slice adK K.length capK) ∧ SeenAt wr G S) (fun q _ => Bs.length - (intOf q).toNat)
  case atStart => exact ⟨0, _, Nat.zero_le _, rfl, by unfold Hid; simp, Sound.start hf, Far.start hf, B2, A2, Sn2⟩
  case round =>
    clear B2 A2 Sn2
    obtain ⟨m, S, hm, rfl, hlS, hS, hFa, hb, A, Sn⟩ := hrel
    have cc := A
    obtain ⟨a0, a1⟩ := cc
    by_cases hlt : m < Bs.length
    · have hltm := hlt
      go_wp2
      clear a0 a1
      go_loopw [11] (fun q wr => ∃ k : Nat, k ≤ K.length ∧ q = .int .i64 k ∧ Below w.heap.size w wr ∧ NeAt wr w.heap.size (.slice adB Bs.length capB) (.slice adK K.length capK) ∧ SeenAt wr G ((selL F 0 (K.take k)).foldl markL S)) (fun q _ => K.length - (intOf q).toNat)
      case atStart => exact ⟨0, Nat.zero_le _, rfl, hb, A, Sn⟩
      case round =>
        clear hb A Sn hlt
        obtain ⟨k, hkk, rfl, hb, A, Sn⟩ := hrel
        by_cases hlt : k < K.length
        · obtain ⟨b, off, rfl, _⟩ := hvk (by omega)
          obtain ⟨x', hh⟩ : ∃ h, K.getD k Lk.nil = h := ⟨_, rfl⟩
          have hck : LkAtO wr b (off + k * 4) x' := by
            rw [← hh]
            exact lkAtO_of ((hvk.below hb hvB).at_ lkEnc_len Lk.nil hlt)
          have hm := getD_mem hlt
          have hst0 : Hid ((selL F 0 (K.take (k + 1))).foldl markL S = if F k x' = true then markL ((selL F 0 (K.take k)).foldl markL S) x' else (selL F 0 (K.take k)).foldl markL S) := by
            unfold Hid
            rw [fold_take F K S hlt, hh]
          have hpp : Hid (openB (dB Bs) x' = true ↔ PassP (dB Bs) K (k : Int)) := by
            unfold Hid PassP
            simp only [Int.toNat_natCast]
            rw [hh]
            exact ⟨fun h => ⟨hok.out, by omega, by omega, h⟩, fun h => h.2.2.2⟩
          rw [hh] at hm
          clear hh
          obtain ⟨⟨xa0, xa1⟩, xb0, xb1⟩ := hok.out.inN x' hm
          rw [dB_len] at xa1 xb1
          clear hm
          obtain ⟨xa, xp, xb, xq⟩ := x'
          dsimp only at xa0 xa1 xb0 xb1
          obtain ⟨i, rfl⟩ := Int.eq_ofNat_of_zero_le xa0
          obtain ⟨j, rfl⟩ := Int.eq_ofNat_of_zero_le xb0
          obtain ⟨S1, hS1⟩ : ∃ S1, (selL F 0 (K.take k)).foldl markL S = S1 := ⟨_, rfl⟩
          have hl1 : S1.length = Bs.length := by rw [← hS1, foldM_len]; exact hlS.out
          rw [hS1] at hst0 Sn
          clear hS1
          have hli : i < S1.length := by omega
          have hlj : j < S1.length := by omega
          replace hl1 : Hid _ := hl1
          obtain ⟨c0, c1, c2, c3⟩ := hck
          dsimp only at c0 c1 c2 c3
          obtain ⟨z, hz⟩ : ∃ z, z = wr.alloc (Obj.cells #[.int .i64 (i : Int), .int .i64 xp, .int .i64 (j : Int), .int .i64 xq] 64) := ⟨_, rfl⟩
          have kz : Below wr.heap.size wr z := by rw [hz]; exact below_new _
          have bz := hb.trans (kz.mono hb.size)
          have hGw : G < wr.heap.size := World.block_lt_of_cell? wr _ (Sn.at_ i hli)
          have Sn := Sn.below kz hGw
          have a0 := A.c0
          have a1 := A.c1
          have A := A.below kz A.lt
          obtain ⟨Q, hQ⟩ : ∃ Q, wr.heap.size = Q := ⟨_, rfl⟩
          have X : LkAtO z Q 0 ⟨i, xp, j, xq⟩ := by rw [hz, ← hQ]; constructor <;> simp [go_sem]
          have xl : Q < z.heap.size := World.block_lt_of_cell? z _ X.c0
          have hGQ : G < Q := by omega
          have hwQ : w.heap.size < Q := by omega
          clear hGw
          go_upto_region 10 with fail
          rw [← hz]
          try rw [hQ]
          clear hz kz a0 a1 c0 c1 c2 c3 hQ
          by_cases hx : (k : Int) = x
          · have z1 : ((k : Int) != x) = false := by simp [hx]
            have z2 : decide ((k : Int) = x) = true := decide_eq_true hx
            have hF1 : Hid (F k ⟨i, xp, j, xq⟩ = false) := by unfold Hid; rw [hF.out]; simp [pickF, hx]
            replace hx : Hid _ := hx
            go_wp2
            go_roundw
            case rel => exact ⟨k + 1, by omega, by go_num, bz, A, by rw [hst0.out, if_neg (by rw [hF1.out]; decide)]; exact Sn⟩
            case measure => simp [intOf]; omega
          have z1 : ((k : Int) != x) = true := by simp [hx]
          have z2 : decide ((k : Int) = x) = false := decide_eq_false hx
          have hF0 : Hid (F k ⟨i, xp, j, xq⟩ = (al || openB (dB Bs) ⟨i, xp, j, xq⟩)) := by unfold Hid; rw [hF.out]; simp [pickF, hx]
          replace hx : Hid _ := hx
          cases al
          rotate_left
          · have hF1 : Hid (F k ⟨i, xp, j, xq⟩ = true) := by unfold Hid; rw [hF0.out]; rfl
            have ci := Sn.at_ i hli
            have cj := Sn.at_ j hlj
            obtain ⟨o1, h1⟩ : ∃ o, S1.getD i false = o := ⟨_, rfl⟩
            obtain ⟨o2, h2⟩ : ∃ o, S1.getD j false = o := ⟨_, rfl⟩
            rw [h1] at ci
            rw [h2] at cj
            replace h1 : Hid _ := h1
            replace h2 : Hid _ := h2
            have dd := X
            obtain ⟨x0, x1, x2, x3⟩ := dd
            simp only [Nat.zero_add] at x0 x1 x2 x3
            clear hpp hF0
            cases o1
            · cases o2
              · have hst : Hid ((selL F 0 (K.take (k + 1))).foldl markL S = S1) := by
                  unfold Hid
                  rw [hst0.out, if_pos hF1.out]
                  exact mk_no h1.out h2.out
                go_wp2
                go_roundw
                case rel => exact ⟨k + 1, by omega, by go_num, bz, A, by rw [hst.out]; exact Sn⟩
                case measure => simp [intOf]; omega
              · have hst : Hid ((selL F 0 (K.take (k + 1))).foldl markL S = (S1.set i true).set j true) := by
                  unfold Hid
                  rw [hst0.out, if_pos hF1.out]
                  exact mk_yes (.inr h2.out)
                go_upto_region 11 with fail
                have F0 := Sn.fr
                obtain ⟨x0, x1, x2, x3⟩ := X
                simp only [Nat.zero_add] at x0 x1 x2 x3
                have ci := Sn.at_ i (by omega)
                obtain ⟨v, hv⟩ : ∃ v, v = z.setCell ⟨G, i, none⟩ (.bool true) := ⟨_, rfl⟩
                have Sv : SeenAt v G (S1.set i true) := by rw [hv]; exact Sn.set (by omega)
                have Av : NeAt v w.heap.size (.slice adB Bs.length capB) (.slice (some ⟨b, off, none⟩) K.length capK) := by rw [hv]; exact A.set (by omega)
                have bv : Below w.heap.size w v := by rw [hv]; exact bz.setCell (by simp; omega) _
                have Xv : LkAtO v Q 0 ⟨i, xp, j, xq⟩ := by
                  rw [hv]
                  exact (LkAtO.mk (x := ⟨i, xp, j, xq⟩) (by simpa using x0) (by simpa using x1) (by simpa using x2) (by simpa using x3)).keep (Below.heap_setCell _ _ _ _ (by simp; omega))
                go_upto_region 12 with fail
                rw [← hv]
                clear hv x0 x1 x2 x3 ci F0 Sn A bz
                obtain ⟨x0, x1, x2, x3⟩ := Xv
                simp only [Nat.zero_add] at x0 x1 x2 x3
                have cj := Sv.at_ j (by rw [List.length_set]; omega)
                have F0 := Sv.fr
                have Sw : SeenAt (v.setCell ⟨G, j, none⟩ (.bool true)) G ((S1.set i true).set j true) := Sv.set (by rw [List.length_set]; omega)
                have Aw : NeAt (v.setCell ⟨G, j, none⟩ (.bool true)) w.heap.size (.slice adB Bs.length capB) (.slice (some ⟨b, off, none⟩) K.length capK) := Av.set (by omega)
                have bw : Below w.heap.size w (v.setCell ⟨G, j, none⟩ (.bool true)) := bv.setCell (by simp; omega) _
                go_wp2
                go_roundw
                case rel => exact ⟨k + 1, by omega, by go_num, bw, Aw, by rw [hst.out]; exact Sw⟩
                case measure => simp [intOf]; omega
            · have hst : Hid ((selL F 0 (K.take (k + 1))).foldl markL S = (S1.set i true).set j true) := by
                unfold Hid
                rw [hst0.out, if_pos hF1.out]
                exact mk_yes (.inl h1.out)
              go_upto_region 11 with fail
              have F0 := Sn.fr
              obtain ⟨x0, x1, x2, x3⟩ := X
              simp only [Nat.zero_add] at x0 x1 x2 x3
              have ci := Sn.at_ i (by omega)
              obtain ⟨v, hv⟩ : ∃ v, v = z.setCell ⟨G, i, none⟩ (.bool true) := ⟨_, rfl⟩
              have Sv : SeenAt v G (S1.set i true) := by rw [hv]; exact Sn.set (by omega)
              have Av : NeAt v w.heap.size (.slice adB Bs.length capB) (.slice (some ⟨b, off, none⟩) K.length capK) := by rw [hv]; exact A.set (by omega)
              have bv : Below w.heap.size w v := by rw [hv]; exact bz.setCell (by simp; omega) _
              have Xv : LkAtO v Q 0 ⟨i, xp, j, xq⟩ := by
                rw [hv]
                exact (LkAtO.mk (x := ⟨i, xp, j, xq⟩) (by simpa using x0) (by simpa using x1) (by simpa using x2) (by simpa using x3)).keep (Below.heap_setCell _ _ _ _ (by simp; omega))
              go_upto_region 12 with fail
              rw [← hv]
              clear hv x0 x1 x2 x3 ci F0 Sn A bz
              obtain ⟨x0, x1, x2, x3⟩ := Xv
              simp only [Nat.zero_add] at x0 x1 x2 x3
              have cj := Sv.at_ j (by rw [List.length_set]; omega)
              have F0 := Sv.fr
              have Sw : SeenAt (v.setCell ⟨G, j, none⟩ (.bool true)) G ((S1.set i true).set j true) := Sv.set (by rw [List.length_set]; omega)
              have Aw : NeAt (v.setCell ⟨G, j, none⟩ (.bool true)) w.heap.size (.slice adB Bs.length capB) (.slice (some ⟨b, off, none⟩) K.length capK) := Av.set (by omega)
              have bw : Below w.heap.size w (v.setCell ⟨G, j, none⟩ (.bool true)) := bv.setCell (by simp; omega) _
              go_wp2
              go_roundw
              case rel => exact ⟨k + 1, by omega, by go_num, bw, Aw, by rw [hst.out]; exact Sw⟩
              case measure => simp [intOf]; omega
          obtain ⟨a0, a1⟩ := A
          have A : NeAt z w.heap.size (.slice adB Bs.length capB) (.slice (some ⟨b, off, none⟩) K.length capK) := ⟨a0, a1⟩
          go_wp2_with fail
          go_at_call 18
          clear a0 a1
          refine (passS adB capB Bs (some ⟨b, off, none⟩) capK K (k : Int) z (hN.below bz (Nat.le_refl _))).mono ?_
          rintro e z' ⟨⟨R, rfl, hR⟩, kq⟩
          have hF1 : Hid (F k ⟨i, xp, j, xq⟩ = R) := by
            unfold Hid
            rw [hF0.out]
            exact Bool.eq_iff_iff.2 (by rw [hR, ← hpp.out]; rfl)
          have hGz : G < z.heap.size := by omega
          have bz := bz.trans (kq.mono bz.size)
          have Sn := Sn.below kq hGz
          have A := A.below kq A.lt
          have X := X.below kq xl
          have xl := Nat.lt_of_lt_of_le xl kq.size
          clear kq hR hF0 hpp hGz
          obtain ⟨z, hz⟩ : ∃ z, z = z' := ⟨_, rfl⟩
          rw [← hz] at bz Sn A X xl ⊢
          clear hz
          cases R
          · go_wp2
            go_roundw
            case rel => exact ⟨k + 1, by omega, by go_num, bz, A, by rw [hst0.out, if_neg (by rw [hF1.out]; decide)]; exact Sn⟩
            case measure => simp [intOf]; omega
          have ci := Sn.at_ i hli
          have cj := Sn.at_ j hlj
          obtain ⟨o1, h1⟩ : ∃ o, S1.getD i false = o := ⟨_, rfl⟩
          obtain ⟨o2, h2⟩ : ∃ o, S1.getD j false = o := ⟨_, rfl⟩
          rw [h1] at ci
          rw [h2] at cj
          replace h1 : Hid _ := h1
          replace h2 : Hid _ := h2
          have dd := X
          obtain ⟨x0, x1, x2, x3⟩ := dd
          simp only [Nat.zero_add] at x0 x1 x2 x3
          cases o1
          · cases o2
            · have hst : Hid ((selL F 0 (K.take (k + 1))).foldl markL S = S1) := by
                unfold Hid
                rw [hst0.out, if_pos hF1.out]
                exact mk_no h1.out h2.out
              go_wp2
              go_roundw
              case rel => exact ⟨k + 1, by omega, by go_num, bz, A, by rw [hst.out]; exact Sn⟩
              case measure => simp [intOf]; omega
            · have hst : Hid ((selL F 0 (K.take (k + 1))).foldl markL S = (S1.set i true).set j true) := by
                unfold Hid
                rw [hst0.out, if_pos hF1.out]
                exact mk_yes (.inr h2.out)
              go_upto_region 11 with fail
              have F0 := Sn.fr
              obtain ⟨x0, x1, x2, x3⟩ := X
              simp only [Nat.zero_add] at x0 x1 x2 x3
              have ci := Sn.at_ i (by omega)
              obtain ⟨v, hv⟩ : ∃ v, v = z.setCell ⟨G, i, none⟩ (.bool true) := ⟨_, rfl⟩
              have Sv : SeenAt v G (S1.set i true) := by rw [hv]; exact Sn.set (by omega)
              have Av : NeAt v w.heap.size (.slice adB Bs.length capB) (.slice (some ⟨b, off, none⟩) K.length capK) := by rw [hv]; exact A.set (by omega)
              have bv : Below w.heap.size w v := by rw [hv]; exact bz.setCell (by simp; omega) _
              have Xv : LkAtO v Q 0 ⟨i, xp, j, xq⟩ := by
                rw [hv]
                exact (LkAtO.mk (x := ⟨i, xp, j, xq⟩) (by simpa using x0) (by simpa using x1) (by simpa using x2) (by simpa using x3)).keep (Below.heap_setCell _ _ _ _ (by simp; omega))
              go_upto_region 12 with fail
              rw [← hv]
              clear hv x0 x1 x2 x3 ci F0 Sn A bz
              obtain ⟨x0, x1, x2, x3⟩ := Xv
              simp only [Nat.zero_add] at x0 x1 x2 x3
              have cj := Sv.at_ j (by rw [List.length_set]; omega)
              have F0 := Sv.fr
              have Sw : SeenAt (v.setCell ⟨G, j, none⟩ (.bool true)) G ((S1.set i true).set j true) := Sv.set (by rw [List.length_set]; omega)
              have Aw : NeAt (v.setCell ⟨G, j, none⟩ (.bool true)) w.heap.size (.slice adB Bs.length capB) (.slice (some ⟨b, off, none⟩) K.length capK) := Av.set (by omega)
              have bw : Below w.heap.size w (v.setCell ⟨G, j, none⟩ (.bool true)) := bv.setCell (by simp; omega) _
              go_wp2
              go_roundw
              case rel => exact ⟨k + 1, by omega, by go_num, bw, Aw, by rw [hst.out]; exact Sw⟩
              case measure => simp [intOf]; omega
          · have hst : Hid ((selL F 0 (K.take (k + 1))).foldl markL S = (S1.set i true).set j true) := by
              unfold Hid
              rw [hst0.out, if_pos hF1.out]
              exact mk_yes (.inl h1.out)
            go_upto_region 11 with fail
            have F0 := Sn.fr
            obtain ⟨x0, x1, x2, x3⟩ := X
            simp only [Nat.zero_add] at x0 x1 x2 x3
            have ci := Sn.at_ i (by omega)
            obtain ⟨v, hv⟩ : ∃ v, v = z.setCell ⟨G, i, none⟩ (.bool true) := ⟨_, rfl⟩
            have Sv : SeenAt v G (S1.set i true) := by rw [hv]; exact Sn.set (by omega)
            have Av : NeAt v w.heap.size (.slice adB Bs.length capB) (.slice (some ⟨b, off, none⟩) K.length capK) := by rw [hv]; exact A.set (by omega)
            have bv : Below w.heap.size w v := by rw [hv]; exact bz.setCell (by simp; omega) _
            have Xv : LkAtO v Q 0 ⟨i, xp, j, xq⟩ := by
              rw [hv]
              exact (LkAtO.mk (x := ⟨i, xp, j, xq⟩) (by simpa using x0) (by simpa using x1) (by simpa using x2) (by simpa using x3)).keep (Below.heap_setCell _ _ _ _ (by simp; omega))
            go_upto_region 12 with fail
            rw [← hv]
            clear hv x0 x1 x2 x3 ci F0 Sn A bz
            obtain ⟨x0, x1, x2, x3⟩ := Xv
            simp only [Nat.zero_add] at x0 x1 x2 x3
            have cj := Sv.at_ j (by rw [List.length_set]; omega)
            have F0 := Sv.fr
            have Sw : SeenAt (v.setCell ⟨G, j, none⟩ (.bool true)) G ((S1.set i true).set j true) := Sv.set (by rw [List.length_set]; omega)
            have Aw : NeAt (v.setCell ⟨G, j, none⟩ (.bool true)) w.heap.size (.slice adB Bs.length capB) (.slice (some ⟨b, off, none⟩) K.length capK) := Av.set (by omega)
            have bw : Below w.heap.size w (v.setCell ⟨G, j, none⟩ (.bool true)) := bv.setCell (by simp; omega) _
            go_wp2
            go_roundw
            case rel => exact ⟨k + 1, by omega, by go_num, bw, Aw, by rw [hst.out]; exact Sw⟩
            case measure => simp [intOf]; omega
        · obtain rfl : k = K.length := by omega
          rw [List.take_length] at Sn
          have cc := A
          obtain ⟨a0, a1⟩ := cc
          go_wp2
          go_roundw
          case rel => exact ⟨m + 1, (selL F 0 K).foldl markL S, by omega, by go_num, by unfold Hid; rw [foldM_len]; exact hlS.out, Sound.round _ S hS.out (fun _ h => h) (by rw [hlS.out]; exact hNs.out), hFa.out.step (by rw [hlS.out]; exact hNs.out), hb, A, Sn⟩
          case measure => simp [intOf]; omega
    · obtain rfl : m = Bs.length := by omega
      have hM : Hid (Marks (selL F 0 K) Bs.length (f : Int) S) := hS.out.marks hlS.out hNs.out (hFa.out.end_ hlS.out)
      clear hFa hS
      obtain ⟨v0, hv0⟩ : ∃ v, v = wr.alloc (Obj.cells #[] 3) := ⟨_, rfl⟩
      have kv : Below wr.heap.size wr v0 := by rw [hv0]; exact below_new _
      have hGw : G < wr.heap.size := World.block_lt_of_cell? wr _ (Sn.at_ f (by rw [hlS.out]; exact hf))
      have Sv := Sn.below kv hGw
      have bv := hb.trans (kv.mono hb.size)
      have Ov : FOwn ivEnc 1 3 wr.heap.size v0 (.slice (some ⟨wr.heap.size, 0, none⟩) 0 0) ([] : List Int) := by rw [hv0]; exact FOwn.empty wr
      have hsz := hb.size
      have zv : wr.heap.size ≤ v0.heap.size := kv.size
      obtain ⟨Z, hZ⟩ : ∃ Z, wr.heap.size = Z := ⟨_, rfl⟩
      rw [hZ] at Ov hGw hsz zv
      go_upto_region 14 with fail
      rw [← hv0]
      try rw [hZ]
      clear hv0 kv a0 a1 hb A Sn hZ
      go_wp2
      go_loopw [13, 14] (fun v q wr => ∃ k : Nat, k ≤ Bs.length ∧ q = .int .i64 k ∧ FOwn ivEnc 1 3 Z wr v (idx 0 (S.take k)) ∧ Below w.heap.size w wr ∧ SeenAt wr G S ∧ Z ≤ wr.heap.size) (fun _ q _ => Bs.length - (intOf q).toNat)
      case atStart => exact ⟨0, Nat.zero_le _, rfl, Ov, bv, Sv, zv⟩
      case round =>
        clear Ov bv Sv
        obtain ⟨k, hk2, rfl, O, bv, Sv, zv⟩ := hrel
        by_cases hlt : k < Bs.length
        · have ck := Sv.at_ k (by rw [hlS.out]; exact hlt)
          have hst := idx_take S (i := k) (by rw [hlS.out]; exact hlt)
          obtain ⟨L, hL⟩ : ∃ L, idx 0 (S.take k) = L := ⟨_, rfl⟩
          have hLl : L.length ≤ k := by rw [← hL]; exact Nat.le_trans (idx_len _ _) (by simp; omega)
          rw [hL] at O hst
          clear hL
          obtain ⟨ak, ck2, rfl⟩ := O.open_
          obtain ⟨o, ho⟩ : ∃ o, S.getD k false = o := ⟨_, rfl⟩
          rw [ho] at ck hst
          clear ho
          replace hst : Hid _ := hst
          cases o
          · have hst : Hid (idx 0 (S.take (k + 1)) = L) := by have := hst.out; unfold Hid; simpa using this
            go_wp2
            go_roundw
            case rel => exact ⟨k + 1, by omega, by go_num, by rw [hst.out]; exact O, bv, Sv, zv⟩
            case measure => simp [intOf]; omega
          · have hst : Hid (idx 0 (S.take (k + 1)) = L ++ [(k : Int)]) := by have := hst.out; unfold Hid; simpa using this
            have V1 := FView.oneI wr 3 (k : Int)
            have kx : Below wr.heap.size wr (wr.alloc (Obj.cells #[.int .i64 (k : Int)] 3)) := below_new _
            have O4 := O.later kx
            have bv4 := bv.trans (kx.mono bv.size)
            have hGw2 : G < wr.heap.size := World.block_lt_of_cell? wr _ ck
            have Sv4 := Sv.below kx hGw2
            have hx := kx.size
            clear kx
            go_wp2_with (first | (at_builtin; refine fappL ivEnc_len ivEnc_ones rfl _ _ 30 rfl Z 3 j0 (.int .i64 0) 8 Try.underlying30 hj hj0 hj1 hj2 rfl (by decide) (by decide) (.slice ak L.length ck2) L rfl O4 (some ⟨wr.heap.size, 0, none⟩) 1 [(k : Int)] rfl (fun e => by cases e) V1 ?z0 ?z1 ?_) | go_in)
            case z0 => first | omega | (simp; omega)
            case z1 => first | omega | (simp; omega)
            intro vZ wZ hownZ hgrowZ _
            have hob : ∀ q, (Value.slice ak L.length ck2).ownBlock = some q → Z ≤ q := fun q e => (O4.lt q e).1
            have bZ : Below w.heap.size w wZ := bv4.grown hgrowZ (by have := bv4.size; exact this) (fun q e => by have := hob q e; omega)
            have SZ : SeenAt wZ G S := Sv4.keep (hgrowZ.block _ (by simp; omega) (fun e => by have := hob _ e.symm; omega))
            have zZ : Z ≤ wZ.heap.size := by have := hgrowZ.size; simp at this; omega
            clear hgrowZ V1 O4 hob O bv Sv bv4 Sv4 ck
            go_wp2
            go_roundw
            case rel => exact ⟨k + 1, by omega, by go_num, by rw [hst.out]; exact hownZ, bZ, SZ, zZ⟩
            case measure => simp [intOf]; omega
        · obtain rfl : k = Bs.length := by omega
          rw [show S.take Bs.length = S by rw [← hlS.out, List.take_length]] at O
          obtain ⟨ak, ck2, rfl⟩ := O.open_
          have OZ := O.base hsz
          go_wp2
          go_ret
          exact ⟨S, _, _, hM.out, rfl, OZ, bv⟩

end Go.Proofs.Ytdfjfodfnildiaa
