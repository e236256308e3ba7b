/- impl.waysOut, walked. -/
import Derived.Test.YtifndemkkaelaaaGreatRows
import Derived.WalkKit
import Derived.ProofKit
import Derived.OpenShut
import Derived.ShutString
import Derived.ChangeOld
import Derived.Below
import Derived.Deep.QuietTactic
import Derived.BigQuiet
import Derived.WalkSmall
import Derived.Laws.OwnMore
import Derived.WalkSpells
import Derived.WalkLawsBesides
import Derived.Laws.AppendOwnNone
import Derived.Laws.CopyOwn
import Derived.RangeFuncBox
import Derived.RangeFuncSeq
import Derived.RangeFuncCalls
import Derived.TacticsInMore
import Derived.OwnWalkIn
import Derived.ControlIn
import Derived.Test.YtifndemkkaelaaaGreatZl23
import Derived.Test.YtifndemkkaelaaaGreatZlCopy3
import Derived.Test.YtifndemkkaelaaaGreatZlCard3
import Derived.Test.YtifndemkkaelaaaGreatZl15
import Derived.Test.YtifndemkkaelaaaGreatZl21
import Derived.Test.YtifndemkkaelaaaGreatZl16
import Derived.Test.YtifndemkkaelaaaGreatZl1
namespace Go.Proofs.YtifndemkkaelaaaGreat
open Go.ChangeShapes Go.WideShapes Go.ChangeAt Go.RowKit
open Go.ChangeMaps (open_string shut_string)
set_option linter.unusedVariables false
set_option maxRecDepth 100000

theorem own_zeroW {w : World} {base E k n m cap : Nat} {ad : Option Addr} {xs : List Value} (h : w.ownsRow base E k (.slice ad m cap) n xs) : ad = none → cap = 0 := fun e => by
  rcases h.2 with ⟨q, _⟩ | ⟨g, c, cur, q, _⟩
  · cases q; rfl
  · rw [e] at q; cases q
def KpW (base C1 C2 C3 : Nat) (W W' : World) : Prop := W.heap.size ≤ W'.heap.size ∧ ∀ j, j < base ∨ j = C1 ∨ j = C2 ∨ j = C3 → W'.heap[j]? = W.heap[j]?
theorem KpW.refl (base C1 C2 C3 : Nat) (W : World) : KpW base C1 C2 C3 W W := ⟨Nat.le_refl _, fun _ _ => rfl⟩
theorem KpW.trans {base C1 C2 C3 : Nat} {A B C : World} (h : KpW base C1 C2 C3 A B) (k : KpW base C1 C2 C3 B C) : KpW base C1 C2 C3 A C := ⟨Nat.le_trans h.1 k.1, fun j hj => (k.2 j hj).trans (h.2 j hj)⟩
theorem KpW.below {base C1 C2 C3 : Nat} {A B C : World} (h : KpW base C1 C2 C3 A B) (k : Below B.heap.size B C) (hb : base ≤ A.heap.size) (h1 : C1 < A.heap.size) (h2 : C2 < A.heap.size) (h3 : C3 < A.heap.size) : KpW base C1 C2 C3 A C :=
  ⟨Nat.le_trans h.1 k.size, fun j hj => (k.block j (by have := h.1; omega)).trans (h.2 j hj)⟩
set_option maxRecDepth 100000 in
set_option maxHeartbeats 64000000 in
theorem waysI (adO : Option Addr) (cO : Nat) (O : List Bool) (adM : Option Addr) (cM : Nat) (D : DL) (adT : Option Addr) (cT : Nat) (T : List Hd) (i : Nat) (a b c : Int) (adL : Option Addr) (capL : Nat) (L : List Int) (lo hi P Q base C1 C2 C3 l : Nat) (w : World) (J : Nat → World → Prop) (Jx : World → Prop)
    (I : CdV w lo hi adO O adM D adT T) (AA : CdAt w P adO O.length cO adM D.length cM adT T.length cT) (hC : cOk O D T = true) (hl : O.length + totD D + T.length ≤ 1048576) (FF : FrameAt w Q a b c adL L.length capL) (vL : View w adL L.length (fun i => L.getD i 0)) (hlL : L.length ≤ 1048576)
    (c1 : w.cell? ⟨C1, 0, none⟩ = some (.pointer (some ⟨P, 0, none⟩))) (c2 : w.cell? ⟨C2, 0, none⟩ = some (.int .i64 (i : Int))) (c3 : w.cell? ⟨C3, 0, none⟩ = some (.pointer (some ⟨Q, 0, none⟩)))
    (hhi : hi ≤ base) (hP : P < base) (hQ : Q < base) (hLb : ∀ x, adL = some x → 0 < L.length → x.block < base) (hbw : base ≤ w.heap.size) (hOl : i < O.length)
    (hJ : ∀ k W W', J k W → Below W.heap.size W W' → J k W')
    (hSkip : ∀ k W, k < O.length → ((k : Int) = (i : Int) ∨ O.getD k false = false ∨ (outD (D.getD k (0, [])) a b c L).ok = false) → J k W → J (k + 1) W)
    (hY : ∀ (k : Nat) (W0 W : World) (ra rb rc : Int) (ad : Option Addr) (cap : Nat) (M : List Int), k < O.length → ¬ (k : Int) = (i : Int) → O.getD k false = true → outD (D.getD k (0, [])) a b c L = ⟨ra, rb, rc, M, true⟩ → J k W0 → Below W0.heap.size W0 W → View W ad M.length (fun j => M.getD j 0) → Room W ad M.length → (ad = none → cap = 0) → (∀ x, ad = some x → W0.heap.size ≤ x.block ∧ x.block < W.heap.size) →
      YieldAt Fence.wide 4 Tryz.prog l #[.agg #[.int .i64 (k : Int), .int .i64 ra, .int .i64 rb, .int .i64 rc, .slice ad M.length cap]] W (fun e W' => (e = .returned (.bool true) ∧ J (k + 1) W' ∧ KpW base C1 C2 C3 W W') ∨ (e = .returned (.bool false) ∧ Jx W')))
    (h0 : J 0 w) :
    Calls Tryz.prog 126 #[.func (.yield l) #[] #[], .pointer (some ⟨C1, 0, none⟩), .pointer (some ⟨C2, 0, none⟩), .pointer (some ⟨C3, 0, none⟩)] w fun e w' => (∃ v, e = .returned v) ∧ (J O.length w' ∨ Jx w') := by
  have lO : O.length ≤ 1048576 := by omega
  have lc1 : C1 < w.heap.size := World.block_lt_of_cell? w _ c1
  have lc2 : C2 < w.heap.size := World.block_lt_of_cell? w _ c2
  have lc3 : C3 < w.heap.size := World.block_lt_of_cell? w _ c3
  obtain ⟨bO, offO, eb, hcO⟩ := I.vO (by omega)
  subst eb
  have hiO : lo ≤ bO ∧ bO < hi := I.iO ⟨bO, offO, none⟩ rfl (by omega)
  obtain ⟨Ms, hD, vM, iM, jM⟩ := I.vM
  have hlen : D.length = Ms.length := by rw [← hD, List.length_map]
  have hDO : Ms.length = O.length := by
    unfold cOk at hC
    simp only [Bool.and_eq_true, decide_eq_true_eq] at hC
    omega
  have hget : ∀ k, D.getD k (0, []) = (Ms.getD k Mb.nil).d := fun k => by rw [← hD]; exact d_get Ms k
  have hts := tot_siz D
  have hmx : ∀ k, k < Ms.length → (Ms.getD k Mb.nil).L.length ≤ maxLen := fun k hk => by
    have := siz_max D (by omega) k (by omega)
    rw [hget k] at this
    exact this
  obtain ⟨bM, offM, eb, hrow⟩ := vM.row (by omega)
  subst eb
  have hbM : lo ≤ bM ∧ bM < hi := iM ⟨bM, offM, none⟩ rfl (by omega)
  have hmYa : ∀ Y : World, (∀ j, j < base → Y.heap[j]? = w.heap[j]?) → ∀ k, k < Ms.length → MbAt Y bM (offM + k * 2) (Ms.getD k Mb.nil) := fun Y hY k hk => (hrow k hk).same (hY bM (by omega))
  have hnYa : ∀ Y : World, (∀ j, j < base → Y.heap[j]? = w.heap[j]?) → ∀ k, k < Ms.length → MbL Y (Ms.getD k Mb.nil) := fun Y hY k hk => ViewI.carry (vM.nest k hk) (fun x e q => hY _ (by have := jM k hk x e q; omega))
  replace hlen : Hid (D.length = Ms.length) := hlen
  replace hDO : Hid (Ms.length = O.length) := hDO
  have AA' := AA
  obtain ⟨X1, X2, X3⟩ := AA'
  clear hC hrow iM vM hts hl
  go_enter Tryz.func126, Tryz.ntmps126
  go_wp2
  clear X1 X2 X3
  go_loopw [14] (fun it wr => ∃ k : Nat, it = .int .i64 (k : Int) ∧ k ≤ O.length ∧ J k wr ∧ KpW base C1 C2 C3 w wr) (fun it _ => O.length - (intOf it).toNat)
  case atStart => exact ⟨0, rfl, by omega, h0, KpW.refl _ _ _ _ _⟩
  case round =>
    obtain ⟨k, rfl, hk, hJk, hKp⟩ := hrel
    clear h0
    by_cases hlt : k < O.length
    rotate_left
    · have hlt' : ¬ (k : Int) < (O.length : Int) := by omega
      obtain rfl : k = O.length := by omega
      go_wp2
      go_end0
      exact ⟨⟨_, rfl⟩, .inl hJk⟩
    have hlt' : (k : Int) < (O.length : Int) := by omega
    have sr := hKp.1
    have gh : ∀ j, j < base → wr.heap[j]? = w.heap[j]? := fun j hj => hKp.2 j (.inl hj)
    have d1 : wr.cell? ⟨C1, 0, none⟩ = some (.pointer (some ⟨P, 0, none⟩)) := (World.cell?_of_block (a := ⟨C1, 0, none⟩) (hKp.2 C1 (.inr (.inl rfl)))).trans c1
    have d2 : wr.cell? ⟨C2, 0, none⟩ = some (.int .i64 (i : Int)) := (World.cell?_of_block (a := ⟨C2, 0, none⟩) (hKp.2 C2 (.inr (.inr (.inl rfl))))).trans c2
    have d3 : wr.cell? ⟨C3, 0, none⟩ = some (.pointer (some ⟨Q, 0, none⟩)) := (World.cell?_of_block (a := ⟨C3, 0, none⟩) (hKp.2 C3 (.inr (.inr (.inr rfl))))).trans c3
    have l1 : C1 < wr.heap.size := by omega
    have l3 : C3 < wr.heap.size := by omega
    have hck : wr.cell? ⟨bO, offO + k, none⟩ = some (.bool (O.getD k false)) := (World.cell?_of_block (a := ⟨bO, offO + k, none⟩) (gh bO (by omega))).trans (hcO k hlt)
    obtain ⟨q, hq0⟩ : ∃ q, O.getD k false = q := ⟨_, rfl⟩
    rw [hq0] at hck
    have hq : Hid (O.getD k false = q) := hq0
    clear hq0
    cases q with
    | false =>
      have hJ1 := hSkip k wr hlt (.inr (.inl hq.out)) hJk
      go_wp2
      go_roundw
      case rel => exact ⟨k + 1, by go_num, by omega, hJ1, hKp⟩
      case measure => simp [intOf]; omega
    | true =>
    by_cases hki : (k : Int) = (i : Int)
    · have hJ1 := hSkip k wr hlt (.inl hki) hJk
      have hki2 : ((k : Int) == (i : Int)) = true := by simp [hki]
      clear hki
      go_wp2
      go_roundw
      case rel => exact ⟨k + 1, by go_num, by omega, hJ1, hKp⟩
      case measure => simp [intOf]; omega
    have hki2 : ((k : Int) == (i : Int)) = false := by simpa using hki
    have hkM : k < Ms.length := by have := hDO.out; omega
    have AR : CdAt wr P (some ⟨bO, offO, none⟩) O.length cO (some ⟨bM, offM, none⟩) D.length cM adT T.length cT := AA.same (gh P hP)
    have FR' := FF.same (gh Q hQ)
    have vLr := vL.carry (w' := wr) (fun x e p => gh _ (hLb x e p))
    have hmY : ∀ Y, Below wr.heap.size wr Y → MbAt Y bM (offM + k * 2) (Ms.getD k Mb.nil) := fun Y hY => hmYa Y (fun j hj => (hY.block j (by omega)).trans (gh j hj)) k hkM
    have hnY : ∀ Y, Below wr.heap.size wr Y → MbL Y (Ms.getD k Mb.nil) := fun Y hY => hnYa Y (fun j hj => (hY.block j (by omega)).trans (gh j hj)) k hkM
    have hmk := hmx k hkM
    have hgk := hget k
    obtain ⟨m, hh⟩ : ∃ m, Ms.getD k Mb.nil = m := ⟨_, rfl⟩
    simp only [hh] at hmY hnY
    rw [hh] at hmk hgk
    unfold MbAt at hmY
    unfold MbL at hnY
    obtain ⟨s, hs⟩ : ∃ s, Hid (outR m.o (fun i => m.L.getD i 0) m.L.length a b c L = s) := ⟨_, rfl⟩
    have hgb : Hid (outD (D.getD k (0, [])) a b c L = s) := by unfold Hid; rw [hgk, ← hs.out]; rfl
    obtain ⟨ra, rb, rc, rM, rok⟩ := s
    have hkD : k < D.length := by have := hlen.out; omega
    have hPr : P < wr.heap.size := by omega
    have hQr : Q < wr.heap.size := by omega
    clear hgk hh
    go_wp2_with fail
    clear hck
    refine join_region (fun l l' W' => ∃ (NX : Nat) (adX : Option Addr) (capX : Nat) (us : List Value), us.length = 14 ∧ l' = l.take 7 ++ (.pointer (some ⟨NX, 0, none⟩) :: .bool rok :: (l.drop 9).take 17) ++ us ++ l.drop 40 ∧ FrameAt W' NX ra rb rc adX rM.length capX ∧ W'.ownsRow wr.heap.size 5 1 (.slice adX rM.length capX) rM.length (rM.map (Value.int .u8)) ∧ (∀ j, (Value.slice adX rM.length capX).ownBlock = some j → j ≠ NX) ∧ wr.heap.size ≤ NX ∧ Below wr.heap.size wr W') ?_ ?_
    rotate_left
    · intro K2 hT
      refine wp_region_held (S := fun Y => Below wr.heap.size wr Y) (by kernel_rfl) ?_
      change wpAnyH _ _ _ _ _ _ _ _ (World.drew _)
      have hb0 : Below wr.heap.size wr wr.drew := (Below.refl _ _).drew
      obtain ⟨y0, hy0⟩ : ∃ z, z = wr.drew := ⟨_, rfl⟩
      rw [← hy0] at hb0 ⊢
      have z0 := hb0.size
      clear hy0
      refine takeW 0 27 (.pointer (some ⟨P, 0, none⟩)) rfl rfl (by kernel_rfl) (by kernel_rfl) (by kernel_rfl) (fun _ _ _ h => h) (by kernel_rfl) (by (intro Y hSw; have X1 := (hSw.cell (p := ⟨C1, 0, none⟩) l1).trans d1; go_simp)) (by assumption) ?_
      simp only [List.set_cons_zero, List.set_cons_succ]
      refine takeW 1 28 (.pointer (some ⟨P, 0, none⟩)) rfl rfl (by kernel_rfl) (by kernel_rfl) (by kernel_rfl) (fun _ _ _ h => h) (by kernel_rfl) (by (intro w hSw; go_simp)) (by assumption) ?_
      simp only [List.set_cons_zero, List.set_cons_succ]
      refine takeW 2 29 (.pointer (some ⟨P, 1, none⟩)) rfl rfl (by kernel_rfl) (by kernel_rfl) (by kernel_rfl) (fun _ _ _ h => h) (by kernel_rfl) (by (intro w hSw; go_simp)) (by assumption) ?_
      simp only [List.set_cons_zero, List.set_cons_succ]
      refine takeW 3 30 (.slice (some ⟨bM, offM, none⟩) D.length cM) rfl rfl (by kernel_rfl) (by kernel_rfl) (by kernel_rfl) (fun _ _ _ h => h) (by kernel_rfl) (by (intro Y hSw; obtain ⟨X1, X2, X3⟩ := AR.below hSw (by omega); go_simp)) (by assumption) ?_
      simp only [List.set_cons_zero, List.set_cons_succ]
      refine takeW 4 31 (.int .i64 (k : Int)) rfl rfl (by kernel_rfl) (by kernel_rfl) (by kernel_rfl) (fun _ _ _ h => h) (by kernel_rfl) (by (intro w hSw; go_simp)) (by assumption) ?_
      simp only [List.set_cons_zero, List.set_cons_succ]
      refine takeW 5 32 (.pointer (some ⟨bM, offM + k * 2, none⟩)) rfl rfl (by kernel_rfl) (by kernel_rfl) (by kernel_rfl) (fun _ _ _ h => h) (by kernel_rfl) (by (intro Y hSw; go_simp; try omega)) (by assumption) ?_
      simp only [List.set_cons_zero, List.set_cons_succ]
      refine takeW 6 33 (.agg #[.int .i64 m.o, .slice m.ad m.L.length m.cap]) rfl rfl (by kernel_rfl) (by kernel_rfl) (by kernel_rfl) (fun _ _ _ h => h) (by kernel_rfl) (by (intro Y hSw; obtain ⟨X1, X2⟩ := hmY Y hSw; go_simp)) (by assumption) ?_
      simp only [List.set_cons_zero, List.set_cons_succ]
      refine takeW 7 34 (.pointer (some ⟨Q, 0, none⟩)) rfl rfl (by kernel_rfl) (by kernel_rfl) (by kernel_rfl) (fun _ _ _ h => h) (by kernel_rfl) (by (intro Y hSw; have X1 := (hSw.cell (p := ⟨C3, 0, none⟩) l3).trans d3; go_simp)) (by assumption) ?_
      simp only [List.set_cons_zero, List.set_cons_succ]
      refine takeW 8 35 (.pointer (some ⟨Q, 0, none⟩)) rfl rfl (by kernel_rfl) (by kernel_rfl) (by kernel_rfl) (fun _ _ _ h => h) (by kernel_rfl) (by (intro w hSw; go_simp)) (by assumption) ?_
      simp only [List.set_cons_zero, List.set_cons_succ]
      refine takeW 9 36 (.agg #[.int .i64 a, .int .i64 b, .int .i64 c, .slice adL L.length capL]) rfl rfl (by kernel_rfl) (by kernel_rfl) (by kernel_rfl) (fun _ _ _ h => h) (by kernel_rfl) (by (intro Y hSw; obtain ⟨X1, X2, X3, X4⟩ := FR'.below hSw (by omega); go_simp)) (by assumption) ?_
      simp only [List.set_cons_zero, List.set_cons_succ]
      have hby0 := hb0
      refine wpAnyH_all (rs := [10, 14]) (by kernel_rfl) (by simp) ?_
      intro i hi; rcases (by simpa using hi : i = 10 ∨ i = 14) with rfl | rfl
      · refine wpOp_step rfl (fun K hK => ?_)
        rw [if_pos (by kernel_rfl)]
        go_simp
        go_at_call 127
        refine (outsideI m.o m.ad m.L.length m.cap (fun i => m.L.getD i 0) a b c adL capL L y0 (hnY y0 hby0) hmk (vLr.carry (fun x e hp => hby0.block _ (vLr.lt x e hp))) hlL).mono ?_
        rintro e y1 ⟨adX, capX, rfl, oX, ky1⟩
        rw [hs.out] at oX ⊢
        simp only [] at oX ⊢
        have hby1 : Below wr.heap.size wr y1 := hby0.trans (ky1.mono hby0.size)
        have zy1 := ky1.size
        refine hK _ _ ⟨hby1, ?_⟩
        clear hK K hi
        refine takeW 11 26 (.tuple #[.agg #[.int .i64 ra, .int .i64 rb, .int .i64 rc, .slice adX rM.length capX], .bool rok]) rfl rfl (by kernel_rfl) (by kernel_rfl) (by kernel_rfl) (fun _ _ _ h => h) (by kernel_rfl) (by (intro w hSw; go_simp)) (by assumption) ?_
        simp only [List.set_cons_zero, List.set_cons_succ]
        refine takeW 12 38 (.agg #[.int .i64 ra, .int .i64 rb, .int .i64 rc, .slice adX rM.length capX]) rfl rfl (by kernel_rfl) (by kernel_rfl) (by kernel_rfl) (fun _ _ _ h => h) (by kernel_rfl) (by (intro w hSw; go_simp)) (by assumption) ?_
        simp only [List.set_cons_zero, List.set_cons_succ]
        refine takeW 13 39 (.bool rok) rfl rfl (by kernel_rfl) (by kernel_rfl) (by kernel_rfl) (fun _ _ _ h => h) (by kernel_rfl) (by (intro w hSw; go_simp)) (by assumption) ?_
        simp only [List.set_cons_zero, List.set_cons_succ]
        refine wpAnyH_all (rs := [14]) (by kernel_rfl) (by simp) ?_
        intro i hi; obtain rfl : i = 14 := by simpa using hi
        refine wpOp_step rfl (fun K hK => ?_)
        rw [if_pos (by kernel_rfl)]
        go_simp
        obtain ⟨NX, hNX⟩ : ∃ n, n = y1.heap.size := ⟨_, rfl⟩
        obtain ⟨y2, hy2⟩ : ∃ z, z = y1.alloc (Obj.cells #[.int .i64 0, .int .i64 0, .int .i64 0, .slice none 0 0] 30) := ⟨_, rfl⟩
        have ky2 : Below y1.heap.size y1 y2 := by rw [hy2]; exact below_box _ _
        have CX : FrameAt y2 NX 0 0 0 none 0 0 := by rw [hy2, hNX]; refine ⟨?_, ?_, ?_, ?_⟩ <;> simp [go_sem]
        have FX : ∀ i, y2.frozen? ⟨NX, i, none⟩ = false := by intro i; rw [hy2, hNX]; simp [go_sem]
        have tX := CX.lt
        have hNX' : y1.heap.size ≤ NX := by omega
        rw [← hNX, ← hy2]
        have hby2 : Below wr.heap.size wr y2 := hby1.trans (ky2.mono hby1.size)
        have zy2 := ky2.size
        clear hy2 hNX
        have nX : ∀ j, (Value.slice adX rM.length capX).ownBlock = some j → j ≠ NX := fun j q => by have := (own_lt oX j q).2; omega
        have oX := own_below2 oX ky2 (Nat.le_refl _)
        refine hK _ _ ⟨hby2, ?_⟩
        clear hK K hi
        have c0 := CX
        obtain ⟨c0, c1, c2, c3⟩ := c0
        have f0 := FX 0
        have f1 := FX 1
        have f2 := FX 2
        have f3 := FX 3
        obtain ⟨yF, hyF⟩ : ∃ z, z = (((y2.setCell ⟨NX, 0, none⟩ (.int .i64 ra)).setCell ⟨NX, 1, none⟩ (.int .i64 rb)).setCell ⟨NX, 2, none⟩ (.int .i64 rc)).setCell ⟨NX, 3, none⟩ (.slice adX rM.length capX) := ⟨_, rfl⟩
        have hF : ∀ j, j ≠ NX → yF.heap[j]? = y2.heap[j]? := fun j hj => by rw [hyF, Below.heap_setCell _ _ _ _ hj, Below.heap_setCell _ _ _ _ hj, Below.heap_setCell _ _ _ _ hj, Below.heap_setCell _ _ _ _ hj]
        have GX : FrameAt yF NX ra rb rc adX rM.length capX := by rw [hyF]; exact frame_put CX rfl
        have BF : Below wr.heap.size wr yF := by rw [hyF]; exact (((hby2.setCell (by show wr.heap.size ≤ NX; omega) _).setCell (by show wr.heap.size ≤ NX; omega) _).setCell (by show wr.heap.size ≤ NX; omega) _).setCell (by show wr.heap.size ≤ NX; omega) _
        have oF : yF.ownsRow wr.heap.size 5 1 (.slice adX rM.length capX) rM.length (rM.map (Value.int .u8)) := own_base (own_same oX (fun j q => hF j (nX j q))) (by omega)
        refine wpAnyH_all (rs := [15]) (by kernel_rfl) (by simp) ?_
        intro i hi; obtain rfl : i = 15 := by simpa using hi
        refine wpOp_step rfl (fun K hK => ?_)
        rw [if_pos (by kernel_rfl)]
        go_simp
        rw [← hyF]
        refine hK _ _ ⟨BF, ?_⟩
        clear hK K hi
        refine takeW 16 8 (.bool rok) rfl rfl (by kernel_rfl) (by kernel_rfl) (by kernel_rfl) (fun _ _ _ h => h) (by kernel_rfl) (by (intro w hSw; go_simp)) (by assumption) ?_
        simp only [List.set_cons_zero, List.set_cons_succ]
        refine wpAnyH_done (by kernel_rfl) ?_ _
        exact hT.out _ _ ⟨NX, adX, capX, [_, _, _, _, _, _, _, _, _, _, _, _, _, _], rfl, rfl, GX, oF, nX, by omega, BF⟩
      · refine wpOp_step rfl (fun K hK => ?_)
        rw [if_pos (by kernel_rfl)]
        go_simp
        obtain ⟨NX, hNX⟩ : ∃ n, n = y0.heap.size := ⟨_, rfl⟩
        obtain ⟨y1, hy1⟩ : ∃ z, z = y0.alloc (Obj.cells #[.int .i64 0, .int .i64 0, .int .i64 0, .slice none 0 0] 30) := ⟨_, rfl⟩
        have ky1 : Below y0.heap.size y0 y1 := by rw [hy1]; exact below_box _ _
        have CX : FrameAt y1 NX 0 0 0 none 0 0 := by rw [hy1, hNX]; refine ⟨?_, ?_, ?_, ?_⟩ <;> simp [go_sem]
        have FX : ∀ i, y1.frozen? ⟨NX, i, none⟩ = false := by intro i; rw [hy1, hNX]; simp [go_sem]
        have tX := CX.lt
        have hNX' : y0.heap.size ≤ NX := by omega
        rw [← hNX, ← hy1]
        have hby1 : Below wr.heap.size wr y1 := hby0.trans (ky1.mono hby0.size)
        have zy1 := ky1.size
        clear hy1 hNX
        refine hK _ _ ⟨hby1, ?_⟩
        clear hK K hi
        refine wpAnyH_all (rs := [10]) (by kernel_rfl) (by simp) ?_
        intro i hi; obtain rfl : i = 10 := by simpa using hi
        refine wpOp_step rfl (fun K hK => ?_)
        rw [if_pos (by kernel_rfl)]
        go_simp
        go_at_call 127
        refine (outsideI m.o m.ad m.L.length m.cap (fun i => m.L.getD i 0) a b c adL capL L y1 (hnY y1 hby1) hmk (vLr.carry (fun x e hp => hby1.block _ (vLr.lt x e hp))) hlL).mono ?_
        rintro e y2 ⟨adX, capX, rfl, oX, ky2⟩
        rw [hs.out] at oX ⊢
        simp only [] at oX ⊢
        have hby2 : Below wr.heap.size wr y2 := hby1.trans (ky2.mono hby1.size)
        have zy2 := ky2.size
        have nX : ∀ j, (Value.slice adX rM.length capX).ownBlock = some j → j ≠ NX := fun j q => by have := (own_lt oX j q).1; omega
        have CX := CX.below ky2 (by omega)
        have FX := fz_below FX ky2 (by omega)
        refine hK _ _ ⟨hby2, ?_⟩
        clear hK K hi
        refine takeW 11 26 (.tuple #[.agg #[.int .i64 ra, .int .i64 rb, .int .i64 rc, .slice adX rM.length capX], .bool rok]) rfl rfl (by kernel_rfl) (by kernel_rfl) (by kernel_rfl) (fun _ _ _ h => h) (by kernel_rfl) (by (intro w hSw; go_simp)) (by assumption) ?_
        simp only [List.set_cons_zero, List.set_cons_succ]
        refine takeW 12 38 (.agg #[.int .i64 ra, .int .i64 rb, .int .i64 rc, .slice adX rM.length capX]) rfl rfl (by kernel_rfl) (by kernel_rfl) (by kernel_rfl) (fun _ _ _ h => h) (by kernel_rfl) (by (intro w hSw; go_simp)) (by assumption) ?_
        simp only [List.set_cons_zero, List.set_cons_succ]
        refine takeW 13 39 (.bool rok) rfl rfl (by kernel_rfl) (by kernel_rfl) (by kernel_rfl) (fun _ _ _ h => h) (by kernel_rfl) (by (intro w hSw; go_simp)) (by assumption) ?_
        simp only [List.set_cons_zero, List.set_cons_succ]
        have c0 := CX
        obtain ⟨c0, c1, c2, c3⟩ := c0
        have f0 := FX 0
        have f1 := FX 1
        have f2 := FX 2
        have f3 := FX 3
        obtain ⟨yF, hyF⟩ : ∃ z, z = (((y2.setCell ⟨NX, 0, none⟩ (.int .i64 ra)).setCell ⟨NX, 1, none⟩ (.int .i64 rb)).setCell ⟨NX, 2, none⟩ (.int .i64 rc)).setCell ⟨NX, 3, none⟩ (.slice adX rM.length capX) := ⟨_, rfl⟩
        have hF : ∀ j, j ≠ NX → yF.heap[j]? = y2.heap[j]? := fun j hj => by rw [hyF, Below.heap_setCell _ _ _ _ hj, Below.heap_setCell _ _ _ _ hj, Below.heap_setCell _ _ _ _ hj, Below.heap_setCell _ _ _ _ hj]
        have GX : FrameAt yF NX ra rb rc adX rM.length capX := by rw [hyF]; exact frame_put CX rfl
        have BF : Below wr.heap.size wr yF := by rw [hyF]; exact (((hby2.setCell (by show wr.heap.size ≤ NX; omega) _).setCell (by show wr.heap.size ≤ NX; omega) _).setCell (by show wr.heap.size ≤ NX; omega) _).setCell (by show wr.heap.size ≤ NX; omega) _
        have oF : yF.ownsRow wr.heap.size 5 1 (.slice adX rM.length capX) rM.length (rM.map (Value.int .u8)) := own_base (own_same oX (fun j q => hF j (nX j q))) (by omega)
        refine wpAnyH_all (rs := [15]) (by kernel_rfl) (by simp) ?_
        intro i hi; obtain rfl : i = 15 := by simpa using hi
        refine wpOp_step rfl (fun K hK => ?_)
        rw [if_pos (by kernel_rfl)]
        go_simp
        rw [← hyF]
        refine hK _ _ ⟨BF, ?_⟩
        clear hK K hi
        refine takeW 16 8 (.bool rok) rfl rfl (by kernel_rfl) (by kernel_rfl) (by kernel_rfl) (fun _ _ _ h => h) (by kernel_rfl) (by (intro w hSw; go_simp)) (by assumption) ?_
        simp only [List.set_cons_zero, List.set_cons_succ]
        refine wpAnyH_done (by kernel_rfl) ?_ _
        exact hT.out _ _ ⟨NX, adX, capX, [_, _, _, _, _, _, _, _, _, _, _, _, _, _], rfl, rfl, GX, oF, nX, by omega, BF⟩
    rintro l' W9 ⟨NX, adX, capX, us, hul, rfl, GX, oX, nX, hNX, BX⟩
    obtain ⟨u26, us, rfl⟩ : ∃ a b, us = a :: b := List.exists_cons_of_length_eq_add_one hul
    replace hul := Nat.succ.inj hul
    obtain ⟨u27, us, rfl⟩ : ∃ a b, us = a :: b := List.exists_cons_of_length_eq_add_one hul
    replace hul := Nat.succ.inj hul
    obtain ⟨u28, us, rfl⟩ : ∃ a b, us = a :: b := List.exists_cons_of_length_eq_add_one hul
    replace hul := Nat.succ.inj hul
    obtain ⟨u29, us, rfl⟩ : ∃ a b, us = a :: b := List.exists_cons_of_length_eq_add_one hul
    replace hul := Nat.succ.inj hul
    obtain ⟨u30, us, rfl⟩ : ∃ a b, us = a :: b := List.exists_cons_of_length_eq_add_one hul
    replace hul := Nat.succ.inj hul
    obtain ⟨u31, us, rfl⟩ : ∃ a b, us = a :: b := List.exists_cons_of_length_eq_add_one hul
    replace hul := Nat.succ.inj hul
    obtain ⟨u32, us, rfl⟩ : ∃ a b, us = a :: b := List.exists_cons_of_length_eq_add_one hul
    replace hul := Nat.succ.inj hul
    obtain ⟨u33, us, rfl⟩ : ∃ a b, us = a :: b := List.exists_cons_of_length_eq_add_one hul
    replace hul := Nat.succ.inj hul
    obtain ⟨u34, us, rfl⟩ : ∃ a b, us = a :: b := List.exists_cons_of_length_eq_add_one hul
    replace hul := Nat.succ.inj hul
    obtain ⟨u35, us, rfl⟩ : ∃ a b, us = a :: b := List.exists_cons_of_length_eq_add_one hul
    replace hul := Nat.succ.inj hul
    obtain ⟨u36, us, rfl⟩ : ∃ a b, us = a :: b := List.exists_cons_of_length_eq_add_one hul
    replace hul := Nat.succ.inj hul
    obtain ⟨u37, us, rfl⟩ : ∃ a b, us = a :: b := List.exists_cons_of_length_eq_add_one hul
    replace hul := Nat.succ.inj hul
    obtain ⟨u38, us, rfl⟩ : ∃ a b, us = a :: b := List.exists_cons_of_length_eq_add_one hul
    replace hul := Nat.succ.inj hul
    obtain ⟨u39, us, rfl⟩ : ∃ a b, us = a :: b := List.exists_cons_of_length_eq_add_one hul
    replace hul := Nat.succ.inj hul
    obtain rfl : us = [] := List.eq_nil_of_length_eq_zero hul
    clear hul
    simp only [List.take, List.drop, List.cons_append, List.nil_append]
    have z9 := BX.size
    have KX := hKp.below BX hbw lc1 lc2 lc3
    cases rok with
    | false =>
      have hJ1 := hSkip k W9 hlt (.inr (.inr (by rw [hgb.out]))) (hJ k wr W9 hJk BX)
      go_wp2
      go_roundw
      case rel => exact ⟨k + 1, by go_num, by omega, hJ1, KX⟩
      case measure => simp [intOf]; omega
    | true =>
    obtain ⟨vX, rX, iX⟩ := own_view2 oX
    have zX := own_zeroW oX
    obtain ⟨fn, tmps, assign, body, hy, hR⟩ := hY k wr W9 ra rb rc adX capX rM hlt hki hq.out hgb.out hJk BX vX rX zX iX
    obtain ⟨h1, h2, h3, h4⟩ := GX
    clear hmY hnY hmk hs hgb vLr FR' AR hq hki
    rename_i hKK
    refine hKK _ _ ?_
    refine wp_seq_k (fun K3 hK3 => ?_)
    refine (wpIn_wide (n := 5)).1 ?_
    gi_wp2
    refine hR.mono ?_
    rintro e W3 (⟨rfl, hJ3, hk3⟩ | ⟨rfl, hJx3⟩)
    · gi_wp2
      go_wp2
      go_roundw
      case rel => exact ⟨k + 1, by go_num, by omega, hJ3, KX.trans hk3⟩
      case measure => simp [intOf]; omega
    · gi_wp2
      go_wp2
      refine bodyPost_ret (results_none rfl _ _ _) rfl ?_
      exact ⟨⟨_, rfl⟩, .inr hJx3⟩

end Go.Proofs.YtifndemkkaelaaaGreat
