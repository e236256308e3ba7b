/- Members and frames drawn of a code. -/
import Derived.Test.YtmeofihjimgldaaRows
import Derived.WalkKit
import Derived.ProofKit
import Derived.OpenShut
import Derived.ShutString
import Derived.ChangeOld
import Derived.Below
import Derived.Deep.QuietTactic
import Derived.BigQuiet
import Derived.WalkSmall
import Derived.Laws.OwnMore
import Derived.WalkSpells
import Derived.WalkLawsBesides
import Derived.Test.YtmeofihjimgldaaDraw2
import Derived.Test.YtmeofihjimgldaaDrawM
namespace Go.Proofs.Ytmeofihjimgldaa
open Go.ChangeShapes Go.WideShapes Go.ChangeAt Go.RowKit
open Go.ChangeMaps (open_string shut_string)
set_option linter.unusedVariables false

/-- What a draw of a member and a frame leaves. -/
def DrawnMF (w : World) (e : Ending) (w' : World) : Prop :=
  ∃ (own : Int) (LM : List Int) (adM : Option Addr) (capM : Nat) (a b c : Int) (L : List Int) (adL : Option Addr) (capL : Nat), e = .returned (.tuple #[.agg #[.int .i64 own, .slice adM LM.length capM], .agg #[.int .i64 a, .int .i64 b, .int .i64 c, .slice adL L.length capL]]) ∧
    w'.ownsRow w.heap.size 3 1 (.slice adM LM.length capM) LM.length (LM.map (Value.int .i64)) ∧ w'.ownsRow w.heap.size 5 1 (.slice adL L.length capL) L.length (L.map (Value.int .u8)) ∧ (∀ x ∈ L, 0 ≤ x ∧ x ≤ 255) ∧ LM.length ≤ 5 ∧ L.length ≤ 31 ∧ Below w.heap.size w w'
theorem mem_put {w : World} {P : Nat} {o : Int} {v : Value} {o0 : Int} {ad : Option Addr} {n cp : Nat} (h : MemAt w P o0 ad n cp) {ad' : Option Addr} {n' cp' : Nat} (e : v = .slice ad' n' cp') :
    MemAt ((w.setCell ⟨P, 0, none⟩ (.int .i64 o)).setCell ⟨P, 1, none⟩ v) P o ad' n' cp' := by
  obtain ⟨h0, h1⟩ := h
  subst e
  refine ⟨?_, ?_⟩ <;> simp [go_sem, *]
set_option maxHeartbeats 2000000 in
theorem drawMem (ad : Option Addr) (len cap : Nat) (f : Nat → Int) (w : World) (h : Code0 w ad len f) :
    Calls Try.prog 14 #[.slice ad len cap] w fun e w' => ∃ (own : Int) (L : List Int) (adL : Option Addr) (capL : Nat), e = .returned (.agg #[.int .i64 own, .slice adL L.length capL]) ∧ w'.ownsRow w.heap.size 3 1 (.slice adL L.length capL) L.length (L.map (Value.int .i64)) ∧ L.length ≤ 5 ∧ Below w.heap.size w w' := by
  obtain ⟨x, hx⟩ : ∃ x, x = w.alloc (Obj.cells #[.int .i64 0, .slice none 0 0] 26) := ⟨_, rfl⟩
  have R0 : MemAt x w.heap.size 0 none 0 0 := by rw [hx]; exact memAt_box w _ _ _ _ _
  have Z0 : ∀ i, x.frozen? ⟨w.heap.size, i, none⟩ = false := by intro i; rw [hx]; simp [go_sem]
  have B0 : Below w.heap.size w x := by rw [hx]; exact below_box w _
  have T0 : w.heap.size < x.heap.size := by rw [hx]; exact size_box w _
  have hx0 := h.later B0 (Nat.le_refl _)
  go_enter Try.func14, Try.ntmps14
  go_wp2_with fail
  go_at_call 34
  rw [← hx]
  clear hx
  refine (drawNew ad len cap f x hx0.view hx0.lt hx0.small hx0.bytes).mono ?_
  rintro e x1 ⟨rfl, hs, hb, hz0⟩
  have t1 : x.heap.size < x1.heap.size := by omega
  clear hz0
  go_wp2_with fail
  go_at_call 35
  refine (drawM x1 hs t1 (fun q e hp => by have := hx0.lt q e hp; omega)).mono ?_
  rintro e x2 ⟨own, L, ⟨adL, capL, rfl, oL, _, g⟩, hL⟩
  have sg := g.size
  have k2 : Below x.heap.size x x2 := hb.trans (grown_below g (Nat.le_refl _) (by omega))
  obtain ⟨D1, D2⟩ := R0.below k2 T0
  have Y0 := fz_below Z0 k2 T0
  have e0 := Y0 0
  have e1 := Y0 1
  have B2 := B0.trans (k2.mono (by omega))
  clear Y0 Z0 R0 hs hx0
  go_wp2
  refine bodyPost_ret (v := .agg #[.int .i64 own, .slice adL L.length capL]) (by simp [results, Try.results14, go_sem, *]) rfl ⟨own, L, adL, capL, rfl, ?_, hL, ?_⟩
  · refine own_base (own_keep oL (fun g hg => ?_)) (by omega : w.heap.size ≤ x1.heap.size)
    rw [Below.heap_setCell _ _ _ _ (by show g ≠ w.heap.size; omega), Below.heap_setCell _ _ _ _ (by show g ≠ w.heap.size; omega)]
  · exact (B2.setCell (by simp) _).setCell (by simp) _
set_option maxHeartbeats 2000000 in
theorem drawIn (ad : Option Addr) (len cap : Nat) (f : Nat → Int) (w : World) (h : Code0 w ad len f) :
    Calls Try.prog 11 #[.slice ad len cap] w fun e w' => DrawnMF w e w' := by
  obtain ⟨x, hx⟩ : ∃ x, x = (w.alloc (Obj.cells #[.int .i64 0, .slice none 0 0] 26)).alloc (Obj.cells #[.int .i64 0, .int .i64 0, .int .i64 0, .slice none 0 0] 28) := ⟨_, rfl⟩
  have R0 : MemAt x w.heap.size 0 none 0 0 := by rw [hx]; refine ⟨?_, ?_⟩ <;> simp [go_sem]
  have Q0 : FrameAt x (w.heap.size + 1) 0 0 0 none 0 0 := by rw [hx]; refine ⟨?_, ?_, ?_, ?_⟩ <;> simp [go_sem]
  have Z0 : ∀ i, x.frozen? ⟨w.heap.size, i, none⟩ = false := by intro i; rw [hx]; simp [go_sem]
  have Z1 : ∀ i, x.frozen? ⟨w.heap.size + 1, i, none⟩ = false := by intro i; rw [hx]; simp [go_sem]
  have B0 : Below w.heap.size w x := by rw [hx]; exact ((Below.refl _ _).alloc (Nat.le_refl _) _).alloc (by simp) _
  have T0 : w.heap.size + 1 < x.heap.size := by rw [hx]; simp
  have hx0 := h.later B0 (Nat.le_refl _)
  go_enter Try.func11, Try.ntmps11
  go_wp2_with fail
  go_at_call 34
  rw [← hx]
  clear hx
  refine (drawNew ad len cap f x hx0.view hx0.lt hx0.small hx0.bytes).mono ?_
  rintro e x1 ⟨rfl, hs, hb, hz0⟩
  have t1 : x.heap.size < x1.heap.size := by omega
  clear hz0
  go_wp2_with fail
  go_at_call 35
  refine (drawM x1 hs t1 (fun q e hp => by have := hx0.lt q e hp; omega)).mono ?_
  rintro e x2 ⟨own, LM, ⟨adM, capM, rfl, oM, hs2, g⟩, hLM⟩
  have sg := g.size
  have k2 : Below x.heap.size x x2 := hb.trans (grown_below g (Nat.le_refl _) (by omega))
  obtain ⟨x3, hx3⟩ : ∃ z, z = x2.alloc (Obj.cells #[.int .i64 own, .slice adM LM.length capM] 26) := ⟨_, rfl⟩
  have j3 : Below x2.heap.size x2 x3 := by rw [hx3]; exact below_box x2 _
  have t3 : x2.heap.size < x3.heap.size := by rw [hx3]; exact size_box x2 _
  have P3 : MemAt x3 x2.heap.size own adM LM.length capM := by rw [hx3]; exact memAt_box x2 _ _ _ _ _
  have oM3 := own_carry oM j3
  have hs3 := hs2.later j3
  have k3 : Below x.heap.size x x3 := k2.trans (j3.mono (by omega))
  clear hs hs2 oM g hb k2 j3
  go_wp2_with fail
  rw [← hx3]
  clear hx3
  refine wp_region_held (S := fun Y => MemAt Y x2.heap.size own adM LM.length capM) (by kernel_rfl) ?_
  change wpAnyH _ _ _ _ _ _ _ _ (World.drew _)
  obtain ⟨y0, hy⟩ : ∃ z, z = World.drew x3 := ⟨_, rfl⟩
  have ky : Below x3.heap.size x3 y0 := by rw [hy]; exact (Below.refl _ _).drew
  have sy := ky.size
  rw [← hy]
  clear hy
  have S0 := P3.below ky (by omega)
  have oMy := own_carry oM3 ky
  have hsy := hs3.later ky
  have kxy := k3.trans (ky.mono (by omega))
  refine takeW 0 10 (.agg #[.int .i64 own, .slice adM LM.length capM]) rfl rfl (by kernel_rfl) (by kernel_rfl) (by kernel_rfl) (fun _ _ _ h => h) (by kernel_rfl) (by (intro Y hSw; obtain ⟨C1, C2⟩ := hSw; go_simp)) (by assumption) ?_
  simp only [List.set_cons_zero, List.set_cons_succ]
  refine takeW 1 11 (.pointer (some ⟨x.heap.size, 0, none⟩)) rfl rfl (by kernel_rfl) (by kernel_rfl) (by kernel_rfl) (fun _ _ _ h => h) (by kernel_rfl) (by (intro w hSw; go_simp)) (by assumption) ?_
  simp only [List.set_cons_zero, List.set_cons_succ]
  refine wpAnyH_all (rs := [2]) (by kernel_rfl) (by simp) ?_
  intro i hi; obtain rfl : i = 2 := by simpa using hi
  refine wpOp_step rfl (fun K hK => ?_)
  rw [if_pos (by kernel_rfl)]
  go_simp
  go_at_call 36
  refine (drawF y0 hsy (by omega) (fun q e hp => by have := hx0.lt q e hp; omega)).mono ?_
  rintro e y1 ⟨a, b, c, L, ⟨adL, capL, rfl, oL, hLb, _, g1⟩, hL⟩
  have s1 := g1.size
  have S1 := S0.grown g1 (by omega)
  have oM1 := own_grown oMy g1 (by omega)
  have kx1 : Below x.heap.size x y1 := kxy.trans (grown_below g1 (Nat.le_refl _) (by omega))
  have By1 : Below w.heap.size w y1 := B0.trans (kx1.mono (by omega))
  have RM := R0.below kx1 (by omega)
  have ZM := fz_below Z0 kx1 (by omega)
  have RF := Q0.below kx1 (by omega)
  have ZF := fz_below Z1 kx1 (by omega)
  refine hK _ _ ⟨S1, ?_⟩
  clear hK K hi
  refine wpAnyH_all (rs := [3]) (by kernel_rfl) (by simp) ?_
  intro i hi; obtain rfl : i = 3 := by simpa using hi
  refine wpOp_step rfl (fun K hK => ?_)
  rw [if_pos (by kernel_rfl)]
  obtain ⟨p0, p1⟩ := RM
  have w0 := ZM 0
  have w1 := ZM 1
  go_simp
  clear w0 w1
  obtain ⟨y2, hy⟩ : ∃ z, z = (y1.setCell ⟨w.heap.size, 0, none⟩ (.int .i64 own)).setCell ⟨w.heap.size, 1, none⟩ (.slice adM LM.length capM) := ⟨_, rfl⟩
  have kky2 : ∀ g, g ≠ w.heap.size → y2.heap[g]? = y1.heap[g]? := fun g hg => by rw [hy, Below.heap_setCell _ _ _ _ hg, Below.heap_setCell _ _ _ _ hg]
  have FM : MemAt y2 w.heap.size own adM LM.length capM := by rw [hy]; exact mem_put ⟨p0, p1⟩ rfl
  have By2 : Below w.heap.size w y2 := by rw [hy]; exact (By1.setCell (by simp) _).setCell (by simp) _
  have zzy2 : y2.heap.size = y1.heap.size := by rw [hy]; simp
  rw [← hy]
  clear hy p0 p1
  have S2 := S1.same (kky2 _ (by omega))
  have RF := RF.same (kky2 _ (by omega))
  have ZF : ∀ i, y2.frozen? ⟨w.heap.size + 1, i, none⟩ = false := fun i => (World.frozen?_of_block (a := ⟨w.heap.size + 1, i, none⟩) (kky2 _ (by show w.heap.size + 1 ≠ _; omega))).trans (ZF i)
  refine hK _ _ ⟨S2, ?_⟩
  clear hK K hi
  refine wpAnyH_all (rs := [4]) (by kernel_rfl) (by simp) ?_
  intro i hi; obtain rfl : i = 4 := by simpa using hi
  refine wpOp_step rfl (fun K hK => ?_)
  rw [if_pos (by kernel_rfl)]
  obtain ⟨p0, p1, p2, p3⟩ := RF
  have w0 := ZF 0
  have w1 := ZF 1
  have w2 := ZF 2
  have w3 := ZF 3
  go_simp
  clear w0 w1 w2 w3
  obtain ⟨y3, hy⟩ : ∃ z, z = (((y2.setCell ⟨w.heap.size + 1, 0, none⟩ (.int .i64 a)).setCell ⟨w.heap.size + 1, 1, none⟩ (.int .i64 b)).setCell ⟨w.heap.size + 1, 2, none⟩ (.int .i64 c)).setCell ⟨w.heap.size + 1, 3, none⟩ (.slice adL L.length capL) := ⟨_, rfl⟩
  have kky3 : ∀ g, g ≠ w.heap.size + 1 → y3.heap[g]? = y2.heap[g]? := fun g hg => by rw [hy, Below.heap_setCell _ _ _ _ hg, Below.heap_setCell _ _ _ _ hg, Below.heap_setCell _ _ _ _ hg, Below.heap_setCell _ _ _ _ hg]
  have FF : FrameAt y3 (w.heap.size + 1) a b c adL L.length capL := by rw [hy]; exact frame_put ⟨p0, p1, p2, p3⟩ rfl
  have By3 : Below w.heap.size w y3 := by rw [hy]; exact (((By2.setCell (by simp) _).setCell (by simp) _).setCell (by simp) _).setCell (by simp) _
  have zzy3 : y3.heap.size = y2.heap.size := by rw [hy]; simp
  rw [← hy]
  clear hy p0 p1 p2 p3
  have S3 := S2.same (kky3 _ (by omega))
  have FM := FM.same (kky3 _ (by omega))
  refine hK _ _ ⟨S3, ?_⟩
  clear hK K hi
  refine wpAnyH_done (by kernel_rfl) ?_ _
  have oMe := own_keep oM1 (w' := y3) (fun g hg => (kky3 g (by omega)).trans (kky2 g (by omega)))
  have oLe := own_keep oL (w' := y3) (fun g hg => (kky3 g (by omega)).trans (kky2 g (by omega)))
  obtain ⟨D1, D2⟩ := FM
  obtain ⟨E1, E2, E3, E4⟩ := FF
  clear ZM ZF S1 S2 S3 oL oM1
  go_wp2
  refine bodyPost_ret (v := .tuple #[(.agg #[.int .i64 own, .slice adM LM.length capM]), (.agg #[.int .i64 a, .int .i64 b, .int .i64 c, .slice adL L.length capL])]) (by simp [results, Try.results11, go_sem, *]) rfl ⟨own, LM, adM, capM, a, b, c, L, adL, capL, rfl, own_base oMe (by omega), own_base oLe (by omega), hLb, hLM, hL, By3⟩
set_option maxHeartbeats 2000000 in
theorem drawOut (ad : Option Addr) (len cap : Nat) (f : Nat → Int) (w : World) (h : Code0 w ad len f) :
    Calls Try.prog 8 #[.slice ad len cap] w fun e w' => DrawnMF w e w' := by
  obtain ⟨x, hx⟩ : ∃ x, x = (w.alloc (Obj.cells #[.int .i64 0, .slice none 0 0] 26)).alloc (Obj.cells #[.int .i64 0, .int .i64 0, .int .i64 0, .slice none 0 0] 28) := ⟨_, rfl⟩
  have R0 : MemAt x w.heap.size 0 none 0 0 := by rw [hx]; refine ⟨?_, ?_⟩ <;> simp [go_sem]
  have Q0 : FrameAt x (w.heap.size + 1) 0 0 0 none 0 0 := by rw [hx]; refine ⟨?_, ?_, ?_, ?_⟩ <;> simp [go_sem]
  have Z0 : ∀ i, x.frozen? ⟨w.heap.size, i, none⟩ = false := by intro i; rw [hx]; simp [go_sem]
  have Z1 : ∀ i, x.frozen? ⟨w.heap.size + 1, i, none⟩ = false := by intro i; rw [hx]; simp [go_sem]
  have B0 : Below w.heap.size w x := by rw [hx]; exact ((Below.refl _ _).alloc (Nat.le_refl _) _).alloc (by simp) _
  have T0 : w.heap.size + 1 < x.heap.size := by rw [hx]; simp
  have hx0 := h.later B0 (Nat.le_refl _)
  go_enter Try.func8, Try.ntmps8
  go_wp2_with fail
  go_at_call 11
  rw [← hx]
  clear hx
  refine (drawIn ad len cap f x hx0).mono ?_
  rintro e x1 ⟨own, LM, adM, capM, a, b, c, L, adL, capL, rfl, oM, oL, hLb, hLM, hL, k1⟩
  have s1 := k1.size
  obtain ⟨x2, hx2⟩ : ∃ z, z = (x1.alloc (Obj.cells #[.int .i64 own, .slice adM LM.length capM] 26)).alloc (Obj.cells #[.int .i64 a, .int .i64 b, .int .i64 c, .slice adL L.length capL] 28) := ⟨_, rfl⟩
  have j2 : Below x1.heap.size x1 x2 := by rw [hx2]; exact ((Below.refl _ _).alloc (Nat.le_refl _) _).alloc (by simp) _
  have t2 : x1.heap.size + 1 < x2.heap.size := by rw [hx2]; simp
  have P2 : MemAt x2 x1.heap.size own adM LM.length capM := by rw [hx2]; refine ⟨?_, ?_⟩ <;> simp [go_sem]
  have G2 : FrameAt x2 (x1.heap.size + 1) a b c adL L.length capL := by rw [hx2]; refine ⟨?_, ?_, ?_, ?_⟩ <;> simp [go_sem]
  have oM2 := own_carry oM j2
  have oL2 := own_carry oL j2
  have k2 : Below x.heap.size x x2 := k1.trans (j2.mono (by omega))
  clear oM oL
  go_wp2_with fail
  rw [← hx2]
  clear hx2
  refine wp_region_held (S := fun Y => MemAt Y x1.heap.size own adM LM.length capM ∧ FrameAt Y (x1.heap.size + 1) a b c adL L.length capL) (by kernel_rfl) ?_
  change wpAnyH _ _ _ _ _ _ _ _ (World.drew _)
  obtain ⟨y0, hy⟩ : ∃ z, z = World.drew x2 := ⟨_, rfl⟩
  have ky : Below x2.heap.size x2 y0 := by rw [hy]; exact (Below.refl _ _).drew
  have sy := ky.size
  rw [← hy]
  clear hy
  have S0 : MemAt y0 x1.heap.size own adM LM.length capM ∧ FrameAt y0 (x1.heap.size + 1) a b c adL L.length capL := ⟨P2.below ky (by omega), G2.below ky (by omega)⟩
  have kx1 := k2.trans (ky.mono (by omega))
  have By0 : Below w.heap.size w y0 := B0.trans (kx1.mono (by omega))
  have RM := R0.below kx1 (by omega)
  have ZM := fz_below Z0 kx1 (by omega)
  have RF := Q0.below kx1 (by omega)
  have ZF := fz_below Z1 kx1 (by omega)
  refine takeW 0 11 (.agg #[.int .i64 own, .slice adM LM.length capM]) rfl rfl (by kernel_rfl) (by kernel_rfl) (by kernel_rfl) (fun _ _ _ h => h) (by kernel_rfl) (by (intro Y hSw; obtain ⟨⟨C1, C2⟩, _⟩ := hSw; go_simp)) (by assumption) ?_
  simp only [List.set_cons_zero, List.set_cons_succ]
  refine takeW 1 12 (.agg #[.int .i64 a, .int .i64 b, .int .i64 c, .slice adL L.length capL]) rfl rfl (by kernel_rfl) (by kernel_rfl) (by kernel_rfl) (fun _ _ _ h => h) (by kernel_rfl) (by (intro Y hSw; obtain ⟨_, C1, C2, C3, C4⟩ := hSw; go_simp)) (by assumption) ?_
  simp only [List.set_cons_zero, List.set_cons_succ]
  refine wpAnyH_all (rs := [2]) (by kernel_rfl) (by simp) ?_
  intro i hi; obtain rfl : i = 2 := by simpa using hi
  refine wpOp_step rfl (fun K hK => ?_)
  rw [if_pos (by kernel_rfl)]
  obtain ⟨p0, p1⟩ := RM
  have w0 := ZM 0
  have w1 := ZM 1
  go_simp
  clear w0 w1
  obtain ⟨y2, hy⟩ : ∃ z, z = (y0.setCell ⟨w.heap.size, 0, none⟩ (.int .i64 own)).setCell ⟨w.heap.size, 1, none⟩ (.slice adM LM.length capM) := ⟨_, rfl⟩
  have kky2 : ∀ g, g ≠ w.heap.size → y2.heap[g]? = y0.heap[g]? := fun g hg => by rw [hy, Below.heap_setCell _ _ _ _ hg, Below.heap_setCell _ _ _ _ hg]
  have FM : MemAt y2 w.heap.size own adM LM.length capM := by rw [hy]; exact mem_put ⟨p0, p1⟩ rfl
  have By2 : Below w.heap.size w y2 := by rw [hy]; exact (By0.setCell (by simp) _).setCell (by simp) _
  have zzy2 : y2.heap.size = y0.heap.size := by rw [hy]; simp
  rw [← hy]
  clear hy p0 p1
  have S2 : MemAt y2 x1.heap.size own adM LM.length capM ∧ FrameAt y2 (x1.heap.size + 1) a b c adL L.length capL := ⟨S0.1.same (kky2 _ (by omega)), S0.2.same (kky2 _ (by omega))⟩
  have RF := RF.same (kky2 _ (by omega))
  have ZF : ∀ i, y2.frozen? ⟨w.heap.size + 1, i, none⟩ = false := fun i => (World.frozen?_of_block (a := ⟨w.heap.size + 1, i, none⟩) (kky2 _ (by show w.heap.size + 1 ≠ _; omega))).trans (ZF i)
  refine hK _ _ ⟨S2, ?_⟩
  clear hK K hi
  refine wpAnyH_all (rs := [3]) (by kernel_rfl) (by simp) ?_
  intro i hi; obtain rfl : i = 3 := by simpa using hi
  refine wpOp_step rfl (fun K hK => ?_)
  rw [if_pos (by kernel_rfl)]
  obtain ⟨p0, p1, p2, p3⟩ := RF
  have w0 := ZF 0
  have w1 := ZF 1
  have w2 := ZF 2
  have w3 := ZF 3
  go_simp
  clear w0 w1 w2 w3
  obtain ⟨y3, hy⟩ : ∃ z, z = (((y2.setCell ⟨w.heap.size + 1, 0, none⟩ (.int .i64 a)).setCell ⟨w.heap.size + 1, 1, none⟩ (.int .i64 b)).setCell ⟨w.heap.size + 1, 2, none⟩ (.int .i64 c)).setCell ⟨w.heap.size + 1, 3, none⟩ (.slice adL L.length capL) := ⟨_, rfl⟩
  have kky3 : ∀ g, g ≠ w.heap.size + 1 → y3.heap[g]? = y2.heap[g]? := fun g hg => by rw [hy, Below.heap_setCell _ _ _ _ hg, Below.heap_setCell _ _ _ _ hg, Below.heap_setCell _ _ _ _ hg, Below.heap_setCell _ _ _ _ hg]
  have FF : FrameAt y3 (w.heap.size + 1) a b c adL L.length capL := by rw [hy]; exact frame_put ⟨p0, p1, p2, p3⟩ rfl
  have By3 : Below w.heap.size w y3 := by rw [hy]; exact (((By2.setCell (by simp) _).setCell (by simp) _).setCell (by simp) _).setCell (by simp) _
  have zzy3 : y3.heap.size = y2.heap.size := by rw [hy]; simp
  rw [← hy]
  clear hy p0 p1 p2 p3
  have S3 : MemAt y3 x1.heap.size own adM LM.length capM ∧ FrameAt y3 (x1.heap.size + 1) a b c adL L.length capL := ⟨S2.1.same (kky3 _ (by omega)), S2.2.same (kky3 _ (by omega))⟩
  have FM := FM.same (kky3 _ (by omega))
  refine hK _ _ ⟨S3, ?_⟩
  clear hK K hi
  refine wpAnyH_done (by kernel_rfl) ?_ _
  have oMe := own_keep (own_carry oM2 ky) (w' := y3) (fun g hg => (kky3 g (by omega)).trans (kky2 g (by omega)))
  have oLe := own_keep (own_carry oL2 ky) (w' := y3) (fun g hg => (kky3 g (by omega)).trans (kky2 g (by omega)))
  obtain ⟨D1, D2⟩ := FM
  obtain ⟨E1, E2, E3, E4⟩ := FF
  clear ZM ZF S0 S2 S3 oM2 oL2
  go_wp2
  refine bodyPost_ret (v := .tuple #[(.agg #[.int .i64 own, .slice adM LM.length capM]), (.agg #[.int .i64 a, .int .i64 b, .int .i64 c, .slice adL L.length capL])]) (by simp [results, Try.results8, go_sem, *]) rfl ⟨own, LM, adM, capM, a, b, c, L, adL, capL, rfl, own_base oMe (by omega), own_base oLe (by omega), hLb, hLM, hL, By3⟩

end Go.Proofs.Ytmeofihjimgldaa
