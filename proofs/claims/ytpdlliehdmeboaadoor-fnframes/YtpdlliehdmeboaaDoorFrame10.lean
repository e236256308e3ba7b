/- impl.frameRead and impl.FrameOf, walked. -/
import Derived.Test.YtpdlliehdmeboaaDoorRows
import Derived.WalkKit
import Derived.ProofKit
import Derived.OpenShut
import Derived.ShutString
import Derived.ChangeOld
import Derived.Below
import Derived.Deep.QuietTactic
import Derived.BigQuiet
import Derived.WalkSmall
import Derived.Laws.OwnMore
import Derived.WalkSpells
import Derived.WalkLawsBesides
import Derived.Test.YtpdlliehdmeboaaDoorFrame9
import Derived.Test.YtpdlliehdmeboaaDoorTakes
namespace Go.Proofs.YtpdlliehdmeboaaDoor
open Go.ChangeShapes Go.WideShapes Go.ChangeAt Go.RowKit
open Go.ChangeMaps (open_string shut_string)
set_option linter.unusedVariables false

theorem low4_bd (s : Int) : ∀ x ∈ low4 s, 0 ≤ x ∧ x ≤ 255 := by
  intro x hx
  simp [low4] at hx
  omega
theorem written_bd (a b c : Int) (M : List Int) (hM : ∀ x ∈ M, 0 ≤ x ∧ x ≤ 255) : ∀ x ∈ written a b c M, 0 ≤ x ∧ x ≤ 255 := by
  unfold written
  split
  · rename_i h
    intro x hx
    rcases List.mem_append.1 hx with hx | hx
    · exact body_bd h hM x hx
    · exact low4_bd _ x hx
  · intro x hx; simp at hx
/-- What frameRead leaves: nil, or a frame that it owns. -/
def ReadEnd (B : Nat) (r : FR) (e : Ending) (w' : World) : Prop :=
  (r.ok = false ∧ e = .returned (.pointer none)) ∨
  (r.ok = true ∧ ∃ P ad cap, e = .returned (.pointer (some ⟨P, 0, none⟩)) ∧ B ≤ P ∧ FrameAt w' P r.a r.b r.c ad r.M.length cap ∧ w'.ownsRow B 5 1 (.slice ad r.M.length cap) r.M.length (r.M.map (Value.int .u8)))
set_option maxHeartbeats 1000000 in
theorem frameRead (ad : Option Addr) (cap : Nat) (L : List Int) (w : World) (hv : View w ad L.length (fun i => L.getD i 0)) (hL : ∀ x ∈ L, 0 ≤ x ∧ x ≤ 255) (hm : L.length ≤ 1048576) (hcap : L.length ≤ cap) (hcm : cap ≤ maxLen)
    (tp : TypeId) (pv : Value) (hs : w.cell? ⟨0, 0, none⟩ = some (.iface tp pv)) :
    Calls Tryd.prog 28 #[.slice ad L.length cap] w fun e w' => ReadEnd w.heap.size (frameOf L) e w' ∧ Below w.heap.size w w' := by
  have hbd := getD_bd hL
  have hB : ∀ a, ad = some a → 0 < L.length → a.block < w.heap.size := fun a h hp => hv.lt a h hp
  have hG := getImpl ad L.length cap (fun i => L.getD i 0) 3 w hv hB hm hbd (by omega) (by omega) tp pv hs
  have h3 : ∀ i, (3 : Int).toNat + i = 3 + i := fun i => rfl
  rcases of_ways L with ⟨h, e⟩ | ⟨p, q, h, hp, hq, hpl, hne, e⟩ | ⟨p, q, h, hp, hlen, e⟩
  · rw [show getFrom (L.length : Int) 3 (fun i => L.getD ((3 : Int).toNat + i) 0) 5 0 = none from h] at hG
    rw [e]
    clear e h
    go_enter Tryd.func28, Tryd.ntmps28
    go_wp2_with fail
    go_at_call 44
    refine hG.mono ?_
    rintro e w3 ⟨rfl, k3⟩
    simp only [getRes]
    go_wp2
    go_ret
    exact ⟨.inl ⟨rfl, rfl⟩, k3⟩
  · rw [show getFrom (L.length : Int) 3 (fun i => L.getD ((3 : Int).toNat + i) 0) 5 0 = some ((q : Int), (p : Int)) from h] at hG
    rw [e]
    clear e h
    have hd : decide ((q : Int) = (L.length : Int) - (p : Int) - 4) = false := decide_eq_false hne
    go_enter Tryd.func28, Tryd.ntmps28
    go_wp2_with fail
    go_at_call 44
    refine hG.mono ?_
    rintro e w3 ⟨rfl, k3⟩
    simp only [getRes]
    go_wp2
    go_ret
    exact ⟨.inl ⟨rfl, rfl⟩, k3⟩
  · rw [show getFrom (L.length : Int) 3 (fun i => L.getD ((3 : Int).toNat + i) 0) 5 0 = some ((q : Int), (p : Int)) from h] at hG
    rw [e]
    clear e h
    obtain ⟨bb, off, rfl, hc⟩ := hv (by omega)
    have cut0 := cut_view hv p q (by omega)
    have cutb := cut_bd hL p q
    obtain ⟨M, hM⟩ : ∃ M, M = (L.drop p).take q := ⟨_, rfl⟩
    have hMq : M.length = q := by rw [hM]; simp; omega
    rw [← hM] at cut0 cutb ⊢
    clear hM
    subst hMq
    obtain ⟨g0, hg0⟩ : ∃ g, g = L.getD 0 0 := ⟨_, rfl⟩
    obtain ⟨g1, hg1⟩ : ∃ g, g = L.getD 1 0 := ⟨_, rfl⟩
    obtain ⟨g2, hg2⟩ : ∃ g, g = L.getD 2 0 := ⟨_, rfl⟩
    rw [← hg0, ← hg1, ← hg2]
    have c0 := hc 0 (by omega)
    have c1 := hc 1 (by omega)
    have c2 := hc 2 (by omega)
    have d0 := hbd 0
    have d1 := hbd 1
    have d2 := hbd 2
    simp only [] at c0 c1 c2
    rw [← hg0] at c0 d0
    rw [← hg1] at c1 d1
    rw [← hg2] at c2 d2
    rw [Nat.add_zero] at c0
    clear hg0 hg1 hg2 hc
    have x0 : IntKind.i64.wrap g0 = g0 := by rw [IntKind.wrap_i64]; omega
    have x1 : IntKind.i64.wrap g1 = g1 := by rw [IntKind.wrap_i64]; omega
    have x2 : IntKind.i64.wrap g2 = g2 := by rw [IntKind.wrap_i64]; omega
    have hbl : bb < w.heap.size := World.block_lt_of_cell? w _ c0
    have hq4 : (L.length : Int) - (p : Int) - 4 = (M.length : Int) := by omega
    have hpq : (p : Int) + (M.length : Int) ≤ (cap : Int) := by omega
    have hpq' : p + M.length ≤ cap := by omega
    have hcp0 : p < cap := by omega
    have hMm : M.length ≤ 1048576 := by omega
    have hL0 : 3 < L.length := by omega
    have hmx : (cap : Int) ≤ 9223372036854775807 := by unfold maxLen at hcm; omega
    clear hlen
    have xw : IntKind.i64.wrap ((p : Int) + (M.length : Int)) = (p : Int) + (M.length : Int) := by rw [IntKind.wrap_i64]; omega
    have hcp : ¬ cap = p := by omega
    have htn : ((p : Int) + (M.length : Int)).toNat = p + M.length := by omega
    have hge : 0 ≤ (p : Int) + (M.length : Int) := by omega
    go_enter Tryd.func28, Tryd.ntmps28
    go_wp2_with fail
    go_at_call 44
    refine hG.mono ?_
    clear hG
    rintro e w3 ⟨rfl, k3⟩
    simp only [getRes]
    have hc0 : ∀ Y, Below w3.heap.size w3 Y → Y.cell? ⟨bb, off, none⟩ = some (.int .u8 g0) := fun Y h => ((k3.trans (h.mono k3.size)).cell (p := ⟨bb, off, none⟩) hbl).trans c0
    have hc1 : ∀ Y, Below w3.heap.size w3 Y → Y.cell? ⟨bb, off + 1, none⟩ = some (.int .u8 g1) := fun Y h => ((k3.trans (h.mono k3.size)).cell (p := ⟨bb, off + 1, none⟩) hbl).trans c1
    have hc2 : ∀ Y, Below w3.heap.size w3 Y → Y.cell? ⟨bb, off + 2, none⟩ = some (.int .u8 g2) := fun Y h => ((k3.trans (h.mono k3.size)).cell (p := ⟨bb, off + 2, none⟩) hbl).trans c2
    have cut := cut0.carry (w' := w3) (fun x h hp => k3.block _ (cut0.lt x h hp))
    go_wp2_with fail
    refine wp_region_held (S := fun Y => Below w3.heap.size w3 Y) (by kernel_rfl) ?_
    change wpAnyH _ _ _ _ _ _ _ _ (World.drew _)
    have hb0 : Below w3.heap.size w3 w3.drew := (Below.refl _ _).drew
    refine takeW 0 24 (.slice (some ⟨bb, off, none⟩) L.length cap) rfl rfl (by kernel_rfl) (by kernel_rfl) (by kernel_rfl) (fun _ _ _ h => h) (by kernel_rfl) (by (intro w hSw; go_simp)) (by assumption) ?_
    simp only [List.set_cons_zero, List.set_cons_succ]
    refine takeW 1 25 (.pointer (some ⟨bb, off, none⟩)) rfl rfl (by kernel_rfl) (by kernel_rfl) (by kernel_rfl) (fun _ _ _ h => h) (by kernel_rfl) (by (intro w hSw; go_simp; intro hh; exfalso; first | omega | (rw [hh] at hL0; simp at hL0))) (by assumption) ?_
    simp only [List.set_cons_zero, List.set_cons_succ]
    refine takeW 2 26 (.int .u8 g0) rfl rfl (by kernel_rfl) (by kernel_rfl) (by kernel_rfl) (fun _ _ _ h => h) (by kernel_rfl) (by (intro Y hSw; have hq := hc0 Y hSw; go_simp)) (by assumption) ?_
    simp only [List.set_cons_zero, List.set_cons_succ]
    refine takeW 3 27 (.int .i64 g0) rfl rfl (by kernel_rfl) (by kernel_rfl) (by kernel_rfl) (fun _ _ _ h => h) (by kernel_rfl) (by (intro w hSw; go_simp)) (by assumption) ?_
    simp only [List.set_cons_zero, List.set_cons_succ]
    refine takeW 4 28 (.slice (some ⟨bb, off, none⟩) L.length cap) rfl rfl (by kernel_rfl) (by kernel_rfl) (by kernel_rfl) (fun _ _ _ h => h) (by kernel_rfl) (by (intro w hSw; go_simp)) (by assumption) ?_
    simp only [List.set_cons_zero, List.set_cons_succ]
    refine takeW 5 29 (.pointer (some ⟨bb, off + 1, none⟩)) rfl rfl (by kernel_rfl) (by kernel_rfl) (by kernel_rfl) (fun _ _ _ h => h) (by kernel_rfl) (by (intro w hSw; go_simp; intro hh; exfalso; first | omega | (rw [hh] at hL0; simp at hL0))) (by assumption) ?_
    simp only [List.set_cons_zero, List.set_cons_succ]
    refine takeW 6 30 (.int .u8 g1) rfl rfl (by kernel_rfl) (by kernel_rfl) (by kernel_rfl) (fun _ _ _ h => h) (by kernel_rfl) (by (intro Y hSw; have hq := hc1 Y hSw; go_simp)) (by assumption) ?_
    simp only [List.set_cons_zero, List.set_cons_succ]
    refine takeW 7 31 (.int .i64 g1) rfl rfl (by kernel_rfl) (by kernel_rfl) (by kernel_rfl) (fun _ _ _ h => h) (by kernel_rfl) (by (intro w hSw; go_simp)) (by assumption) ?_
    simp only [List.set_cons_zero, List.set_cons_succ]
    refine takeW 8 32 (.slice (some ⟨bb, off, none⟩) L.length cap) rfl rfl (by kernel_rfl) (by kernel_rfl) (by kernel_rfl) (fun _ _ _ h => h) (by kernel_rfl) (by (intro w hSw; go_simp)) (by assumption) ?_
    simp only [List.set_cons_zero, List.set_cons_succ]
    refine takeW 9 33 (.pointer (some ⟨bb, off + 2, none⟩)) rfl rfl (by kernel_rfl) (by kernel_rfl) (by kernel_rfl) (fun _ _ _ h => h) (by kernel_rfl) (by (intro w hSw; go_simp; intro hh; exfalso; first | omega | (rw [hh] at hL0; simp at hL0))) (by assumption) ?_
    simp only [List.set_cons_zero, List.set_cons_succ]
    refine takeW 10 34 (.int .u8 g2) rfl rfl (by kernel_rfl) (by kernel_rfl) (by kernel_rfl) (fun _ _ _ h => h) (by kernel_rfl) (by (intro Y hSw; have hq := hc2 Y hSw; go_simp)) (by assumption) ?_
    simp only [List.set_cons_zero, List.set_cons_succ]
    refine takeW 11 35 (.int .i64 g2) rfl rfl (by kernel_rfl) (by kernel_rfl) (by kernel_rfl) (fun _ _ _ h => h) (by kernel_rfl) (by (intro w hSw; go_simp)) (by assumption) ?_
    simp only [List.set_cons_zero, List.set_cons_succ]
    refine takeW 12 36 (.slice (some ⟨bb, off, none⟩) L.length cap) rfl rfl (by kernel_rfl) (by kernel_rfl) (by kernel_rfl) (fun _ _ _ h => h) (by kernel_rfl) (by (intro w hSw; go_simp)) (by assumption) ?_
    simp only [List.set_cons_zero, List.set_cons_succ]
    refine takeW 13 37 (.int .i64 (p : Int)) rfl rfl (by kernel_rfl) (by kernel_rfl) (by kernel_rfl) (fun _ _ _ h => h) (by kernel_rfl) (by (intro w hSw; go_simp)) (by assumption) ?_
    simp only [List.set_cons_zero, List.set_cons_succ]
    refine takeW 14 38 (.int .i64 (p : Int)) rfl rfl (by kernel_rfl) (by kernel_rfl) (by kernel_rfl) (fun _ _ _ h => h) (by kernel_rfl) (by (intro w hSw; go_simp)) (by assumption) ?_
    simp only [List.set_cons_zero, List.set_cons_succ]
    refine takeW 15 39 (.int .i64 (M.length : Int)) rfl rfl (by kernel_rfl) (by kernel_rfl) (by kernel_rfl) (fun _ _ _ h => h) (by kernel_rfl) (by (intro w hSw; go_simp)) (by assumption) ?_
    simp only [List.set_cons_zero, List.set_cons_succ]
    refine takeW 16 40 (.int .i64 ((p : Int) + (M.length : Int))) rfl rfl (by kernel_rfl) (by kernel_rfl) (by kernel_rfl) (fun _ _ _ h => h) (by kernel_rfl) (by (intro w hSw; go_simp)) (by assumption) ?_
    simp only [List.set_cons_zero, List.set_cons_succ]
    refine takeW 17 41 (.slice (some ⟨bb, off + p, none⟩) M.length (cap - p)) rfl rfl (by kernel_rfl) (by kernel_rfl) (by kernel_rfl) (fun _ _ _ h => h) (by kernel_rfl) (by (intro w hSw; go_simp)) (by assumption) ?_
    simp only [List.set_cons_zero, List.set_cons_succ]
    refine wpAnyH_all (rs := [18]) (by kernel_rfl) (by simp) ?_
    intro i hi; obtain rfl : i = 18 := by simpa using hi
    refine wpOp_step rfl (fun K hK => ?_)
    rw [if_pos (by kernel_rfl)]
    go_simp
    go_at_call 45
    refine (copied (some ⟨bb, off + p, none⟩) (cap - p) M _ (cut.carry (fun x h hp => hb0.block _ (cut.lt x h hp))) hMm).mono ?_
    rintro e y1 ⟨v, rfl, oM, kM⟩
    obtain ⟨_, adM, capM, rfl, vM, rM, mM⟩ := own_view oM
    have nM := own_nil oM
    have hb1 : Below w3.heap.size w3 y1 := hb0.trans (kM.mono hb0.size)
    refine hK _ _ ⟨hb1, ?_⟩
    clear hK K hi
    refine takeW 19 43 (.agg #[.int .i64 g0, .int .i64 g1, .int .i64 g2, .slice adM M.length capM]) rfl rfl (by kernel_rfl) (by kernel_rfl) (by kernel_rfl) (fun _ _ _ h => h) (by kernel_rfl) (by (intro w hSw; go_simp)) (by assumption) ?_
    simp only [List.set_cons_zero, List.set_cons_succ]
    refine wpAnyH_all (rs := [20]) (by kernel_rfl) (by simp) ?_
    intro i hi; obtain rfl : i = 20 := by simpa using hi
    refine wpOp_step rfl (fun K hK => ?_)
    rw [if_pos (by kernel_rfl)]
    go_simp
    have hb2 : Below w3.heap.size w3 (y1.alloc (Obj.cells #[.int .i64 g0, .int .i64 g1, .int .i64 g2, .slice adM M.length capM] 25)) := hb1.trans ((below_box y1 _).mono hb1.size)
    refine hK _ _ ⟨hb2, ?_⟩
    clear hK K hi
    refine takeW 21 6 (.pointer (some ⟨y1.heap.size, 0, none⟩)) rfl rfl (by kernel_rfl) (by kernel_rfl) (by kernel_rfl) (fun _ _ _ h => h) (by kernel_rfl) (by (intro w hSw; go_simp)) (by assumption) ?_
    simp only [List.set_cons_zero, List.set_cons_succ]
    refine wpAnyH_done (by kernel_rfl) ?_ _
    obtain ⟨y2, hy2⟩ : ∃ y, y = y1.alloc (Obj.cells #[.int .i64 g0, .int .i64 g1, .int .i64 g2, .slice adM M.length capM] 25) := ⟨_, rfl⟩
    have FP : FrameAt y2 y1.heap.size g0 g1 g2 adM M.length capM := by rw [hy2]; exact frameAt_box y1 _ _ _ _ _ _ _
    have ky : Below y1.heap.size y1 y2 := by rw [hy2]; exact below_box y1 _
    rw [← hy2]
    clear hy2 hb2
    have sy := ky.size
    have s1 := hb1.size
    have s3 := k3.size
    have sM := kM.size
    have o2 := own_carry oM ky
    have By := (k3.trans (hb1.mono k3.size)).trans (ky.mono (by omega))
    have v2 := vM.carry (w' := y2) (fun x h _ => ky.block _ (mM x h).2)
    clear oM vM rM x0 x1 x2 xw htn hq4
    go_wp2_with fail
    go_at_call 25
    refine (writ y1.heap.size g0 g1 g2 adM capM M y2 FP v2 (fun _ h => nM.1 h) cutb hMm).mono ?_
    rintro e y3 ⟨v, rfl, o3, ky3⟩
    obtain ⟨_, ad3, cap3, rfl, v3, _, m3⟩ := own_view o3
    have s33 := ky3.size
    have B3 := By.trans (ky3.mono (by omega))
    have FP := FP.below ky3 (by have := FP.lt; omega)
    have o4 := own_carry o2 ky3
    have hvL := hv.carry (w' := y3) (fun x h hp => B3.block _ (hv.lt x h hp))
    have hWb := written_bd g0 g1 g2 M cutb
    clear o3 o2
    go_wp2_with fail
    go_at_call 46
    refine (bytesEqual ad3 _ _ cap3 _ cap _ _ y3 v3 hvL (getD_bd hWb) hbd).mono ?_
    rintro e y4 ⟨rfl, h4⟩
    rw [h4]
    clear h4 y4
    have hsame : sameT (fun i => (written g0 g1 g2 M).getD i 0) (written g0 g1 g2 M).length (fun i => L.getD i 0) L.length = eqL (written g0 g1 g2 M) L := by
      unfold sameT eqL; rw [txtf_list, txtf_list]
    rw [hsame]
    clear hsame
    by_cases hE : eqL (written g0 g1 g2 M) L = true
    · rw [hE]
      go_wp2
      go_ret
      try rw [if_pos hE]
      exact ⟨.inr ⟨rfl, y1.heap.size, adM, capM, rfl, by omega, FP, own_base o4 (by show _ ≤ w3.heap.size; omega)⟩, B3⟩
    · rw [show eqL (written g0 g1 g2 M) L = false by simpa using hE]
      go_wp2
      go_ret
      try rw [if_neg hE]
      exact ⟨.inl ⟨rfl, rfl⟩, B3⟩

/-- What FrameOf leaves: the frame, whose load it owns. -/
def OfEnd (B : Nat) (r : FR) (e : Ending) (w' : World) : Prop :=
  ∃ ad cap, e = .returned (.tuple #[.agg #[.int .i64 r.a, .int .i64 r.b, .int .i64 r.c, .slice ad r.M.length cap], .bool r.ok]) ∧ w'.ownsRow B 5 1 (.slice ad r.M.length cap) r.M.length (r.M.map (Value.int .u8))
theorem own_keep {w w' : World} {base E n : Nat} {v : Value} {xs : List Value} (h : w.ownsRow base E 1 v n xs) (k : ∀ g, base ≤ g → w'.heap[g]? = w.heap[g]?) : w'.ownsRow base E 1 v n xs := by
  refine ⟨h.1, ?_⟩
  rcases h.2 with h | ⟨g, cap, cur, e, hb, hg, r⟩
  · exact .inl h
  · exact .inr ⟨g, cap, cur, e, hb, (k g hb).trans hg, r⟩
theorem frameOf_no {L : List Int} (h : (frameOf L).ok = false) : frameOf L = FR.no := by
  rcases of_ways L with ⟨_, e⟩ | ⟨_, _, _, _, _, _, _, e⟩ | ⟨p, q, _, _, _, e⟩
  · exact e
  · exact e
  · rw [e] at h ⊢
    split at h
    · simp at h
    · rename_i h2; rw [if_neg h2]
set_option maxHeartbeats 1000000 in
theorem ofImpl (ad : Option Addr) (cap : Nat) (L : List Int) (w : World) (hv : View w ad L.length (fun i => L.getD i 0)) (hL : ∀ x ∈ L, 0 ≤ x ∧ x ≤ 255) (hm : L.length ≤ 1048576) (hcap : L.length ≤ cap) (hcm : cap ≤ maxLen)
    (tp : TypeId) (pv : Value) (hs : w.cell? ⟨0, 0, none⟩ = some (.iface tp pv)) :
    Calls Tryd.prog 9 #[.slice ad L.length cap] w fun e w' => OfEnd w.heap.size (frameOf L) e w' ∧ Below w.heap.size w w' := by
  have h0 : 0 < w.heap.size := World.block_lt_of_cell? w _ hs
  go_enter Tryd.func9, Tryd.ntmps9
  go_wp2_with fail
  go_at_call 28
  obtain ⟨x, hx⟩ : ∃ x, x = w.alloc (Obj.cells #[.int .i64 0, .int .i64 0, .int .i64 0, .slice none 0 0] 25) := ⟨_, rfl⟩
  have F0 : FrameAt x w.heap.size 0 0 0 none 0 0 := by rw [hx]; exact frameAt_box w _ _ _ _ _ _ _
  have G0 : ∀ i, x.frozen? ⟨w.heap.size, i, none⟩ = false := by intro i; rw [hx]; simp [go_sem]
  have B0 : Below w.heap.size w x := by rw [hx]; exact below_box w _
  have S0 : w.heap.size < x.heap.size := by rw [hx]; exact size_box w _
  rw [← hx]
  clear hx
  refine (frameRead ad cap L x (hv.carry (fun y h hp => B0.block _ (hv.lt y h hp))) hL hm hcap hcm tp pv ((B0.cell (p := ⟨0, 0, none⟩) h0).trans hs)).mono ?_
  rintro e w1 ⟨hE, k1⟩
  have s1 := k1.size
  have B1 := B0.trans (k1.mono (by omega))
  have F1 := F0.below k1 S0
  have G1 : ∀ i, w1.frozen? ⟨w.heap.size, i, none⟩ = false := fun i => (World.frozen?_of_block (a := ⟨w.heap.size, i, none⟩) (k1.block _ S0)).trans (G0 i)
  have g0 := G1 0
  have g1 := G1 1
  have g2 := G1 2
  have g3 := G1 3
  clear G0 G1
  obtain ⟨C1, C2, C3, C4⟩ := F1
  rcases hE with ⟨hok, rfl⟩ | ⟨hok, P, adM, capM, rfl, hP, FP, oM⟩
  · have hno := frameOf_no hok
    go_wp2
    refine bodyPost_ret (v := .tuple #[.agg #[.int .i64 0, .int .i64 0, .int .i64 0, .slice none 0 0], .bool false]) (by simp [results, Tryd.results9, go_sem, *]) rfl ⟨?_, ?_⟩
    · rw [hno]
      exact ⟨none, 0, rfl, World.ownsRow_nil _ _ _ _⟩
    · exact (((B1.setCell (by simp) _).setCell (by simp) _).setCell (by simp) _).setCell (by simp) _
  · obtain ⟨r, hr⟩ : ∃ r, r = frameOf L := ⟨_, rfl⟩
    rw [← hr] at hok FP oM
    obtain ⟨ra, rb, rc, rM, rok⟩ := r
    obtain rfl : rok = true := hok
    obtain ⟨D1, D2, D3, D4⟩ := FP
    simp only [] at D1 D2 D3 D4 oM
    go_wp2
    refine bodyPost_ret (v := .tuple #[.agg #[.int .i64 ra, .int .i64 rb, .int .i64 rc, .slice adM rM.length capM], .bool true]) (by simp [results, Tryd.results9, go_sem, *]) rfl ⟨?_, ?_⟩
    · rw [← hr]
      refine ⟨adM, capM, rfl, own_base (own_keep oM (fun g hg => ?_)) (by omega : w.heap.size ≤ x.heap.size)⟩
      rw [Below.heap_setCell _ _ _ _ (by show g ≠ w.heap.size; omega), Below.heap_setCell _ _ _ _ (by show g ≠ w.heap.size; omega), Below.heap_setCell _ _ _ _ (by show g ≠ w.heap.size; omega), Below.heap_setCell _ _ _ _ (by show g ≠ w.heap.size; omega)]
    · exact (((B1.setCell (by simp) _).setCell (by simp) _).setCell (by simp) _).setCell (by simp) _

end Go.Proofs.YtpdlliehdmeboaaDoor
