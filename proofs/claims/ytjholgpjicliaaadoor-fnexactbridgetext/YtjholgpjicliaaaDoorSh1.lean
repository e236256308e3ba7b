/- A port's parts. -/
import Derived.Test.YtjholgpjicliaaaDoorRows
import Derived.WalkKit
import Derived.ProofKit
import Derived.OpenShut
import Derived.ShutString
import Derived.ChangeOld
import Derived.Below
import Derived.Deep.QuietTactic
import Derived.BigQuiet
import Derived.WalkSmall
import Derived.Laws.OwnMore
import Derived.WalkSpells
import Derived.WalkLawsBesides
import Derived.Deep.Cut
import Derived.Maps.AppendAt
import Derived.Test.YtjholgpjicliaaaDoorSh0
import Derived.Test.YtjholgpjicliaaaDoorPtw
import Derived.Test.YtjholgpjicliaaaDoorTx
import Derived.Test.YtjholgpjicliaaaDoorTakes
namespace Go.Proofs.YtjholgpjicliaaaDoor
open Go.ChangeShapes Go.WideShapes Go.ChangeAt Go.RowKit
open Go.ChangeMaps (open_string shut_string)
set_option linter.unusedVariables false
set_option maxRecDepth 100000

/-- What a role is called. -/
def roT (n : Int) : ByteArray := if n = 0 then ⟨#[111, 102, 102]⟩ else if n = 1 then ⟨#[114, 111, 111, 116]⟩ else if n = 2 then ⟨#[100, 101, 115]⟩ else if n = 3 then ⟨#[97, 108, 116]⟩ else ⟨#[110, 111, 110, 101]⟩
def opT (o : Bool) : ByteArray := if o then ⟨#[111, 112, 101, 110]⟩ else ⟨#[115, 104, 117, 116]⟩
def clT (x : Pt) : ByteArray := if x.has then vText x.r x.c x.b x.p else ⟨#[45]⟩
/-- The parts of a port. -/
def ptP (x : Pt) : List Prt := [.inl (roT x.ro), .inl (opT x.op), .inr (some x.wa), .inl (clT x)]
/-- A port's words. -/
def ptT (x : Pt) : ByteArray := roT x.ro ++ ⟨#[32]⟩ ++ opT x.op ++ ⟨#[32]⟩ ++ dig x.wa ++ ⟨#[32]⟩ ++ clT x
theorem roT_size (n : Int) : (roT n).size ≤ 4 := by
  unfold roT
  repeat' split
  all_goals decide
theorem opT_size (o : Bool) : (opT o).size ≤ 4 := by cases o <;> decide
theorem clT_size (x : Pt) (h : PtWf x) : (clT x).size ≤ 87 := by
  obtain ⟨h1, h2, h3, h4, _⟩ := h
  unfold clT
  split
  · have z0 := dig_size h1.1 h1.2
    have z1 := dig_size h2.1 h2.2
    have z2 := dig_size h3.1 h3.2
    have z3 := dig_size h4.1 h4.2
    unfold vText
    simp only [ByteArray.size_append]
    have e : (⟨#[46]⟩ : ByteArray).size = 1 := rfl
    omega
  · decide
theorem ptP_wf (x : Pt) (h : PtWf x) : ∀ y ∈ ptP x, pW y := by
  have h1 := roT_size x.ro
  have h2 := opT_size x.op
  have h3 := clT_size x h
  intro y hy
  simp only [ptP, List.mem_cons, List.not_mem_nil, or_false] at hy
  rcases hy with rfl | rfl | rfl | rfl
  · show (roT x.ro).size ≤ 100; omega
  · show (opT x.op).size ≤ 100; omega
  · exact h.2.2.2.2
  · show (clT x).size ≤ 100; omega
theorem shT_port (x : Pt) : shT (ptP x) = ptT x := by
  apply ByteArray.ext
  simp [shT, shF, ptP, shS, pE, pT, ptT, ByteArray.data_append]
set_option maxHeartbeats 1000000 in
theorem roleTI (n : Int) (w : World) : Calls Tryd.prog 37 #[.int .i64 n] w fun e w' => e = .returned (.string (roT n)) ∧ w' = w := by
  by_cases h0 : n = 0
  · subst h0
    rw [show roT 0 = ⟨#[111, 102, 102]⟩ from rfl]
    go_enter Tryd.func37, Tryd.ntmps37
    go_wp2
    go_ret
    exact ⟨rfl, rfl⟩
  have d0 : (n == 0) = false := by simpa using h0
  by_cases h1 : n = 1
  · subst h1
    rw [show roT 1 = ⟨#[114, 111, 111, 116]⟩ from rfl]
    go_enter Tryd.func37, Tryd.ntmps37
    go_wp2
    go_ret
    exact ⟨rfl, rfl⟩
  have d1 : (n == 1) = false := by simpa using h1
  by_cases h2 : n = 2
  · subst h2
    rw [show roT 2 = ⟨#[100, 101, 115]⟩ from rfl]
    go_enter Tryd.func37, Tryd.ntmps37
    go_wp2
    go_ret
    exact ⟨rfl, rfl⟩
  have d2 : (n == 2) = false := by simpa using h2
  by_cases h3 : n = 3
  · subst h3
    rw [show roT 3 = ⟨#[97, 108, 116]⟩ from rfl]
    go_enter Tryd.func37, Tryd.ntmps37
    go_wp2
    go_ret
    exact ⟨rfl, rfl⟩
  have d3 : (n == 3) = false := by simpa using h3
  rw [show roT n = ⟨#[110, 111, 110, 101]⟩ by unfold roT; rw [if_neg h0, if_neg h1, if_neg h2, if_neg h3]]
  go_enter Tryd.func37, Tryd.ntmps37
  go_wp2
  go_ret
  exact ⟨rfl, rfl⟩
set_option maxHeartbeats 1000000 in
theorem claimedI (x : Pt) (w : World) (hw : PtWf x) (htab : TabOk w) : Calls Tryd.prog 38 #[.agg #[.bool x.up, .bool x.has, .int .i64 x.r, .int .i64 x.c, .int .i64 x.b, .int .i64 x.p, .int .i64 x.h, .int .i64 x.l, .int .i64 x.ro, .int .i64 x.wa, .bool x.op]] w fun e w' => e = .returned (.string (clT x)) ∧ Below w.heap.size w w' := by
  obtain ⟨up, has, r, c, b, p, h, l, ro, wa, op⟩ := x
  obtain ⟨hr, hc, hb, hp, _⟩ := hw
  dsimp only at hr hc hb hp ⊢
  by_cases hh : has = false
  · subst hh
    obtain ⟨y, hy⟩ : ∃ y, y = w.alloc (Obj.cells #[.bool up, .bool false, .int .i64 r, .int .i64 c, .int .i64 b, .int .i64 p, .int .i64 h, .int .i64 l, .int .i64 ro, .int .i64 wa, .bool op] 43) := ⟨_, rfl⟩
    have A0 : PtAt y w.heap.size ⟨up, false, r, c, b, p, h, l, ro, wa, op⟩ := by rw [hy]; exact ptAt_box w _ ⟨up, false, r, c, b, p, h, l, ro, wa, op⟩
    have B0 : Below w.heap.size w y := by rw [hy]; exact (Below.refl _ _).alloc (Nat.le_refl _) _
    rw [show clT ⟨up, false, r, c, b, p, h, l, ro, wa, op⟩ = ⟨#[45]⟩ from rfl]
    go_enter Tryd.func38, Tryd.ntmps38
    go_upto_region 1 with fail
    rw [← hy]
    clear hy
    obtain ⟨c0, c1, c2, c3, c4, c5, c6, c7, c8, c9, c10⟩ := A0
    go_wp2
    go_ret
    exact ⟨rfl, B0⟩
  · have hh : has = true := by simpa using hh
    subst hh
    obtain ⟨y, hy⟩ : ∃ y, y = w.alloc (Obj.cells #[.bool up, .bool true, .int .i64 r, .int .i64 c, .int .i64 b, .int .i64 p, .int .i64 h, .int .i64 l, .int .i64 ro, .int .i64 wa, .bool op] 43) := ⟨_, rfl⟩
    have A0 : PtAt y w.heap.size ⟨up, true, r, c, b, p, h, l, ro, wa, op⟩ := by rw [hy]; exact ptAt_box w _ ⟨up, true, r, c, b, p, h, l, ro, wa, op⟩
    have B0 : Below w.heap.size w y := by rw [hy]; exact (Below.refl _ _).alloc (Nat.le_refl _) _
    rw [show clT ⟨up, true, r, c, b, p, h, l, ro, wa, op⟩ = vText r c b p from rfl]
    go_enter Tryd.func38, Tryd.ntmps38
    go_upto_region 1 with fail
    rw [← hy]
    clear hy
    obtain ⟨c0, c1, c2, c3, c4, c5, c6, c7, c8, c9, c10⟩ := A0
    go_wp2_with fail
    go_at_call 35
    refine (textI r c b p y hr hc hb hp (tab_later htab B0)).mono ?_
    rintro e w1 ⟨rfl, k1⟩
    go_wp2
    go_ret
    exact ⟨rfl, B0.trans (k1.mono B0.size)⟩
/-- A literal list of parts. -/
theorem prNew (L : List Prt) (w : World) {base : Nat} (h : base ≤ w.heap.size) (hl : L.length ≤ 1000 := by decide) : FOwn prEnc 1 77 base (w.alloc (Obj.cells (L.map pV).toArray 77)) (.slice (some ⟨w.heap.size, 0, none⟩) L.length L.length) L := by
  have e : fcells prEnc L = L.map pV := by
    clear hl
    induction L with
    | nil => rfl
    | cons x L ih => simp only [fcells, prEnc, List.map_cons, ih, List.cons_append, List.nil_append]
  refine ⟨by rw [e]; simp, .inr ⟨w.heap.size, L.length, (L.map pV).toArray, rfl, h, heap_newF w _, Nat.le_refl _, by unfold maxLen; omega, by simp, ?_⟩⟩
  rw [e]
  simp [List.take_of_length_le]
set_option maxHeartbeats 4000000 in
theorem partsI (x : Pt) (w : World) (hw : PtWf x) (htab : TabOk w) : Calls Tryd.prog 29 #[.agg #[.bool x.up, .bool x.has, .int .i64 x.r, .int .i64 x.c, .int .i64 x.b, .int .i64 x.p, .int .i64 x.h, .int .i64 x.l, .int .i64 x.ro, .int .i64 x.wa, .bool x.op]] w fun e w' => ∃ g, e = .returned (.slice (some ⟨g, 0, none⟩) 4 4) ∧ FOwn prEnc 1 77 w.heap.size w' (.slice (some ⟨g, 0, none⟩) 4 4) (ptP x) ∧ Below w.heap.size w w' := by
  obtain ⟨y, hy⟩ : ∃ y, y = w.alloc (Obj.cells #[.bool x.up, .bool x.has, .int .i64 x.r, .int .i64 x.c, .int .i64 x.b, .int .i64 x.p, .int .i64 x.h, .int .i64 x.l, .int .i64 x.ro, .int .i64 x.wa, .bool x.op] 43) := ⟨_, rfl⟩
  have A0 : PtAt y w.heap.size x := by rw [hy]; exact ptAt_box w _ x
  have B0 : Below w.heap.size w y := by rw [hy]; exact (Below.refl _ _).alloc (Nat.le_refl _) _
  have S0 := A0.lt
  go_enter Tryd.func29, Tryd.ntmps29
  go_upto_region 1 with fail
  rw [← hy]
  clear hy
  refine wp_region_held (S := fun Y => Below y.heap.size y Y) (by kernel_rfl) ?_
  change wpAnyH _ _ _ _ _ _ _ _ (World.drew _)
  have hb0 : Below y.heap.size y y.drew := (Below.refl _ _).drew
  obtain ⟨u0, hy0⟩ : ∃ y_, y_ = y.drew := ⟨_, rfl⟩
  rw [← hy0] at hb0 ⊢
  clear hy0
  refine takeW 0 3 (.pointer (some ⟨w.heap.size, 8, none⟩)) rfl rfl (by kernel_rfl) (by kernel_rfl) (by kernel_rfl) (fun _ _ _ h => h) (by kernel_rfl) (by (intro w hSw; go_simp)) (by assumption) ?_
  simp only [List.set_cons_zero, List.set_cons_succ]
  refine takeW 1 4 (.int .i64 x.ro) rfl rfl (by kernel_rfl) (by kernel_rfl) (by kernel_rfl) (fun _ _ _ h => h) (by kernel_rfl) (by (intro Y hSw; obtain ⟨C0, C1, C2, C3, C4, C5, C6, C7, C8, C9, C10⟩ := A0.below hSw A0.lt; go_simp)) (by assumption) ?_
  simp only [List.set_cons_zero, List.set_cons_succ]
  refine takeW 4 7 (.pointer (some ⟨w.heap.size, 10, none⟩)) rfl rfl (by kernel_rfl) (by kernel_rfl) (by kernel_rfl) (fun _ _ _ h => h) (by kernel_rfl) (by (intro w hSw; go_simp)) (by assumption) ?_
  simp only [List.set_cons_zero, List.set_cons_succ]
  refine takeW 5 8 (.bool x.op) rfl rfl (by kernel_rfl) (by kernel_rfl) (by kernel_rfl) (fun _ _ _ h => h) (by kernel_rfl) (by (intro Y hSw; obtain ⟨C0, C1, C2, C3, C4, C5, C6, C7, C8, C9, C10⟩ := A0.below hSw A0.lt; go_simp)) (by assumption) ?_
  simp only [List.set_cons_zero, List.set_cons_succ]
  refine takeW 8 11 (.pointer (some ⟨w.heap.size, 9, none⟩)) rfl rfl (by kernel_rfl) (by kernel_rfl) (by kernel_rfl) (fun _ _ _ h => h) (by kernel_rfl) (by (intro w hSw; go_simp)) (by assumption) ?_
  simp only [List.set_cons_zero, List.set_cons_succ]
  refine takeW 9 12 (.int .i64 x.wa) rfl rfl (by kernel_rfl) (by kernel_rfl) (by kernel_rfl) (fun _ _ _ h => h) (by kernel_rfl) (by (intro Y hSw; obtain ⟨C0, C1, C2, C3, C4, C5, C6, C7, C8, C9, C10⟩ := A0.below hSw A0.lt; go_simp)) (by assumption) ?_
  simp only [List.set_cons_zero, List.set_cons_succ]
  refine takeW 10 13 (.iface 69 (.int .i64 x.wa)) rfl rfl (by kernel_rfl) (by kernel_rfl) (by kernel_rfl) (fun _ _ _ h => h) (by kernel_rfl) (by (intro w hSw; go_simp)) (by assumption) ?_
  simp only [List.set_cons_zero, List.set_cons_succ]
  refine takeW 11 14 (.agg #[.bool x.up, .bool x.has, .int .i64 x.r, .int .i64 x.c, .int .i64 x.b, .int .i64 x.p, .int .i64 x.h, .int .i64 x.l, .int .i64 x.ro, .int .i64 x.wa, .bool x.op]) rfl rfl (by kernel_rfl) (by kernel_rfl) (by kernel_rfl) (fun _ _ _ h => h) (by kernel_rfl) (by (intro Y hSw; obtain ⟨C0, C1, C2, C3, C4, C5, C6, C7, C8, C9, C10⟩ := A0.below hSw A0.lt; go_simp)) (by assumption) ?_
  simp only [List.set_cons_zero, List.set_cons_succ]
  refine wpAnyH_all (rs := [2]) (by kernel_rfl) (by simp) ?_
  intro i hi; obtain rfl : i = 2 := by simpa using hi
  refine wpOp_step rfl (fun Kz hKz => ?_)
  rw [if_pos (by kernel_rfl)]
  go_simp
  go_at_call 37
  refine (roleTI x.ro u0).mono ?_
  rintro e u1 ⟨rfl, hu1⟩
  rw [hu1]
  clear hu1 u1
  refine hKz _ _ ⟨hb0, ?_⟩
  clear hKz Kz hi
  refine takeW 3 6 (.iface 80 (.string (roT x.ro))) rfl rfl (by kernel_rfl) (by kernel_rfl) (by kernel_rfl) (fun _ _ _ h => h) (by kernel_rfl) (by (intro w hSw; go_simp)) (by assumption) ?_
  simp only [List.set_cons_zero, List.set_cons_succ]
  refine wpAnyH_all (rs := [6]) (by kernel_rfl) (by simp) ?_
  intro i hi; obtain rfl : i = 6 := by simpa using hi
  refine wpOp_step rfl (fun Kz hKz => ?_)
  rw [if_pos (by kernel_rfl)]
  go_simp
  go_at_call 36
  refine (wordIfI x.op ⟨#[111, 112, 101, 110]⟩ ⟨#[115, 104, 117, 116]⟩ u0).mono ?_
  rintro e u1 ⟨rfl, hu1⟩
  rw [hu1]
  clear hu1 u1
  rw [show (if x.op = true then (⟨#[111, 112, 101, 110]⟩ : ByteArray) else ⟨#[115, 104, 117, 116]⟩) = opT x.op from rfl]
  refine hKz _ _ ⟨hb0, ?_⟩
  clear hKz Kz hi
  refine takeW 7 10 (.iface 80 (.string (opT x.op))) rfl rfl (by kernel_rfl) (by kernel_rfl) (by kernel_rfl) (fun _ _ _ h => h) (by kernel_rfl) (by (intro w hSw; go_simp)) (by assumption) ?_
  simp only [List.set_cons_zero, List.set_cons_succ]
  refine wpAnyH_all (rs := [12]) (by kernel_rfl) (by simp) ?_
  intro i hi; obtain rfl : i = 12 := by simpa using hi
  refine wpOp_step rfl (fun Kz hKz => ?_)
  rw [if_pos (by kernel_rfl)]
  go_simp
  go_at_call 38
  refine (claimedI x u0 hw (tab_later htab (B0.trans (hb0.mono B0.size)))).mono ?_
  rintro e u1 ⟨rfl, kq⟩
  have hb1 : Below y.heap.size y u1 := hb0.trans (kq.mono hb0.size)
  clear kq
  refine hKz _ _ ⟨hb1, ?_⟩
  clear hKz Kz hi
  refine takeW 13 16 (.iface 80 (.string (clT x))) rfl rfl (by kernel_rfl) (by kernel_rfl) (by kernel_rfl) (fun _ _ _ h => h) (by kernel_rfl) (by (intro w hSw; go_simp)) (by assumption) ?_
  simp only [List.set_cons_zero, List.set_cons_succ]
  refine wpAnyH_all (rs := [14]) (by kernel_rfl) (by simp) ?_
  intro i hi; obtain rfl : i = 14 := by simpa using hi
  refine wpOp_step rfl (fun Kz hKz => ?_)
  rw [if_pos (by kernel_rfl)]
  go_simp
  obtain ⟨u2, hu2⟩ : ∃ y_, y_ = u1.alloc (Obj.cells #[pV (.inl (roT x.ro)), pV (.inl (opT x.op)), pV (.inr (some x.wa)), pV (.inl (clT x))] 77) := ⟨_, rfl⟩
  have O2 : FOwn prEnc 1 77 w.heap.size u2 (.slice (some ⟨u1.heap.size, 0, none⟩) 4 4) (ptP x) := by rw [hu2]; exact prNew (ptP x) u1 (by have := hb1.size; have := B0.size; omega) (by show 4 ≤ 1000; decide)
  have kq : Below u1.heap.size u1 u2 := by rw [hu2]; exact (Below.refl _ _).alloc (Nat.le_refl _) _
  have hb2 : Below y.heap.size y u2 := hb1.trans (kq.mono hb1.size)
  rw [show (Obj.cells #[Value.iface 80 (.string (roT x.ro)), .iface 80 (.string (opT x.op)), .iface 69 (.int .i64 x.wa), .iface 80 (.string (clT x))] 77) = Obj.cells #[pV (.inl (roT x.ro)), pV (.inl (opT x.op)), pV (.inr (some x.wa)), pV (.inl (clT x))] 77 from rfl]
  rw [← hu2]
  clear hu2 kq
  generalize u1.heap.size = gz at O2 ⊢
  refine hKz _ _ ⟨hb2, ?_⟩
  clear hKz Kz hi
  refine takeW 15 2 (.slice (some ⟨gz, 0, none⟩) 4 4) rfl rfl (by kernel_rfl) (by kernel_rfl) (by kernel_rfl) (fun _ _ _ h => h) (by kernel_rfl) (by (intro w hSw; go_simp)) (by assumption) ?_
  simp only [List.set_cons_zero, List.set_cons_succ]
  refine wpAnyH_done (by kernel_rfl) ?_ _
  go_wp2
  go_ret
  exact ⟨gz, rfl, O2, B0.trans (hb2.mono B0.size)⟩

end Go.Proofs.YtjholgpjicliaaaDoor
