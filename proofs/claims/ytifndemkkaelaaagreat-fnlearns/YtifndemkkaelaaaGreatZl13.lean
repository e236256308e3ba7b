/- impl.copiedMembers and impl.copiedCard, walked. slices.ContainsFunc at members, walked. -/
import Derived.Test.YtifndemkkaelaaaGreatRows
import Derived.WalkKit
import Derived.ProofKit
import Derived.OpenShut
import Derived.ShutString
import Derived.ChangeOld
import Derived.Below
import Derived.Deep.QuietTactic
import Derived.BigQuiet
import Derived.WalkSmall
import Derived.Laws.OwnMore
import Derived.WalkSpells
import Derived.WalkLawsBesides
import Derived.Laws.AppendOwnNone
import Derived.Laws.CopyOwn
import Derived.Maps.AppendAt
import Derived.Test.YtifndemkkaelaaaGreatZlCopy1
import Derived.Test.YtifndemkkaelaaaGreatZl1
import Derived.Test.YtifndemkkaelaaaGreatZl10
namespace Go.Proofs.YtifndemkkaelaaaGreat
open Go.ChangeShapes Go.WideShapes Go.ChangeAt Go.RowKit
open Go.ChangeMaps (open_string shut_string)
set_option linter.unusedVariables false
set_option maxRecDepth 100000

theorem MemAt.lt {w : World} {p : Nat} {own : Int} {ad : Option Addr} {len cap : Nat} (h : MemAt w p own ad len cap) : p < w.heap.size := World.block_lt_of_cell? w _ h.1
theorem memAt_box (w : World) (own : Int) (ad : Option Addr) (len cap : Nat) (t : TypeId) : MemAt (w.alloc (Obj.cells #[.int .i64 own, .slice ad len cap] t)) w.heap.size own ad len cap := by
  refine ⟨?_, ?_⟩ <;> simp [go_sem]
theorem cells2 (w : World) (a b : Value) (t : TypeId) : ∀ j u, ([a, b] : List Value)[j]? = some u → (w.alloc (Obj.cells #[a, b] t)).cell? ((⟨w.heap.size, 0, none⟩ : Addr).add j) = some u := by
  intro j u h
  match j with
  | 0 => simp at h; subst h; simp [go_sem, Addr.add]
  | 1 => simp at h; subst h; simp [go_sem, Addr.add]
  | n + 2 => simp at h
theorem takeM_step {Ms Ns : List Mb} {k : Nat} {m m' : Mb} (hk : k < Ms.length) (hh : Ms.getD k Mb.nil = m) (hd : m'.d = m.d) (h : Ns.map Mb.d = (Ms.take k).map Mb.d) : (Ns ++ [m']).map Mb.d = (Ms.take (k + 1)).map Mb.d := by
  rw [List.take_succ_eq_append_getElem hk, List.map_append, List.map_append, h]
  have : Ms[k] = m := by simpa [List.getD, List.getElem?_eq_getElem hk] using hh
  rw [this]
  simp [hd]
set_option maxHeartbeats 2000000 in
theorem copM (ad : Option Addr) (cap : Nat) (Ms : List Mb) (w : World) (hv : MbV w ad Ms) (hl : Ms.length ≤ 1048576) (hls : ∀ i, i < Ms.length → (Ms.getD i Mb.nil).L.length ≤ 1048576) :
    Calls Tryz.prog 89 #[.slice ad Ms.length cap] w fun e w' => ∃ v Ns, e = .returned v ∧ Ns.map Mb.d = Ms.map Mb.d ∧ MC w.heap.size w' v Ns ∧ Below w.heap.size w w' := by
  obtain ⟨i1, hj, hy0, hy1, hy2⟩ := info_parts Tryz.info50'
  go_enter Tryz.func89, Tryz.ntmps89
  go_wp2
  go_loopw [3, 8] (fun v i wr => ∃ (k : Nat) (Ns : List Mb), i = .int .i64 (k : Int) ∧ k ≤ Ms.length ∧ Hid (Ns.map Mb.d = (Ms.take k).map Mb.d) ∧ MC w.heap.size wr v Ns ∧ Below w.heap.size w wr) (fun _ i _ => Ms.length - (intOf i).toNat)
  case atStart => exact ⟨0, [], rfl, Nat.zero_le _, rfl, MC.start _ _, Below.refl _ _⟩
  case round =>
    obtain ⟨k, Ns, rfl, hk, hN, M, hb⟩ := hrel
    by_cases hlt : k < Ms.length
    · obtain ⟨b, off, rfl, hc⟩ := hv.row (by omega)
      have hck := (hc k hlt).same (hb.block _ (hv.lt ⟨b, off, none⟩ rfl (by omega)))
      have hnk := ViewI.below (hv.nest k hlt) hb (Nat.le_refl _)
      have hlk := hls k hlt
      have hNl : Ns.length ≤ 1048576 := by have := congrArg List.length hN.out; simp at this; omega
      have stp := fun m' => takeM_step (Ns := Ns) (m' := m') hlt rfl
      obtain ⟨m, hh⟩ : ∃ m, Ms.getD k Mb.nil = m := ⟨_, rfl⟩
      rw [hh] at hck hnk hlk
      simp only [hh] at stp
      obtain ⟨c1, c2⟩ := hck
      clear hc hv hls hh
      go_wp2_with fail
      obtain ⟨x0, hx0⟩ : ∃ x, x = wr.alloc (Obj.cells #[.int .i64 m.o, .slice m.ad m.L.length m.cap] 50) := ⟨_, rfl⟩
      obtain ⟨P, hP⟩ : ∃ P, P = wr.heap.size := ⟨_, rfl⟩
      have A0 : MemAt x0 P m.o m.ad m.L.length m.cap := by rw [hx0, hP]; exact memAt_box _ _ _ _ _ _
      have B0 : Below wr.heap.size wr x0 := by rw [hx0]; exact below_box wr _
      have P0 : P < x0.heap.size := A0.lt
      have hPw : wr.heap.size ≤ P := by omega
      rw [← hx0, ← hP]
      clear hx0 hP c1 c2
      refine wp_region_held (S := fun Y => MemAt Y P m.o m.ad m.L.length m.cap) (by kernel_rfl) ?_
      change wpAnyH _ _ _ _ _ _ _ _ (World.drew _)
      have S0 : MemAt x0.drew P m.o m.ad m.L.length m.cap := A0
      refine takeW 0 12 u3 rfl rfl (by kernel_rfl) (by kernel_rfl) (by kernel_rfl) (fun _ _ _ h => h) (by kernel_rfl) (by (intro w hSw; go_simp)) (by assumption) ?_
      simp only [List.set_cons_zero, List.set_cons_succ]
      refine takeW 1 13 (.pointer (some ⟨P, 0, none⟩)) rfl rfl (by kernel_rfl) (by kernel_rfl) (by kernel_rfl) (fun _ _ _ h => h) (by kernel_rfl) (by (intro w hSw; go_simp)) (by assumption) ?_
      simp only [List.set_cons_zero, List.set_cons_succ]
      refine takeW 2 14 (.int .i64 m.o) rfl rfl (by kernel_rfl) (by kernel_rfl) (by kernel_rfl) (fun _ _ _ h => h) (by kernel_rfl) (by (intro Y hSw; obtain ⟨X1, X2⟩ := hSw; go_simp)) (by assumption) ?_
      simp only [List.set_cons_zero, List.set_cons_succ]
      refine takeW 3 15 (.pointer (some ⟨P, 1, none⟩)) rfl rfl (by kernel_rfl) (by kernel_rfl) (by kernel_rfl) (fun _ _ _ h => h) (by kernel_rfl) (by (intro w hSw; go_simp)) (by assumption) ?_
      simp only [List.set_cons_zero, List.set_cons_succ]
      refine takeW 4 16 (.slice m.ad m.L.length m.cap) rfl rfl (by kernel_rfl) (by kernel_rfl) (by kernel_rfl) (fun _ _ _ h => h) (by kernel_rfl) (by (intro Y hSw; obtain ⟨X1, X2⟩ := hSw; go_simp)) (by assumption) ?_
      simp only [List.set_cons_zero, List.set_cons_succ]
      refine wpAnyH_all (rs := [5]) (by kernel_rfl) (by simp) ?_
      intro i hi; obtain rfl : i = 5 := by simpa using hi
      refine wpOp_step rfl (fun K hK => ?_)
      rw [if_pos (by kernel_rfl)]
      go_simp
      go_at_call 119
      refine (cloneInts m.ad m.cap m.L x0.drew (ViewI.below hnk (B0.drew) (Nat.le_refl _)) hlk).mono ?_
      rintro e y1 ⟨v1, rfl, o1, j1⟩
      obtain ⟨_, ad1, cap1, rfl, w1, r1, b1, z1⟩ := own_viewN o1
      have S1 : MemAt y1 P m.o m.ad m.L.length m.cap := S0.below j1 P0
      have B1 : Below wr.heap.size wr y1 := B0.drew.trans (j1.mono B0.size)
      have P1 : P < y1.heap.size := S1.lt
      clear o1
      refine hK _ _ ⟨S1, ?_⟩
      clear hK K hi
      refine takeW 6 18 (.agg #[.int .i64 m.o, .slice ad1 m.L.length cap1]) rfl rfl (by kernel_rfl) (by kernel_rfl) (by kernel_rfl) (fun _ _ _ h => h) (by kernel_rfl) (by (intro w hSw; go_simp)) (by assumption) ?_
      simp only [List.set_cons_zero, List.set_cons_succ]
      refine wpAnyH_all (rs := [7]) (by kernel_rfl) (by simp) ?_
      intro i hi; obtain rfl : i = 7 := by simpa using hi
      refine wpOp_step rfl (fun K hK => ?_)
      rw [if_pos (by kernel_rfl)]
      go_simp
      obtain ⟨y2, hy⟩ : ∃ z, z = y1.alloc (Obj.cells #[.int .i64 m.o, .slice ad1 m.L.length cap1] 50) := ⟨_, rfl⟩
      have k2 : Below y1.heap.size y1 y2 := by rw [hy]; exact below_box y1 _
      have C2 : ∀ j u, ([.int .i64 m.o, .slice ad1 m.L.length cap1] : List Value)[j]? = some u → y2.cell? ((⟨y1.heap.size, 0, none⟩ : Addr).add j) = some u := by rw [hy]; exact cells2 y1 _ _ _
      rw [← hy]
      have S2 : MemAt y2 P m.o m.ad m.L.length m.cap := S1.below k2 P1
      have B2 : Below wr.heap.size wr y2 := B1.trans (k2.mono B1.size)
      have w2 := ViewI.below w1 k2 (Nat.le_refl _)
      have r2 := r1.carry (w' := y2) (fun x h _ => k2.block _ (b1 x h).2.1)
      have z2 := k2.size
      have P2 : P < y2.heap.size := S2.lt
      clear hy
      refine hK _ _ ⟨S2, ?_⟩
      clear hK K hi
      refine wpAnyH_all (rs := [8]) (by kernel_rfl) (by simp) ?_
      intro i hi; obtain rfl : i = 8 := by simpa using hi
      refine wpOp_step rfl (fun K hK => ?_)
      rw [if_pos (by kernel_rfl)]
      refine app_at _ _ 25 rfl w.heap.size 50 i1 (.agg #[.int .i64 0, .slice none 0 0]) 2 32 Tryz.underlying25 hj hy0 hy1 hy2 rfl (by decide) u3 Ns.length (mcells Ns) rfl (own_below2 M.own B2 (Nat.le_refl _)) ⟨y1.heap.size, 0, none⟩ 1 1 [.int .i64 m.o, .slice ad1 m.L.length cap1] rfl rfl C2 (fun u hu => by simp at hu; rcases hu with rfl | rfl <;> rfl) (by unfold maxLen; omega) (by omega) (by have := B2.size; have := hb.size; omega) ?_
      intro v3 y3 o3 g3 e3
      have z3 := g3.size
      have S3 : MemAt y3 P m.o m.ad m.L.length m.cap := S2.same (g3.block P P2 (fun e => by have := (own_lt M.own P e.symm).2; omega))
      have B3 : Below w.heap.size w y3 := (hb.trans (B2.mono hb.size)).grown g3 (by have := B2.size; have := hb.size; omega) (fun j e => (own_lt M.own j e).1)
      have M3 : MC w.heap.size y3 v3 (Ns ++ [⟨m.o, ad1, cap1, m.L⟩]) := M.push (B := 0) (m := ⟨m.o, ad1, cap1, m.L⟩) B2 w2 r2 z1 (fun x h _ => by have q1 : x0.heap.size ≤ x.block := (b1 x h).1; have := (b1 x h).2.1; have := B0.size; exact ⟨by omega, by omega⟩) hb.size o3 g3 e3
      clear S0 S1 S2 M w1 w2 r1 r2 B1 B2 o3 g3 e3 C2
      refine hK _ _ ⟨S3, ?_⟩
      clear hK K hi
      refine takeW 9 3 v3 rfl rfl (by kernel_rfl) (by kernel_rfl) (by kernel_rfl) (fun _ _ _ h => h) (by kernel_rfl) (by (intro w hSw; go_simp)) (by assumption) ?_
      simp only [List.set_cons_zero, List.set_cons_succ]
      refine wpAnyH_done (by kernel_rfl) ?_ _
      go_wp2
      go_roundw
      case rel => exact ⟨k + 1, _, by go_num, by omega, stp ⟨m.o, ad1, cap1, m.L⟩ rfl hN.out, M3, B3⟩
      case measure => simp [intOf]; omega
    · obtain rfl : k = Ms.length := by omega
      have hN' := hN.out
      rw [List.take_length] at hN'
      go_wp2
      go_ret
      exact ⟨_, Ns, rfl, hN', M, hb⟩
set_option maxHeartbeats 4000000 in
theorem copC (adO : Option Addr) (cO : Nat) (O : List Bool) (adM : Option Addr) (cM : Nat) (D : DL) (adT : Option Addr) (cT : Nat) (T : List Hd) (lo hi P : Nat) (w : World) (A : CdAt w P adO O.length cO adM D.length cM adT T.length cT) (I : CdV w lo hi adO O adM D adT T) (ht : hi ≤ w.heap.size) (hl : O.length + totD D + T.length ≤ 1048576) :
    Calls Tryz.prog 39 #[.pointer (some ⟨P, 0, none⟩)] w fun e w' => OwnC w O D T e w' := by
  obtain ⟨Ms, rfl, vM, iM, jM⟩ := I.vM
  rw [tot_siz, ← lTo_siz, List.length_map] at hl
  rw [List.length_map] at A
  have lO : O.length ≤ 1048576 := by omega
  have lM : Ms.length ≤ 1048576 := by omega
  have lTT : T.length ≤ 1048576 := by omega
  have lMs : ∀ i, i < Ms.length → (Ms.getD i Mb.nil).L.length ≤ 1048576 := fun i hi => Nat.le_trans (getL_le Ms hi) (by omega)
  have vO := I.vO
  have vT := I.vT
  have lT : HIs adT T (· < w.heap.size) := fun a e p => by have := I.iT a e p; show a.block < _; omega
  have hP := A.lt
  clear I iM jM hl
  obtain ⟨x0, hx⟩ : ∃ x, x = w.alloc (Obj.cells #[.slice none 0 0, .slice none 0 0, .slice none 0 0] 28) := ⟨_, rfl⟩
  obtain ⟨N, hN0⟩ : ∃ N, N = w.heap.size := ⟨_, rfl⟩
  have B0 : Below w.heap.size w x0 := by rw [hx]; exact below_box w _
  have A0 := A.below B0 hP
  have C0 : CdAt x0 N none 0 0 none 0 0 none 0 0 := by rw [hx, hN0]; exact CdAt.box _ _ _ _ _ _ _ _ _ _ _
  have F0 : ∀ i, x0.frozen? ⟨N, i, none⟩ = false := by intro i; rw [hx, hN0]; simp [go_sem]
  have P0 : P < x0.heap.size := A0.lt
  have N0 : N < x0.heap.size := C0.lt
  have hNw : w.heap.size ≤ N := by omega
  have hNP : P ≠ N := by omega
  go_enter Tryz.func39, Tryz.ntmps39
  go_wp2_with fail
  rw [← hx, ← hN0]
  clear hx hN0
  refine wp_region_held (S := fun Y => CdAt Y P adO O.length cO adM Ms.length cM adT T.length cT) (by kernel_rfl) ?_
  change wpAnyH _ _ _ _ _ _ _ _ (World.drew _)
  have S0 : CdAt x0.drew P adO O.length cO adM Ms.length cM adT T.length cT := A0
  refine takeW 0 3 (.pointer (some ⟨P, 0, none⟩)) rfl rfl (by kernel_rfl) (by kernel_rfl) (by kernel_rfl) (fun _ _ _ h => h) (by kernel_rfl) (by (intro w hSw; go_simp)) (by assumption) ?_
  simp only [List.set_cons_zero, List.set_cons_succ]
  refine takeW 1 4 (.pointer (some ⟨P, 0, none⟩)) rfl rfl (by kernel_rfl) (by kernel_rfl) (by kernel_rfl) (fun _ _ _ h => h) (by kernel_rfl) (by (intro w hSw; go_simp)) (by assumption) ?_
  simp only [List.set_cons_zero, List.set_cons_succ]
  refine takeW 2 5 (.pointer (some ⟨P, 0, none⟩)) rfl rfl (by kernel_rfl) (by kernel_rfl) (by kernel_rfl) (fun _ _ _ h => h) (by kernel_rfl) (by (intro w hSw; go_simp)) (by assumption) ?_
  simp only [List.set_cons_zero, List.set_cons_succ]
  refine takeW 3 6 (.slice adO O.length cO) rfl rfl (by kernel_rfl) (by kernel_rfl) (by kernel_rfl) (fun _ _ _ h => h) (by kernel_rfl) (by (intro Y hSw; obtain ⟨X1, X2, X3⟩ := hSw; go_simp)) (by assumption) ?_
  simp only [List.set_cons_zero, List.set_cons_succ]
  refine takeW 5 8 (.pointer (some ⟨P, 0, none⟩)) rfl rfl (by kernel_rfl) (by kernel_rfl) (by kernel_rfl) (fun _ _ _ h => h) (by kernel_rfl) (by (intro w hSw; go_simp)) (by assumption) ?_
  simp only [List.set_cons_zero, List.set_cons_succ]
  refine takeW 6 9 (.pointer (some ⟨P, 0, none⟩)) rfl rfl (by kernel_rfl) (by kernel_rfl) (by kernel_rfl) (fun _ _ _ h => h) (by kernel_rfl) (by (intro w hSw; go_simp)) (by assumption) ?_
  simp only [List.set_cons_zero, List.set_cons_succ]
  refine takeW 7 10 (.pointer (some ⟨P, 1, none⟩)) rfl rfl (by kernel_rfl) (by kernel_rfl) (by kernel_rfl) (fun _ _ _ h => h) (by kernel_rfl) (by (intro w hSw; go_simp)) (by assumption) ?_
  simp only [List.set_cons_zero, List.set_cons_succ]
  refine takeW 8 11 (.slice adM Ms.length cM) rfl rfl (by kernel_rfl) (by kernel_rfl) (by kernel_rfl) (fun _ _ _ h => h) (by kernel_rfl) (by (intro Y hSw; obtain ⟨X1, X2, X3⟩ := hSw; go_simp)) (by assumption) ?_
  simp only [List.set_cons_zero, List.set_cons_succ]
  refine takeW 10 13 (.pointer (some ⟨P, 0, none⟩)) rfl rfl (by kernel_rfl) (by kernel_rfl) (by kernel_rfl) (fun _ _ _ h => h) (by kernel_rfl) (by (intro w hSw; go_simp)) (by assumption) ?_
  simp only [List.set_cons_zero, List.set_cons_succ]
  refine takeW 11 14 (.pointer (some ⟨P, 0, none⟩)) rfl rfl (by kernel_rfl) (by kernel_rfl) (by kernel_rfl) (fun _ _ _ h => h) (by kernel_rfl) (by (intro w hSw; go_simp)) (by assumption) ?_
  simp only [List.set_cons_zero, List.set_cons_succ]
  refine takeW 12 15 (.pointer (some ⟨P, 2, none⟩)) rfl rfl (by kernel_rfl) (by kernel_rfl) (by kernel_rfl) (fun _ _ _ h => h) (by kernel_rfl) (by (intro w hSw; go_simp)) (by assumption) ?_
  simp only [List.set_cons_zero, List.set_cons_succ]
  refine takeW 13 16 (.slice adT T.length cT) rfl rfl (by kernel_rfl) (by kernel_rfl) (by kernel_rfl) (fun _ _ _ h => h) (by kernel_rfl) (by (intro Y hSw; obtain ⟨X1, X2, X3⟩ := hSw; go_simp)) (by assumption) ?_
  simp only [List.set_cons_zero, List.set_cons_succ]
  refine wpAnyH_all (rs := [4]) (by kernel_rfl) (by simp) ?_
  intro i hi; obtain rfl : i = 4 := by simpa using hi
  refine wpOp_step rfl (fun K hK => ?_)
  rw [if_pos (by kernel_rfl)]
  go_simp
  go_at_call 88
  refine (cloneBools adO cO O x0.drew (vO.below B0.drew (Nat.le_refl _)) lO).mono ?_
  rintro e y1 ⟨v1, rfl, o1, j1⟩
  obtain ⟨_, aO, kO, rfl, w1, r1, b1⟩ := own_viewB o1
  have S1 := S0.below j1 P0
  have B1 : Below w.heap.size w y1 := B0.drew.trans (j1.mono B0.size)
  have n1 : x0.heap.size ≤ y1.heap.size := j1.size
  clear o1
  refine hK _ _ ⟨S1, ?_⟩
  clear hK K hi
  refine wpAnyH_all (rs := [9]) (by kernel_rfl) (by simp) ?_
  intro i hi; obtain rfl : i = 9 := by simpa using hi
  refine wpOp_step rfl (fun K hK => ?_)
  rw [if_pos (by kernel_rfl)]
  go_simp
  go_at_call 89
  refine (copM adM cM Ms y1 (vM.below B1 (Nat.le_refl _)) lM lMs).mono ?_
  rintro e y2 ⟨v2, Ns, rfl, hN, M2, j2⟩
  obtain ⟨aM, kM, fp, rfl, w2, f2⟩ := M2.done
  have hNl : Ns.length = Ms.length := by have := congrArg List.length hN; simpa using this
  rw [hNl]
  have n2 := j2.size
  have S2 := S1.below j2 S1.lt
  have B2 : Below w.heap.size w y2 := B1.trans (j2.mono B1.size)
  clear M2
  refine hK _ _ ⟨S2, ?_⟩
  clear hK K hi
  refine wpAnyH_all (rs := [14]) (by kernel_rfl) (by simp) ?_
  intro i hi; obtain rfl : i = 14 := by simpa using hi
  refine wpOp_step rfl (fun K hK => ?_)
  rw [if_pos (by kernel_rfl)]
  go_simp
  go_at_call 90
  refine (cloneHs adT cT T y2 (vT.carry (fun x e p => B2.block _ (lT x e p))) lTT).mono ?_
  rintro e y3 ⟨v3, rfl, o3, j3⟩
  obtain ⟨aT, kT, rfl, w3, r3, b3⟩ := hown_view o3
  have n3 := j3.size
  have S3 := S2.below j3 S2.lt
  have B3 : Below w.heap.size w y3 := B2.trans (j3.mono B2.size)
  clear o3
  refine hK _ _ ⟨S3, ?_⟩
  clear hK K hi
  refine takeW 15 18 (.agg #[.slice aO O.length kO, .slice aM Ms.length kM, .slice aT T.length kT]) rfl rfl (by kernel_rfl) (by kernel_rfl) (by kernel_rfl) (fun _ _ _ h => h) (by kernel_rfl) (by (intro w hSw; go_simp)) (by assumption) ?_
  simp only [List.set_cons_zero, List.set_cons_succ]
  have c3 : CdAt y3 N none 0 0 none 0 0 none 0 0 := ((C0.below (w' := x0.drew) (Below.refl _ _).drew C0.lt).below (j1.trans ((j2.mono j1.size).trans (j3.mono (Nat.le_trans j1.size j2.size)))) C0.lt)
  have g3 : ∀ i, y3.frozen? ⟨N, i, none⟩ = false := fz_below (fz_below F0 (Below.refl _ _).drew C0.lt) (j1.trans ((j2.mono j1.size).trans (j3.mono (Nat.le_trans j1.size j2.size)))) C0.lt
  obtain ⟨c31, c32, c33⟩ := c3
  have g30 := g3 0
  have g31 := g3 1
  have g32 := g3 2
  refine wpAnyH_all (rs := [16]) (by kernel_rfl) (by simp) ?_
  intro i hi; obtain rfl : i = 16 := by simpa using hi
  refine wpOp_step rfl (fun K hK => ?_)
  rw [if_pos (by kernel_rfl)]
  go_simp
  obtain ⟨y4, hy4⟩ : ∃ y, y = ((y3.setCell ⟨N, 0, none⟩ (.slice aO O.length kO)).setCell ⟨N, 1, none⟩ (.slice aM Ms.length kM)).setCell ⟨N, 2, none⟩ (.slice aT T.length kT) := ⟨_, rfl⟩
  have h4 : ∀ j, j ≠ N → y4.heap[j]? = y3.heap[j]? := fun j hj => by rw [hy4]; exact heap_set3 hj
  have n4 : y4.heap.size = y3.heap.size := by rw [hy4]; simp
  have S4 := S3.same (h4 P (by omega))
  have d1 : y4.cell? ⟨N, 0, none⟩ = some (.slice aO O.length kO) := by rw [hy4, cell_set_ne (by omega), cell_set_ne (by omega)]; exact cell_set_same ⟨_, c31⟩
  have d2 : y4.cell? ⟨N, 1, none⟩ = some (.slice aM Ms.length kM) := by rw [hy4, cell_set_ne (by omega)]; exact cell_set_same ⟨_, (cell_set_ne (by omega)).trans c32⟩
  have d3 : y4.cell? ⟨N, 2, none⟩ = some (.slice aT T.length kT) := by rw [hy4]; exact cell_set_same ⟨_, (cell_set_ne (by omega)).trans ((cell_set_ne (by omega)).trans c33)⟩
  rw [← hy4]
  refine hK _ _ ⟨S4, ?_⟩
  clear hK K hi
  refine wpAnyH_done (by kernel_rfl) ?_ _
  have B4 : Below w.heap.size w y4 := by rw [hy4]; exact ((B3.setCell hNw _).setCell hNw _).setCell hNw _
  clear c31 c32 c33 g30 g31 g32 g3 hy4
  go_wp2
  refine bodyPost_ret (v := .agg #[.slice aO O.length kO, .slice aM Ms.length kM, .slice aT T.length kT]) (by simp [results, Tryz.results39, go_sem, d1, d2, d3]) rfl ?_
  refine ⟨aO, kO, aM, kM, aT, kT, by rw [List.length_map], ?_, B4⟩
  have e1 : ∀ j, x0.heap.size ≤ j → j < y1.heap.size → y4.heap[j]? = y1.heap[j]? := fun j h1 h2 => by
    rw [h4 j (by omega), j3.block j (by omega), j2.block j (by omega)]
  have e2 : ∀ j, y1.heap.size ≤ j → j < y2.heap.size → y4.heap[j]? = y2.heap[j]? := fun j h1 h2 => by
    rw [h4 j (by omega), j3.block j (by omega)]
  have e3 : ∀ j, y2.heap.size ≤ j → j < y3.heap.size → y4.heap[j]? = y3.heap[j]? := fun j h1 h2 => h4 j (by omega)
  have b1' : ∀ x, aO = some x → x0.heap.size ≤ x.block ∧ x.block < y1.heap.size := fun x e => ⟨(b1 x e).1, (b1 x e).2.1⟩
  have b3' : ∀ x, aT = some x → y2.heap.size ≤ x.block ∧ x.block < y3.heap.size := fun x e => ⟨(b3 x e).1, (b3 x e).2.1⟩
  have sx := B0.size
  refine ⟨w1.carry (fun x e _ => e1 _ (b1' x e).1 (b1' x e).2), r1.carry (fun x e _ => e1 _ (b1' x e).1 (b1' x e).2), fun x e _ => by have := b1' x e; omega, ⟨Ns, fp, hN, w2.keep (fun x hx => e2 x (f2 x hx).1 (f2 x hx).2), fun x hx => by have := f2 x hx; omega, fun x e _ hx => by have := f2 _ hx; have := b1' x e; omega, fun x e _ hx => by have := f2 _ hx; have := b3' x e; omega⟩, w3.carry (fun x e _ => e3 _ (b3' x e).1 (b3' x e).2), r3.carry (fun x e _ => e3 _ (b3' x e).1 (b3' x e).2), fun x e _ => by have := b3' x e; omega, fun x y e f _ _ => by have := b1' x e; have := b3' y f; omega⟩

end Go.Proofs.YtifndemkkaelaaaGreat
namespace Go.Proofs.YtifndemkkaelaaaGreat
open Go.ChangeShapes Go.WideShapes Go.ChangeAt Go.RowKit
open Go.ChangeMaps (open_string shut_string)
set_option linter.unusedVariables false
set_option maxRecDepth 100000

theorem noMem (own : Int) (ad : Option Addr) (len cap : Nat) (f : Nat → Int) (w : World) (hv : ViewI w ad len f) (hm : len ≤ maxLen) :
    Calls Tryz.prog 92 #[.agg #[.int .i64 own, .slice ad len cap]] w fun e w' => e = .returned (.bool (!mOk own f len)) ∧ Below w.heap.size w w' := by
  go_enter Tryz.func92, Tryz.ntmps92
  go_wp2_with fail
  go_at_call 121
  obtain ⟨x0, hx⟩ : ∃ x, x = w.alloc (Obj.cells #[.int .i64 own, .slice ad len cap] 50) := ⟨_, rfl⟩
  have B0 : Below w.heap.size w x0 := by rw [hx]; exact below_box w _
  rw [← hx]
  clear hx
  refine (memberOkI own ad len cap f x0 (hv.below B0 (Nat.le_refl _)) hm).mono ?_
  rintro e w1 ⟨rfl, k1⟩
  go_wp2
  go_ret
  exact ⟨rfl, B0.trans (k1.mono B0.size)⟩
set_option maxHeartbeats 1000000 in
theorem idxF (ad : Option Addr) (cap : Nat) (Ms : List Mb) (w : World) (hv : MbV w ad Ms) (hl : Ms.length ≤ 1048576) (hmx : ∀ i, i < Ms.length → (Ms.getD i Mb.nil).L.length ≤ maxLen) :
    Calls Tryz.prog 120 #[.slice ad Ms.length cap, .func (Fn.func 92) #[] #[]] w fun e w' => (∃ r : Int, e = .returned (.int .i64 r) ∧ (decide (0 ≤ r) = !(Ms.map Mb.d).all okMem) ∧ r ≤ 1048576 ∧ -1 ≤ r) ∧ Below w.heap.size w w' := by
  have hget : ∀ i, (Ms.map Mb.d).getD i (0, []) = (Ms.getD i Mb.nil).d := d_get Ms
  go_enter Tryz.func120, Tryz.ntmps120
  go_wp2
  go_loopw [8] (fun i wr => ∃ k : Nat, i = .int .i64 (k : Int) ∧ k ≤ Ms.length ∧ Hid (∀ j, j < k → okMem ((Ms.map Mb.d).getD j (0, [])) = true) ∧ Below w.heap.size w wr) (fun i _ => Ms.length - (intOf i).toNat)
  case atStart => exact ⟨0, rfl, Nat.zero_le _, fun j hj => absurd hj (by omega), Below.refl _ _⟩
  case round =>
    obtain ⟨k, rfl, hk, hF, hb⟩ := hrel
    by_cases hlt : k < Ms.length
    · obtain ⟨b, off, rfl, hc⟩ := hv.row (by omega)
      have hck := (hc k hlt).same (hb.block _ (hv.lt ⟨b, off, none⟩ rfl (by omega)))
      have hnk := ViewI.below (hv.nest k hlt) hb (Nat.le_refl _)
      have hmk := hmx k hlt
      have hgk := hget k
      obtain ⟨m, hh⟩ : ∃ m, Ms.getD k Mb.nil = m := ⟨_, rfl⟩
      rw [hh] at hck hnk hmk hgk
      obtain ⟨c1, c2⟩ := hck
      have hgk' : Hid (okMem ((Ms.map Mb.d).getD k (0, [])) = mOk m.o (fun i => m.L.getD i 0) m.L.length) := by unfold Hid; rw [hgk]; rfl
      clear hc hh hgk hget hv hmx
      go_wp2_with fail
      go_at_call 92
      refine (noMem m.o m.ad m.L.length m.cap (fun i => m.L.getD i 0) wr hnk hmk).mono ?_
      rintro e w3 ⟨rfl, k3⟩
      have b3 := hb.trans (k3.mono hb.size)
      by_cases hq : mOk m.o (fun i => m.L.getD i 0) m.L.length = true
      · rw [hq]
        go_wp2
        go_roundw
        case rel =>
          refine ⟨k + 1, by go_num, by omega, fun j hj => ?_, b3⟩
          by_cases e : j = k
          · rw [e, hgk'.out]; exact hq
          · exact hF.out j (by omega)
        case measure => simp [intOf]; omega
      · have hq' : mOk m.o (fun i => m.L.getD i 0) m.L.length = false := by simpa using hq
        rw [hq']
        go_wp2
        go_ret
        refine ⟨⟨k, rfl, ?_, by omega, by omega⟩, b3⟩
        rw [all_no (D := Ms.map Mb.d) (k := k) (by rw [List.length_map]; omega) (by rw [hgk'.out]; exact hq')]
        simp
    · obtain rfl : k = Ms.length := by omega
      go_wp2
      go_ret
      refine ⟨⟨-1, rfl, ?_, by omega, by omega⟩, hb⟩
      rw [all_yes (D := Ms.map Mb.d) (fun j hj => hF.out j (by rw [List.length_map] at hj; omega))]
      rfl
theorem contF (ad : Option Addr) (cap : Nat) (Ms : List Mb) (w : World) (hv : MbV w ad Ms) (hl : Ms.length ≤ 1048576) (hmx : ∀ i, i < Ms.length → (Ms.getD i Mb.nil).L.length ≤ maxLen) :
    Calls Tryz.prog 91 #[.slice ad Ms.length cap, .func (Fn.func 92) #[] #[]] w fun e w' => e = .returned (.bool (!(Ms.map Mb.d).all okMem)) ∧ Below w.heap.size w w' := by
  have hI := idxF ad cap Ms w hv hl hmx
  generalize (!(Ms.map Mb.d).all okMem) = B at *
  go_enter Tryz.func91, Tryz.ntmps91
  go_wp2_with fail
  go_at_call 120
  refine hI.mono ?_
  rintro e w1 ⟨⟨r, rfl, hr, r1, r2⟩, k1⟩
  go_wp2
  go_ret
  exact ⟨rfl, k1⟩

end Go.Proofs.YtifndemkkaelaaaGreat
