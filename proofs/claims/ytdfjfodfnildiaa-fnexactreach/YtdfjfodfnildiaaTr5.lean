/- impl.openLinks, walked. -/
import Derived.Test.YtdfjfodfnildiaaRows
import Derived.WalkKit
import Derived.ProofKit
import Derived.OpenShut
import Derived.ShutString
import Derived.ChangeOld
import Derived.Below
import Derived.Deep.QuietTactic
import Derived.BigQuiet
import Derived.WalkSmall
import Derived.Laws.OwnMore
import Derived.WalkSpells
import Derived.WalkLawsBesides
import Derived.Deep.Cut
import Derived.Laws.StructEq
import Derived.Maps.AppendAt
import Derived.Test.YtdfjfodfnildiaaTr4
import Derived.Test.YtdfjfodfnildiaaFlatApp
import Derived.Test.YtdfjfodfnildiaaLk2
namespace Go.Proofs.Ytdfjfodfnildiaa
open Go.ChangeShapes Go.WideShapes Go.ChangeAt Go.RowKit
open Go.ChangeMaps (open_string shut_string)
set_option linter.unusedVariables false
set_option maxRecDepth 100000

theorem FView.oneK (w : World) (t : TypeId) (x : Lk) : FView lkEnc (w.alloc (Obj.cells #[.int .i64 x.a, .int .i64 x.p, .int .i64 x.b, .int .i64 x.q] t)) (some ⟨w.heap.size, 0, none⟩) [x] := by
  intro _
  refine ⟨w.heap.size, 0, rfl, fun j v hv => ?_⟩
  match j, hv with
  | 0, hv => cases hv; simp [go_sem]
  | 1, hv => cases hv; simp [go_sem]
  | 2, hv => cases hv; simp [go_sem]
  | 3, hv => cases hv; simp [go_sem]
  | j + 4, hv => simp [fcells, lkEnc] at hv
theorem filter_take (p : Lk → Bool) (K : List Lk) {k : Nat} (h : k < K.length) : (K.take (k + 1)).filter p = (K.take k).filter p ++ (if p (K.getD k Lk.nil) = true then [K.getD k Lk.nil] else []) := by
  rw [take_oneK K h, List.filter_append]
  congr 1
  simp [List.filter_cons]
set_option maxHeartbeats 8000000 in
theorem openLI (adB : Option Addr) (capB : Nat) (Bs : List Bd) (adK : Option Addr) (capK : Nat) (K : List Lk) (w : World) (h : NN w adB Bs adK K) (hP : ∀ l, l ∈ K → PortP (dB Bs) l.a l.p ∧ PortP (dB Bs) l.b l.q) :
    Calls Try.prog 40 #[.agg #[.slice adB Bs.length capB, .slice adK K.length capK]] w fun e w' => ∃ a c, e = .returned (.slice a (K.filter (openB (dB Bs))).length c) ∧ FOwn lkEnc 4 64 w.heap.size w' (.slice a (K.filter (openB (dB Bs))).length c) (K.filter (openB (dB Bs))) ∧ Below w.heap.size w w' := by
  obtain ⟨i0, hi, hz0, hz1, hz2⟩ := info_parts lkInfo
  obtain ⟨p, hp⟩ : ∃ p, p = openB (dB Bs) := ⟨_, rfl⟩
  rw [← hp]
  replace hp : Hid _ := hp
  have hl := h.hk
  obtain ⟨y, hy⟩ : ∃ y, y = w.alloc (Obj.cells #[.slice adB Bs.length capB, .slice adK K.length capK] 27) := ⟨_, rfl⟩
  have B0 : Below w.heap.size w y := by rw [hy]; exact below_new _
  have A0 : NeAt y w.heap.size (.slice adB Bs.length capB) (.slice adK K.length capK) := by rw [hy]; exact NeAt.new w _
  have hN := h.later B0
  have S0 := A0.lt
  go_enter Try.func40, Try.ntmps40
  go_upto_region 1 with fail
  rw [← hy]
  clear hy h
  have cc := A0
  obtain ⟨a0, a1⟩ := cc
  go_wp2
  clear a0 a1
  go_loopw [3, 9] (fun v i wr => ∃ k : Nat, k ≤ K.length ∧ i = .int .i64 (k : Int) ∧ FOwn lkEnc 4 64 y.heap.size wr v ((K.take k).filter p) ∧ Below y.heap.size y wr) (fun _ i _ => K.length - (intOf i).toNat)
  case atStart => exact ⟨0, Nat.zero_le _, rfl, FOwn.nil, Below.refl _ _⟩
  case round =>
    obtain ⟨k, hk, rfl, O, kb⟩ := hrel
    by_cases hlt : k < K.length
    · obtain ⟨M, hM⟩ : ∃ M, (K.take k).filter p = M := ⟨_, rfl⟩
      have hMl : M.length ≤ k := by
        rw [← hM]
        exact Nat.le_trans (List.length_filter_le _ _) (by simp; omega)
      rw [hM] at O
      replace hM : Hid _ := hM
      obtain ⟨adk, capk, rfl⟩ := O.open_
      have hN1 := hN.later kb
      have A1 := A0.below kb S0
      have vk := hN1.vk
      obtain ⟨b, off, rfl, _⟩ := vk (by omega)
      obtain ⟨x, hh⟩ : ∃ h, K.getD k Lk.nil = h := ⟨_, rfl⟩
      have hck : LkAtO wr b (off + k * 4) x := by
        rw [← hh]
        exact lkAtO_of (vk.at_ lkEnc_len Lk.nil hlt)
      have hm : x ∈ K := by
        rw [← hh, show K.getD k Lk.nil = K[k] by simp [List.getD, hlt]]
        exact List.getElem_mem hlt
      have hq := hP x hm
      have hst : Hid ((K.take (k + 1)).filter p = M ++ (if p x = true then [x] else [])) := by
        unfold Hid
        rw [filter_take p K hlt, hM.out, hh]
      clear hh hm
      obtain ⟨c0, c1, c2, c3⟩ := hck
      obtain ⟨u, hu⟩ : ∃ u, u = wr.alloc (Obj.cells #[.int .i64 x.a, .int .i64 x.p, .int .i64 x.b, .int .i64 x.q] 64) := ⟨_, rfl⟩
      have ku : Below wr.heap.size wr u := by rw [hu]; exact below_new _
      have X : LkAtO u wr.heap.size 0 x := by rw [hu]; constructor <;> simp [go_sem]
      have xl : wr.heap.size < u.heap.size := World.block_lt_of_cell? u _ X.c0
      have bu := kb.trans (ku.mono kb.size)
      have Ou := O.later ku
      have Nu := hN1.later ku
      have Au := A1.below ku A1.lt
      clear ku vk O A1 hN1
      go_upto_region 5 with fail
      rw [← hu]
      clear hu c0 c1 c2 c3
      have cc := Au
      obtain ⟨a0, a1⟩ := cc
      have dd := X
      obtain ⟨x0, x1, x2, x3⟩ := dd
      simp only [Nat.zero_add] at x0 x1 x2 x3
      go_wp2_with fail
      go_at_call 45
      clear a0 a1 x0 x1 x2 x3
      refine (isOpenI adB capB Bs (some ⟨b, off, none⟩) capK K x u Nu hq.1 hq.2).mono ?_
      rintro e u1 ⟨rfl, k1⟩
      rw [← hp.out]
      have b1 := bu.trans (k1.mono bu.size)
      have X1 := X.below k1 xl
      have O1 := Ou.later k1
      have s1 := k1.size
      have sb := kb.size
      clear k1 bu X Ou Nu Au hq
      obtain ⟨o, ho⟩ : ∃ o, p x = o := ⟨_, rfl⟩
      rw [ho] at hst ⊢
      clear ho
      cases o
      · have hst : Hid ((K.take (k + 1)).filter p = M) := by have := hst.out; unfold Hid; simpa using this
        go_wp2
        go_roundw
        case rel => exact ⟨k + 1, by omega, by go_num, by rw [hst.out]; exact O1, b1⟩
        case measure => simp [intOf]; omega
      · have hst : Hid ((K.take (k + 1)).filter p = M ++ [x]) := by have := hst.out; unfold Hid; simpa using this
        obtain ⟨x0, x1, x2, x3⟩ := X1
        simp only [Nat.zero_add] at x0 x1 x2 x3
        have V1 := FView.oneK u1 64 x
        have O2 := O1.later (below_new (w := u1) (Obj.cells #[.int .i64 x.a, .int .i64 x.p, .int .i64 x.b, .int .i64 x.q] 64))
        go_wp2_with (first | (at_builtin; refine fappL lkEnc_len lkEnc_ones rfl _ _ 25 rfl y.heap.size 64 i0 (.agg #[.int .i64 0, .int .i64 0, .int .i64 0, .int .i64 0]) 32 Try.underlying25 hi hz0 hz1 hz2 rfl (by decide) (by decide) (.slice adk M.length capk) M rfl O2 (some ⟨u1.heap.size, 0, none⟩) 1 [x] rfl (fun e => by cases e) V1 ?z0 ?z1 ?_) | go_in)
        case z0 => simp; omega
        case z1 => simp; omega
        intro vZ wZ hownZ hgrowZ _
        have ho2 : ∀ g_, (Value.slice adk M.length capk).ownBlock = some g_ → y.heap.size ≤ g_ := fun g_ e => (O2.lt g_ e).1
        have KZ : Below y.heap.size y wZ := (b1.alloc (by omega) _).grown hgrowZ (by simp; omega) ho2
        clear hgrowZ V1 O2 ho2 O1 x0 x1 x2 x3
        go_wp2
        go_roundw
        case rel => exact ⟨k + 1, by omega, by go_num, by rw [hst.out]; exact hownZ, KZ⟩
        case measure => simp [intOf]; omega
    · obtain rfl : k = K.length := by omega
      rw [List.take_length] at O
      obtain ⟨adk, capk, rfl⟩ := O.open_
      have BZ := B0.trans (kb.mono B0.size)
      have OZ := O.base B0.size
      go_wp2
      go_ret
      exact ⟨_, _, rfl, OZ, BZ⟩

end Go.Proofs.Ytdfjfodfnildiaa
