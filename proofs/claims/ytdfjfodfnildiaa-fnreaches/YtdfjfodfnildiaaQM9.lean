/- Nets: how they come in. Lists of links, copied. Nets, copied. The small functions of NetOk, walked. impl.endIsOf, spec.l10End, walked. slices.Concat of links, walked. -/
import Derived.Test.YtdfjfodfnildiaaRows
import Derived.WalkKit
import Derived.ProofKit
import Derived.OpenShut
import Derived.ShutString
import Derived.ChangeOld
import Derived.Below
import Derived.Deep.QuietTactic
import Derived.BigQuiet
import Derived.WalkSmall
import Derived.Laws.OwnMore
import Derived.WalkSpells
import Derived.WalkLawsBesides
import Derived.Lib.SmallJoins
import Derived.Test.YtdfjfodfnildiaaQM6
import Derived.Test.YtdfjfodfnildiaaQM1
import Derived.Laws.StructEq
import Derived.Test.YtdfjfodfnildiaaQM2
import Derived.Deep.Cut
import Derived.Test.YtdfjfodfnildiaaQKBr3
import Derived.Maps.AppendAt
import Derived.Lib.AppendZeros
namespace Go.Proofs.Ytdfjfodfnildiaa
open Go.ChangeShapes Go.WideShapes Go.ChangeAt Go.RowKit
open Go.ChangeMaps (open_string shut_string)
set_option linter.unusedVariables false
set_option maxRecDepth 100000

structure NeAt (w : World) (q : Nat) (v0 v1 : Value) : Prop where
  c0 : w.cell? ⟨q, 0, none⟩ = some v0
  c1 : w.cell? ⟨q, 1, none⟩ = some v1
theorem NeAt.keep {w w' : World} {q : Nat} {v0 v1 : Value} (h : NeAt w q v0 v1) (k : w'.heap[q]? = w.heap[q]?) : NeAt w' q v0 v1 :=
  ⟨(World.cell?_of_block (a := ⟨q, 0, none⟩) k).trans h.c0, (World.cell?_of_block (a := ⟨q, 1, none⟩) k).trans h.c1⟩
theorem NeAt.below {w w' : World} {q n : Nat} {v0 v1 : Value} (h : NeAt w q v0 v1) (k : Below n w w') (hq : q < n) : NeAt w' q v0 v1 := h.keep (k.block q hq)
theorem NeAt.lt {w : World} {q : Nat} {v0 v1 : Value} (h : NeAt w q v0 v1) : q < w.heap.size := World.block_lt_of_cell? w _ h.c0
theorem NeAt.new (w : World) (t : TypeId) {v0 v1 : Value} : NeAt (w.alloc (Obj.cells #[v0, v1] t)) w.heap.size v0 v1 := by
  refine ⟨?_, ?_⟩ <;> simp [go_sem]
end Go.Proofs.Ytdfjfodfnildiaa
namespace Go.Proofs.Ytdfjfodfnildiaa
open Go.ChangeShapes Go.WideShapes Go.ChangeAt Go.RowKit
open Go.ChangeMaps (open_string shut_string)
set_option linter.unusedVariables false
set_option maxRecDepth 100000

theorem lkInfo : (Try.prog.info? 64).map (fun i => (i.zero, i.size, i.bytes)) = some (some (.agg #[.int .i64 0, .int .i64 0, .int .i64 0, .int .i64 0]), 4, 32) := by kernel_rfl
end Go.Proofs.Ytdfjfodfnildiaa
namespace Go.Proofs.Ytdfjfodfnildiaa
open Go.ChangeShapes Go.WideShapes Go.ChangeAt Go.RowKit
open Go.ChangeMaps (open_string shut_string)
set_option linter.unusedVariables false
set_option maxRecDepth 100000

end Go.Proofs.Ytdfjfodfnildiaa
namespace Go.Proofs.Ytdfjfodfnildiaa
open Go.ChangeShapes Go.WideShapes Go.ChangeAt Go.RowKit
open Go.ChangeMaps (open_string shut_string)
set_option linter.unusedVariables false
set_option maxRecDepth 100000

theorem endsI (x : Lk) (w : World) :
    Calls Try.prog 70 #[.agg #[.int .i64 x.a, .int .i64 x.p, .int .i64 x.b, .int .i64 x.q]] w fun e w' => e = .returned (.agg #[.int .i64 x.a, .int .i64 x.p, .int .i64 x.b, .int .i64 x.q]) ∧ Below w.heap.size w w' := by
  go_enter Try.func70, Try.ntmps70
  go_wp2
  refine bodyPost_ret (v := .agg #[.int .i64 x.a, .int .i64 x.p, .int .i64 x.b, .int .i64 x.q]) (by simp [results, Try.results70, go_sem]) rfl ⟨rfl, ?_⟩
  exact ((Below.refl _ _).alloc (Nat.le_refl _) _).alloc (by simp) _
set_option maxHeartbeats 1000000 in
theorem hasIdI (ad : Option Addr) (cap : Nat) (Bs : List Bd) (m : Nat) (id : Int) (w : World) (hv : NV w ad Bs) (hm : m ≤ Bs.length) (hl : Bs.length ≤ 1048576) :
    Calls Try.prog 76 #[.slice ad m cap, .int .i64 id] w fun e w' => YN e (∃ k, k < m ∧ (Bs.getD k Bd.nil).id = id) ∧ Below w.heap.size w w' := by
  go_enter Try.func76, Try.ntmps76
  go_wp2
  go_loopw [9] (fun i wr => ∃ k : Nat, k ≤ m ∧ i = .int .i64 k ∧ Hid (∀ j, j < k → (Bs.getD j Bd.nil).id ≠ id) ∧ Below w.heap.size w wr) (fun i _ => m - (intOf i).toNat)
  case atStart => exact ⟨0, Nat.zero_le _, rfl, fun j hj => absurd hj (by omega), Below.refl _ _⟩
  case round =>
    obtain ⟨k, hk, rfl, hF, hb⟩ := hrel
    by_cases hlt : k < m
    · obtain ⟨b, off, rfl⟩ := hv.ad_ (by omega)
      have hck := (hv.below hb (Nat.le_refl _)).at_ (i := k) (by omega)
      obtain ⟨⟨id', a1, c1, L1⟩, hh⟩ : ∃ q, Bs.getD k Bd.nil = q := ⟨_, rfl⟩
      rw [hh] at hck
      obtain ⟨x1, x2⟩ := hck
      dsimp only at x1 x2
      replace hh : Hid _ := hh
      clear hv
      by_cases he : id' = id
      · have e1 : (id' == id) = true := by simp [he]
        have e2 : decide (id' = id) = true := decide_eq_true he
        replace he : Hid _ := he
        go_wp2
        go_ret
        exact ⟨YN.yes ⟨k, hlt, by rw [hh.out]; exact he.out⟩, hb.alloc hb.size _⟩
      · have e1 : (id' == id) = false := by simp [he]
        have e2 : decide (id' = id) = false := decide_eq_false he
        replace he : Hid _ := he
        go_wp2
        go_roundw
        case rel =>
          refine ⟨k + 1, by omega, by go_num, fun j hj => ?_, hb.alloc hb.size _⟩
          by_cases ej : j = k
          · rw [ej, hh.out]; exact he.out
          · exact hF.out j (by omega)
        case measure => simp [intOf]; omega
    · obtain rfl : k = m := by omega
      go_wp2
      go_ret
      exact ⟨YN.no (fun ⟨j, hj, ej⟩ => absurd ej (hF.out j hj)), hb⟩
theorem LkAtO.below {w w' : World} {q o n : Nat} {x : Lk} (h : LkAtO w q o x) (k : Below n w w') (hq : q < n) : LkAtO w' q o x :=
  ⟨(World.cell?_of_block (a := ⟨q, o, none⟩) (k.block q hq)).trans h.c0, (World.cell?_of_block (a := ⟨q, o + 1, none⟩) (k.block q hq)).trans h.c1, (World.cell?_of_block (a := ⟨q, o + 2, none⟩) (k.block q hq)).trans h.c2, (World.cell?_of_block (a := ⟨q, o + 3, none⟩) (k.block q hq)).trans h.c3⟩
structure EnAt (w : World) (q : Nat) (a p : Int) : Prop where
  c0 : w.cell? ⟨q, 0, none⟩ = some (.int .i64 a)
  c1 : w.cell? ⟨q, 1, none⟩ = some (.int .i64 p)
theorem EnAt.keep {w w' : World} {q : Nat} {a p : Int} (h : EnAt w q a p) (k : w'.heap[q]? = w.heap[q]?) : EnAt w' q a p :=
  ⟨(World.cell?_of_block (a := ⟨q, 0, none⟩) k).trans h.c0, (World.cell?_of_block (a := ⟨q, 1, none⟩) k).trans h.c1⟩
theorem EnAt.below {w w' : World} {q n : Nat} {a p : Int} (h : EnAt w q a p) (k : Below n w w') (hq : q < n) : EnAt w' q a p := h.keep (k.block q hq)
theorem EnAt.lt {w : World} {q : Nat} {a p : Int} (h : EnAt w q a p) : q < w.heap.size := World.block_lt_of_cell? w _ h.c0
theorem EnAt.new (w : World) (t : TypeId) (a p : Int) : EnAt (w.alloc (Obj.cells #[.int .i64 a, .int .i64 p] t)) w.heap.size a p := by
  refine ⟨?_, ?_⟩ <;> simp [go_sem]
theorem ixEnd0 (x : Lk) (w : World) : (Instr.index 96 (.agg #[.int .i64 x.a, .int .i64 x.p, .int .i64 x.b, .int .i64 x.q]) (.int .i64 0)).run Try.prog w = .ok (.agg #[.int .i64 x.a, .int .i64 x.p]) w := by kernel_rfl
theorem ixEnd1 (x : Lk) (w : World) : (Instr.index 96 (.agg #[.int .i64 x.a, .int .i64 x.p, .int .i64 x.b, .int .i64 x.q]) (.int .i64 1)).run Try.prog w = .ok (.agg #[.int .i64 x.b, .int .i64 x.q]) w := by kernel_rfl
theorem eqEnd (a p b q : Int) (w : World) : (binOp .eql 95 (.agg #[.int .i64 a, .int .i64 p]) (.agg #[.int .i64 b, .int .i64 q])).run Try.prog w = .ok (.bool (decide (a = b ∧ p = q))) w := by
  by_cases h1 : a = b
  · by_cases h2 : p = q
    · subst h1 h2
      simp [go_sem]
    · subst h1
      simp [go_sem, h2]
  · simp [go_sem, h1]
def bt (o : Bool) : Int := if o = true then 1 else 0
theorem bt01 (o : Bool) : 0 ≤ bt o ∧ bt o ≤ 1 := by cases o <;> simp [bt]
set_option maxHeartbeats 4000000 in
theorem linksAtI (ad : Option Addr) (cap : Nat) (K : List Lk) (a p : Int) (w : World) (hv : FView lkEnc w ad K) (hl : K.length ≤ 1048576) :
    Calls Try.prog 78 #[.slice ad K.length cap, .agg #[.int .i64 a, .int .i64 p]] w fun e w' => e = .returned (.int .i64 (onceL K a p)) ∧ Below w.heap.size w w' := by
  have hB := hv.lt lkEnc_len (by omega)
  obtain ⟨y, hy⟩ : ∃ y, y = w.alloc (Obj.cells #[.int .i64 a, .int .i64 p] 95) := ⟨_, rfl⟩
  have B0 : Below w.heap.size w y := by rw [hy]; exact below_new _
  have A0 : EnAt y w.heap.size a p := by rw [hy]; exact EnAt.new w _ _ _
  have l0 := A0.lt
  go_enter Try.func78, Try.ntmps78
  go_wp2
  rw [← hy]
  clear hy
  go_loopw [5, 12] (fun s i wr => ∃ (k : Nat) (c : Int), k ≤ K.length ∧ i = .int .i64 k ∧ s = .int .i64 c ∧ Hid (c = onceL (K.take k) a p) ∧ Below w.heap.size w wr ∧ EnAt wr w.heap.size a p) (fun _ i _ => K.length - (intOf i).toNat)
  case atStart => exact ⟨0, 0, Nat.zero_le _, rfl, rfl, by unfold Hid; simp [onceL], B0, A0⟩
  case round =>
    obtain ⟨k, c, hk, rfl, rfl, hc, hb, A⟩ := hrel
    clear B0 A0
    by_cases hlt : k < K.length
    · obtain ⟨b, off, rfl, _⟩ := hv (by omega)
      obtain ⟨x, hh⟩ : ∃ h, K.getD k Lk.nil = h := ⟨_, rfl⟩
      have hck : LkAtO wr b (off + k * 4) x := by
        rw [← hh]
        exact lkAtO_of ((hv.below hb hB).at_ lkEnc_len Lk.nil hlt)
      have hst : Hid (onceL (K.take (k + 1)) a p = c + ((if x.a = a ∧ x.p = p then 1 else 0) + (if x.b = a ∧ x.q = p then 1 else 0))) := by
        unfold Hid
        rw [hc.out, once_take K a p hlt, hh]
      have hc0 : 0 ≤ c := by rw [hc.out]; exact once_nonneg _ _ _
      have hc1 : c ≤ 2100000 := by
        have h1 := hc.out
        have h2 := once_most (K.take k) a p
        rw [List.length_take] at h2
        omega
      obtain ⟨c0, c1, c2, c3⟩ := hck
      obtain ⟨u, hu⟩ : ∃ u, u = wr.alloc (Obj.cells #[.int .i64 x.a, .int .i64 x.p, .int .i64 x.b, .int .i64 x.q] 64) := ⟨_, rfl⟩
      have bu : Below w.heap.size w u := by rw [hu]; exact hb.alloc hb.size _
      have Au : EnAt u w.heap.size a p := by rw [hu]; exact A.below (below_new _) A.lt
      clear hv hh hB
      go_wp2_with fail
      go_at_call 70
      rw [← hu]
      clear hu c0 c1 c2 c3 A hb
      refine (endsI x u).mono ?_
      rintro e u1 ⟨rfl, k1⟩
      have b1 := bu.trans (k1.mono bu.size)
      have A1 := Au.below k1 Au.lt
      clear k1 Au bu
      go_wp2
      refine wp_loop_rounds 3 ?_
      rw [rounds_succ]
      obtain ⟨o1, ho1⟩ : ∃ o, decide (x.a = a ∧ x.p = p) = o := ⟨_, rfl⟩
      obtain ⟨o2, ho2⟩ : ∃ o, decide (x.b = a ∧ x.q = p) = o := ⟨_, rfl⟩
      have t1 := bt01 o1
      have t2 := bt01 o2
      have hst : Hid (onceL (K.take (k + 1)) a p = c + (bt o1 + bt o2)) := by
        unfold Hid
        rw [hst.out, ← ho1, ← ho2]
        unfold bt
        simp only [decide_eq_true_eq]
      replace ho1 : Hid _ := ho1
      replace ho2 : Hid _ := ho2
      have q1 : ∀ w, (binOp .eql 95 (.agg #[.int .i64 x.a, .int .i64 x.p]) (.agg #[.int .i64 a, .int .i64 p])).run Try.prog w = .ok (.bool o1) w := fun w => by rw [eqEnd, ho1.out]
      have q2 : ∀ w, (binOp .eql 95 (.agg #[.int .i64 x.b, .int .i64 x.q]) (.agg #[.int .i64 a, .int .i64 p])).run Try.prog w = .ok (.bool o2) w := fun w => by rw [eqEnd, ho2.out]
      have ix0 := ixEnd0 x
      have ix1 := ixEnd1 x
      have lu := A1.lt
      obtain ⟨a0, a1⟩ := A1
      go_wp2_with fail
      go_at_call 79
      obtain ⟨m1, hm1⟩ : ∃ m, m = bt o1 := ⟨_, rfl⟩
      obtain ⟨m2, hm2⟩ : ∃ m, m = bt o2 := ⟨_, rfl⟩
      rw [← hm1, ← hm2] at hst
      rw [← hm1] at t1
      rw [← hm2] at t2
      refine (oneIfI o1 m1 hm1.symm _).mono ?_
      rintro e u2 ⟨rfl, rfl⟩
      replace hm1 : Hid _ := hm1
      replace hm2 : Hid _ := hm2
      go_wp2_with fail
      rw [rounds_succ]
      go_wp2_with fail
      go_at_call 79
      refine (oneIfI o2 m2 hm2.out.symm _).mono ?_
      rintro e u3 ⟨rfl, rfl⟩
      go_wp2_with fail
      rw [rounds_succ]
      go_wp2
      go_roundw
      case rel => exact ⟨k + 1, c + m1 + m2, by omega, by go_num, by go_num, by have := hst.out; unfold Hid; omega, (b1.alloc b1.size _).alloc (b1.alloc b1.size _).size _, (EnAt.mk a0 a1 |>.below (below_new _) lu).below (below_new _) (by simp; omega)⟩
      case measure => simp [intOf]; omega
    · obtain rfl : k = K.length := by omega
      have e : c = onceL K a p := by rw [hc.out, List.take_length]
      go_wp2
      go_ret
      exact ⟨by rw [← e]; rfl, hb⟩

end Go.Proofs.Ytdfjfodfnildiaa
namespace Go.Proofs.Ytdfjfodfnildiaa
open Go.ChangeShapes Go.WideShapes Go.ChangeAt Go.RowKit
open Go.ChangeMaps (open_string shut_string)
set_option linter.unusedVariables false
set_option maxRecDepth 100000

structure NN (w : World) (adB : Option Addr) (Bs : List Bd) (adK : Option Addr) (K : List Lk) : Prop where
  vb : NV w adB Bs
  vk : FView lkEnc w adK K
  hl : Bs.length ≤ 1048576
  hls : ∀ i, i < Bs.length → (Bs.getD i Bd.nil).L.length ≤ 1048576
  hk : K.length ≤ 1048576
theorem NN.below {w w' : World} {adB : Option Addr} {Bs : List Bd} {adK : Option Addr} {K : List Lk} {B : Nat} (h : NN w adB Bs adK K) (k : Below B w w') (hB : w.heap.size ≤ B) : NN w' adB Bs adK K :=
  ⟨h.vb.below k hB, h.vk.below k (fun a e p => Nat.lt_of_lt_of_le (h.vk.lt lkEnc_len (by omega) a e p) hB), h.hl, h.hls, h.hk⟩
theorem NN.later {w w' : World} {adB : Option Addr} {Bs : List Bd} {adK : Option Addr} {K : List Lk} (h : NN w adB Bs adK K) (k : Below w.heap.size w w') : NN w' adB Bs adK K := h.below k (Nat.le_refl _)
abbrev dB (Bs : List Bd) : List Bg := Bs.map Bd.d
theorem dB_len (Bs : List Bd) : (dB Bs).length = Bs.length := by simp
theorem portP_iff {Bs : List Bd} {a p : Int} : PortP (dB Bs) a p ↔ (0 ≤ a ∧ a < (Bs.length : Int)) ∧ (0 ≤ p ∧ p < ((Bs.getD a.toNat Bd.nil).L.length : Int)) := by
  unfold PortP dB
  rw [bd_get, List.length_map]
  exact Iff.rfl
theorem endP_iff {Bs : List Bd} {a p : Int} : EndP (dB Bs) a p ↔ (0 ≤ a ∧ a < (Bs.length : Int)) ∧ (0 ≤ p ∧ p < ((Bs.getD a.toNat Bd.nil).L.length : Int)) ∧ ((Bs.getD a.toNat Bd.nil).L.getD p.toNat Pt.nil).up = true := by
  unfold EndP pt dB
  rw [bd_get, List.length_map]
  exact Iff.rfl
set_option maxHeartbeats 4000000 in
theorem eIsOfI (adB : Option Addr) (capB : Nat) (Bs : List Bd) (adK : Option Addr) (capK : Nat) (K : List Lk) (a p : Int) (w : World) (h : NN w adB Bs adK K) :
    Calls Try.prog 77 #[.agg #[.slice adB Bs.length capB, .slice adK K.length capK], .agg #[.int .i64 a, .int .i64 p]] w fun e w' => YN e (PortP (dB Bs) a p) ∧ Below w.heap.size w w' := by
  obtain ⟨vb, vk, hl, hls, hk⟩ := h
  obtain ⟨y, hy⟩ : ∃ y, y = (w.alloc (Obj.cells #[.slice adB Bs.length capB, .slice adK K.length capK] 27)).alloc (Obj.cells #[.int .i64 a, .int .i64 p] 95) := ⟨_, rfl⟩
  have B0 : Below w.heap.size w y := by rw [hy]; exact ((Below.refl _ _).alloc (Nat.le_refl _) _).alloc (by simp) _
  have A0 : NeAt y w.heap.size (.slice adB Bs.length capB) (.slice adK K.length capK) := by rw [hy]; constructor <;> simp [go_sem]
  have A1 : EnAt y (w.heap.size + 1) a p := by rw [hy]; constructor <;> simp [go_sem]
  have l1 := A1.lt
  by_cases h1 : 0 ≤ a
  rotate_left
  · have d1 : decide (0 ≤ a) = false := decide_eq_false h1
    replace h1 : Hid _ := h1
    go_enter Try.func77, Try.ntmps77
    go_upto_region 1 with fail
    rw [← hy]
    clear hy
    refine wp_region_held (S := fun Y => Below y.heap.size y Y) (by kernel_rfl) ?_
    change wpAnyH _ _ _ _ _ _ _ _ (World.drew _)
    have hb0 : Below y.heap.size y y.drew := (Below.refl _ _).drew
    obtain ⟨u0, hy0⟩ : ∃ y_, y_ = y.drew := ⟨_, rfl⟩
    rw [← hy0] at hb0 ⊢
    clear hy0
    refine takeW 0 5 (.pointer (some ⟨(w.heap.size + 1), 0, none⟩)) rfl rfl (by kernel_rfl) (by kernel_rfl) (by kernel_rfl) (fun _ _ _ h => h) (by kernel_rfl) (by (intro w hSw; go_simp)) (by assumption) ?_
    simp only [List.set_cons_zero, List.set_cons_succ]
    refine takeW 1 6 (.int .i64 a) rfl rfl (by kernel_rfl) (by kernel_rfl) (by kernel_rfl) (fun _ _ _ h => h) (by kernel_rfl) (by (intro Y hSw; obtain ⟨X0, X1⟩ := A1.below hSw A1.lt; go_simp)) (by assumption) ?_
    simp only [List.set_cons_zero, List.set_cons_succ]
    refine takeW 2 7 (.bool false) rfl rfl (by kernel_rfl) (by kernel_rfl) (by kernel_rfl) (fun _ _ _ h => h) (by kernel_rfl) (by (intro w hSw; go_simp)) (by assumption) ?_
    simp only [List.set_cons_zero, List.set_cons_succ]
    refine takeW 3 8 (.bool false) rfl rfl (by kernel_rfl) (by kernel_rfl) (by kernel_rfl) (fun _ _ _ h => h) (by kernel_rfl) (by (intro w hSw; go_simp)) (by assumption) ?_
    simp only [List.set_cons_zero, List.set_cons_succ]
    refine takeS 4 9 rfl rfl (by kernel_rfl) (by kernel_rfl) (by kernel_rfl) (fun _ _ _ h => h) (by kernel_rfl) (by assumption) ?_
    simp only [List.set_cons_zero, List.set_cons_succ]
    refine takeS 5 10 rfl rfl (by kernel_rfl) (by kernel_rfl) (by kernel_rfl) (fun _ _ _ h => h) (by kernel_rfl) (by assumption) ?_
    simp only [List.set_cons_zero, List.set_cons_succ]
    refine takeS 6 11 rfl rfl (by kernel_rfl) (by kernel_rfl) (by kernel_rfl) (fun _ _ _ h => h) (by kernel_rfl) (by assumption) ?_
    simp only [List.set_cons_zero, List.set_cons_succ]
    refine takeS 7 12 rfl rfl (by kernel_rfl) (by kernel_rfl) (by kernel_rfl) (fun _ _ _ h => h) (by kernel_rfl) (by assumption) ?_
    simp only [List.set_cons_zero, List.set_cons_succ]
    refine takeS 8 13 rfl rfl (by kernel_rfl) (by kernel_rfl) (by kernel_rfl) (fun _ _ _ h => h) (by kernel_rfl) (by assumption) ?_
    simp only [List.set_cons_zero, List.set_cons_succ]
    refine takeS 9 14 rfl rfl (by kernel_rfl) (by kernel_rfl) (by kernel_rfl) (fun _ _ _ h => h) (by kernel_rfl) (by assumption) ?_
    simp only [List.set_cons_zero, List.set_cons_succ]
    refine takeW 10 15 (.bool false) rfl rfl (by kernel_rfl) (by kernel_rfl) (by kernel_rfl) (fun _ _ _ h => h) (by kernel_rfl) (by (intro w hSw; go_simp)) (by assumption) ?_
    simp only [List.set_cons_zero, List.set_cons_succ]
    refine takeW 11 16 (.bool false) rfl rfl (by kernel_rfl) (by kernel_rfl) (by kernel_rfl) (fun _ _ _ h => h) (by kernel_rfl) (by (intro w hSw; go_simp)) (by assumption) ?_
    simp only [List.set_cons_zero, List.set_cons_succ]
    refine takeS 12 17 rfl rfl (by kernel_rfl) (by kernel_rfl) (by kernel_rfl) (fun _ _ _ h => h) (by kernel_rfl) (by assumption) ?_
    simp only [List.set_cons_zero, List.set_cons_succ]
    refine takeS 13 18 rfl rfl (by kernel_rfl) (by kernel_rfl) (by kernel_rfl) (fun _ _ _ h => h) (by kernel_rfl) (by assumption) ?_
    simp only [List.set_cons_zero, List.set_cons_succ]
    refine takeS 14 19 rfl rfl (by kernel_rfl) (by kernel_rfl) (by kernel_rfl) (fun _ _ _ h => h) (by kernel_rfl) (by assumption) ?_
    simp only [List.set_cons_zero, List.set_cons_succ]
    refine takeS 15 20 rfl rfl (by kernel_rfl) (by kernel_rfl) (by kernel_rfl) (fun _ _ _ h => h) (by kernel_rfl) (by assumption) ?_
    simp only [List.set_cons_zero, List.set_cons_succ]
    refine takeS 16 21 rfl rfl (by kernel_rfl) (by kernel_rfl) (by kernel_rfl) (fun _ _ _ h => h) (by kernel_rfl) (by assumption) ?_
    simp only [List.set_cons_zero, List.set_cons_succ]
    refine takeS 17 22 rfl rfl (by kernel_rfl) (by kernel_rfl) (by kernel_rfl) (fun _ _ _ h => h) (by kernel_rfl) (by assumption) ?_
    simp only [List.set_cons_zero, List.set_cons_succ]
    refine takeS 18 23 rfl rfl (by kernel_rfl) (by kernel_rfl) (by kernel_rfl) (fun _ _ _ h => h) (by kernel_rfl) (by assumption) ?_
    simp only [List.set_cons_zero, List.set_cons_succ]
    refine takeS 19 24 rfl rfl (by kernel_rfl) (by kernel_rfl) (by kernel_rfl) (fun _ _ _ h => h) (by kernel_rfl) (by assumption) ?_
    simp only [List.set_cons_zero, List.set_cons_succ]
    refine takeS 20 25 rfl rfl (by kernel_rfl) (by kernel_rfl) (by kernel_rfl) (fun _ _ _ h => h) (by kernel_rfl) (by assumption) ?_
    simp only [List.set_cons_zero, List.set_cons_succ]
    refine takeW 21 26 (.bool false) rfl rfl (by kernel_rfl) (by kernel_rfl) (by kernel_rfl) (fun _ _ _ h => h) (by kernel_rfl) (by (intro w hSw; go_simp)) (by assumption) ?_
    simp only [List.set_cons_zero, List.set_cons_succ]
    refine takeW 22 4 (.bool false) rfl rfl (by kernel_rfl) (by kernel_rfl) (by kernel_rfl) (fun _ _ _ h => h) (by kernel_rfl) (by (intro w hSw; go_simp)) (by assumption) ?_
    simp only [List.set_cons_zero, List.set_cons_succ]
    refine wpAnyH_done (by kernel_rfl) ?_ _
    go_wp2
    go_ret
    exact ⟨YN.no (fun h => absurd (portP_iff.1 h).1.1 h1.out), B0.trans (hb0.mono B0.size)⟩
  have d1 : decide (0 ≤ a) = true := decide_eq_true h1
  by_cases h2 : a < (Bs.length : Int)
  rotate_left
  · have d2 : decide (a < (Bs.length : Int)) = false := decide_eq_false h2
    replace h2 : Hid _ := h2
    go_enter Try.func77, Try.ntmps77
    go_upto_region 1 with fail
    rw [← hy]
    clear hy
    refine wp_region_held (S := fun Y => Below y.heap.size y Y) (by kernel_rfl) ?_
    change wpAnyH _ _ _ _ _ _ _ _ (World.drew _)
    have hb0 : Below y.heap.size y y.drew := (Below.refl _ _).drew
    obtain ⟨u0, hy0⟩ : ∃ y_, y_ = y.drew := ⟨_, rfl⟩
    rw [← hy0] at hb0 ⊢
    clear hy0
    refine takeW 0 5 (.pointer (some ⟨(w.heap.size + 1), 0, none⟩)) rfl rfl (by kernel_rfl) (by kernel_rfl) (by kernel_rfl) (fun _ _ _ h => h) (by kernel_rfl) (by (intro w hSw; go_simp)) (by assumption) ?_
    simp only [List.set_cons_zero, List.set_cons_succ]
    refine takeW 1 6 (.int .i64 a) rfl rfl (by kernel_rfl) (by kernel_rfl) (by kernel_rfl) (fun _ _ _ h => h) (by kernel_rfl) (by (intro Y hSw; obtain ⟨X0, X1⟩ := A1.below hSw A1.lt; go_simp)) (by assumption) ?_
    simp only [List.set_cons_zero, List.set_cons_succ]
    refine takeW 2 7 (.bool true) rfl rfl (by kernel_rfl) (by kernel_rfl) (by kernel_rfl) (fun _ _ _ h => h) (by kernel_rfl) (by (intro w hSw; go_simp)) (by assumption) ?_
    simp only [List.set_cons_zero, List.set_cons_succ]
    refine takeW 3 8 (.bool true) rfl rfl (by kernel_rfl) (by kernel_rfl) (by kernel_rfl) (fun _ _ _ h => h) (by kernel_rfl) (by (intro w hSw; go_simp)) (by assumption) ?_
    simp only [List.set_cons_zero, List.set_cons_succ]
    refine takeW 4 9 (.pointer (some ⟨(w.heap.size + 1), 0, none⟩)) rfl rfl (by kernel_rfl) (by kernel_rfl) (by kernel_rfl) (fun _ _ _ h => h) (by kernel_rfl) (by (intro w hSw; go_simp)) (by assumption) ?_
    simp only [List.set_cons_zero, List.set_cons_succ]
    refine takeW 5 10 (.int .i64 a) rfl rfl (by kernel_rfl) (by kernel_rfl) (by kernel_rfl) (fun _ _ _ h => h) (by kernel_rfl) (by (intro Y hSw; obtain ⟨X0, X1⟩ := A1.below hSw A1.lt; go_simp)) (by assumption) ?_
    simp only [List.set_cons_zero, List.set_cons_succ]
    refine takeW 6 11 (.pointer (some ⟨w.heap.size, 0, none⟩)) rfl rfl (by kernel_rfl) (by kernel_rfl) (by kernel_rfl) (fun _ _ _ h => h) (by kernel_rfl) (by (intro w hSw; go_simp)) (by assumption) ?_
    simp only [List.set_cons_zero, List.set_cons_succ]
    refine takeW 7 12 (.slice adB Bs.length capB) rfl rfl (by kernel_rfl) (by kernel_rfl) (by kernel_rfl) (fun _ _ _ h => h) (by kernel_rfl) (by (intro Y hSw; obtain ⟨X0, X1⟩ := A0.below hSw A0.lt; go_simp)) (by assumption) ?_
    simp only [List.set_cons_zero, List.set_cons_succ]
    refine takeW 8 13 (.int .i64 (Bs.length : Int)) rfl rfl (by kernel_rfl) (by kernel_rfl) (by kernel_rfl) (fun _ _ _ h => h) (by kernel_rfl) (by (intro w hSw; go_simp)) (by assumption) ?_
    simp only [List.set_cons_zero, List.set_cons_succ]
    refine takeW 9 14 (.bool false) rfl rfl (by kernel_rfl) (by kernel_rfl) (by kernel_rfl) (fun _ _ _ h => h) (by kernel_rfl) (by (intro w hSw; go_simp)) (by assumption) ?_
    simp only [List.set_cons_zero, List.set_cons_succ]
    refine takeW 10 15 (.bool false) rfl rfl (by kernel_rfl) (by kernel_rfl) (by kernel_rfl) (fun _ _ _ h => h) (by kernel_rfl) (by (intro w hSw; go_simp)) (by assumption) ?_
    simp only [List.set_cons_zero, List.set_cons_succ]
    refine takeW 11 16 (.bool false) rfl rfl (by kernel_rfl) (by kernel_rfl) (by kernel_rfl) (fun _ _ _ h => h) (by kernel_rfl) (by (intro w hSw; go_simp)) (by assumption) ?_
    simp only [List.set_cons_zero, List.set_cons_succ]
    refine takeS 12 17 rfl rfl (by kernel_rfl) (by kernel_rfl) (by kernel_rfl) (fun _ _ _ h => h) (by kernel_rfl) (by assumption) ?_
    simp only [List.set_cons_zero, List.set_cons_succ]
    refine takeS 13 18 rfl rfl (by kernel_rfl) (by kernel_rfl) (by kernel_rfl) (fun _ _ _ h => h) (by kernel_rfl) (by assumption) ?_
    simp only [List.set_cons_zero, List.set_cons_succ]
    refine takeS 14 19 rfl rfl (by kernel_rfl) (by kernel_rfl) (by kernel_rfl) (fun _ _ _ h => h) (by kernel_rfl) (by assumption) ?_
    simp only [List.set_cons_zero, List.set_cons_succ]
    refine takeS 15 20 rfl rfl (by kernel_rfl) (by kernel_rfl) (by kernel_rfl) (fun _ _ _ h => h) (by kernel_rfl) (by assumption) ?_
    simp only [List.set_cons_zero, List.set_cons_succ]
    refine takeS 16 21 rfl rfl (by kernel_rfl) (by kernel_rfl) (by kernel_rfl) (fun _ _ _ h => h) (by kernel_rfl) (by assumption) ?_
    simp only [List.set_cons_zero, List.set_cons_succ]
    refine takeS 17 22 rfl rfl (by kernel_rfl) (by kernel_rfl) (by kernel_rfl) (fun _ _ _ h => h) (by kernel_rfl) (by assumption) ?_
    simp only [List.set_cons_zero, List.set_cons_succ]
    refine takeS 18 23 rfl rfl (by kernel_rfl) (by kernel_rfl) (by kernel_rfl) (fun _ _ _ h => h) (by kernel_rfl) (by assumption) ?_
    simp only [List.set_cons_zero, List.set_cons_succ]
    refine takeS 19 24 rfl rfl (by kernel_rfl) (by kernel_rfl) (by kernel_rfl) (fun _ _ _ h => h) (by kernel_rfl) (by assumption) ?_
    simp only [List.set_cons_zero, List.set_cons_succ]
    refine takeS 20 25 rfl rfl (by kernel_rfl) (by kernel_rfl) (by kernel_rfl) (fun _ _ _ h => h) (by kernel_rfl) (by assumption) ?_
    simp only [List.set_cons_zero, List.set_cons_succ]
    refine takeW 21 26 (.bool false) rfl rfl (by kernel_rfl) (by kernel_rfl) (by kernel_rfl) (fun _ _ _ h => h) (by kernel_rfl) (by (intro w hSw; go_simp)) (by assumption) ?_
    simp only [List.set_cons_zero, List.set_cons_succ]
    refine takeW 22 4 (.bool false) rfl rfl (by kernel_rfl) (by kernel_rfl) (by kernel_rfl) (fun _ _ _ h => h) (by kernel_rfl) (by (intro w hSw; go_simp)) (by assumption) ?_
    simp only [List.set_cons_zero, List.set_cons_succ]
    refine wpAnyH_done (by kernel_rfl) ?_ _
    go_wp2
    go_ret
    exact ⟨YN.no (fun h => absurd (portP_iff.1 h).1.2 h2.out), B0.trans (hb0.mono B0.size)⟩
  obtain ⟨i, rfl⟩ := Int.eq_ofNat_of_zero_le h1
  have hi : i < Bs.length := by omega
  have d2 : decide ((i : Int) < (Bs.length : Int)) = true := decide_eq_true h2
  obtain ⟨b, off, rfl⟩ := vb.ad_ (by omega)
  have hc : ∀ Y, Below y.heap.size y Y → BdAtO Y b (off + i * 2) (Bs.getD i Bd.nil) := fun Y hY => ((vb.below B0 (Nat.le_refl _)).below hY (Nat.le_refl _)).at_ hi
  have hlk := hls i hi
  have hR : Hid (∀ q : Prop, (q ↔ (0 ≤ p ∧ p < ((Bs.getD i Bd.nil).L.length : Int))) → (q ↔ PortP (dB Bs) i p)) := fun q e => by
    rw [portP_iff]
    simp only [Int.toNat_natCast]
    rw [e]
    omega
  obtain ⟨⟨id, a1, c1, L1⟩, hh⟩ : ∃ q, Bs.getD i Bd.nil = q := ⟨_, rfl⟩
  rw [hh] at hlk hR
  simp only [hh] at hc
  dsimp only at hlk hR
  clear hh vb vk hls
  go_enter Try.func77, Try.ntmps77
  go_upto_region 1 with fail
  rw [← hy]
  clear hy
  refine wp_region_held (S := fun Y => Below y.heap.size y Y) (by kernel_rfl) ?_
  change wpAnyH _ _ _ _ _ _ _ _ (World.drew _)
  have hb0 : Below y.heap.size y y.drew := (Below.refl _ _).drew
  obtain ⟨u0, hy0⟩ : ∃ y_, y_ = y.drew := ⟨_, rfl⟩
  rw [← hy0] at hb0 ⊢
  clear hy0
  refine takeW 0 5 (.pointer (some ⟨(w.heap.size + 1), 0, none⟩)) rfl rfl (by kernel_rfl) (by kernel_rfl) (by kernel_rfl) (fun _ _ _ h => h) (by kernel_rfl) (by (intro w hSw; go_simp)) (by assumption) ?_
  simp only [List.set_cons_zero, List.set_cons_succ]
  refine takeW 1 6 (.int .i64 (i : Int)) rfl rfl (by kernel_rfl) (by kernel_rfl) (by kernel_rfl) (fun _ _ _ h => h) (by kernel_rfl) (by (intro Y hSw; obtain ⟨X0, X1⟩ := A1.below hSw A1.lt; go_simp)) (by assumption) ?_
  simp only [List.set_cons_zero, List.set_cons_succ]
  refine takeW 2 7 (.bool true) rfl rfl (by kernel_rfl) (by kernel_rfl) (by kernel_rfl) (fun _ _ _ h => h) (by kernel_rfl) (by (intro w hSw; go_simp)) (by assumption) ?_
  simp only [List.set_cons_zero, List.set_cons_succ]
  refine takeW 3 8 (.bool true) rfl rfl (by kernel_rfl) (by kernel_rfl) (by kernel_rfl) (fun _ _ _ h => h) (by kernel_rfl) (by (intro w hSw; go_simp)) (by assumption) ?_
  simp only [List.set_cons_zero, List.set_cons_succ]
  refine takeW 4 9 (.pointer (some ⟨(w.heap.size + 1), 0, none⟩)) rfl rfl (by kernel_rfl) (by kernel_rfl) (by kernel_rfl) (fun _ _ _ h => h) (by kernel_rfl) (by (intro w hSw; go_simp)) (by assumption) ?_
  simp only [List.set_cons_zero, List.set_cons_succ]
  refine takeW 5 10 (.int .i64 (i : Int)) rfl rfl (by kernel_rfl) (by kernel_rfl) (by kernel_rfl) (fun _ _ _ h => h) (by kernel_rfl) (by (intro Y hSw; obtain ⟨X0, X1⟩ := A1.below hSw A1.lt; go_simp)) (by assumption) ?_
  simp only [List.set_cons_zero, List.set_cons_succ]
  refine takeW 6 11 (.pointer (some ⟨w.heap.size, 0, none⟩)) rfl rfl (by kernel_rfl) (by kernel_rfl) (by kernel_rfl) (fun _ _ _ h => h) (by kernel_rfl) (by (intro w hSw; go_simp)) (by assumption) ?_
  simp only [List.set_cons_zero, List.set_cons_succ]
  refine takeW 7 12 (.slice (some ⟨b, off, none⟩) Bs.length capB) rfl rfl (by kernel_rfl) (by kernel_rfl) (by kernel_rfl) (fun _ _ _ h => h) (by kernel_rfl) (by (intro Y hSw; obtain ⟨X0, X1⟩ := A0.below hSw A0.lt; go_simp)) (by assumption) ?_
  simp only [List.set_cons_zero, List.set_cons_succ]
  refine takeW 8 13 (.int .i64 (Bs.length : Int)) rfl rfl (by kernel_rfl) (by kernel_rfl) (by kernel_rfl) (fun _ _ _ h => h) (by kernel_rfl) (by (intro w hSw; go_simp)) (by assumption) ?_
  simp only [List.set_cons_zero, List.set_cons_succ]
  refine takeW 9 14 (.bool true) rfl rfl (by kernel_rfl) (by kernel_rfl) (by kernel_rfl) (fun _ _ _ h => h) (by kernel_rfl) (by (intro w hSw; go_simp)) (by assumption) ?_
  simp only [List.set_cons_zero, List.set_cons_succ]
  refine takeW 10 15 (.bool true) rfl rfl (by kernel_rfl) (by kernel_rfl) (by kernel_rfl) (fun _ _ _ h => h) (by kernel_rfl) (by (intro w hSw; go_simp)) (by assumption) ?_
  simp only [List.set_cons_zero, List.set_cons_succ]
  refine takeW 11 16 (.bool true) rfl rfl (by kernel_rfl) (by kernel_rfl) (by kernel_rfl) (fun _ _ _ h => h) (by kernel_rfl) (by (intro w hSw; go_simp)) (by assumption) ?_
  simp only [List.set_cons_zero, List.set_cons_succ]
  refine takeW 12 17 (.pointer (some ⟨w.heap.size, 0, none⟩)) rfl rfl (by kernel_rfl) (by kernel_rfl) (by kernel_rfl) (fun _ _ _ h => h) (by kernel_rfl) (by (intro w hSw; go_simp)) (by assumption) ?_
  simp only [List.set_cons_zero, List.set_cons_succ]
  refine takeW 13 18 (.slice (some ⟨b, off, none⟩) Bs.length capB) rfl rfl (by kernel_rfl) (by kernel_rfl) (by kernel_rfl) (fun _ _ _ h => h) (by kernel_rfl) (by (intro Y hSw; obtain ⟨X0, X1⟩ := A0.below hSw A0.lt; go_simp)) (by assumption) ?_
  simp only [List.set_cons_zero, List.set_cons_succ]
  refine takeW 14 19 (.pointer (some ⟨(w.heap.size + 1), 0, none⟩)) rfl rfl (by kernel_rfl) (by kernel_rfl) (by kernel_rfl) (fun _ _ _ h => h) (by kernel_rfl) (by (intro w hSw; go_simp)) (by assumption) ?_
  simp only [List.set_cons_zero, List.set_cons_succ]
  refine takeW 15 20 (.int .i64 (i : Int)) rfl rfl (by kernel_rfl) (by kernel_rfl) (by kernel_rfl) (fun _ _ _ h => h) (by kernel_rfl) (by (intro Y hSw; obtain ⟨X0, X1⟩ := A1.below hSw A1.lt; go_simp)) (by assumption) ?_
  simp only [List.set_cons_zero, List.set_cons_succ]
  refine takeW 16 21 (.pointer (some ⟨b, off + i * 2, none⟩)) rfl rfl (by kernel_rfl) (by kernel_rfl) (by kernel_rfl) (fun _ _ _ h => h) (by kernel_rfl) (by (intro Y hSw; go_simp; try omega)) (by assumption) ?_
  simp only [List.set_cons_zero, List.set_cons_succ]
  refine takeW 17 22 (.agg #[.int .i64 id, .slice a1 L1.length c1]) rfl rfl (by kernel_rfl) (by kernel_rfl) (by kernel_rfl) (fun _ _ _ h => h) (by kernel_rfl) (by (intro Y hSw; obtain ⟨X0, X1⟩ := hc Y hSw; go_simp)) (by assumption) ?_
  simp only [List.set_cons_zero, List.set_cons_succ]
  refine takeW 18 23 (.pointer (some ⟨(w.heap.size + 1), 1, none⟩)) rfl rfl (by kernel_rfl) (by kernel_rfl) (by kernel_rfl) (fun _ _ _ h => h) (by kernel_rfl) (by (intro w hSw; go_simp)) (by assumption) ?_
  simp only [List.set_cons_zero, List.set_cons_succ]
  refine takeW 19 24 (.int .i64 p) rfl rfl (by kernel_rfl) (by kernel_rfl) (by kernel_rfl) (fun _ _ _ h => h) (by kernel_rfl) (by (intro Y hSw; obtain ⟨X0, X1⟩ := A1.below hSw A1.lt; go_simp)) (by assumption) ?_
  simp only [List.set_cons_zero, List.set_cons_succ]
  refine wpAnyH_all (rs := [20]) (by kernel_rfl) (by simp) ?_
  intro i hi; obtain rfl : i = 20 := by simpa using hi
  refine wpOp_step rfl (fun K hK => ?_)
  rw [if_pos (by kernel_rfl)]
  go_simp
  go_at_call 100
  refine (portIsI id a1 c1 L1 p u0 hlk).mono ?_
  rintro e u1 ⟨rfl, kq⟩
  have hb1 : Below y.heap.size y u1 := hb0.trans (kq.mono hb0.size)
  clear kq
  refine hK _ _ ⟨hb1, ?_⟩
  clear hK K hi
  refine takeW 21 26 (.bool (decide (0 ≤ p ∧ p < (L1.length : Int)))) rfl rfl (by kernel_rfl) (by kernel_rfl) (by kernel_rfl) (fun _ _ _ h => h) (by kernel_rfl) (by (intro w hSw; go_simp)) (by assumption) ?_
  simp only [List.set_cons_zero, List.set_cons_succ]
  refine takeW 22 4 (.bool (decide (0 ≤ p ∧ p < (L1.length : Int)))) rfl rfl (by kernel_rfl) (by kernel_rfl) (by kernel_rfl) (fun _ _ _ h => h) (by kernel_rfl) (by (intro w hSw; go_simp)) (by assumption) ?_
  simp only [List.set_cons_zero, List.set_cons_succ]
  refine wpAnyH_done (by kernel_rfl) ?_ _
  go_wp2
  go_ret
  exact ⟨YN.is (hR.out _ (by simp only [decide_eq_true_eq])), B0.trans (hb1.mono B0.size)⟩
set_option maxHeartbeats 4000000 in
theorem endS (adB : Option Addr) (capB : Nat) (Bs : List Bd) (adK : Option Addr) (capK : Nat) (K : List Lk) (a p : Int) (w : World) (h : NN w adB Bs adK K) :
    Calls Try.prog 69 #[.agg #[.slice adB Bs.length capB, .slice adK K.length capK], .int .i64 a, .int .i64 p] w fun e w' => YN e (EndP (dB Bs) a p) ∧ Below w.heap.size w w' := by
  obtain ⟨vb, vk, hl, hls, hk⟩ := h
  have hnB : Below w.heap.size w (w.alloc (Obj.cells #[.slice adB Bs.length capB, .slice adK K.length capK] 27)) := below_new _
  by_cases h1 : 0 ≤ a ∧ a ≤ (Bs.length : Int) - 1
  rotate_left
  · go_enter Try.func69, Try.ntmps69
    go_wp2_with (first | (go_at_call 43; refine (inYes _ _ _ _ (by omega)).mono ?_; rintro e w' ⟨rfl, rfl⟩) | (go_at_call 43; refine (inNo _ _ _ _ (by omega)).mono ?_; rintro e w' ⟨rfl, rfl⟩) | go_in)
    go_ret
    refine ⟨YN.no (fun h => ?_), hnB⟩
    have := (endP_iff.1 h).1
    omega
  obtain ⟨i, rfl⟩ := Int.eq_ofNat_of_zero_le h1.1
  have hi : i < Bs.length := by omega
  obtain ⟨b, off, rfl⟩ := vb.ad_ (by omega)
  have hc := (vb.below hnB (Nat.le_refl _)).at_ hi
  have hn := (vb.below hnB (Nat.le_refl _)).nest i hi
  have hlk := hls i hi
  have hR : Hid (EndP (dB Bs) i p ↔ (0 ≤ p ∧ p < ((Bs.getD i Bd.nil).L.length : Int)) ∧ ((Bs.getD i Bd.nil).L.getD p.toNat Pt.nil).up = true) := by
    unfold Hid
    rw [endP_iff]
    simp only [Int.toNat_natCast]
    constructor
    · exact fun h => h.2
    · exact fun h => ⟨by omega, h⟩
  obtain ⟨⟨id, a1, c1, L1⟩, hh⟩ : ∃ q, Bs.getD i Bd.nil = q := ⟨_, rfl⟩
  rw [hh] at hlk hR hc hn
  dsimp only at hlk hR hn
  obtain ⟨x1, x2⟩ := hc
  dsimp only at x1 x2
  clear hh vb vk hls
  by_cases h2 : 0 ≤ p ∧ p ≤ (L1.length : Int) - 1
  rotate_left
  · go_enter Try.func69, Try.ntmps69
    go_wp2_with (first | (go_at_call 43; refine (inYes _ _ _ _ (by omega)).mono ?_; rintro e w' ⟨rfl, rfl⟩) | (go_at_call 43; refine (inNo _ _ _ _ (by omega)).mono ?_; rintro e w' ⟨rfl, rfl⟩) | go_in)
    go_ret
    refine ⟨YN.no (fun h => ?_), hnB⟩
    have := (hR.out.1 h).1
    omega
  obtain ⟨j, rfl⟩ := Int.eq_ofNat_of_zero_le h2.1
  have hj : j < L1.length := by omega
  obtain ⟨b2, off2, rfl, _⟩ := hn (by omega)
  have hcp := ptAtO_of (hn.at_ ptEnc_len Pt.nil hj)
  simp only [Int.toNat_natCast] at hR
  obtain ⟨⟨up, has, pr, pc, pb, pp, ph, pl, pro, pwa, pop⟩, hq⟩ : ∃ q, L1.getD j Pt.nil = q := ⟨_, rfl⟩
  rw [hq] at hcp hR
  obtain ⟨p0, p1, p2, p3, p4, p5, p6, p7, p8, p9, p10⟩ := hcp
  dsimp only at p0 hR
  clear p1 p2 p3 p4 p5 p6 p7 p8 p9 p10 hq hn
  go_enter Try.func69, Try.ntmps69
  go_wp2_with (first | (go_at_call 43; refine (inYes _ _ _ _ (by omega)).mono ?_; rintro e w' ⟨rfl, rfl⟩) | (go_at_call 43; refine (inNo _ _ _ _ (by omega)).mono ?_; rintro e w' ⟨rfl, rfl⟩) | go_in)
  go_ret
  exact ⟨YN.is (by rw [hR.out]; exact ⟨fun h => ⟨by omega, h⟩, fun h => h.2⟩), hnB⟩

end Go.Proofs.Ytdfjfodfnildiaa
namespace Go.Proofs.Ytdfjfodfnildiaa
open Go.ChangeShapes Go.WideShapes Go.ChangeAt Go.RowKit
open Go.ChangeMaps (open_string shut_string)
set_option linter.unusedVariables false
set_option maxRecDepth 100000

set_option maxHeartbeats 4000000 in
theorem growI (n : Int) (w : World) (h0 : 0 ≤ n) (h1 : n ≤ 1000) :
    Calls Try.prog 71 #[.slice none 0 0, .int .i64 n] w fun e w' => ∃ ad cap, e = .returned (.slice ad 0 cap) ∧ FOwn lkEnc 4 64 w.heap.size w' (.slice ad 0 cap) [] ∧ Below w.heap.size w w' := by
  obtain ⟨i0, hi, hz0, hz1, hz2⟩ := info_parts lkInfo
  have d0 : decide (n < 0) = false := decide_eq_false (by omega)
  have d1 : ¬ n < 0 := by omega
  have hw : IntKind.i64.wrap n = n := by rw [IntKind.wrap_i64]; omega
  by_cases hn : n = 0
  · subst hn
    go_enter Try.func71, Try.ntmps71
    go_wp2
    go_ret
    exact ⟨none, 0, rfl, FOwn.nil, Below.refl _ _⟩
  obtain ⟨m, rfl⟩ := Int.eq_ofNat_of_zero_le h0
  have hm : 0 < m := by omega
  have d2 : decide (0 < (m : Int)) = true := decide_eq_true (by omega)
  have d3 : 0 < (m : Int) := by omega
  have hr : ∀ ty, (Builtin.append_ #[25, 3] ty #[.slice none 0 0, .int .i64 (m : Int)]).run Try.prog w = _ := fun ty => Lib.run_append_nil_zeros w 25 3 ty 64 i0 (.agg #[.int .i64 0, .int .i64 0, .int .i64 0, .int .i64 0]) .i64 .i64 Try.underlying25 Try.underlying3 hi hz0 m hm (by omega) (by omega) (by rw [hz2]; omega)
  obtain ⟨c, hc⟩ : ∃ c, grownCap w m 0 64 = c := ⟨_, rfl⟩
  have hc1 : m ≤ c := by rw [← hc]; exact grownCap_ge w m 0 _
  have hc2 : c ≤ maxLen := by rw [← hc]; exact grownCap_le_maxLen w m 0 _ (by unfold maxLen; omega)
  rw [hc] at hr
  replace hc : Hid _ := hc
  obtain ⟨w1, hw1⟩ : ∃ w1, w1 = w.drew.alloc (.cells (Builtin.zeroCells (Value.cells (.agg #[.int .i64 0, .int .i64 0, .int .i64 0, .int .i64 0])) m ++ Builtin.zeroCells (Value.cells (.agg #[.int .i64 0, .int .i64 0, .int .i64 0, .int .i64 0])) (c - m)) 64) := ⟨_, rfl⟩
  have B1 : Below w.heap.size w w1 := by
    rw [hw1]
    exact ((Below.refl _ _).drew).alloc (by simp) _
  have O1 : FOwn lkEnc 4 64 w.heap.size w1 (.slice (some ⟨w.heap.size, 0, none⟩) 0 c) [] := by
    refine ⟨by simp [fcells], .inr ⟨w.heap.size, c, Builtin.zeroCells (Value.cells (.agg #[.int .i64 0, .int .i64 0, .int .i64 0, .int .i64 0])) m ++ Builtin.zeroCells (Value.cells (.agg #[.int .i64 0, .int .i64 0, .int .i64 0, .int .i64 0])) (c - m), rfl, Nat.le_refl _, ?_, Nat.zero_le _, hc2, ?_, by simp [fcells]⟩⟩
    · rw [hw1]
      exact heap_newF w.drew _
    · simp [Builtin.zeroCells, Value.cells]
      omega
  rw [← hw1] at hr
  clear hw1
  go_enter Try.func71, Try.ntmps71
  go_wp2_with (at_builtin; refine Lib.wpList_append_run _ rfl _ _ _ _ rfl _ _ rfl rfl _ _ (hr _) ?_)
  go_wp2
  go_ret
  exact ⟨_, _, rfl, O1, B1⟩
set_option maxHeartbeats 8000000 in
theorem concatI (q : Nat) (a1 a2 : Option Addr) (c1 c2 : Nat) (L1 L2 : List Lk) (w : World) (h1 : w.cell? ⟨q, 0, none⟩ = some (.slice a1 L1.length c1)) (h2 : w.cell? ⟨q, 1, none⟩ = some (.slice a2 L2.length c2)) (v1 : FView lkEnc w a1 L1) (v2 : FView lkEnc w a2 L2) (n1 : a1 = none → c1 = 0) (n2 : a2 = none → c2 = 0) (l1 : L1.length ≤ 100) (l2 : L2.length ≤ 100) :
    Calls Try.prog 46 #[.slice (some ⟨q, 0, none⟩) 2 2] w fun e w' => ∃ ad cap, e = .returned (.slice ad (L1 ++ L2).length cap) ∧ FOwn lkEnc 4 64 w.heap.size w' (.slice ad (L1 ++ L2).length cap) (L1 ++ L2) ∧ Below w.heap.size w w' := by
  obtain ⟨i0, hi, hz0, hz1, hz2⟩ := info_parts lkInfo
  have d1 : ¬ (L1.length : Int) < 0 := by omega
  have d2 : ¬ (L1.length : Int) + (L2.length : Int) < 0 := by omega
  have e1 : decide ((L1.length : Int) < 0) = false := decide_eq_false d1
  have e2 : decide ((L1.length : Int) + (L2.length : Int) < 0) = false := decide_eq_false d2
  have hql := World.block_lt_of_cell? w _ h1
  have b1 := v1.lt lkEnc_len (by omega)
  have b2 := v2.lt lkEnc_len (by omega)
  go_enter Try.func46, Try.ntmps46
  go_wp2
  refine wp_loop_rounds 3 ?_
  rw [rounds_succ]
  go_wp2_with fail
  rw [rounds_succ]
  go_wp2_with fail
  rw [rounds_succ]
  go_wp2_with fail
  go_at_call 71
  refine (growI _ w (by omega) (by omega)).mono ?_
  rintro e y ⟨ad, cap, rfl, O, ky⟩
  have h1 := (World.cell?_of_block (a := ⟨q, 0, none⟩) (ky.block q hql)).trans h1
  have h2 := (World.cell?_of_block (a := ⟨q, 1, none⟩) (ky.block q hql)).trans h2
  have v1 := v1.below ky b1
  have v2 := v2.below ky b2
  have hsz := ky.size
  go_wp2
  refine wp_loop_rounds 3 ?_
  rw [rounds_succ]
  go_wp2_with (first | (at_builtin; refine fappL lkEnc_len lkEnc_ones rfl _ _ 25 rfl w.heap.size 64 i0 (.agg #[.int .i64 0, .int .i64 0, .int .i64 0, .int .i64 0]) 32 Try.underlying25 hi hz0 hz1 hz2 rfl (by decide) (by decide) (.slice ad 0 cap) [] rfl O a1 c1 L1 rfl n1 v1 ?z0 ?z1 ?_) | go_in)
  case z0 => first | omega | (simp; omega)
  case z1 => exact hsz
  intro v' z O1 g1 _
  replace O1 : FOwn lkEnc 4 64 w.heap.size z v' L1 := O1
  obtain ⟨ad', cap', rfl⟩ := O1.open_
  have ob : ∀ k, (Value.slice ad 0 cap).ownBlock = some k → w.heap.size ≤ k := fun k e => (O.lt k e).1
  have kz : Below w.heap.size w z := ky.grown g1 hsz ob
  have hq2 : z.heap[q]? = y.heap[q]? := g1.block q (by omega) (fun e => by have := ob q e.symm; omega)
  have h2 := (World.cell?_of_block (a := ⟨q, 1, none⟩) hq2).trans h2
  have h1 := (World.cell?_of_block (a := ⟨q, 0, none⟩) hq2).trans h1
  have v2 : FView lkEnc z a2 L2 := v2.carry (fun a e p => g1.block _ (by have := b2 a e p; omega) (fun e2 => by have h3 := ob _ e2.symm; have h4 := b2 a e p; omega))
  have hs2 := kz.size
  clear g1 ob hq2 O ky
  go_wp2_with fail
  rw [rounds_succ]
  go_wp2_with (first | (at_builtin; refine fappL lkEnc_len lkEnc_ones rfl _ _ 25 rfl w.heap.size 64 i0 (.agg #[.int .i64 0, .int .i64 0, .int .i64 0, .int .i64 0]) 32 Try.underlying25 hi hz0 hz1 hz2 rfl (by decide) (by decide) (.slice ad' L1.length cap') L1 rfl O1 a2 c2 L2 rfl n2 v2 ?y0 ?y1 ?_) | go_in)
  case y0 => first | omega | (simp; omega)
  case y1 => exact hs2
  intro v' x O2 g2 _
  obtain ⟨ad2, cap2, rfl⟩ := O2.open_
  have ob : ∀ k, (Value.slice ad' L1.length cap').ownBlock = some k → w.heap.size ≤ k := fun k e => (O1.lt k e).1
  have kx : Below w.heap.size w x := kz.grown g2 hs2 ob
  clear g2 ob O1 kz h1 h2 v1 v2
  obtain ⟨M, hM⟩ : ∃ M, L1 ++ L2 = M := ⟨_, rfl⟩
  rw [hM] at O2 ⊢
  replace hM : Hid _ := hM
  go_wp2_with fail
  rw [rounds_succ]
  go_wp2
  go_ret
  obtain rfl := hM.out
  exact ⟨_, _, rfl, O2, kx⟩

end Go.Proofs.Ytdfjfodfnildiaa
