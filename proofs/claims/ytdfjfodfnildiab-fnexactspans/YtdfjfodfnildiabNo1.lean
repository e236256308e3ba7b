/- The small functions of NetOk, walked. -/
import Derived.Test.YtdfjfodfnildiabRows
import Derived.WalkKit
import Derived.ProofKit
import Derived.OpenShut
import Derived.ShutString
import Derived.ChangeOld
import Derived.Below
import Derived.Deep.QuietTactic
import Derived.BigQuiet
import Derived.WalkSmall
import Derived.Laws.OwnMore
import Derived.WalkSpells
import Derived.WalkLawsBesides
import Derived.Laws.StructEq
import Derived.Test.YtdfjfodfnildiabNm0
import Derived.Test.YtdfjfodfnildiabNo0
import Derived.Test.YtdfjfodfnildiabNe0
import Derived.Test.YtdfjfodfnildiabTakes
namespace Go.Proofs.Ytdfjfodfnildiab
open Go.ChangeShapes Go.WideShapes Go.ChangeAt Go.RowKit
open Go.ChangeMaps (open_string shut_string)
set_option linter.unusedVariables false
set_option maxRecDepth 100000

theorem endsI (x : Lk) (w : World) :
    Calls Try.prog 65 #[.agg #[.int .i64 x.a, .int .i64 x.p, .int .i64 x.b, .int .i64 x.q]] w fun e w' => e = .returned (.agg #[.int .i64 x.a, .int .i64 x.p, .int .i64 x.b, .int .i64 x.q]) ∧ Below w.heap.size w w' := by
  go_enter Try.func65, Try.ntmps65
  go_wp2
  refine bodyPost_ret (v := .agg #[.int .i64 x.a, .int .i64 x.p, .int .i64 x.b, .int .i64 x.q]) (by simp [results, Try.results65, go_sem]) rfl ⟨rfl, ?_⟩
  exact ((Below.refl _ _).alloc (Nat.le_refl _) _).alloc (by simp) _
set_option maxHeartbeats 1000000 in
theorem hasIdI (ad : Option Addr) (cap : Nat) (Bs : List Bd) (m : Nat) (id : Int) (w : World) (hv : NV w ad Bs) (hm : m ≤ Bs.length) (hl : Bs.length ≤ 1048576) :
    Calls Try.prog 64 #[.slice ad m cap, .int .i64 id] w fun e w' => YN e (∃ k, k < m ∧ (Bs.getD k Bd.nil).id = id) ∧ Below w.heap.size w w' := by
  go_enter Try.func64, Try.ntmps64
  go_wp2
  go_loopw [9] (fun i wr => ∃ k : Nat, k ≤ m ∧ i = .int .i64 k ∧ Hid (∀ j, j < k → (Bs.getD j Bd.nil).id ≠ id) ∧ Below w.heap.size w wr) (fun i _ => m - (intOf i).toNat)
  case atStart => exact ⟨0, Nat.zero_le _, rfl, fun j hj => absurd hj (by omega), Below.refl _ _⟩
  case round =>
    obtain ⟨k, hk, rfl, hF, hb⟩ := hrel
    by_cases hlt : k < m
    · obtain ⟨b, off, rfl⟩ := hv.ad_ (by omega)
      have hck := (hv.below hb (Nat.le_refl _)).at_ (i := k) (by omega)
      obtain ⟨⟨id', a1, c1, L1⟩, hh⟩ : ∃ q, Bs.getD k Bd.nil = q := ⟨_, rfl⟩
      rw [hh] at hck
      obtain ⟨x1, x2⟩ := hck
      dsimp only at x1 x2
      replace hh : Hid _ := hh
      clear hv
      by_cases he : id' = id
      · have e1 : (id' == id) = true := by simp [he]
        have e2 : decide (id' = id) = true := decide_eq_true he
        replace he : Hid _ := he
        go_wp2
        go_ret
        exact ⟨YN.yes ⟨k, hlt, by rw [hh.out]; exact he.out⟩, hb.alloc hb.size _⟩
      · have e1 : (id' == id) = false := by simp [he]
        have e2 : decide (id' = id) = false := decide_eq_false he
        replace he : Hid _ := he
        go_wp2
        go_roundw
        case rel =>
          refine ⟨k + 1, by omega, by go_num, fun j hj => ?_, hb.alloc hb.size _⟩
          by_cases ej : j = k
          · rw [ej, hh.out]; exact he.out
          · exact hF.out j (by omega)
        case measure => simp [intOf]; omega
    · obtain rfl : k = m := by omega
      go_wp2
      go_ret
      exact ⟨YN.no (fun ⟨j, hj, ej⟩ => absurd ej (hF.out j hj)), hb⟩
theorem LkAtO.below {w w' : World} {q o n : Nat} {x : Lk} (h : LkAtO w q o x) (k : Below n w w') (hq : q < n) : LkAtO w' q o x :=
  ⟨(World.cell?_of_block (a := ⟨q, o, none⟩) (k.block q hq)).trans h.c0, (World.cell?_of_block (a := ⟨q, o + 1, none⟩) (k.block q hq)).trans h.c1, (World.cell?_of_block (a := ⟨q, o + 2, none⟩) (k.block q hq)).trans h.c2, (World.cell?_of_block (a := ⟨q, o + 3, none⟩) (k.block q hq)).trans h.c3⟩
/-- A box of two numbers. -/
structure EnAt (w : World) (q : Nat) (a p : Int) : Prop where
  c0 : w.cell? ⟨q, 0, none⟩ = some (.int .i64 a)
  c1 : w.cell? ⟨q, 1, none⟩ = some (.int .i64 p)
theorem EnAt.keep {w w' : World} {q : Nat} {a p : Int} (h : EnAt w q a p) (k : w'.heap[q]? = w.heap[q]?) : EnAt w' q a p :=
  ⟨(World.cell?_of_block (a := ⟨q, 0, none⟩) k).trans h.c0, (World.cell?_of_block (a := ⟨q, 1, none⟩) k).trans h.c1⟩
theorem EnAt.below {w w' : World} {q n : Nat} {a p : Int} (h : EnAt w q a p) (k : Below n w w') (hq : q < n) : EnAt w' q a p := h.keep (k.block q hq)
theorem EnAt.lt {w : World} {q : Nat} {a p : Int} (h : EnAt w q a p) : q < w.heap.size := World.block_lt_of_cell? w _ h.c0
theorem EnAt.new (w : World) (t : TypeId) (a p : Int) : EnAt (w.alloc (Obj.cells #[.int .i64 a, .int .i64 p] t)) w.heap.size a p := by
  refine ⟨?_, ?_⟩ <;> simp [go_sem]
theorem ixEnd0 (x : Lk) (w : World) : (Instr.index 94 (.agg #[.int .i64 x.a, .int .i64 x.p, .int .i64 x.b, .int .i64 x.q]) (.int .i64 0)).run Try.prog w = .ok (.agg #[.int .i64 x.a, .int .i64 x.p]) w := by kernel_rfl
theorem ixEnd1 (x : Lk) (w : World) : (Instr.index 94 (.agg #[.int .i64 x.a, .int .i64 x.p, .int .i64 x.b, .int .i64 x.q]) (.int .i64 1)).run Try.prog w = .ok (.agg #[.int .i64 x.b, .int .i64 x.q]) w := by kernel_rfl
theorem eqEnd (a p b q : Int) (w : World) : (binOp .eql 93 (.agg #[.int .i64 a, .int .i64 p]) (.agg #[.int .i64 b, .int .i64 q])).run Try.prog w = .ok (.bool (decide (a = b ∧ p = q))) w := by
  by_cases h1 : a = b
  · by_cases h2 : p = q
    · subst h1 h2
      simp [go_sem]
    · subst h1
      simp [go_sem, h2]
  · simp [go_sem, h1]
def bt (o : Bool) : Int := if o = true then 1 else 0
theorem bt01 (o : Bool) : 0 ≤ bt o ∧ bt o ≤ 1 := by cases o <;> simp [bt]
set_option maxHeartbeats 4000000 in
theorem linksAtI (ad : Option Addr) (cap : Nat) (K : List Lk) (a p : Int) (w : World) (hv : FView lkEnc w ad K) (hl : K.length ≤ 1048576) :
    Calls Try.prog 67 #[.slice ad K.length cap, .agg #[.int .i64 a, .int .i64 p]] w fun e w' => e = .returned (.int .i64 (onceL K a p)) ∧ Below w.heap.size w w' := by
  have hB := hv.lt lkEnc_len (by omega)
  obtain ⟨y, hy⟩ : ∃ y, y = w.alloc (Obj.cells #[.int .i64 a, .int .i64 p] 93) := ⟨_, rfl⟩
  have B0 : Below w.heap.size w y := by rw [hy]; exact below_new _
  have A0 : EnAt y w.heap.size a p := by rw [hy]; exact EnAt.new w _ _ _
  have l0 := A0.lt
  go_enter Try.func67, Try.ntmps67
  go_wp2
  rw [← hy]
  clear hy
  go_loopw [5, 12] (fun s i wr => ∃ (k : Nat) (c : Int), k ≤ K.length ∧ i = .int .i64 k ∧ s = .int .i64 c ∧ Hid (c = onceL (K.take k) a p) ∧ Below w.heap.size w wr ∧ EnAt wr w.heap.size a p) (fun _ i _ => K.length - (intOf i).toNat)
  case atStart => exact ⟨0, 0, Nat.zero_le _, rfl, rfl, by unfold Hid; simp [onceL], B0, A0⟩
  case round =>
    obtain ⟨k, c, hk, rfl, rfl, hc, hb, A⟩ := hrel
    clear B0 A0
    by_cases hlt : k < K.length
    · obtain ⟨b, off, rfl, _⟩ := hv (by omega)
      obtain ⟨x, hh⟩ : ∃ h, K.getD k Lk.nil = h := ⟨_, rfl⟩
      have hck : LkAtO wr b (off + k * 4) x := by
        rw [← hh]
        exact lkAtO_of ((hv.below hb hB).at_ lkEnc_len Lk.nil hlt)
      have hst : Hid (onceL (K.take (k + 1)) a p = c + ((if x.a = a ∧ x.p = p then 1 else 0) + (if x.b = a ∧ x.q = p then 1 else 0))) := by
        unfold Hid
        rw [hc.out, once_take K a p hlt, hh]
      have hc0 : 0 ≤ c := by rw [hc.out]; exact once_nonneg _ _ _
      have hc1 : c ≤ 2100000 := by
        have h1 := hc.out
        have h2 := once_most (K.take k) a p
        rw [List.length_take] at h2
        omega
      obtain ⟨c0, c1, c2, c3⟩ := hck
      obtain ⟨u, hu⟩ : ∃ u, u = wr.alloc (Obj.cells #[.int .i64 x.a, .int .i64 x.p, .int .i64 x.b, .int .i64 x.q] 70) := ⟨_, rfl⟩
      have bu : Below w.heap.size w u := by rw [hu]; exact hb.alloc hb.size _
      have Au : EnAt u w.heap.size a p := by rw [hu]; exact A.below (below_new _) A.lt
      clear hv hh hB
      go_wp2_with fail
      go_at_call 65
      rw [← hu]
      clear hu c0 c1 c2 c3 A hb
      refine (endsI x u).mono ?_
      rintro e u1 ⟨rfl, k1⟩
      have b1 := bu.trans (k1.mono bu.size)
      have A1 := Au.below k1 Au.lt
      clear k1 Au bu
      go_wp2
      refine wp_loop_rounds 3 ?_
      rw [rounds_succ]
      obtain ⟨o1, ho1⟩ : ∃ o, decide (x.a = a ∧ x.p = p) = o := ⟨_, rfl⟩
      obtain ⟨o2, ho2⟩ : ∃ o, decide (x.b = a ∧ x.q = p) = o := ⟨_, rfl⟩
      have t1 := bt01 o1
      have t2 := bt01 o2
      have hst : Hid (onceL (K.take (k + 1)) a p = c + (bt o1 + bt o2)) := by
        unfold Hid
        rw [hst.out, ← ho1, ← ho2]
        unfold bt
        simp only [decide_eq_true_eq]
      replace ho1 : Hid _ := ho1
      replace ho2 : Hid _ := ho2
      have q1 : ∀ w, (binOp .eql 93 (.agg #[.int .i64 x.a, .int .i64 x.p]) (.agg #[.int .i64 a, .int .i64 p])).run Try.prog w = .ok (.bool o1) w := fun w => by rw [eqEnd, ho1.out]
      have q2 : ∀ w, (binOp .eql 93 (.agg #[.int .i64 x.b, .int .i64 x.q]) (.agg #[.int .i64 a, .int .i64 p])).run Try.prog w = .ok (.bool o2) w := fun w => by rw [eqEnd, ho2.out]
      have ix0 := ixEnd0 x
      have ix1 := ixEnd1 x
      have lu := A1.lt
      obtain ⟨a0, a1⟩ := A1
      go_wp2_with fail
      go_at_call 68
      obtain ⟨m1, hm1⟩ : ∃ m, m = bt o1 := ⟨_, rfl⟩
      obtain ⟨m2, hm2⟩ : ∃ m, m = bt o2 := ⟨_, rfl⟩
      rw [← hm1, ← hm2] at hst
      rw [← hm1] at t1
      rw [← hm2] at t2
      refine (oneIfI o1 m1 hm1.symm _).mono ?_
      rintro e u2 ⟨rfl, rfl⟩
      replace hm1 : Hid _ := hm1
      replace hm2 : Hid _ := hm2
      go_wp2_with fail
      rw [rounds_succ]
      go_wp2_with fail
      go_at_call 68
      refine (oneIfI o2 m2 hm2.out.symm _).mono ?_
      rintro e u3 ⟨rfl, rfl⟩
      go_wp2_with fail
      rw [rounds_succ]
      go_wp2
      go_roundw
      case rel => exact ⟨k + 1, c + m1 + m2, by omega, by go_num, by go_num, by have := hst.out; unfold Hid; omega, (b1.alloc b1.size _).alloc (b1.alloc b1.size _).size _, (EnAt.mk a0 a1 |>.below (below_new _) lu).below (below_new _) (by simp; omega)⟩
      case measure => simp [intOf]; omega
    · obtain rfl : k = K.length := by omega
      have e : c = onceL K a p := by rw [hc.out, List.take_length]
      go_wp2
      go_ret
      exact ⟨by rw [← e]; rfl, hb⟩

end Go.Proofs.Ytdfjfodfnildiab
