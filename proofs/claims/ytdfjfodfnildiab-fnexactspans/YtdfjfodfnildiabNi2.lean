/- impl.endsFit, walked. -/
import Derived.Test.YtdfjfodfnildiabRows
import Derived.WalkKit
import Derived.ProofKit
import Derived.OpenShut
import Derived.ShutString
import Derived.ChangeOld
import Derived.Below
import Derived.Deep.QuietTactic
import Derived.BigQuiet
import Derived.WalkSmall
import Derived.Laws.OwnMore
import Derived.WalkSpells
import Derived.WalkLawsBesides
import Derived.Deep.Cut
import Derived.Laws.StructEq
import Derived.Test.YtdfjfodfnildiabNo2
namespace Go.Proofs.Ytdfjfodfnildiab
open Go.ChangeShapes Go.WideShapes Go.ChangeAt Go.RowKit
open Go.ChangeMaps (open_string shut_string)
set_option linter.unusedVariables false
set_option maxRecDepth 100000

/-- A link leads from a port that there is to one of another bridge. -/
def LinkP (B : List Bg) (l : Lk) : Prop := l.a ≠ l.b ∧ PortP B l.a l.p ∧ PortP B l.b l.q
theorem LkAtO.keep {w w' : World} {q o : Nat} {x : Lk} (h : LkAtO w q o x) (k : w'.heap[q]? = w.heap[q]?) : LkAtO w' q o x :=
  ⟨(World.cell?_of_block (a := ⟨q, o, none⟩) k).trans h.c0, (World.cell?_of_block (a := ⟨q, o + 1, none⟩) k).trans h.c1, (World.cell?_of_block (a := ⟨q, o + 2, none⟩) k).trans h.c2, (World.cell?_of_block (a := ⟨q, o + 3, none⟩) k).trans h.c3⟩
set_option maxHeartbeats 8000000 in
theorem eFitI (adB : Option Addr) (capB : Nat) (Bs : List Bd) (adK : Option Addr) (capK : Nat) (K : List Lk) (w : World) (hN : NN w adB Bs adK K) :
    Calls Try.prog 47 #[.agg #[.slice adB Bs.length capB, .slice adK K.length capK]] w fun e w' => YN e (∀ j, j < K.length → LinkP (dB Bs) (K.getD j Lk.nil)) ∧ Below w.heap.size w w' := by
  suffices H : ∀ Q : Prop, Hid (Q ↔ ∀ j, j < K.length → LinkP (dB Bs) (K.getD j Lk.nil)) → Calls Try.prog 47 #[.agg #[.slice adB Bs.length capB, .slice adK K.length capK]] w fun e w' => YN e Q ∧ Below w.heap.size w w' from H _ Iff.rfl
  intro Q hQ
  have hv := hN.vk
  have hl := hN.hk
  have hB := hv.lt lkEnc_len (by omega)
  obtain ⟨y, hy⟩ : ∃ y, y = w.alloc (Obj.cells #[.slice adB Bs.length capB, .slice adK K.length capK] 31) := ⟨_, rfl⟩
  have B0 : Below w.heap.size w y := by rw [hy]; exact below_new _
  have A0 : NeAt y w.heap.size (.slice adB Bs.length capB) (.slice adK K.length capK) := by rw [hy]; exact NeAt.new w _
  go_enter Try.func47, Try.ntmps47
  go_wp2
  rw [← hy]
  clear hy
  go_loopw [9] (fun i wr => ∃ k : Nat, k ≤ K.length ∧ i = .int .i64 k ∧ Hid (∀ j, j < k → LinkP (dB Bs) (K.getD j Lk.nil)) ∧ Below w.heap.size w wr ∧ NeAt wr w.heap.size (.slice adB Bs.length capB) (.slice adK K.length capK)) (fun i _ => K.length - (intOf i).toNat)
  case atStart => exact ⟨0, Nat.zero_le _, rfl, fun j hj => absurd hj (by omega), B0, A0⟩
  case round =>
    obtain ⟨k, hk, rfl, hF, hb, A⟩ := hrel
    clear B0 A0
    by_cases hlt : k < K.length
    · obtain ⟨b, off, rfl, _⟩ := hv (by omega)
      obtain ⟨x, hh⟩ : ∃ h, K.getD k Lk.nil = h := ⟨_, rfl⟩
      have hck : LkAtO wr b (off + k * 4) x := by
        rw [← hh]
        exact lkAtO_of ((hv.below hb hB).at_ lkEnc_len Lk.nil hlt)
      replace hh : Hid _ := hh
      obtain ⟨c0, c1, c2, c3⟩ := hck
      obtain ⟨u, hu⟩ : ∃ u, u = wr.alloc (Obj.cells #[.int .i64 x.a, .int .i64 x.p, .int .i64 x.b, .int .i64 x.q] 70) := ⟨_, rfl⟩
      have bu : Below w.heap.size w u := by rw [hu]; exact hb.alloc hb.size _
      have Au : NeAt u w.heap.size (.slice adB Bs.length capB) (.slice (some ⟨b, off, none⟩) K.length capK) := by rw [hu]; exact A.below (below_new _) A.lt
      have Xu : LkAtO u wr.heap.size 0 x := by rw [hu]; constructor <;> simp [go_sem]
      have xl : wr.heap.size < u.heap.size := World.block_lt_of_cell? u _ Xu.c0
      clear hv hB
      go_wp2_with fail
      go_at_call 65
      rw [← hu]
      clear hu c0 c1 c2 c3 A hb
      refine (endsI x u).mono ?_
      rintro e u1 ⟨rfl, k1⟩
      have b1 := bu.trans (k1.mono bu.size)
      have A1 := Au.below k1 Au.lt
      have X1 := Xu.below k1 xl
      have s1 := k1.size
      clear k1 Au bu Xu
      obtain ⟨z, hz⟩ : ∃ z, z = u1.alloc (Obj.cells #[.int .i64 x.a, .int .i64 x.p, .int .i64 x.b, .int .i64 x.q] 94) := ⟨_, rfl⟩
      have bz : Below w.heap.size w z := by rw [hz]; exact b1.alloc b1.size _
      have kz : Below u1.heap.size u1 z := by rw [hz]; exact below_new _
      have Az := A1.below kz A1.lt
      have Xz := X1.below kz (by omega)
      have Zz : LkAtO z u1.heap.size 0 x := by rw [hz]; constructor <;> simp [go_sem]
      have zl : u1.heap.size < z.heap.size := World.block_lt_of_cell? z _ Zz.c0
      clear kz A1 X1 b1
      by_cases h1 : x.a = x.b
      · have e1 : (x.a == x.b) = true := by simp [h1]
        have e2 : decide (x.a = x.b) = true := decide_eq_true h1
        replace h1 : Hid _ := h1
        go_upto_region 5 with fail
        rw [← hz]
        clear hz
        obtain ⟨q0, q1, q2, q3⟩ := Xz
        simp only [Nat.zero_add] at q0 q1 q2 q3
        go_wp2
        go_ret
        refine ⟨YN.no (fun h => ?_), bz⟩
        have := (hQ.out.1 h) k hlt
        rw [hh.out] at this
        exact this.1 h1.out
      have e1 : (x.a == x.b) = false := by simp [h1]
      have e2 : decide (x.a = x.b) = false := decide_eq_false h1
      replace h1 : Hid _ := h1
      go_upto_region 5 with fail
      rw [← hz]
      clear hz
      have cc := Xz
      obtain ⟨q0, q1, q2, q3⟩ := cc
      have dd := Zz
      obtain ⟨z0, z1, z2, z3⟩ := dd
      have ee := Az
      obtain ⟨a0, a1⟩ := ee
      simp only [Nat.zero_add] at q0 q1 q2 q3 z0 z1 z2 z3
      go_wp2_with fail
      go_at_call 66
      clear q0 q1 q2 q3 z0 z1 z2 z3 a0 a1
      refine (eIsOfI adB capB Bs (some ⟨b, off, none⟩) capK K x.a x.p z (hN.later bz)).mono ?_
      rintro e z1 ⟨⟨R1, rfl, hR1⟩, k1⟩
      have bz1 := bz.trans (k1.mono bz.size)
      have Az := Az.below k1 Az.lt
      have Xz := Xz.below k1 (by omega)
      have Zz := Zz.below k1 zl
      have zl1 := Nat.lt_of_lt_of_le zl k1.size
      clear k1 bz
      by_cases h2 : PortP (dB Bs) x.a x.p
      rotate_left
      · obtain rfl : R1 = false := by
          rcases Bool.eq_false_or_eq_true R1 with q | q
          · exact absurd (hR1.1 q) h2
          · exact q
        clear hR1
        replace h2 : Hid _ := h2
        go_wp2
        go_ret
        refine ⟨YN.no (fun h => ?_), bz1⟩
        have := (hQ.out.1 h) k hlt
        rw [hh.out] at this
        exact h2.out this.2.1
      obtain rfl : R1 = true := hR1.2 h2
      clear hR1
      replace h2 : Hid _ := h2
      have cc := Xz
      obtain ⟨q0, q1, q2, q3⟩ := cc
      have dd := Zz
      obtain ⟨z0, z1_, z2, z3⟩ := dd
      have ee := Az
      obtain ⟨a0, a1⟩ := ee
      simp only [Nat.zero_add] at q0 q1 q2 q3 z0 z1_ z2 z3
      go_wp2_with fail
      go_at_call 66
      clear q0 q1 q2 q3 z0 z1_ z2 z3 a0 a1
      refine (eIsOfI adB capB Bs (some ⟨b, off, none⟩) capK K x.b x.q z1 (hN.later bz1)).mono ?_
      rintro e z2 ⟨⟨R2, rfl, hR2⟩, k2⟩
      have bz2 := bz1.trans (k2.mono bz1.size)
      have Az := Az.below k2 Az.lt
      clear k2 bz1
      by_cases h3 : PortP (dB Bs) x.b x.q
      rotate_left
      · obtain rfl : R2 = false := by
          rcases Bool.eq_false_or_eq_true R2 with q | q
          · exact absurd (hR2.1 q) h3
          · exact q
        clear hR2
        replace h3 : Hid _ := h3
        go_wp2
        go_ret
        refine ⟨YN.no (fun h => ?_), bz2⟩
        have := (hQ.out.1 h) k hlt
        rw [hh.out] at this
        exact h3.out this.2.2
      obtain rfl : R2 = true := hR2.2 h3
      clear hR2
      replace h3 : Hid _ := h3
      go_wp2
      go_roundw
      case rel =>
        refine ⟨k + 1, by omega, by go_num, fun j hj => ?_, bz2, Az⟩
        by_cases ej : j = k
        · rw [ej, hh.out]; exact ⟨h1.out, h2.out, h3.out⟩
        · exact hF.out j (by omega)
      case measure => simp [intOf]; omega
    · obtain rfl : k = K.length := by omega
      go_wp2
      go_ret
      exact ⟨YN.yes (hQ.out.2 hF.out), hb⟩

end Go.Proofs.Ytdfjfodfnildiab
