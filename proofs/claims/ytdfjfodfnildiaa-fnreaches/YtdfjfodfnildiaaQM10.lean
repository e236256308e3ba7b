/- Lists of bridges, compared. Nets, compared. Nets that a call made. Nets that a call owns. impl.endsFit, walked. impl.NetOk, walked. slices.Clone of links and impl.raise, walked. What NetNew answers. Nets that are made, bridge by bridge. Many bridges, in plain lists. Many bridges, in plain lists. Many bridges, in plain lists. Many bridges, in plain lists. Lists of bridges, marked. Nets, marked. -/
import Derived.Test.YtdfjfodfnildiaaRows
import Derived.WalkKit
import Derived.ProofKit
import Derived.OpenShut
import Derived.ShutString
import Derived.ChangeOld
import Derived.Below
import Derived.Deep.QuietTactic
import Derived.BigQuiet
import Derived.WalkSmall
import Derived.Laws.OwnMore
import Derived.WalkSpells
import Derived.WalkLawsBesides
import Derived.Test.YtdfjfodfnildiaaQM6
import Derived.Test.YtdfjfodfnildiaaQM1
import Derived.Test.YtdfjfodfnildiaaQM9
import Derived.Deep.Cut
import Derived.Test.YtdfjfodfnildiaaQM2
import Derived.Laws.StructEq
import Derived.Test.YtdfjfodfnildiaaQM11
import Derived.Test.YtdfjfodfnildiaaQKNi3
import Derived.Maps.AppendAt
import Derived.Test.YtdfjfodfnildiaaQM8
import Derived.Test.YtdfjfodfnildiaaQM15
import Derived.Test.YtdfjfodfnildiaaQM4
namespace Go.Proofs.Ytdfjfodfnildiaa
open Go.ChangeShapes Go.WideShapes Go.ChangeAt Go.RowKit
open Go.ChangeMaps (open_string shut_string)
set_option linter.unusedVariables false
set_option maxRecDepth 100000

end Go.Proofs.Ytdfjfodfnildiaa
namespace Go.Proofs.Ytdfjfodfnildiaa
open Go.ChangeShapes Go.WideShapes Go.ChangeAt Go.RowKit
open Go.ChangeMaps (open_string shut_string)
set_option linter.unusedVariables false
set_option maxRecDepth 100000

end Go.Proofs.Ytdfjfodfnildiaa
namespace Go.Proofs.Ytdfjfodfnildiaa
open Go.ChangeShapes Go.WideShapes Go.ChangeAt Go.RowKit
open Go.ChangeMaps (open_string shut_string)
set_option linter.unusedVariables false
set_option maxRecDepth 100000

end Go.Proofs.Ytdfjfodfnildiaa
namespace Go.Proofs.Ytdfjfodfnildiaa
open Go.ChangeShapes Go.WideShapes Go.ChangeAt Go.RowKit
open Go.ChangeMaps (open_string shut_string)
set_option linter.unusedVariables false
set_option maxRecDepth 100000

theorem getD_push {X : Type} (L : List X) (x d : X) (i : Nat) : (L ++ [x]).getD i d = if i < L.length then L.getD i d else if i = L.length then x else d := by
  by_cases h : i < L.length
  · rw [if_pos h]; simp [List.getD, List.getElem?_append_left h]
  · rw [if_neg h]
    by_cases e : i = L.length
    · rw [if_pos e, e]; simp [List.getD]
    · rw [if_neg e]
      have : (L ++ [x])[i]? = none := List.getElem?_eq_none (by simp; omega)
      simp [List.getD, this]
theorem NOwn.push {lo hi : Nat} {w w' : World} {v v' : Value} {Bs : List Bd} {x : Bd} (h : NOwn lo hi w v Bs) (hs : hi ≤ w.heap.size)
    (row : FOwn bdEnc 2 71 lo w' v' (Bs ++ [x])) (gr : w.grownBy w' v.ownBlock) (hv : v'.ownBlock = v.ownBlock ∨ ∃ g, v'.ownBlock = some g ∧ w.heap.size ≤ g)
    (nx : FOwn ptEnc 11 68 lo w x.v x.L) (hx : ∀ g, x.v.ownBlock = some g → hi ≤ g ∧ g < w.heap.size) : NOwn lo w'.heap.size w' v' (Bs ++ [x]) := by
  have hvl : ∀ g, v.ownBlock = some g → lo ≤ g ∧ g < w.heap.size := fun g e => h.row.lt g e
  have sz := gr.size
  have hvg : ∀ g, v'.ownBlock = some g → v.ownBlock = some g ∨ w.heap.size ≤ g := fun g e => by
    rcases hv with q | ⟨g', q, hg⟩
    · exact .inl (by rw [← q]; exact e)
    · rw [q] at e
      cases e
      exact .inr hg
  have nb : ∀ i, i < Bs.length → ∀ g, (Bs.getD i Bd.nil).v.ownBlock = some g → g < hi := fun i hi g e => h.nhi i hi g e
  have get : ∀ i, i < (Bs ++ [x]).length → (i < Bs.length ∧ (Bs ++ [x]).getD i Bd.nil = Bs.getD i Bd.nil) ∨ (i = Bs.length ∧ (Bs ++ [x]).getD i Bd.nil = x) := fun i hi => by
    rw [getD_push]
    have : i < Bs.length + 1 := by simpa using hi
    by_cases q : i < Bs.length
    · exact .inl ⟨q, if_pos q⟩
    · have e : i = Bs.length := by omega
      exact .inr ⟨e, by rw [if_neg q, if_pos e]⟩
  refine ⟨row, fun i hi => ?_, fun g e => (row.lt g e).2, fun i hi g e => ?_, fun i hi g g' e e' => ?_, fun i j hij hj g g' e e' => ?_⟩
  · rcases get i hi with ⟨q, r⟩ | ⟨q, r⟩
    · rw [r]
      exact (h.nest i q).keep (fun g e => gr.block g (by have := nb i q g e; omega) (fun e2 => h.apart i q g g (by rw [← e2]) e rfl))
    · rw [r]
      exact nx.keep (fun g e => gr.block g (hx g e).2 (fun e2 => by have := h.rhi g (by rw [← e2]); have := (hx g e).1; omega))
  · rcases get i hi with ⟨q, r⟩ | ⟨q, r⟩
    · rw [r] at e
      have := nb i q g e
      omega
    · rw [r] at e
      have := (hx g e).2
      omega
  · rcases get i hi with ⟨q, r⟩ | ⟨q, r⟩
    · rw [r] at e'
      rcases hvg g e with k | k
      · exact h.apart i q g g' k e'
      · have := nb i q g' e'
        omega
    · rw [r] at e'
      have := hx g' e'
      rcases hvg g e with k | k
      · have := h.rhi g k
        omega
      · omega
  · have hj' : j < Bs.length + 1 := by simpa using hj
    rcases get i (by omega) with ⟨q, r⟩ | ⟨q, r⟩
    · rw [r] at e
      rcases get j hj with ⟨q2, r2⟩ | ⟨q2, r2⟩
      · rw [r2] at e'
        exact h.aparts i j hij q2 g g' e e'
      · rw [r2] at e'
        have := nb i q g e
        have := (hx g' e').1
        omega
    · omega
theorem NOwn.set {lo hi : Nat} {w : World} {g cap : Nat} {Bs : List Bd} {i : Nat} (h : NOwn lo hi w (.slice (some ⟨g, 0, none⟩) Bs.length cap) Bs) (hs : hi ≤ w.heap.size) (hi' : i < Bs.length) (x : Bd)
    (nx : FOwn ptEnc 11 68 lo w x.v x.L) (hx : ∀ k, x.v.ownBlock = some k → hi ≤ k ∧ k < w.heap.size) : NOwn lo w.heap.size (putAll w g (i * 2) (bdEnc x)) (.slice (some ⟨g, 0, none⟩) (Bs.set i x).length cap) (Bs.set i x) := by
  have row : FOwn bdEnc 2 71 lo (putAll w g (i * 2) (bdEnc x)) (.slice (some ⟨g, 0, none⟩) (Bs.set i x).length cap) (Bs.set i x) := by
    rw [List.length_set]
    exact h.row.set bdEnc_len (by omega) hi' x
  have hg : g < hi := h.rhi g rfl
  have bl : ∀ k, k ≠ g → (putAll w g (i * 2) (bdEnc x)).heap[k]? = w.heap[k]? := fun k hk => heap_putAll _ _ _ _ hk
  have get : ∀ j, j < (Bs.set i x).length → (j ≠ i ∧ j < Bs.length ∧ (Bs.set i x).getD j Bd.nil = Bs.getD j Bd.nil) ∨ (j = i ∧ (Bs.set i x).getD j Bd.nil = x) := fun j hj => by
    rw [List.length_set] at hj
    by_cases e : j = i
    · subst e
      exact .inr ⟨rfl, by simp [List.getD, hj]⟩
    · exact .inl ⟨e, hj, by simp [List.getD, List.getElem?_set_ne (Ne.symm e)]⟩
  refine ⟨row, fun j hj => ?_, fun k e => ?_, fun j hj k e => ?_, fun j hj k k' e e' => ?_, fun j l hjl hl k k' e e' => ?_⟩
  · rcases get j hj with ⟨q, q2, r⟩ | ⟨q, r⟩
    · rw [r]
      exact (h.nest j q2).keep (fun k e => bl k (fun e2 => h.apart j q2 g k rfl e e2.symm))
    · rw [r]
      exact nx.keep (fun k e => bl k (by have := (hx k e).1; omega))
  · obtain rfl : g = k := by simpa [Value.ownBlock] using e
    omega
  · rcases get j hj with ⟨q, q2, r⟩ | ⟨q, r⟩
    · rw [r] at e
      have := h.nhi j q2 k e
      omega
    · rw [r] at e
      exact (hx k e).2
  · obtain rfl : g = k := by simpa [Value.ownBlock] using e
    rcases get j hj with ⟨q, q2, r⟩ | ⟨q, r⟩
    · rw [r] at e'
      exact h.apart j q2 g k' rfl e'
    · rw [r] at e'
      have := (hx k' e').1
      omega
  · rcases get j (by omega) with ⟨q, q2, r⟩ | ⟨q, r⟩
    · rw [r] at e
      rcases get l hl with ⟨p, p2, s⟩ | ⟨p, s⟩
      · rw [s] at e'
        exact h.aparts j l hjl p2 k k' e e'
      · rw [s] at e'
        have := h.nhi j q2 k e
        have := (hx k' e').1
        omega
    · rw [r] at e
      rcases get l hl with ⟨p, p2, s⟩ | ⟨p, s⟩
      · rw [s] at e'
        have := h.nhi l p2 k' e'
        have := (hx k e).1
        omega
      · omega
theorem NOwn.nil {lo hi : Nat} {w : World} : NOwn lo hi w (.slice none 0 0) [] :=
  ⟨FOwn.nil, fun i h => absurd h (by simp), fun g e => by simp [Value.ownBlock] at e, fun i h => absurd h (by simp), fun i h => absurd h (by simp), fun i j _ h => absurd h (by simp)⟩
structure NetOwn (lo mid hi : Nat) (w : World) (vB : Value) (Cs : List Bd) (vK : Value) (K : List Lk) : Prop where
  own : NOwn mid hi w vB Cs
  own2 : FOwn lkEnc 4 64 lo w vK K
  khi : ∀ g, vK.ownBlock = some g → g < mid
  lm : lo ≤ mid
  mh : mid ≤ hi
  hs : hi ≤ w.heap.size
theorem NetOwn.keep {lo mid hi : Nat} {w w' : World} {vB : Value} {Cs : List Bd} {vK : Value} {K : List Lk} (h : NetOwn lo mid hi w vB Cs vK K) (k : ∀ g, lo ≤ g → g < hi → w'.heap[g]? = w.heap[g]?) (hs : w.heap.size ≤ w'.heap.size) : NetOwn lo mid hi w' vB Cs vK K :=
  ⟨h.own.keep (fun g h1 h2 => k g (Nat.le_trans h.lm h1) h2), h.own2.keep (fun g e => k g (h.own2.lt g e).1 (Nat.lt_of_lt_of_le (h.khi g e) h.mh)), h.khi, h.lm, h.mh, Nat.le_trans h.hs hs⟩
theorem NetOwn.later {lo mid hi : Nat} {w w' : World} {vB : Value} {Cs : List Bd} {vK : Value} {K : List Lk} (h : NetOwn lo mid hi w vB Cs vK K) (k : Below w.heap.size w w') : NetOwn lo mid hi w' vB Cs vK K :=
  h.keep (fun g _ hg => k.block g (Nat.lt_of_lt_of_le hg h.hs)) k.size
theorem NetOwn.nn {lo mid hi : Nat} {w : World} {adB : Option Addr} {cB : Nat} {Cs : List Bd} {adK : Option Addr} {cK : Nat} {K : List Lk} (h : NetOwn lo mid hi w (.slice adB Cs.length cB) Cs (.slice adK K.length cK) K) (hl : Cs.length ≤ 1048576) (hls : ∀ i, i < Cs.length → (Cs.getD i Bd.nil).L.length ≤ 1048576) (hk : K.length ≤ 1048576) : NN w adB Cs adK K :=
  ⟨h.own.view.2, h.own2.view.2, hl, hls, hk⟩
end Go.Proofs.Ytdfjfodfnildiaa
namespace Go.Proofs.Ytdfjfodfnildiaa
open Go.ChangeShapes Go.WideShapes Go.ChangeAt Go.RowKit
open Go.ChangeMaps (open_string shut_string)
set_option linter.unusedVariables false
set_option maxRecDepth 100000

def LinkP (B : List Bg) (l : Lk) : Prop := l.a ≠ l.b ∧ PortP B l.a l.p ∧ PortP B l.b l.q
theorem LkAtO.keep {w w' : World} {q o : Nat} {x : Lk} (h : LkAtO w q o x) (k : w'.heap[q]? = w.heap[q]?) : LkAtO w' q o x :=
  ⟨(World.cell?_of_block (a := ⟨q, o, none⟩) k).trans h.c0, (World.cell?_of_block (a := ⟨q, o + 1, none⟩) k).trans h.c1, (World.cell?_of_block (a := ⟨q, o + 2, none⟩) k).trans h.c2, (World.cell?_of_block (a := ⟨q, o + 3, none⟩) k).trans h.c3⟩
set_option maxHeartbeats 8000000 in
theorem eFitI (adB : Option Addr) (capB : Nat) (Bs : List Bd) (adK : Option Addr) (capK : Nat) (K : List Lk) (w : World) (hN : NN w adB Bs adK K) :
    Calls Try.prog 52 #[.agg #[.slice adB Bs.length capB, .slice adK K.length capK]] w fun e w' => YN e (∀ j, j < K.length → LinkP (dB Bs) (K.getD j Lk.nil)) ∧ Below w.heap.size w w' := by
  suffices H : ∀ Q : Prop, Hid (Q ↔ ∀ j, j < K.length → LinkP (dB Bs) (K.getD j Lk.nil)) → Calls Try.prog 52 #[.agg #[.slice adB Bs.length capB, .slice adK K.length capK]] w fun e w' => YN e Q ∧ Below w.heap.size w w' from H _ Iff.rfl
  intro Q hQ
  have hv := hN.vk
  have hl := hN.hk
  have hB := hv.lt lkEnc_len (by omega)
  obtain ⟨y, hy⟩ : ∃ y, y = w.alloc (Obj.cells #[.slice adB Bs.length capB, .slice adK K.length capK] 27) := ⟨_, rfl⟩
  have B0 : Below w.heap.size w y := by rw [hy]; exact below_new _
  have A0 : NeAt y w.heap.size (.slice adB Bs.length capB) (.slice adK K.length capK) := by rw [hy]; exact NeAt.new w _
  go_enter Try.func52, Try.ntmps52
  go_wp2
  rw [← hy]
  clear hy
  go_loopw [9] (fun i wr => ∃ k : Nat, k ≤ K.length ∧ i = .int .i64 k ∧ Hid (∀ j, j < k → LinkP (dB Bs) (K.getD j Lk.nil)) ∧ Below w.heap.size w wr ∧ NeAt wr w.heap.size (.slice adB Bs.length capB) (.slice adK K.length capK)) (fun i _ => K.length - (intOf i).toNat)
  case atStart => exact ⟨0, Nat.zero_le _, rfl, fun j hj => absurd hj (by omega), B0, A0⟩
  case round =>
    obtain ⟨k, hk, rfl, hF, hb, A⟩ := hrel
    clear B0 A0
    by_cases hlt : k < K.length
    · obtain ⟨b, off, rfl, _⟩ := hv (by omega)
      obtain ⟨x, hh⟩ : ∃ h, K.getD k Lk.nil = h := ⟨_, rfl⟩
      have hck : LkAtO wr b (off + k * 4) x := by
        rw [← hh]
        exact lkAtO_of ((hv.below hb hB).at_ lkEnc_len Lk.nil hlt)
      replace hh : Hid _ := hh
      obtain ⟨c0, c1, c2, c3⟩ := hck
      obtain ⟨u, hu⟩ : ∃ u, u = wr.alloc (Obj.cells #[.int .i64 x.a, .int .i64 x.p, .int .i64 x.b, .int .i64 x.q] 64) := ⟨_, rfl⟩
      have bu : Below w.heap.size w u := by rw [hu]; exact hb.alloc hb.size _
      have Au : NeAt u w.heap.size (.slice adB Bs.length capB) (.slice (some ⟨b, off, none⟩) K.length capK) := by rw [hu]; exact A.below (below_new _) A.lt
      have Xu : LkAtO u wr.heap.size 0 x := by rw [hu]; constructor <;> simp [go_sem]
      have xl : wr.heap.size < u.heap.size := World.block_lt_of_cell? u _ Xu.c0
      clear hv hB
      go_wp2_with fail
      go_at_call 70
      rw [← hu]
      clear hu c0 c1 c2 c3 A hb
      refine (endsI x u).mono ?_
      rintro e u1 ⟨rfl, k1⟩
      have b1 := bu.trans (k1.mono bu.size)
      have A1 := Au.below k1 Au.lt
      have X1 := Xu.below k1 xl
      have s1 := k1.size
      clear k1 Au bu Xu
      obtain ⟨z, hz⟩ : ∃ z, z = u1.alloc (Obj.cells #[.int .i64 x.a, .int .i64 x.p, .int .i64 x.b, .int .i64 x.q] 96) := ⟨_, rfl⟩
      have bz : Below w.heap.size w z := by rw [hz]; exact b1.alloc b1.size _
      have kz : Below u1.heap.size u1 z := by rw [hz]; exact below_new _
      have Az := A1.below kz A1.lt
      have Xz := X1.below kz (by omega)
      have Zz : LkAtO z u1.heap.size 0 x := by rw [hz]; constructor <;> simp [go_sem]
      have zl : u1.heap.size < z.heap.size := World.block_lt_of_cell? z _ Zz.c0
      clear kz A1 X1 b1
      by_cases h1 : x.a = x.b
      · have e1 : (x.a == x.b) = true := by simp [h1]
        have e2 : decide (x.a = x.b) = true := decide_eq_true h1
        replace h1 : Hid _ := h1
        go_upto_region 5 with fail
        rw [← hz]
        clear hz
        obtain ⟨q0, q1, q2, q3⟩ := Xz
        simp only [Nat.zero_add] at q0 q1 q2 q3
        go_wp2
        go_ret
        refine ⟨YN.no (fun h => ?_), bz⟩
        have := (hQ.out.1 h) k hlt
        rw [hh.out] at this
        exact this.1 h1.out
      have e1 : (x.a == x.b) = false := by simp [h1]
      have e2 : decide (x.a = x.b) = false := decide_eq_false h1
      replace h1 : Hid _ := h1
      go_upto_region 5 with fail
      rw [← hz]
      clear hz
      have cc := Xz
      obtain ⟨q0, q1, q2, q3⟩ := cc
      have dd := Zz
      obtain ⟨z0, z1, z2, z3⟩ := dd
      have ee := Az
      obtain ⟨a0, a1⟩ := ee
      simp only [Nat.zero_add] at q0 q1 q2 q3 z0 z1 z2 z3
      go_wp2_with fail
      go_at_call 77
      clear q0 q1 q2 q3 z0 z1 z2 z3 a0 a1
      refine (eIsOfI adB capB Bs (some ⟨b, off, none⟩) capK K x.a x.p z (hN.later bz)).mono ?_
      rintro e z1 ⟨⟨R1, rfl, hR1⟩, k1⟩
      have bz1 := bz.trans (k1.mono bz.size)
      have Az := Az.below k1 Az.lt
      have Xz := Xz.below k1 (by omega)
      have Zz := Zz.below k1 zl
      have zl1 := Nat.lt_of_lt_of_le zl k1.size
      clear k1 bz
      by_cases h2 : PortP (dB Bs) x.a x.p
      rotate_left
      · obtain rfl : R1 = false := by
          rcases Bool.eq_false_or_eq_true R1 with q | q
          · exact absurd (hR1.1 q) h2
          · exact q
        clear hR1
        replace h2 : Hid _ := h2
        go_wp2
        go_ret
        refine ⟨YN.no (fun h => ?_), bz1⟩
        have := (hQ.out.1 h) k hlt
        rw [hh.out] at this
        exact h2.out this.2.1
      obtain rfl : R1 = true := hR1.2 h2
      clear hR1
      replace h2 : Hid _ := h2
      have cc := Xz
      obtain ⟨q0, q1, q2, q3⟩ := cc
      have dd := Zz
      obtain ⟨z0, z1_, z2, z3⟩ := dd
      have ee := Az
      obtain ⟨a0, a1⟩ := ee
      simp only [Nat.zero_add] at q0 q1 q2 q3 z0 z1_ z2 z3
      go_wp2_with fail
      go_at_call 77
      clear q0 q1 q2 q3 z0 z1_ z2 z3 a0 a1
      refine (eIsOfI adB capB Bs (some ⟨b, off, none⟩) capK K x.b x.q z1 (hN.later bz1)).mono ?_
      rintro e z2 ⟨⟨R2, rfl, hR2⟩, k2⟩
      have bz2 := bz1.trans (k2.mono bz1.size)
      have Az := Az.below k2 Az.lt
      clear k2 bz1
      by_cases h3 : PortP (dB Bs) x.b x.q
      rotate_left
      · obtain rfl : R2 = false := by
          rcases Bool.eq_false_or_eq_true R2 with q | q
          · exact absurd (hR2.1 q) h3
          · exact q
        clear hR2
        replace h3 : Hid _ := h3
        go_wp2
        go_ret
        refine ⟨YN.no (fun h => ?_), bz2⟩
        have := (hQ.out.1 h) k hlt
        rw [hh.out] at this
        exact h3.out this.2.2
      obtain rfl : R2 = true := hR2.2 h3
      clear hR2
      replace h3 : Hid _ := h3
      go_wp2
      go_roundw
      case rel =>
        refine ⟨k + 1, by omega, by go_num, fun j hj => ?_, bz2, Az⟩
        by_cases ej : j = k
        · rw [ej, hh.out]; exact ⟨h1.out, h2.out, h3.out⟩
        · exact hF.out j (by omega)
      case measure => simp [intOf]; omega
    · obtain rfl : k = K.length := by omega
      go_wp2
      go_ret
      exact ⟨YN.yes (hQ.out.2 hF.out), hb⟩

end Go.Proofs.Ytdfjfodfnildiaa
namespace Go.Proofs.Ytdfjfodfnildiaa
open Go.ChangeShapes Go.WideShapes Go.ChangeAt Go.RowKit
open Go.ChangeMaps (open_string shut_string)
set_option linter.unusedVariables false
set_option maxRecDepth 100000

theorem netP_impl {B : List Bg} {K : List Lk} : NetP B K ↔ ((1 ≤ B.length ∧ B.length ≤ 5) ∧ FitTo B B.length) ∧ K.length ≤ 6 ∧ (∀ j, j < K.length → LinkP B (K.getD j Lk.nil)) ∧ PortsTo B K B.length := by
  constructor
  · intro h
    refine ⟨⟨h.many, h.ok, fun i k hi hk e => ?_⟩, h.few, fun j hj => ?_, h.once⟩
    · have := h.inj k i (by omega) hi e
      omega
    · have hm : K.getD j Lk.nil ∈ K := by
        rw [show K.getD j Lk.nil = K[j] by simp [List.getD, hj]]
        exact List.getElem_mem hj
      obtain ⟨q1, q2, q3⟩ := h.link _ hm
      exact ⟨q1, q2.port, q3.port⟩
  · rintro ⟨⟨h1, h2, h3⟩, h4, h5, h6⟩
    refine ⟨h1, h4, h2, unlike_inj h3, h6, fun l hl => ?_⟩
    obtain ⟨j, hj, rfl⟩ := List.getElem_of_mem hl
    have := h5 j hj
    rw [show K.getD j Lk.nil = K[j] by simp [List.getD, hj]] at this
    obtain ⟨q1, q2, q3⟩ := this
    have o := once_in hl
    exact ⟨q1, end_up h6 q2 o.1, end_up h6 q3 o.2⟩
theorem bool_no {R : Bool} {Q : Prop} (h : R = true ↔ Q) (n : ¬ Q) : R = false := by
  rcases Bool.eq_false_or_eq_true R with q | q
  · exact absurd (h.1 q) n
  · exact q
set_option maxHeartbeats 4000000 in
theorem netOkI (adB : Option Addr) (capB : Nat) (Bs : List Bd) (adK : Option Addr) (capK : Nat) (K : List Lk) (w : World) (hN : NN w adB Bs adK K) (hcap : Bs.length ≤ capB) :
    Calls Try.prog 27 #[.agg #[.slice adB Bs.length capB, .slice adK K.length capK]] w fun e w' => YN e (NetP (dB Bs) K) ∧ Below w.heap.size w w' := by
  suffices H : ∀ Q : Prop, Hid (Q ↔ NetP (dB Bs) K) → Calls Try.prog 27 #[.agg #[.slice adB Bs.length capB, .slice adK K.length capK]] w fun e w' => YN e Q ∧ Below w.heap.size w w' from H _ Iff.rfl
  intro Q hQ0
  have hQ : Hid (Q ↔ ((1 ≤ (dB Bs).length ∧ (dB Bs).length ≤ 5) ∧ FitTo (dB Bs) (dB Bs).length) ∧ K.length ≤ 6 ∧ (∀ j, j < K.length → LinkP (dB Bs) (K.getD j Lk.nil)) ∧ PortsTo (dB Bs) K (dB Bs).length) := hQ0.out.trans netP_impl
  clear hQ0
  obtain ⟨y, hy⟩ : ∃ y, y = w.alloc (Obj.cells #[.slice adB Bs.length capB, .slice adK K.length capK] 27) := ⟨_, rfl⟩
  have B0 : Below w.heap.size w y := by rw [hy]; exact below_new _
  have A0 : NeAt y w.heap.size (.slice adB Bs.length capB) (.slice adK K.length capK) := by rw [hy]; exact NeAt.new w _
  have l0 := A0.lt
  have hk := hN.hk
  go_enter Try.func27, Try.ntmps27
  go_wp2_with fail
  go_at_call 51
  rw [← hy]
  clear hy
  refine (bFitI adB capB Bs y (hN.later B0).vb hN.hl hN.hls hcap).mono ?_
  rintro e w1 ⟨⟨R1, rfl, hR1⟩, k1⟩
  have B1 := B0.trans (k1.mono B0.size)
  have A1 := A0.below k1 l0
  clear A0 k1 B0
  by_cases h1 : (1 ≤ (dB Bs).length ∧ (dB Bs).length ≤ 5) ∧ FitTo (dB Bs) (dB Bs).length
  rotate_left
  · obtain rfl := bool_no hR1 h1
    clear hR1
    replace h1 : Hid _ := h1
    go_wp2
    go_ret
    exact ⟨YN.no (fun h => h1.out (hQ.out.1 h).1), B1⟩
  obtain rfl : R1 = true := hR1.2 h1
  clear hR1
  replace h1 : Hid _ := h1
  have cc := A1
  obtain ⟨c0, c1⟩ := cc
  by_cases h2 : K.length ≤ 6
  rotate_left
  · have d2 : decide ((K.length : Int) ≤ 6) = false := decide_eq_false (by omega)
    have d3 : ¬ (K.length : Int) ≤ 6 := by omega
    replace h2 : Hid _ := h2
    go_wp2
    go_ret
    exact ⟨YN.no (fun h => h2.out (hQ.out.1 h).2.1), B1⟩
  have d2 : decide ((K.length : Int) ≤ 6) = true := decide_eq_true (by omega)
  have d3 : (K.length : Int) ≤ 6 := by omega
  replace h2 : Hid _ := h2
  go_wp2_with fail
  go_at_call 52
  clear c0 c1 d2 d3
  refine (eFitI adB capB Bs adK capK K w1 (hN.later B1)).mono ?_
  rintro e w2 ⟨⟨R2, rfl, hR2⟩, k2⟩
  have B2 := B1.trans (k2.mono B1.size)
  have A2 := A1.below k2 A1.lt
  clear A1 k2 B1
  by_cases h3 : ∀ j, j < K.length → LinkP (dB Bs) (K.getD j Lk.nil)
  rotate_left
  · obtain rfl := bool_no hR2 h3
    clear hR2
    replace h3 : Hid _ := h3
    go_wp2
    go_ret
    exact ⟨YN.no (fun h => h3.out (hQ.out.1 h).2.2.1), B2⟩
  obtain rfl : R2 = true := hR2.2 h3
  clear hR2
  replace h3 : Hid _ := h3
  obtain ⟨c0, c1⟩ := A2
  go_wp2_with fail
  go_at_call 53
  clear c0 c1
  refine (pFitI adB capB Bs adK capK K w2 (hN.later B2)).mono ?_
  rintro e w3 ⟨⟨R3, rfl, hR3⟩, k3⟩
  have B3 := B2.trans (k3.mono B2.size)
  clear k3 B2
  go_wp2
  go_ret
  exact ⟨YN.is (by rw [hR3]; exact ⟨fun h => hQ.out.2 ⟨h1.out, h2.out, h3.out, h⟩, fun h => (hQ.out.1 h).2.2.2⟩), B3⟩

end Go.Proofs.Ytdfjfodfnildiaa
namespace Go.Proofs.Ytdfjfodfnildiaa
open Go.ChangeShapes Go.WideShapes Go.ChangeAt Go.RowKit
open Go.ChangeMaps (open_string shut_string)
set_option linter.unusedVariables false
set_option maxRecDepth 100000

theorem grown_trans {a b c : World} {g : Option Nat} (h : a.grownBy b g) (k : b.grownBy c g) : a.grownBy c g :=
  ⟨k.os.trans h.os, k.tape.trans h.tape, k.output.trans h.output, Nat.le_trans h.size k.size, fun j hj hn => (k.block j (Nat.lt_of_lt_of_le hj h.size) hn).trans (h.block j hj hn)⟩
theorem grown_of {a b : World} {g : Option Nat} (k : Below a.heap.size a b) : a.grownBy b g := ⟨k.os, k.tape, k.output, k.size, fun j hj _ => k.block j hj⟩
theorem grown_set {a b : World} {g o : Nat} (v : Value) (h : a.grownBy b (some g)) : a.grownBy (b.setCell ⟨g, o, none⟩ v) (some g) :=
  ⟨h.os, h.tape, h.output, by simpa using h.size, fun j hj hn => (Below.heap_setCell _ _ _ _ (fun e => hn (by have : j = g := e; rw [this]))).trans (h.block j hj hn)⟩
end Go.Proofs.Ytdfjfodfnildiaa
namespace Go.Proofs.Ytdfjfodfnildiaa
open Go.ChangeShapes Go.WideShapes Go.ChangeAt Go.RowKit
open Go.ChangeMaps (open_string shut_string)
set_option linter.unusedVariables false
set_option maxRecDepth 100000

structure NewOut (ids : List Int) (K : List Lk) (ok : Bool) (Cs : List Bd) (KL : List Lk) : Prop where
  yn : ok = true ↔ NewP ids K
  yes : ok = true → dB Cs = netN ids (ofK K) ids.length ∧ KL = K
  no : ok = false → Cs = [] ∧ KL = []
def NewRet (ids : List Int) (K : List Lk) (w : World) (e : Ending) (w' : World) : Prop :=
  ∃ adB cB Cs adL cL KL ok mid, e = .returned (.tuple #[.agg #[.slice adB (List.length Cs) cB, .slice adL (List.length KL) cL], .bool ok]) ∧ NewOut ids K ok Cs KL ∧ NetOwn w.heap.size mid w'.heap.size w' (.slice adB Cs.length cB) Cs (.slice adL KL.length cL) KL ∧ Below w.heap.size w w'
theorem NewRet.no {ids : List Int} {K : List Lk} {w w' : World} (h : ¬ NewP ids K) (b : Below w.heap.size w w') : NewRet ids K w (.returned (.tuple #[.agg #[.slice none 0 0, .slice none 0 0], .bool false])) w' :=
  ⟨none, 0, [], none, 0, [], false, w.heap.size, rfl, ⟨⟨fun q => (by cases q), fun q => absurd q h⟩, fun q => (by cases q), fun _ => ⟨rfl, rfl⟩⟩, ⟨NOwn.nil, FOwn.nil, fun g e => by simp [Value.ownBlock] at e, Nat.le_refl _, b.size, Nat.le_refl _⟩, b⟩
theorem NewRet.yes {ids : List Int} {K : List Lk} {w w' : World} {adB : Option Addr} {cB : Nat} {Cs : List Bd} {adL : Option Addr} {cL mid : Nat} (h : NewP ids K) (d : dB Cs = netN ids (ofK K) ids.length) (o : NetOwn w.heap.size mid w'.heap.size w' (.slice adB Cs.length cB) Cs (.slice adL K.length cL) K) (b : Below w.heap.size w w') : NewRet ids K w (.returned (.tuple #[.agg #[.slice adB Cs.length cB, .slice adL K.length cL], .bool true])) w' :=
  ⟨adB, cB, Cs, adL, cL, K, true, mid, rfl, ⟨⟨fun _ => h, fun _ => rfl⟩, fun _ => ⟨d, rfl⟩, fun q => (by cases q)⟩, o, b⟩
structure NeBox (w : World) (q : Nat) (v0 v1 : Value) : Prop where
  at_ : NeAt w q v0 v1
  fr : ∀ i, w.frozen? ⟨q, i, none⟩ = false
theorem NeBox.keep {w w' : World} {q : Nat} {v0 v1 : Value} (h : NeBox w q v0 v1) (k : w'.heap[q]? = w.heap[q]?) : NeBox w' q v0 v1 :=
  ⟨h.at_.keep k, fun i => (World.frozen?_of_block (a := ⟨q, i, none⟩) k).trans (h.fr i)⟩
theorem NeBox.lt {w : World} {q : Nat} {v0 v1 : Value} (h : NeBox w q v0 v1) : q < w.heap.size := h.at_.lt
theorem NeBox.below {w w' : World} {q n : Nat} {v0 v1 : Value} (h : NeBox w q v0 v1) (k : Below n w w') (hq : q < n) : NeBox w' q v0 v1 := h.keep (k.block q hq)
theorem NeBox.later {w w' : World} {q : Nat} {v0 v1 : Value} (h : NeBox w q v0 v1) (k : Below w.heap.size w w') : NeBox w' q v0 v1 := h.below k h.lt
theorem NeBox.new (w : World) (t : TypeId) {v0 v1 : Value} : NeBox (w.alloc (Obj.cells #[v0, v1] t)) w.heap.size v0 v1 := ⟨NeAt.new w t, fun i => by simp [go_sem]⟩
theorem NeBox.put0 {w : World} {q : Nat} {v0 v1 : Value} (h : NeBox w q v0 v1) (v : Value) : NeBox (w.setCell ⟨q, 0, none⟩ v) q v v1 :=
  ⟨⟨pset_same h.at_.c0, (pset_else (by decide)).trans h.at_.c1⟩, fun i => by rw [World.frozen?_setCell]; exact h.fr i⟩
theorem NeBox.put {w : World} {q : Nat} {v0 v1 : Value} (h : NeBox w q v0 v1) (u v : Value) : NeBox ((w.setCell ⟨q, 0, none⟩ u).setCell ⟨q, 1, none⟩ v) q u v := by
  have e1 : (w.setCell ⟨q, 0, none⟩ u).cell? ⟨q, 1, none⟩ = some v1 := (pset_else (by decide)).trans h.at_.c1
  refine ⟨⟨(pset_else (by decide)).trans (pset_same h.at_.c0), pset_same e1⟩, fun i => ?_⟩
  rw [World.frozen?_setCell, World.frozen?_setCell]; exact h.fr i

end Go.Proofs.Ytdfjfodfnildiaa
namespace Go.Proofs.Ytdfjfodfnildiaa
open Go.ChangeShapes Go.WideShapes Go.ChangeAt Go.RowKit
open Go.ChangeMaps (open_string shut_string)
set_option linter.unusedVariables false
set_option maxRecDepth 100000

structure CpSt (R M : Nat) (D : List Bg) (K : List Lk) (adL : Option Addr) (cL : Nat) (w wr : World) (adB : Option Addr) (cB : Nat) (Cs : List Bd) : Prop where
  rb : NeBox wr R (.slice none 0 0) (.slice none 0 0)
  nb : NeBox wr M (.slice adB Cs.length cB) (.slice adL K.length cL)
  own : NOwn (M + 1) wr.heap.size wr (.slice adB Cs.length cB) Cs
  d : dB Cs = D
  kown : FOwn lkEnc 4 64 R wr (.slice adL K.length cL) K
  khi : ∀ g, (Value.slice adL K.length cL).ownBlock = some g → g < M
  rm : R < M
  bel : Below R w wr
theorem CpSt.later {R M : Nat} {D : List Bg} {K : List Lk} {adL : Option Addr} {cL : Nat} {w wr w2 : World} {adB : Option Addr} {cB : Nat} {Cs : List Bd} (h : CpSt R M D K adL cL w wr adB cB Cs) (k : Below wr.heap.size wr w2) : CpSt R M D K adL cL w w2 adB cB Cs :=
  ⟨h.rb.later k, h.nb.later k, (h.own.below k (Nat.le_refl _)).wide (Nat.le_refl _) k.size, h.d, h.kown.later k, h.khi, h.rm, h.bel.trans (k.mono (Nat.le_of_lt (Nat.lt_trans h.rm h.nb.lt)))⟩
theorem CpSt.push {R M : Nat} {D : List Bg} {K : List Lk} {adL : Option Addr} {cL : Nat} {w wr z wZ : World} {adB adZ : Option Addr} {cB cZ : Nat} {Cs : List Bd} {x : Bd} (h : CpSt R M D K adL cL w wr adB cB Cs) (kz : Below wr.heap.size wr z)
    (nx : FOwn ptEnc 11 68 wr.heap.size z x.v x.L)
    (row : FOwn bdEnc 2 71 (M + 1) wZ (.slice adZ (Cs ++ [x]).length cZ) (Cs ++ [x])) (gr : z.grownBy wZ (Value.slice adB Cs.length cB).ownBlock) (hv : (Value.slice adZ (Cs ++ [x]).length cZ).ownBlock = (Value.slice adB Cs.length cB).ownBlock ∨ (Value.slice adZ (Cs ++ [x]).length cZ).ownBlock = some z.heap.size) :
    CpSt R M (D ++ [x.d]) K adL cL w (wZ.setCell ⟨M, 0, none⟩ (.slice adZ (Cs ++ [x]).length cZ)) adZ cZ (Cs ++ [x]) := by
  have h' := h.later kz
  have hM := h'.nb.lt
  have hM0 := h.nb.lt
  have hR := h.rm
  have sz := kz.size
  have gz := gr.size
  have hb : ∀ g, (Value.slice adB Cs.length cB).ownBlock = some g → M + 1 ≤ g := fun g e => (h.own.row.lt g e).1
  have kb : ∀ j, j < M + 1 → wZ.heap[j]? = z.heap[j]? := fun j hj => gr.block j (by omega) (fun e => by have := hb j e.symm; omega)
  have O := (h.own.below kz (Nat.le_refl _)).push (x := x) sz row gr (by
    rcases hv with q | q
    · exact .inl q
    · exact .inr ⟨_, q, Nat.le_refl _⟩) (nx.base (by omega)) (fun g e => nx.lt g e)
  have sb : ∀ j, j ≠ M → (wZ.setCell ⟨M, 0, none⟩ (.slice adZ (Cs ++ [x]).length cZ)).heap[j]? = wZ.heap[j]? := fun j hj => Below.heap_setCell _ _ _ _ hj
  have ss : (wZ.setCell ⟨M, 0, none⟩ (.slice adZ (Cs ++ [x]).length cZ)).heap.size = wZ.heap.size := by simp
  refine ⟨(h'.rb.keep (kb R (by omega))).keep (sb R (by omega)), (h'.nb.keep (kb M (by omega))).put0 _, ?_, ?_, ?_, h.khi, h.rm, ?_⟩
  · rw [ss]
    exact O.keep (fun g hg _ => sb g (by omega))
  · unfold dB
    rw [List.map_append]
    have := h.d
    unfold dB at this
    rw [this]
    simp
  · exact (h'.kown.keep (fun g e => kb g (by have := h.khi g e; omega))).keep (fun g e => sb g (by have := h.khi g e; omega))
  · exact ((h'.bel.grown gr (by omega) (fun g e => by have := hb g e; omega))).setCell (by show R ≤ M; omega) _

end Go.Proofs.Ytdfjfodfnildiaa
namespace Go.Proofs.Ytdfjfodfnildiaa
open Go.ChangeShapes Go.WideShapes Go.ChangeAt Go.RowKit
open Go.ChangeMaps (open_string shut_string)
set_option linter.unusedVariables false
set_option maxRecDepth 100000

section
variable {N : Nat} {ids : Nat → Int} {nb : Nat → Nat → Option (Nat × Nat)} {rt d : Nat → Nat}
end

end Go.Proofs.Ytdfjfodfnildiaa
namespace Go.Proofs.Ytdfjfodfnildiaa
open Go.ChangeShapes Go.WideShapes Go.ChangeAt Go.RowKit
open Go.ChangeMaps (open_string shut_string)
set_option linter.unusedVariables false
set_option maxRecDepth 100000

section
variable {N : Nat} {ids : Nat → Int} {nb : Nat → Nat → Option (Nat × Nat)} {rt d : Nat → Nat}
end

end Go.Proofs.Ytdfjfodfnildiaa
namespace Go.Proofs.Ytdfjfodfnildiaa
open Go.ChangeShapes Go.WideShapes Go.ChangeAt Go.RowKit
open Go.ChangeMaps (open_string shut_string)
set_option linter.unusedVariables false
set_option maxRecDepth 100000

section
variable {N : Nat} {ids : Nat → Int} {nb : Nat → Nat → Option (Nat × Nat)} {rt d : Nat → Nat}
end

end Go.Proofs.Ytdfjfodfnildiaa
namespace Go.Proofs.Ytdfjfodfnildiaa
open Go.ChangeShapes Go.WideShapes Go.ChangeAt Go.RowKit
open Go.ChangeMaps (open_string shut_string)
set_option linter.unusedVariables false
set_option maxRecDepth 100000

theorem other_link {K : List Lk} {a p b q : Int} (h : otherL K a p = some (b, q)) : ∃ l, l ∈ K ∧ ((l.a = a ∧ l.p = p ∧ l.b = b ∧ l.q = q) ∨ (l.b = a ∧ l.q = p ∧ l.a = b ∧ l.p = q)) := by
  induction K with
  | nil => cases h
  | cons l K ih =>
    unfold otherL at h
    by_cases h1 : l.a = a ∧ l.p = p
    · rw [if_pos h1] at h
      cases h
      exact ⟨l, List.mem_cons_self, .inl ⟨h1.1, h1.2, rfl, rfl⟩⟩
    · rw [if_neg h1] at h
      by_cases h2 : l.b = a ∧ l.q = p
      · rw [if_pos h2] at h
        cases h
        exact ⟨l, List.mem_cons_self, .inr ⟨h2.1, h2.2, rfl, rfl⟩⟩
      · rw [if_neg h2] at h
        obtain ⟨l', h3, h4⟩ := ih h
        exact ⟨l', List.mem_cons_of_mem _ h3, h4⟩
theorem NetP.end_ {B : List Bg} {K : List Lk} (h : NetP B K) {a p b q : Int} (e : otherL K a p = some (b, q)) : EndP B a p ∧ EndP B b q ∧ a ≠ b := by
  obtain ⟨l, hl, c | c⟩ := other_link e
  · obtain ⟨h1, h2, h3⟩ := h.link l hl
    rw [c.1, c.2.1] at h2
    rw [c.2.2.1, c.2.2.2] at h3
    rw [c.1, c.2.2.1] at h1
    exact ⟨h2, h3, h1⟩
  · obtain ⟨h1, h2, h3⟩ := h.link l hl
    rw [c.1, c.2.1] at h3
    rw [c.2.2.1, c.2.2.2] at h2
    rw [c.1, c.2.2.1] at h1
    exact ⟨h3, h2, h1.symm⟩
end Go.Proofs.Ytdfjfodfnildiaa
namespace Go.Proofs.Ytdfjfodfnildiaa
open Go.ChangeShapes Go.WideShapes Go.ChangeAt Go.RowKit
open Go.ChangeMaps (open_string shut_string)
set_option linter.unusedVariables false
set_option maxRecDepth 100000

end Go.Proofs.Ytdfjfodfnildiaa
namespace Go.Proofs.Ytdfjfodfnildiaa
open Go.ChangeShapes Go.WideShapes Go.ChangeAt Go.RowKit
open Go.ChangeMaps (open_string shut_string)
set_option linter.unusedVariables false
set_option maxRecDepth 100000

theorem NewOut.small {ids : List Int} {K : List Lk} {ok : Bool} {Cs : List Bd} {KL : List Lk} (h : NewOut ids K ok Cs KL) : Cs.length ≤ 5 ∧ (∀ i, i < Cs.length → (Cs.getD i Bd.nil).L.length ≤ 4) ∧ KL.length ≤ K.length := by
  cases ok with
  | true =>
    obtain ⟨d, rfl⟩ := h.yes rfl
    have hl : Cs.length = ids.length := by
      have := congrArg List.length d
      rw [netN_len] at this
      simpa [dB] using this
    refine ⟨by rw [hl]; exact (h.yn.1 rfl).1, fun i hi => ?_, Nat.le_refl _⟩
    have := congrArg (fun D => D.getD i Bg.nil) d
    simp only [bd_get] at this
    rw [netN_get _ _ (by omega)] at this
    have e : (Cs.getD i Bd.nil).L = (newBg (ids.getD i 0) (ofK KL i)).L := congrArg Bg.L this
    rw [e]
    exact newBg_len _ _
  | false =>
    obtain ⟨rfl, rfl⟩ := h.no rfl
    exact ⟨by simp, fun i hi => absurd hi (by simp), by simp⟩
end Go.Proofs.Ytdfjfodfnildiaa
