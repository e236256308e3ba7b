/- Bytes of Bpdus that are drawn. -/
import Derived.Test.YtlgcjhebbmejaaaRows
import Derived.WalkKit
import Derived.ProofKit
import Derived.OpenShut
import Derived.ShutString
import Derived.ChangeOld
import Derived.Below
import Derived.Deep.QuietTactic
import Derived.BigQuiet
import Derived.WalkSmall
import Derived.Laws.OwnMore
import Derived.WalkSpells
import Derived.WalkLawsBesides
import Derived.Deep.Cut
import Derived.Test.YtlgcjhebbmejaaaBd19
namespace Go.Proofs.Ytlgcjhebbmejaaa
open Go.ChangeShapes Go.WideShapes Go.ChangeAt Go.RowKit
open Go.ChangeMaps (open_string shut_string)
set_option linter.unusedVariables false
set_option maxRecDepth 100000

theorem bCase {base : Nat} {w : World} {ad : Option Addr} {n cap : Nat} {L : List Int} (h : FOwn bEnc 1 5 base w (.slice ad n cap) L) : (ad = none ∧ cap = 0 ∧ L = []) ∨ ∃ g, ad = some ⟨g, 0, none⟩ ∧ L.length ≤ cap := by
  rcases h.2 with ⟨e, z⟩ | ⟨g, c, cur, e, _, _, h1, _, _⟩
  · simp only [Value.slice.injEq] at e
    exact .inl ⟨e.1, e.2.2, List.eq_nil_of_length_eq_zero z⟩
  · simp only [Value.slice.injEq] at e
    obtain ⟨rfl, _, rfl⟩ := e
    exact .inr ⟨g, rfl, h1⟩
def DrewR (w : World) (e : Ending) (w' : World) : Prop := ∃ (ad : Option Addr) (cap : Nat) (L : List Int), e = .returned (.slice ad L.length cap) ∧ View w' ad L.length (fun i => L.getD i 0) ∧ (∀ x, ad = some x → 0 < L.length → x.block < w'.heap.size) ∧ L.length ≤ cap ∧ L.length ≤ 36 ∧ (∀ x ∈ L, 0 ≤ x ∧ x ≤ 255) ∧ Below w.heap.size w w'
theorem bLt {base : Nat} {w : World} {ad : Option Addr} {n cap : Nat} {L : List Int} (h : FOwn bEnc 1 5 base w (.slice ad n cap) L) : ∀ x, ad = some x → 0 < L.length → x.block < w.heap.size := fun x e _ => by subst e; exact (h.lt _ rfl).2
theorem view_take {w : World} {ad : Option Addr} {L : List Int} (hv : View w ad L.length (fun i => L.getD i 0)) (n : Nat) (h : n ≤ L.length) : View w ad (L.take n).length (fun i => (L.take n).getD i 0) := by
  have e : (L.take n).length = n := by simp; omega
  rw [e]
  intro hp
  obtain ⟨b, off, e, hc⟩ := hv (by omega)
  refine ⟨b, off, e, fun i hi => ?_⟩
  rw [hc i (by omega)]
  simp [List.getD, hi]
set_option linter.unusedSimpArgs false in
set_option maxHeartbeats 4000000 in
theorem drawOf (ad : Option Addr) (len cap : Nat) (f : Nat → Int) (w : World) (hc : Code0 w ad len f) :
    Calls Try.prog 12 #[.slice ad len cap] w fun e w' => DrewR w e w' := by
  go_enter Try.func12, Try.ntmps12
  go_wp2_with fail
  go_at_call 34
  refine (drawNew ad len cap f w hc.view hc.lt hc.small hc.bytes).mono ?_
  rintro e y1 ⟨rfl, s1, k1, z1⟩
  obtain ⟨cb, hcb⟩ : ∃ c, c = w.heap.size := ⟨_, rfl⟩
  rw [← hcb] at s1 ⊢
  replace hcb : cb ≤ w.heap.size ∧ w.heap.size ≤ cb := by omega
  replace z1 : cb < y1.heap.size := by omega
  go_wp2_with fail
  go_at_call 33
  refine (drawBp y1 s1 (by omega)).mono ?_
  rintro e y2 ⟨x, rfl, s2, g2⟩
  have B2 : Below w.heap.size w y2 := below_cb k1 g2 (by omega) (by omega)
  have sz2 := g2.size
  clear s1 g2 k1
  go_wp2_with fail
  go_at_call 20
  refine (byS x y2).mono ?_
  rintro e y3 ⟨aD, cD, rfl, OD, k3⟩
  have s3 := s2.later k3
  have B3 := B2.trans (k3.mono B2.size)
  have hl := byB_len x
  have hbd := byB_bd x
  have sz3 := k3.size
  obtain ⟨D, hD⟩ : ∃ D, byB x = D := ⟨_, rfl⟩
  rw [hD] at OD hl hbd ⊢
  clear hD s2 k3 B2
  have ho : ∀ g, (Value.slice aD D.length cD).ownBlock = some g → y2.heap.size ≤ g := fun g e => (OD.lt g e).1
  have OD := OD.base (base' := w.heap.size) (by omega)
  go_wp2_with fail
  go_at_call 38
  refine (drawBelow s3 5 (by decide) (by decide)).mono ?_
  rintro e y4 ⟨t, rfl, t0, t1, s4, g4⟩
  have lc := s3.cur.lt
  have B4 : Below w.heap.size w y4 := below_cb B3 g4 (by omega) B3.size
  have OD := OD.keep (w' := y4) (fun g e => g4.block g (OD.lt g e).2 (by have := ho g e; simp; omega))
  clear s3 g4 B3
  rcases bCase OD with ⟨rfl, rfl, rfl⟩ | ⟨g, rfl, hc1⟩
  · have hnil : ∀ W, Below w.heap.size w W → DrewR w (.returned (.slice none 0 0)) W := fun W k => ⟨none, 0, [], rfl, fun h => absurd h (by simp), fun x e => (by cases e), Nat.le_refl _, by simp, fun x h => (by cases h), k⟩
    rw [List.length_nil]
    by_cases e0 : t = 0
    · subst e0
      go_wp2_with fail
      go_at_call 38
      refine (drawBelow s4 1 (by decide) (by decide)).mono ?_
      rintro e y5 ⟨n, rfl, n0, n1, s5, g5⟩
      obtain rfl : n = 0 := by omega
      have B5 : Below w.heap.size w y5 := below_cb B4 g5 (by omega) B4.size
      go_wp2
      go_ret
      exact hnil _ B5
    have d0 : (t == 0) = false := by simpa using e0
    by_cases e1 : t = 1
    · subst e1
      go_wp2
      go_ret
      exact hnil _ B4
    have d1 : (t == 1) = false := by simpa using e1
    go_wp2
    go_ret
    exact hnil _ B4
  · have ho' : y2.heap.size ≤ g := ho g rfl
    have hne : ∀ k, (Value.slice (some ⟨g, 0, none⟩) D.length cD).ownBlock = some k → k ≠ cb := fun k e => by
      have e : g = k := Option.some.inj e
      omega
    clear ho
    have hres : ∀ W L, FOwn bEnc 1 5 w.heap.size W (.slice (some ⟨g, 0, none⟩) D.length cD) L → L.length = D.length → (∀ x ∈ L, 0 ≤ x ∧ x ≤ 255) → Below w.heap.size w W → DrewR w (.returned (.slice (some ⟨g, 0, none⟩) D.length cD)) W := fun W L O e hb k => ⟨_, cD, L, by rw [e], bV O.view.2, bLt O, by omega, by omega, hb, k⟩
    by_cases e0 : t = 0
    · subst e0
      have hd1 : (D.length : Int) + 1 ≤ 256 := by omega
      go_wp2_with fail
      go_at_call 38
      refine (drawBelow s4 ((D.length : Int) + 1) (by omega) hd1).mono ?_
      rintro e y5 ⟨n, rfl, n0, n1, s5, g5⟩
      obtain ⟨m, rfl⟩ : ∃ m : Nat, n = m := ⟨n.toNat, by omega⟩
      have hm : m ≤ D.length := by omega
      have B5 : Below w.heap.size w y5 := below_cb B4 g5 (by omega) B4.size
      have OD := OD.keep (w' := y5) (fun k e => g5.block k (OD.lt k e).2 (by have := hne k e; simp; omega))
      have hV := view_take (bV OD.view.2) m hm
      have hlt := (OD.lt g rfl).2
      have hml : (D.take m).length = m := by simp; omega
      clear hres
      go_wp2
      go_ret
      refine ⟨some ⟨g, 0, none⟩, cD, D.take m, by rw [hml]; rfl, hV, fun x e _ => by cases e; exact hlt, by omega, by omega, fun x h => hbd x (List.mem_of_mem_take h), B5⟩
    have d0 : (t == 0) = false := by simpa using e0
    by_cases e1 : t = 1
    · subst e1
      by_cases hp : 0 < D.length
      · have dp : decide ((0 : Int) < (D.length : Int)) = true := by simp; omega
        go_wp2_with fail
        go_at_call 38
        refine (drawBelow s4 (D.length : Int) (by omega) (by omega)).mono ?_
        rintro e y5 ⟨n, rfl, n0, n1, s5, g5⟩
        obtain ⟨i, rfl⟩ : ∃ m : Nat, n = m := ⟨n.toNat, by omega⟩
        have hi : i < D.length := by omega
        have B5 : Below w.heap.size w y5 := below_cb B4 g5 (by omega) B4.size
        have OD := OD.keep (w' := y5) (fun k e => g5.block k (OD.lt k e).2 (by have := hne k e; simp; omega))
        clear s4 g5 B4
        obtain ⟨y6, hy6⟩ : ∃ z, z = y5.alloc (Obj.cells #[.int .i64 0, .int .i64 1, .int .i64 2, .int .i64 128, .int .i64 255] 3) := ⟨_, rfl⟩
        have k6 : Below y5.heap.size y5 y6 := by rw [hy6]; exact below_new _
        have hg : ∀ i, i < 5 → ∃ y, y6.cell? ⟨y5.heap.size, i, none⟩ = some (.int .i64 y) ∧ (0 ≤ y ∧ y ≤ 255) := by
          intro i hi
          rcases (by omega : i = 0 ∨ i = 1 ∨ i = 2 ∨ i = 3 ∨ i = 4) with rfl | rfl | rfl | rfl | rfl
          · exact ⟨0, by rw [hy6]; simp [go_sem], by omega⟩
          · exact ⟨1, by rw [hy6]; simp [go_sem], by omega⟩
          · exact ⟨2, by rw [hy6]; simp [go_sem], by omega⟩
          · exact ⟨128, by rw [hy6]; simp [go_sem], by omega⟩
          · exact ⟨255, by rw [hy6]; simp [go_sem], by omega⟩
        have B6 := B5.trans (k6.mono B5.size)
        have lc5 := s5.cur.lt
        have s6 := s5.later k6
        have OD := OD.later k6
        have lg := (OD.lt g rfl).2
        go_wp2_with fail
        go_at_call 39
        rw [← hy6]
        clear hy6 s5 k6 B5
        refine (pickIntP s6 (fun y => 0 ≤ y ∧ y ≤ 255) y5.heap.size 5 5 (by omega) (by decide) (by decide) hg).mono ?_
        rintro e y7 ⟨z, rfl, ⟨z0, z1⟩, s7, g7⟩
        have B7 : Below w.heap.size w y7 := below_cb B6 g7 (by omega) B6.size
        have OD := OD.keep (w' := y7) (fun k e => g7.block k (OD.lt k e).2 (by have := hne k e; simp; omega))
        have hck := OD.cell bEnc_len 0 hi 0 _ rfl
        rw [Nat.mul_one, Nat.add_zero] at hck
        have ff := OD.frozen i
        have O1 := OD.set bEnc_len (by omega) hi z
        have ez : putAll y7 g (i * 1) (bEnc z) = y7.setCell ⟨g, i, none⟩ (.int .u8 z) := by rw [Nat.mul_one]; rfl
        rw [ez] at O1
        clear ez OD hg
        have B8 : Below w.heap.size w (y7.setCell ⟨g, i, none⟩ (.int .u8 z)) := B7.setCell (by show w.heap.size ≤ g; omega) _
        have hfin := hres _ (D.set i z) O1 (by simp) (fun x hx => by
          rcases List.mem_or_eq_of_mem_set hx with q | q
          · exact hbd x q
          · subst q; exact ⟨z0, z1⟩) B8
        replace hfin : Hid _ := hfin
        clear hres O1 B8 B7 s7
        generalize D.getD i 0 = u at hck
        go_wp2
        go_ret
        exact hfin.out
      · have dp : decide ((0 : Int) < (D.length : Int)) = false := decide_eq_false (by omega)
        have hfin := hres _ D OD rfl hbd B4
        replace hfin : Hid _ := hfin
        clear hres
        go_wp2
        go_ret
        exact hfin.out
    have d1 : (t == 1) = false := by simpa using e1
    have hfin := hres _ D OD rfl hbd B4
    replace hfin : Hid _ := hfin
    clear hres
    go_wp2
    go_ret
    exact hfin.out

end Go.Proofs.Ytlgcjhebbmejaaa
