/- Nets, copied. -/
import Derived.Test.YtdfjfodfnildiabRows
import Derived.WalkKit
import Derived.ProofKit
import Derived.OpenShut
import Derived.ShutString
import Derived.ChangeOld
import Derived.Below
import Derived.Deep.QuietTactic
import Derived.BigQuiet
import Derived.WalkSmall
import Derived.Laws.OwnMore
import Derived.WalkSpells
import Derived.WalkLawsBesides
import Derived.Test.YtdfjfodfnildiabNe0
import Derived.Test.YtdfjfodfnildiabNb2
import Derived.Test.YtdfjfodfnildiabLk2
namespace Go.Proofs.Ytdfjfodfnildiab
open Go.ChangeShapes Go.WideShapes Go.ChangeAt Go.RowKit
open Go.ChangeMaps (open_string shut_string)
set_option linter.unusedVariables false
set_option maxRecDepth 100000

/-- What toNet makes. -/
structure NetMade (w w' : World) (gB gK : Nat) (Bs : List Bd) (K : List Lk) (Cs : List Bd) : Prop where
  d : Cs.map Bd.d = Bs.map Bd.d
  len : Cs.length = Bs.length
  own : NOwn w.heap.size gK w' (.slice (some ⟨gB, 0, none⟩) Bs.length Bs.length) Cs
  own2 : FOwn lkEnc 4 70 w.heap.size w' (.slice (some ⟨gK, 0, none⟩) K.length K.length) K
  lt : w.heap.size ≤ gK ∧ gK < w'.heap.size
  bel : Below w.heap.size w w'
set_option maxHeartbeats 2000000 in
theorem neTo (adB : Option Addr) (capB : Nat) (Bs : List Bd) (adK : Option Addr) (capK : Nat) (K : List Lk) (w : World) (vb : NV w adB Bs) (vk : FView lkEnc w adK K) (hl : Bs.length ≤ 1048576) (hls : ∀ i, i < Bs.length → (Bs.getD i Bd.nil).L.length ≤ 1048576) (hk : K.length ≤ 1048576) :
    Calls Try.prog 8 #[.agg #[.slice adB Bs.length capB, .slice adK K.length capK]] w fun e w' => ∃ gB gK Cs, e = .returned (.agg #[.slice (some ⟨gB, 0, none⟩) Bs.length Bs.length, .slice (some ⟨gK, 0, none⟩) K.length K.length]) ∧ NetMade w w' gB gK Bs K Cs := by
  have hkB := vk.lt lkEnc_len (by omega)
  obtain ⟨y, hy⟩ : ∃ y, y = ((w.alloc (Obj.cells #[.slice adB Bs.length capB, .slice adK K.length capK] 25)).alloc (Obj.cells #[.slice none 0 0, .slice none 0 0] 31)).alloc (Obj.cells #[.slice none 0 0, .slice none 0 0] 31) := ⟨_, rfl⟩
  have B0 : Below w.heap.size w y := by rw [hy]; exact (((Below.refl _ _).alloc (Nat.le_refl _) _).alloc (by simp) _).alloc (by simp; omega) _
  have A0 : NeAt y w.heap.size (.slice adB Bs.length capB) (.slice adK K.length capK) := by rw [hy]; constructor <;> simp [go_sem]
  have A1 : NeAt y (w.heap.size + 1) (.slice none 0 0) (.slice none 0 0) := by rw [hy]; constructor <;> simp [go_sem]
  have A2 : NeAt y (w.heap.size + 1 + 1) (.slice none 0 0) (.slice none 0 0) := by rw [hy]; constructor <;> simp [go_sem]
  have F1 : ∀ i, y.frozen? ⟨w.heap.size + 1, i, none⟩ = false := fun i => by rw [hy]; simp [go_sem]
  have F2 : ∀ i, y.frozen? ⟨w.heap.size + 1 + 1, i, none⟩ = false := fun i => by rw [hy]; simp [go_sem]
  have S0 := A2.lt
  go_enter Try.func8, Try.ntmps8
  go_wp2_with fail
  go_at_call 23
  rw [← hy]
  clear hy
  refine (bdTo adB capB Bs y (vb.below B0 (Nat.le_refl _)) hl hls).mono ?_
  rintro e w1 ⟨Ns, rfl, F⟩
  generalize hg : y.heap.size = g at F S0 ⊢
  have hgb : Hid (w.heap.size ≤ g) := by have := B0.size; unfold Hid; omega
  have hg1 := F.fill.lt
  have O1 := F.own
  have dl : Hid ((cpyN Bs Ns).length = Bs.length) := cpyN_len Bs Ns
  have dd : Hid ((cpyN Bs Ns).map Bd.d = Bs.map Bd.d) := cpyN_d Bs Ns
  have k1 : Below g y w1 := F.bel
  generalize cpyN Bs Ns = Cs at O1 dl dd
  clear F
  have A0 := A0.below k1 (by omega)
  have A1 := A1.below k1 (by omega)
  have A2 := A2.below k1 (by omega)
  have F1 : ∀ i, w1.frozen? ⟨w.heap.size + 1, i, none⟩ = false := fun i => (World.frozen?_of_block (a := ⟨w.heap.size + 1, i, none⟩) (k1.block (w.heap.size + 1) (by omega))).trans (F1 i)
  have F2 : ∀ i, w1.frozen? ⟨w.heap.size + 1 + 1, i, none⟩ = false := fun i => (World.frozen?_of_block (a := ⟨w.heap.size + 1 + 1, i, none⟩) (k1.block (w.heap.size + 1 + 1) (by omega))).trans (F2 i)
  have B1 := B0.trans (k1.mono (by have := hgb.out; omega))
  clear hg k1 B0 vb
  obtain ⟨z, hz⟩ : ∃ z, z = w1.setCell ⟨w.heap.size + 1 + 1, 0, none⟩ (.slice (some ⟨g, 0, none⟩) Bs.length Bs.length) := ⟨_, rfl⟩
  have zs : z.heap.size = w1.heap.size := by rw [hz]; simp
  have zb : ∀ j, j ≠ w.heap.size + 1 + 1 → z.heap[j]? = w1.heap[j]? := fun j hj => by rw [hz]; exact Below.heap_setCell _ _ _ _ hj
  have B2 : Below w.heap.size w z := by rw [hz]; exact B1.setCell (by show _ ≤ w.heap.size + 1 + 1; omega) _
  have E0 : NeAt z w.heap.size (.slice adB Bs.length capB) (.slice adK K.length capK) := A0.keep (zb _ (by omega))
  have E1 : NeAt z (w.heap.size + 1) (.slice none 0 0) (.slice none 0 0) := A1.keep (zb _ (by omega))
  have E2 : NeAt z (w.heap.size + 1 + 1) (.slice (some ⟨g, 0, none⟩) Bs.length Bs.length) (.slice none 0 0) := by
    rw [hz]
    exact ⟨pset_same A2.c0, (pset_else (by decide)).trans A2.c1⟩
  have G1 : ∀ i, z.frozen? ⟨w.heap.size + 1, i, none⟩ = false := fun i => (World.frozen?_of_block (a := ⟨w.heap.size + 1, i, none⟩) (zb (w.heap.size + 1) (by omega))).trans (F1 i)
  have G2 : ∀ i, z.frozen? ⟨w.heap.size + 1 + 1, i, none⟩ = false := fun i => by rw [hz, World.frozen?_setCell]; exact F2 i
  have O2 : NOwn g w1.heap.size z (.slice (some ⟨g, 0, none⟩) Bs.length Bs.length) Cs := O1.keep fun j hj _ => zb j (by omega)
  clear O1 B1 zb
  have f20 := F2 0
  obtain ⟨a20, a21⟩ := A2
  obtain ⟨a00, a01⟩ := A0
  go_wp2_with fail
  go_at_call 24
  rw [← hz]
  clear hz a20 a21 a00 a01 f20 F1 F2 A1
  refine (lkToS adK capK K z (vk.below B2 hkB) hk).mono ?_
  rintro e w2 ⟨rfl, OK, k2⟩
  rw [zs] at OK k2 ⊢
  have hgk : w1.heap.size < w2.heap.size := (OK.lt _ rfl).2
  have E1 := E1.below k2 (by omega)
  have E2 := E2.below k2 (by omega)
  have G1 : ∀ i, w2.frozen? ⟨w.heap.size + 1, i, none⟩ = false := fun i => (World.frozen?_of_block (a := ⟨w.heap.size + 1, i, none⟩) (k2.block (w.heap.size + 1) (by omega))).trans (G1 i)
  have G2 : ∀ i, w2.frozen? ⟨w.heap.size + 1 + 1, i, none⟩ = false := fun i => (World.frozen?_of_block (a := ⟨w.heap.size + 1 + 1, i, none⟩) (k2.block (w.heap.size + 1 + 1) (by omega))).trans (G2 i)
  have B3 := B2.trans (k2.mono (by omega))
  have O3 := O2.below k2 (Nat.le_refl _)
  generalize hgk2 : w1.heap.size = gK at OK O3 hgk ⊢
  have hgg : Hid (g < gK) := by unfold Hid; omega
  clear hgk2 k2 B2 O2 E0 hg1 zs
  obtain ⟨a0, a1⟩ := E1
  obtain ⟨c0, c1⟩ := E2
  have f10 := G1 0
  have f11 := G1 1
  have f21 := G2 1
  obtain ⟨u, hu⟩ : ∃ u, u = ((w2.setCell ⟨w.heap.size + 1 + 1, 1, none⟩ (.slice (some ⟨gK, 0, none⟩) K.length K.length)).setCell ⟨w.heap.size + 1, 0, none⟩ (.slice (some ⟨g, 0, none⟩) Bs.length Bs.length)).setCell ⟨w.heap.size + 1, 1, none⟩ (.slice (some ⟨gK, 0, none⟩) K.length K.length) := ⟨_, rfl⟩
  have ub : ∀ j, w.heap.size + 1 + 1 < j → u.heap[j]? = w2.heap[j]? := fun j hj => by
    rw [hu, Below.heap_setCell _ _ _ _ (by show j ≠ w.heap.size + 1; omega), Below.heap_setCell _ _ _ _ (by show j ≠ w.heap.size + 1; omega), Below.heap_setCell _ _ _ _ (by show j ≠ w.heap.size + 1 + 1; omega)]
  have M : NetMade w u g gK Bs K Cs := by
    have h1 := hgg.out
    have h2 := hgb.out
    refine ⟨dd.out, dl.out, ?_, ?_, ⟨by omega, by rw [hu]; simpa using hgk⟩, ?_⟩
    · exact (O3.keep fun j hj _ => ub j (by omega)).wide h2 (Nat.le_refl _)
    · refine (OK.base (by omega)).keep fun j e => ub j ?_
      have : gK = j := by simpa [Value.ownBlock] using e
      omega
    · rw [hu]
      exact ((B3.setCell (by show _ ≤ w.heap.size + 1 + 1; omega) _).setCell (by show _ ≤ w.heap.size + 1; omega) _).setCell (by show _ ≤ w.heap.size + 1; omega) _
  clear ub O3 OK B3 G1 G2 dd dl
  go_wp2
  rw [← hu]
  refine bodyPost_ret (v := .agg #[.slice (some ⟨g, 0, none⟩) Bs.length Bs.length, .slice (some ⟨gK, 0, none⟩) K.length K.length]) (by rw [hu]; simp [results, Try.results8, go_sem, *]) rfl ⟨g, gK, Cs, rfl, M⟩

end Go.Proofs.Ytdfjfodfnildiab
