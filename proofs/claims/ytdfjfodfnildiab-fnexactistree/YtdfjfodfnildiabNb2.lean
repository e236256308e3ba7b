/- Lists of bridges, copied. -/
import Derived.Test.YtdfjfodfnildiabRows
import Derived.WalkKit
import Derived.ProofKit
import Derived.OpenShut
import Derived.ShutString
import Derived.ChangeOld
import Derived.Below
import Derived.Deep.QuietTactic
import Derived.BigQuiet
import Derived.WalkSmall
import Derived.Laws.OwnMore
import Derived.WalkSpells
import Derived.WalkLawsBesides
import Derived.Test.YtdfjfodfnildiabNb0
import Derived.Test.YtdfjfodfnildiabBr2
namespace Go.Proofs.Ytdfjfodfnildiab
open Go.ChangeShapes Go.WideShapes Go.ChangeAt Go.RowKit
open Go.ChangeMaps (open_string shut_string)
set_option linter.unusedVariables false
set_option maxRecDepth 100000

/-- The same, its list at the block n. -/
def Bd.to (m : Bd) (n : Nat) : Bd := ⟨m.id, some ⟨n, 0, none⟩, m.L.length, m.L⟩
/-- The list of the copies. -/
def cpyN (Bs : List Bd) (Ns : Nat → Nat) : List Bd := (List.range Bs.length).map (fun j => (Bs.getD j Bd.nil).to (Ns j))
theorem cpyN_len (Bs : List Bd) (Ns : Nat → Nat) : (cpyN Bs Ns).length = Bs.length := by simp [cpyN]
theorem cpyN_get (Bs : List Bd) (Ns : Nat → Nat) {j : Nat} (h : j < Bs.length) : (cpyN Bs Ns).getD j Bd.nil = (Bs.getD j Bd.nil).to (Ns j) := by simp [cpyN, List.getD, h]
theorem cpyN_d (Bs : List Bd) (Ns : Nat → Nat) : (cpyN Bs Ns).map Bd.d = Bs.map Bd.d := by
  refine List.ext_getElem (by simp [cpyN]) fun i h1 h2 => ?_
  have hi : i < Bs.length := by simpa using h2
  simp [cpyN, Bd.d, Bd.to, List.getD, hi]
theorem FFill.congr {X : Type} {enc : X → List Value} {n : Nat} (hn : ∀ x, (enc x).length = n) (h0 : 0 < n) (d : X) {T : TypeId} {base : Nat} {w : World} {g : Nat} {L M : List X} {k : Nat} (h : FFill enc n T base w g L k) (hk : k ≤ L.length) (hl : M.length = L.length) (e : ∀ i, i < k → M.getD i d = L.getD i d) : FFill enc n T base w g M k := by
  obtain ⟨xs, h1, h2⟩ := h
  refine ⟨xs, by rw [hl]; exact h1, fun j hj => ?_⟩
  rw [h2 j hj]
  have hq : j / n < k := Nat.div_lt_of_lt_mul (by rw [Nat.mul_comm]; exact hj)
  have hr : j % n < n := Nat.mod_lt _ h0
  have ej : j = j / n * n + j % n := by rw [Nat.mul_comm]; exact (Nat.div_add_mod j n).symm
  rw [ej, fcells_at hn d L _ _ (by omega) hr, fcells_at hn d M _ _ (by omega) hr, e _ hq]
/-- What a loop that fills the block B with bridges has done behind k rounds; Ns: where their lists lie. -/
structure NF (B : Nat) (Bs : List Bd) (Ns : Nat → Nat) (k : Nat) (w wr : World) : Prop where
  bel : Below B w wr
  fill : FFill bdEnc 2 54 B wr B (cpyN Bs Ns) k
  nest : ∀ j, j < k → FOwn ptEnc 11 68 B wr (.slice (some ⟨Ns j, 0, none⟩) (Bs.getD j Bd.nil).L.length (Bs.getD j Bd.nil).L.length) (Bs.getD j Bd.nil).L
  nb : ∀ j, j < k → B < Ns j ∧ Ns j < wr.heap.size
  inc : ∀ i j, i < j → j < k → Ns i < Ns j
theorem NF.later {B : Nat} {Bs : List Bd} {Ns : Nat → Nat} {k : Nat} {w wr w2 : World} (h : NF B Bs Ns k w wr) (b : Below wr.heap.size wr w2) : NF B Bs Ns k w w2 := by
  have hl := h.fill.lt
  have hs := b.size
  exact ⟨h.bel.trans (b.mono (by omega)), h.fill.keep (b.block _ hl.2), fun j hj => (h.nest j hj).later b, fun j hj => ⟨(h.nb j hj).1, by have := (h.nb j hj).2; omega⟩, h.inc⟩
theorem NF.step {B : Nat} {Bs : List Bd} {Ns : Nat → Nat} {k : Nat} {w wr : World} {N : Nat} (h : NF B Bs Ns k w wr) (hk : k < Bs.length) (hN : B < N ∧ N < wr.heap.size) (hi : ∀ j, j < k → Ns j < N)
    (hv : FOwn ptEnc 11 68 B wr (.slice (some ⟨N, 0, none⟩) (Bs.getD k Bd.nil).L.length (Bs.getD k Bd.nil).L.length) (Bs.getD k Bd.nil).L) :
    NF B Bs (fun j => if j = k then N else Ns j) (k + 1) w ((wr.setCell ⟨B, k * 2, none⟩ (.int .i64 (Bs.getD k Bd.nil).id)).setCell ⟨B, k * 2 + 1, none⟩ (.slice (some ⟨N, 0, none⟩) (Bs.getD k Bd.nil).L.length (Bs.getD k Bd.nil).L.length)) := by
  have hb : ∀ g, g ≠ B → ((wr.setCell ⟨B, k * 2, none⟩ (.int .i64 (Bs.getD k Bd.nil).id)).setCell ⟨B, k * 2 + 1, none⟩ (.slice (some ⟨N, 0, none⟩) (Bs.getD k Bd.nil).L.length (Bs.getD k Bd.nil).L.length)).heap[g]? = wr.heap[g]? := fun g hg => by
    rw [Below.heap_setCell _ _ _ _ hg, Below.heap_setCell _ _ _ _ hg]
  have F : FFill bdEnc 2 54 B wr B (cpyN Bs (fun j => if j = k then N else Ns j)) k := h.fill.congr bdEnc_len (by omega) Bd.nil (by rw [cpyN_len]; omega) (by rw [cpyN_len, cpyN_len]) (fun i hi => by
    rw [cpyN_get _ _ (by omega), cpyN_get _ _ (by omega)]
    have : i ≠ k := by omega
    simp only [this, if_false])
  have F1 := F.step bdEnc_len Bd.nil (by rw [cpyN_len]; exact hk)
  rw [cpyN_get _ _ hk, bdPut] at F1
  simp only [if_true, Bd.to] at F1
  refine ⟨(h.bel.setCell (Nat.le_refl _) _).setCell (Nat.le_refl _) _, F1, fun j hj => ?_, fun j hj => ?_, fun i j hij hj => ?_⟩
  · by_cases e : j = k
    · subst e
      simp only [if_true]
      exact hv.keep (fun g q => hb _ (by have : N = g := by simpa [Value.ownBlock] using q
                                         omega))
    · simp only [e, if_false]
      exact (h.nest j (by omega)).keep (fun g q => hb _ (by have : Ns j = g := by simpa [Value.ownBlock] using q
                                                            have := (h.nb j (by omega)).1
                                                            omega))
  · by_cases e : j = k
    · simp only [e, if_true]; simpa using hN
    · simp only [e, if_false]; simpa using h.nb j (by omega)
  · by_cases e : j = k
    · have : i ≠ k := by omega
      simp only [e, this, if_true, if_false]
      exact hi i (by omega)
    · have : i ≠ k := by omega
      simp only [e, this, if_false]
      exact h.inc i j hij (by omega)
theorem NF.own {B : Nat} {Bs : List Bd} {Ns : Nat → Nat} {w wr : World} (h : NF B Bs Ns Bs.length w wr) : NOwn B wr.heap.size wr (.slice (some ⟨B, 0, none⟩) Bs.length Bs.length) (cpyN Bs Ns) := by
  have hl := cpyN_len Bs Ns
  have F := h.fill
  rw [← hl] at F
  have O := F.done bdEnc_len
  rw [hl] at O
  have hv : ∀ i, i < Bs.length → ((cpyN Bs Ns).getD i Bd.nil).v = .slice (some ⟨Ns i, 0, none⟩) (Bs.getD i Bd.nil).L.length (Bs.getD i Bd.nil).L.length := fun i hi => by rw [cpyN_get _ _ hi]; rfl
  have hb : ∀ i, i < Bs.length → ∀ g, ((cpyN Bs Ns).getD i Bd.nil).v.ownBlock = some g → Ns i = g := fun i hi g e => by
    rw [hv i hi] at e
    simpa [Value.ownBlock] using e
  refine ⟨O, fun i hi => ?_, fun g e => ?_, fun i hi g e => ?_, fun i hi g g' e e' => ?_, fun i j hij hj g g' e e' => ?_⟩
  · rw [hl] at hi
    rw [hv i hi, cpyN_get _ _ hi]
    exact h.nest i hi
  · obtain rfl : B = g := by simpa [Value.ownBlock] using e
    exact h.fill.lt.2
  · rw [hl] at hi
    have := hb i hi g e
    have := (h.nb i hi).2
    omega
  · rw [hl] at hi
    have := hb i hi g' e'
    have := (h.nb i hi).1
    obtain rfl : B = g := by simpa [Value.ownBlock] using e
    omega
  · rw [hl] at hj
    have := hb i (by omega) g e
    have := hb j hj g' e'
    have := h.inc i j hij hj
    omega
theorem nf_made {w w1 : World} {Bs : List Bd} {Ns : Nat → Nat} {xs : List Value} (hown : w1.ownsRow w.heap.size 54 2 (.slice (some ⟨w.heap.size, 0, none⟩) Bs.length Bs.length) Bs.length xs) (hgrow : w.grownBy w1 none) : NF w.heap.size Bs Ns 0 w w1 := by
  refine ⟨(Below.refl _ _).grown hgrow (Nat.le_refl _) (by simp), FFill.start (by rw [cpyN_len]; exact hown), fun j hj => by omega, fun j hj => by omega, fun i j _ hj => by omega⟩
theorem brInfo2 : (Try.prog.info? 54).map (fun i => (i.zero, i.size, i.bytes)) = some (some (.agg #[.int .i64 0, .slice none 0 0]), 2, 32) := by kernel_rfl
set_option maxHeartbeats 1000000 in
theorem bdTo (ad : Option Addr) (cap : Nat) (Bs : List Bd) (w : World) (hv : NV w ad Bs) (hl : Bs.length ≤ 1048576) (hls : ∀ i, i < Bs.length → (Bs.getD i Bd.nil).L.length ≤ 1048576) :
    Calls Try.prog 23 #[.slice ad Bs.length cap] w fun e w' => ∃ Ns, e = .returned (.slice (some ⟨w.heap.size, 0, none⟩) Bs.length Bs.length) ∧ NF w.heap.size Bs Ns Bs.length w w' := by
  obtain ⟨i0, hi, hz0, hz1, hz2⟩ := info_parts brInfo2
  go_enter Try.func23, Try.ntmps23
  go_wp2_with (first | (refine wpList_make_full _ rfl _ _ 28 rfl w.heap.size 54 i0 (.agg #[.int .i64 0, .slice none 0 0]) 2 Try.underlying28 hi hz0 hz1 .i64 .i64 _ _ Bs.length rfl rfl rfl rfl ?c1 ?c2 ?c3 ?_))
  case c1 => rw [hz2]; omega
  case c2 => unfold maxLen; omega
  case c3 => exact Nat.le_refl _
  intro w1 hown hgrow
  have F0 : NF w.heap.size Bs (fun _ => 0) 0 w w1 := nf_made hown hgrow
  clear hown hgrow
  go_wp2
  go_loopw [4] (fun i wr => ∃ (k : Nat) (Ns : Nat → Nat), k ≤ Bs.length ∧ i = .int .i64 k ∧ NF w.heap.size Bs Ns k w wr) (fun i _ => Bs.length - (intOf i).toNat)
  case atStart => exact ⟨0, _, Nat.zero_le _, rfl, F0⟩
  case round =>
    obtain ⟨k, Ns, hk, rfl, F⟩ := hrel
    clear F0
    by_cases hlt : k < Bs.length
    · obtain ⟨b, off, rfl⟩ := hv.ad_ (by omega)
      have hck := (hv.below F.bel (Nat.le_refl _)).at_ hlt
      have hnk := (hv.below F.bel (Nat.le_refl _)).nest k hlt
      have hlk := hls k hlt
      have hs := F.bel.size
      have hfl := F.fill.lt
      have st := fun (w2 : World) (N : Nat) (G : NF w.heap.size Bs Ns k w w2) (h1 : wr.heap.size ≤ N) (h2 : N < w2.heap.size) => G.step (N := N) hlt ⟨by omega, h2⟩ (fun j hj => by have := (F.nb j hj).2; omega)
      obtain ⟨m, hh⟩ : ∃ m, Bs.getD k Bd.nil = m := ⟨_, rfl⟩
      rw [hh] at hck hnk hlk
      simp only [hh] at st
      obtain ⟨c1, c2⟩ := hck
      clear hv hls hh
      go_wp2_with fail
      go_at_call 44
      refine (brTo m.id m.ad m.cap m.L wr hnk hlk).mono ?_
      rintro e w2 ⟨N, rfl, n1, n2, o2, k2⟩
      have G := F.later k2
      have G1 := st w2 N G n1 n2 (o2.base hs)
      obtain ⟨u0, hu0⟩ := G.fill.cell (k * 2) (by rw [cpyN_len]; omega)
      obtain ⟨u1, hu1⟩ := G.fill.cell (k * 2 + 1) (by rw [cpyN_len]; omega)
      have f0 := G.fill.frozen (k * 2)
      have f1 := G.fill.frozen (k * 2 + 1)
      clear F G st o2 hnk hfl
      go_wp2
      go_roundw
      case rel => exact ⟨k + 1, _, by omega, by go_num, G1⟩
      case measure => simp [intOf]; omega
    · obtain rfl : k = Bs.length := by omega
      go_wp2
      go_ret
      exact ⟨Ns, rfl, F⟩

end Go.Proofs.Ytdfjfodfnildiab
