/- Lists of links, copied. Nets, copied. Nets that a call made. spec.InOk, walked. -/
import Derived.Test.YtemibefbkjpnaaaGreatRows
import Derived.WalkKit
import Derived.ProofKit
import Derived.OpenShut
import Derived.ShutString
import Derived.ChangeOld
import Derived.Below
import Derived.Deep.QuietTactic
import Derived.BigQuiet
import Derived.WalkSmall
import Derived.Laws.OwnMore
import Derived.WalkSpells
import Derived.WalkLawsBesides
import Derived.Test.YtemibefbkjpnaaaGreatM4
import Derived.Test.YtemibefbkjpnaaaGreatM9
import Derived.Deep.Cut
import Derived.Test.YtemibefbkjpnaaaGreatKNo2
import Derived.Test.YtemibefbkjpnaaaGreatKIn1
import Derived.Test.YtemibefbkjpnaaaGreatKPort3
namespace Go.Proofs.YtemibefbkjpnaaaGreat
open Go.ChangeShapes Go.WideShapes Go.ChangeAt Go.RowKit
open Go.ChangeMaps (open_string shut_string)
set_option linter.unusedVariables false
set_option maxRecDepth 100000

theorem lkInfo : (Tryz.prog.info? 34).map (fun i => (i.zero, i.size, i.bytes)) = some (some (.agg #[.int .i64 0, .int .i64 0, .int .i64 0, .int .i64 0]), 4, 32) := by kernel_rfl
set_option maxHeartbeats 2000000 in
theorem lkToS (ad : Option Addr) (cap : Nat) (L : List Lk) (w : World) (hv : FView lkEnc w ad L) (hl : L.length ≤ 1048576) :
    Calls Tryz.prog 28 #[.slice ad L.length cap] w fun e w' => e = .returned (.slice (some ⟨w.heap.size, 0, none⟩) L.length L.length) ∧ FOwn lkEnc 4 34 w.heap.size w' (.slice (some ⟨w.heap.size, 0, none⟩) L.length L.length) L ∧ Below w.heap.size w w' := by
  obtain ⟨i0, hi, hz0, hz1, hz2⟩ := info_parts lkInfo
  have hB := hv.lt lkEnc_len (by omega)
  go_enter Tryz.func28, Tryz.ntmps28
  go_wp2_with (first | (refine wpList_make_full _ rfl _ _ 25 rfl w.heap.size 34 i0 (.agg #[.int .i64 0, .int .i64 0, .int .i64 0, .int .i64 0]) 4 Tryz.underlying25 hi hz0 hz1 .i64 .i64 _ _ L.length rfl rfl rfl rfl ?c1 ?c2 ?c3 ?_))
  case c1 => rw [hz2]; omega
  case c2 => unfold maxLen; omega
  case c3 => exact Nat.le_refl _
  intro w1 hown hgrow
  have F0 : FFill lkEnc 4 34 w.heap.size w1 w.heap.size L 0 := FFill.start hown
  have B0 : Below w.heap.size w w1 := (Below.refl _ _).grown hgrow (Nat.le_refl _) (by simp)
  clear hown hgrow
  go_wp2
  go_loopw [4] (fun i wr => ∃ k : Nat, k ≤ L.length ∧ i = .int .i64 k ∧ FFill lkEnc 4 34 w.heap.size wr w.heap.size L k ∧ Below w.heap.size w wr) (fun i _ => L.length - (intOf i).toNat)
  case atStart => exact ⟨0, Nat.zero_le _, rfl, F0, B0⟩
  case round =>
    obtain ⟨k, hk, rfl, F, B⟩ := hrel
    clear F0 B0
    by_cases hlt : k < L.length
    · obtain ⟨b, off, rfl, _⟩ := hv (by omega)
      obtain ⟨h, hh⟩ : ∃ h, L.getD k Lk.nil = h := ⟨_, rfl⟩
      have hck : LkAtO wr b (off + k * 4) h := by
        rw [← hh]
        exact lkAtO_of ((hv.below B hB).at_ lkEnc_len Lk.nil hlt)
      obtain ⟨c0, c1, c2, c3⟩ := hck
      have hsz := F.lt
      go_wp2_with fail
      go_at_call 72
      refine (toLk h wr).mono ?_
      rintro e w2 ⟨rfl, k2⟩
      have G := F.keep (k2.block _ hsz.2)
      have B2 := B.trans (k2.mono (Nat.le_of_lt hsz.2))
      obtain ⟨u0, hu0⟩ := G.cell (k * 4) (by omega)
      obtain ⟨u1, hu1⟩ := G.cell (k * 4 + 1) (by omega)
      obtain ⟨u2, hu2⟩ := G.cell (k * 4 + 2) (by omega)
      obtain ⟨u3, hu3⟩ := G.cell (k * 4 + 3) (by omega)
      have f0 := G.frozen (k * 4)
      have f1 := G.frozen (k * 4 + 1)
      have f2 := G.frozen (k * 4 + 2)
      have f3 := G.frozen (k * 4 + 3)
      have G1 := G.step lkEnc_len Lk.nil hlt
      have B3 := below_putAll (Nat.le_refl _) (lkEnc h) (k * 4) B2
      rw [hh, lkPut] at G1
      rw [lkPut] at B3
      clear F G B B2 hh hsz
      go_wp2
      go_roundw
      case rel => exact ⟨k + 1, by omega, by go_num, G1, B3⟩
      case measure => simp [intOf]; omega
    · obtain rfl : k = L.length := by omega
      go_wp2
      go_ret
      exact ⟨rfl, F.done lkEnc_len, B⟩

end Go.Proofs.YtemibefbkjpnaaaGreat
namespace Go.Proofs.YtemibefbkjpnaaaGreat
open Go.ChangeShapes Go.WideShapes Go.ChangeAt Go.RowKit
open Go.ChangeMaps (open_string shut_string)
set_option linter.unusedVariables false
set_option maxRecDepth 100000

/-- What toNet makes. -/
structure NetMade (w w' : World) (gB gK : Nat) (Bs : List Bd) (K : List Lk) (Cs : List Bd) : Prop where
  d : Cs.map Bd.d = Bs.map Bd.d
  len : Cs.length = Bs.length
  own : NOwn w.heap.size gK w' (.slice (some ⟨gB, 0, none⟩) Bs.length Bs.length) Cs
  own2 : FOwn lkEnc 4 34 w.heap.size w' (.slice (some ⟨gK, 0, none⟩) K.length K.length) K
  lt : w.heap.size ≤ gK ∧ gK < w'.heap.size
  bel : Below w.heap.size w w'
set_option maxHeartbeats 2000000 in
theorem neTo (adB : Option Addr) (capB : Nat) (Bs : List Bd) (adK : Option Addr) (capK : Nat) (K : List Lk) (w : World) (vb : NV w adB Bs) (vk : FView lkEnc w adK K) (hl : Bs.length ≤ 1048576) (hls : ∀ i, i < Bs.length → (Bs.getD i Bd.nil).L.length ≤ 1048576) (hk : K.length ≤ 1048576) :
    Calls Tryz.prog 37 #[.agg #[.slice adB Bs.length capB, .slice adK K.length capK]] w fun e w' => ∃ gB gK Cs, e = .returned (.agg #[.slice (some ⟨gB, 0, none⟩) Bs.length Bs.length, .slice (some ⟨gK, 0, none⟩) K.length K.length]) ∧ NetMade w w' gB gK Bs K Cs := by
  have hkB := vk.lt lkEnc_len (by omega)
  obtain ⟨y, hy⟩ : ∃ y, y = ((w.alloc (Obj.cells #[.slice adB Bs.length capB, .slice adK K.length capK] 62)).alloc (Obj.cells #[.slice none 0 0, .slice none 0 0] 27)).alloc (Obj.cells #[.slice none 0 0, .slice none 0 0] 27) := ⟨_, rfl⟩
  have B0 : Below w.heap.size w y := by rw [hy]; exact (((Below.refl _ _).alloc (Nat.le_refl _) _).alloc (by simp) _).alloc (by simp; omega) _
  have A0 : NeAt y w.heap.size (.slice adB Bs.length capB) (.slice adK K.length capK) := by rw [hy]; constructor <;> simp [go_sem]
  have A1 : NeAt y (w.heap.size + 1) (.slice none 0 0) (.slice none 0 0) := by rw [hy]; constructor <;> simp [go_sem]
  have A2 : NeAt y (w.heap.size + 1 + 1) (.slice none 0 0) (.slice none 0 0) := by rw [hy]; constructor <;> simp [go_sem]
  have F1 : ∀ i, y.frozen? ⟨w.heap.size + 1, i, none⟩ = false := fun i => by rw [hy]; simp [go_sem]
  have F2 : ∀ i, y.frozen? ⟨w.heap.size + 1 + 1, i, none⟩ = false := fun i => by rw [hy]; simp [go_sem]
  have S0 := A2.lt
  go_enter Tryz.func37, Tryz.ntmps37
  go_wp2_with fail
  go_at_call 79
  rw [← hy]
  clear hy
  refine (bdTo adB capB Bs y (vb.below B0 (Nat.le_refl _)) hl hls).mono ?_
  rintro e w1 ⟨Ns, rfl, F⟩
  generalize hg : y.heap.size = g at F S0 ⊢
  have hgb : Hid (w.heap.size ≤ g) := by have := B0.size; unfold Hid; omega
  have hg1 := F.fill.lt
  have O1 := F.own
  have dl : Hid ((cpyN Bs Ns).length = Bs.length) := cpyN_len Bs Ns
  have dd : Hid ((cpyN Bs Ns).map Bd.d = Bs.map Bd.d) := cpyN_d Bs Ns
  have k1 : Below g y w1 := F.bel
  generalize cpyN Bs Ns = Cs at O1 dl dd
  clear F
  have A0 := A0.below k1 (by omega)
  have A1 := A1.below k1 (by omega)
  have A2 := A2.below k1 (by omega)
  have F1 : ∀ i, w1.frozen? ⟨w.heap.size + 1, i, none⟩ = false := fun i => (World.frozen?_of_block (a := ⟨w.heap.size + 1, i, none⟩) (k1.block (w.heap.size + 1) (by omega))).trans (F1 i)
  have F2 : ∀ i, w1.frozen? ⟨w.heap.size + 1 + 1, i, none⟩ = false := fun i => (World.frozen?_of_block (a := ⟨w.heap.size + 1 + 1, i, none⟩) (k1.block (w.heap.size + 1 + 1) (by omega))).trans (F2 i)
  have B1 := B0.trans (k1.mono (by have := hgb.out; omega))
  clear hg k1 B0 vb
  obtain ⟨z, hz⟩ : ∃ z, z = w1.setCell ⟨w.heap.size + 1 + 1, 0, none⟩ (.slice (some ⟨g, 0, none⟩) Bs.length Bs.length) := ⟨_, rfl⟩
  have zs : z.heap.size = w1.heap.size := by rw [hz]; simp
  have zb : ∀ j, j ≠ w.heap.size + 1 + 1 → z.heap[j]? = w1.heap[j]? := fun j hj => by rw [hz]; exact Below.heap_setCell _ _ _ _ hj
  have B2 : Below w.heap.size w z := by rw [hz]; exact B1.setCell (by show _ ≤ w.heap.size + 1 + 1; omega) _
  have E0 : NeAt z w.heap.size (.slice adB Bs.length capB) (.slice adK K.length capK) := A0.keep (zb _ (by omega))
  have E1 : NeAt z (w.heap.size + 1) (.slice none 0 0) (.slice none 0 0) := A1.keep (zb _ (by omega))
  have E2 : NeAt z (w.heap.size + 1 + 1) (.slice (some ⟨g, 0, none⟩) Bs.length Bs.length) (.slice none 0 0) := by
    rw [hz]
    exact ⟨pset_same A2.c0, (pset_else (by decide)).trans A2.c1⟩
  have G1 : ∀ i, z.frozen? ⟨w.heap.size + 1, i, none⟩ = false := fun i => (World.frozen?_of_block (a := ⟨w.heap.size + 1, i, none⟩) (zb (w.heap.size + 1) (by omega))).trans (F1 i)
  have G2 : ∀ i, z.frozen? ⟨w.heap.size + 1 + 1, i, none⟩ = false := fun i => by rw [hz, World.frozen?_setCell]; exact F2 i
  have O2 : NOwn g w1.heap.size z (.slice (some ⟨g, 0, none⟩) Bs.length Bs.length) Cs := O1.keep fun j hj _ => zb j (by omega)
  clear O1 B1 zb
  have f20 := F2 0
  obtain ⟨a20, a21⟩ := A2
  obtain ⟨a00, a01⟩ := A0
  go_wp2_with fail
  go_at_call 28
  rw [← hz]
  clear hz a20 a21 a00 a01 f20 F1 F2 A1
  refine (lkToS adK capK K z (vk.below B2 hkB) hk).mono ?_
  rintro e w2 ⟨rfl, OK, k2⟩
  rw [zs] at OK k2 ⊢
  have hgk : w1.heap.size < w2.heap.size := (OK.lt _ rfl).2
  have E1 := E1.below k2 (by omega)
  have E2 := E2.below k2 (by omega)
  have G1 : ∀ i, w2.frozen? ⟨w.heap.size + 1, i, none⟩ = false := fun i => (World.frozen?_of_block (a := ⟨w.heap.size + 1, i, none⟩) (k2.block (w.heap.size + 1) (by omega))).trans (G1 i)
  have G2 : ∀ i, w2.frozen? ⟨w.heap.size + 1 + 1, i, none⟩ = false := fun i => (World.frozen?_of_block (a := ⟨w.heap.size + 1 + 1, i, none⟩) (k2.block (w.heap.size + 1 + 1) (by omega))).trans (G2 i)
  have B3 := B2.trans (k2.mono (by omega))
  have O3 := O2.below k2 (Nat.le_refl _)
  generalize hgk2 : w1.heap.size = gK at OK O3 hgk ⊢
  have hgg : Hid (g < gK) := by unfold Hid; omega
  clear hgk2 k2 B2 O2 E0 hg1 zs
  obtain ⟨a0, a1⟩ := E1
  obtain ⟨c0, c1⟩ := E2
  have f10 := G1 0
  have f11 := G1 1
  have f21 := G2 1
  obtain ⟨u, hu⟩ : ∃ u, u = ((w2.setCell ⟨w.heap.size + 1 + 1, 1, none⟩ (.slice (some ⟨gK, 0, none⟩) K.length K.length)).setCell ⟨w.heap.size + 1, 0, none⟩ (.slice (some ⟨g, 0, none⟩) Bs.length Bs.length)).setCell ⟨w.heap.size + 1, 1, none⟩ (.slice (some ⟨gK, 0, none⟩) K.length K.length) := ⟨_, rfl⟩
  have ub : ∀ j, w.heap.size + 1 + 1 < j → u.heap[j]? = w2.heap[j]? := fun j hj => by
    rw [hu, Below.heap_setCell _ _ _ _ (by show j ≠ w.heap.size + 1; omega), Below.heap_setCell _ _ _ _ (by show j ≠ w.heap.size + 1; omega), Below.heap_setCell _ _ _ _ (by show j ≠ w.heap.size + 1 + 1; omega)]
  have M : NetMade w u g gK Bs K Cs := by
    have h1 := hgg.out
    have h2 := hgb.out
    refine ⟨dd.out, dl.out, ?_, ?_, ⟨by omega, by rw [hu]; simpa using hgk⟩, ?_⟩
    · exact (O3.keep fun j hj _ => ub j (by omega)).wide h2 (Nat.le_refl _)
    · refine (OK.base (by omega)).keep fun j e => ub j ?_
      have : gK = j := by simpa [Value.ownBlock] using e
      omega
    · rw [hu]
      exact ((B3.setCell (by show _ ≤ w.heap.size + 1 + 1; omega) _).setCell (by show _ ≤ w.heap.size + 1; omega) _).setCell (by show _ ≤ w.heap.size + 1; omega) _
  clear ub O3 OK B3 G1 G2 dd dl
  go_wp2
  rw [← hu]
  refine bodyPost_ret (v := .agg #[.slice (some ⟨g, 0, none⟩) Bs.length Bs.length, .slice (some ⟨gK, 0, none⟩) K.length K.length]) (by rw [hu]; simp [results, Tryz.results37, go_sem, *]) rfl ⟨g, gK, Cs, rfl, M⟩

end Go.Proofs.YtemibefbkjpnaaaGreat
namespace Go.Proofs.YtemibefbkjpnaaaGreat
open Go.ChangeShapes Go.WideShapes Go.ChangeAt Go.RowKit
open Go.ChangeMaps (open_string shut_string)
set_option linter.unusedVariables false
set_option maxRecDepth 100000

/-- A net that a call made: its memory is its own, from lo on; the bridges' lies below gK, the links' at gK. -/
structure NetMine (lo : Nat) (w : World) (gB gK : Nat) (Cs : List Bd) (K : List Lk) : Prop where
  own : NOwn lo gK w (.slice (some ⟨gB, 0, none⟩) Cs.length Cs.length) Cs
  own2 : FOwn lkEnc 4 34 lo w (.slice (some ⟨gK, 0, none⟩) K.length K.length) K
  lt : lo ≤ gK ∧ gK < w.heap.size
theorem NetMine.later {lo : Nat} {w w' : World} {gB gK : Nat} {Cs : List Bd} {K : List Lk} (h : NetMine lo w gB gK Cs K) (k : Below w.heap.size w w') : NetMine lo w' gB gK Cs K :=
  ⟨h.own.below k (Nat.le_of_lt h.lt.2), h.own2.later k, h.lt.1, Nat.lt_of_lt_of_le h.lt.2 k.size⟩
theorem NetMine.nn {lo : Nat} {w : World} {gB gK : Nat} {Cs : List Bd} {K : List Lk} (h : NetMine lo w gB gK Cs K) (hl : Cs.length ≤ 1048576) (hls : ∀ i, i < Cs.length → (Cs.getD i Bd.nil).L.length ≤ 1048576) (hk : K.length ≤ 1048576) : NN w (some ⟨gB, 0, none⟩) Cs (some ⟨gK, 0, none⟩) K :=
  ⟨h.own.view.2, h.own2.view.2, hl, hls, hk⟩
theorem same_ls {Bs Cs : List Bd} (h : Cs.map Bd.d = Bs.map Bd.d) {n : Nat} (hls : ∀ i, i < Bs.length → (Bs.getD i Bd.nil).L.length ≤ n) : ∀ i, i < Cs.length → (Cs.getD i Bd.nil).L.length ≤ n := by
  intro i hi
  have hl : Cs.length = Bs.length := by have := congrArg List.length h; simpa using this
  have := congrArg (fun D => D.getD i Bg.nil) h
  simp only [bd_get] at this
  have e : (Cs.getD i Bd.nil).L = (Bs.getD i Bd.nil).L := congrArg Bg.L this
  rw [e]
  exact hls i (by omega)
theorem netTo (adB : Option Addr) (capB : Nat) (Bs : List Bd) (adK : Option Addr) (capK : Nat) (K : List Lk) (w : World) (h : NN w adB Bs adK K) :
    Calls Tryz.prog 37 #[.agg #[.slice adB Bs.length capB, .slice adK K.length capK]] w fun e w' => ∃ gB gK Cs, e = .returned (.agg #[.slice (some ⟨gB, 0, none⟩) Cs.length Cs.length, .slice (some ⟨gK, 0, none⟩) K.length K.length]) ∧ Cs.map Bd.d = Bs.map Bd.d ∧ NetMine w.heap.size w' gB gK Cs K ∧ NN w' (some ⟨gB, 0, none⟩) Cs (some ⟨gK, 0, none⟩) K ∧ Below w.heap.size w w' := by
  refine (neTo adB capB Bs adK capK K w h.vb h.vk h.hl h.hls h.hk).mono ?_
  rintro e w' ⟨gB, gK, Cs, rfl, M⟩
  have hm : NetMine w.heap.size w' gB gK Cs K := ⟨by rw [M.len]; exact M.own, M.own2, M.lt⟩
  exact ⟨gB, gK, Cs, by rw [M.len], M.d, hm, hm.nn (by rw [M.len]; exact h.hl) (same_ls M.d h.hls) h.hk, M.bel⟩
theorem netEq (adB adB' : Option Addr) (capB capB' : Nat) (Bs Bs' : List Bd) (adK adK' : Option Addr) (capK capK' : Nat) (K : List Lk) (w : World) (h : NN w adB Bs adK K) (h' : NN w adB' Bs' adK' K) (hd : Bs'.map Bd.d = Bs.map Bd.d) :
    Calls Tryz.prog 29 #[.agg #[.slice adB Bs.length capB, .slice adK K.length capK], .agg #[.slice adB' Bs'.length capB', .slice adK' K.length capK']] w fun e w' => e = .returned (.bool true) ∧ Below w.heap.size w w' :=
  neEq adB adB' capB capB' Bs Bs' adK adK' capK capK' K w h.vb h'.vb hd h.vk h'.vk h.hl h.hls h.hk

end Go.Proofs.YtemibefbkjpnaaaGreat
namespace Go.Proofs.YtemibefbkjpnaaaGreat
open Go.ChangeShapes Go.WideShapes Go.ChangeAt Go.RowKit
open Go.ChangeMaps (open_string shut_string)
set_option linter.unusedVariables false
set_option maxRecDepth 100000

set_option maxHeartbeats 4000000 in
theorem inOkS (x : Ik) (w : World) : Calls Tryz.prog 102 #[.agg #[.int .i64 x.k, .int .i64 x.q, .int .i64 x.r, .int .i64 x.c, .int .i64 x.b, .int .i64 x.p, .int .i64 x.h, .bool x.up]] w fun e w' => e = .returned (.bool (inOk x)) ∧ Below w.heap.size w w' := by
  obtain ⟨k, q, r, c, b, p, h, up⟩ := x
  dsimp only
  obtain ⟨R, hR⟩ : ∃ R, R = inOk ⟨k, q, r, c, b, p, h, up⟩ := ⟨_, rfl⟩
  rw [← hR]
  by_cases h1 : k = 1
  · subst h1
    have hR1 : Hid (R = (decide (0 ≤ q ∧ q ≤ 3) && (vOk r c b p && (decide (0 ≤ h ∧ h ≤ 8) && !up)))) := hR
    clear hR
    have B0 := below_new (w := w) (Obj.cells #[.int .i64 1, .int .i64 q, .int .i64 r, .int .i64 c, .int .i64 b, .int .i64 p, .int .i64 h, .bool up] 99)
    obtain ⟨y, hy⟩ : ∃ y, y = w.alloc (Obj.cells #[.int .i64 1, .int .i64 q, .int .i64 r, .int .i64 c, .int .i64 b, .int .i64 p, .int .i64 h, .bool up] 99) := ⟨_, rfl⟩
    rw [← hy] at B0
    have A0 : InAt y w.heap.size ⟨1, q, r, c, b, p, h, up⟩ := by rw [hy]; exact InAt.new w _ ⟨1, q, r, c, b, p, h, up⟩
    have S0 := A0.lt
    go_enter Tryz.func102, Tryz.ntmps102
    go_wp2_with fail
    go_at_call 43
    rw [← hy]
    clear hy
    refine (inB q 0 3 y).mono ?_
    rintro e y1 ⟨rfl, rfl⟩
    obtain ⟨a0, a1, a2, a3, a4, a5, a6, a7⟩ := A0
    have A0 : InAt y1 w.heap.size ⟨1, q, r, c, b, p, h, up⟩ := ⟨a0, a1, a2, a3, a4, a5, a6, a7⟩
    cases hF : decide (0 ≤ q ∧ q ≤ 3) with
    | false =>
      have hN : Hid (R = false) := by unfold Hid; rw [hR1.out, hF]; rfl
      clear hR1 hF
      go_wp2
      go_ret
      exact ⟨by rw [hN.out]; rfl, B0⟩
    | true =>
      have hR2 : Hid (R = (vOk r c b p && (decide (0 ≤ h ∧ h ≤ 8) && !up))) := by unfold Hid; rw [hR1.out, hF]; rfl
      clear hR1 hF
      go_wp2_with fail
      go_at_call 114
      refine (vOkS r c b p y1).mono ?_
      rintro e y2 ⟨rfl, k2⟩
      have B2 := B0.trans (k2.mono B0.size)
      have A2 := A0.below k2 S0
      clear a0 a1 a2 a3 a4 a5 a6 a7 A0 k2
      obtain ⟨a0, a1, a2, a3, a4, a5, a6, a7⟩ := A2
      cases hF : vOk r c b p with
      | false =>
        have hN : Hid (R = false) := by unfold Hid; rw [hR2.out, hF]; rfl
        clear hR2 hF
        go_wp2
        go_ret
        exact ⟨by rw [hN.out]; rfl, B2⟩
      | true =>
        have hR3 : Hid (R = (decide (0 ≤ h ∧ h ≤ 8) && !up)) := by unfold Hid; rw [hR2.out, hF]; rfl
        clear hR2 hF
        go_wp2_with fail
        go_at_call 43
        refine (inB h 0 8 y2).mono ?_
        rintro e y3 ⟨rfl, rfl⟩
        cases hF : decide (0 ≤ h ∧ h ≤ 8) with
        | false =>
          have hN : Hid (R = false) := by unfold Hid; rw [hR3.out, hF]; rfl
          clear hR3 hF
          go_wp2
          go_ret
          exact ⟨by rw [hN.out]; rfl, B2⟩
        | true =>
          have hN : Hid (R = !up) := by unfold Hid; rw [hR3.out, hF]; rfl
          clear hR3 hF
          go_wp2
          go_ret
          exact ⟨by rw [hN.out]; rfl, B2⟩
  have d1 : (k == 1) = false := by simpa using h1
  by_cases h3 : k = 3
  · subst h3
    have hR1 : Hid (R = (decide (0 ≤ q ∧ q ≤ 3) && (decide (r = 0 ∧ c = 0 ∧ b = 0 ∧ p = 0) && (h == 0)))) := hR
    clear hR h1 d1
    have B0 := below_new (w := w) (Obj.cells #[.int .i64 3, .int .i64 q, .int .i64 r, .int .i64 c, .int .i64 b, .int .i64 p, .int .i64 h, .bool up] 99)
    obtain ⟨y, hy⟩ : ∃ y, y = w.alloc (Obj.cells #[.int .i64 3, .int .i64 q, .int .i64 r, .int .i64 c, .int .i64 b, .int .i64 p, .int .i64 h, .bool up] 99) := ⟨_, rfl⟩
    rw [← hy] at B0
    have A0 : InAt y w.heap.size ⟨3, q, r, c, b, p, h, up⟩ := by rw [hy]; exact InAt.new w _ ⟨3, q, r, c, b, p, h, up⟩
    have S0 := A0.lt
    go_enter Tryz.func102, Tryz.ntmps102
    go_wp2_with fail
    go_at_call 43
    rw [← hy]
    clear hy
    refine (inB q 0 3 y).mono ?_
    rintro e y1 ⟨rfl, rfl⟩
    obtain ⟨a0, a1, a2, a3, a4, a5, a6, a7⟩ := A0
    cases hF : decide (0 ≤ q ∧ q ≤ 3) with
    | false =>
      have hN : Hid (R = false) := by unfold Hid; rw [hR1.out, hF]; rfl
      clear hR1 hF
      go_wp2
      go_ret
      exact ⟨by rw [hN.out]; rfl, B0⟩
    | true =>
      have hR2 : Hid (R = (decide (r = 0 ∧ c = 0 ∧ b = 0 ∧ p = 0) && (h == 0))) := by unfold Hid; rw [hR1.out, hF]; rfl
      clear hR1 hF
      have eV : ∀ w_ : World, (binOp .eql 36 (.agg #[.int .i64 r, .int .i64 c, .int .i64 b, .int .i64 p]) (.agg #[.int .i64 0, .int .i64 0, .int .i64 0, .int .i64 0])).run Tryz.prog w_ = .ok (.bool (decide (r = 0 ∧ c = 0 ∧ b = 0 ∧ p = 0))) w_ := fun w_ => by
        have := eqV r c b p 0 0 0 0 w_
        go_simp
      cases hF : decide (r = 0 ∧ c = 0 ∧ b = 0 ∧ p = 0) with
      | false =>
        have hN : Hid (R = false) := by unfold Hid; rw [hR2.out, hF]; rfl
        rw [hF] at eV
        clear hR2 hF
        go_wp2
        go_ret
        exact ⟨by rw [hN.out]; rfl, B0⟩
      | true =>
        have hN : Hid (R = (h == 0)) := by unfold Hid; rw [hR2.out, hF]; rfl
        rw [hF] at eV
        clear hR2 hF
        go_wp2
        go_ret
        exact ⟨by rw [hN.out]; rfl, B0⟩
  have d3 : (k == 3) = false := by simpa using h3
  by_cases h2 : k = 2
  · subst h2
    have hN : Hid (R = decide (q = 0 ∧ r = 0 ∧ c = 0 ∧ b = 0 ∧ p = 0 ∧ h = 0 ∧ up = false)) := hR
    clear hR h1 d1 h3 d3
    have eI : ∀ w_ : World, (binOp .eql 99 (.agg #[.int .i64 2, .int .i64 q, .int .i64 r, .int .i64 c, .int .i64 b, .int .i64 p, .int .i64 h, .bool up]) (.agg #[.int .i64 2, .int .i64 0, .int .i64 0, .int .i64 0, .int .i64 0, .int .i64 0, .int .i64 0, .bool false])).run Tryz.prog w_ = .ok (.bool R) w_ := fun w_ => by
      rw [hN.out]
      go_simp
      all_goals ((repeat' split) <;> first | (simp_all; done) | grind)
    clear hN
    have B0 := below_new (w := w) (Obj.cells #[.int .i64 2, .int .i64 q, .int .i64 r, .int .i64 c, .int .i64 b, .int .i64 p, .int .i64 h, .bool up] 99)
    obtain ⟨y, hy⟩ : ∃ y, y = w.alloc (Obj.cells #[.int .i64 2, .int .i64 q, .int .i64 r, .int .i64 c, .int .i64 b, .int .i64 p, .int .i64 h, .bool up] 99) := ⟨_, rfl⟩
    rw [← hy] at B0
    have A0 : InAt y w.heap.size ⟨2, q, r, c, b, p, h, up⟩ := by rw [hy]; exact InAt.new w _ ⟨2, q, r, c, b, p, h, up⟩
    have S0 := A0.lt
    go_enter Tryz.func102, Tryz.ntmps102
    go_upto_region 7 with fail
    rw [← hy]
    clear hy
    obtain ⟨a0, a1, a2, a3, a4, a5, a6, a7⟩ := A0
    go_wp2
    go_ret
    exact ⟨rfl, B0⟩
  have d2 : (k == 2) = false := by simpa using h2
  have hN : Hid (R = false) := by unfold Hid; rw [hR]; unfold inOk; rw [if_neg h1, if_neg h3, if_neg h2]
  clear hR h1 h2 h3
  have B0 := below_new (w := w) (Obj.cells #[.int .i64 k, .int .i64 q, .int .i64 r, .int .i64 c, .int .i64 b, .int .i64 p, .int .i64 h, .bool up] 99)
  obtain ⟨y, hy⟩ : ∃ y, y = w.alloc (Obj.cells #[.int .i64 k, .int .i64 q, .int .i64 r, .int .i64 c, .int .i64 b, .int .i64 p, .int .i64 h, .bool up] 99) := ⟨_, rfl⟩
  rw [← hy] at B0
  have A0 : InAt y w.heap.size ⟨k, q, r, c, b, p, h, up⟩ := by rw [hy]; exact InAt.new w _ ⟨k, q, r, c, b, p, h, up⟩
  have S0 := A0.lt
  go_enter Tryz.func102, Tryz.ntmps102
  go_wp2
  go_ret
  rw [← hy]
  exact ⟨by rw [hN.out]; rfl, B0⟩

end Go.Proofs.YtemibefbkjpnaaaGreat
