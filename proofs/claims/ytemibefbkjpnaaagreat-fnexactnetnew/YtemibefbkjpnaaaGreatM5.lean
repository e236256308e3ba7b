/- Lists of ports: copied, compared. Bridges: how they come in, copied, compared. -/
import Derived.Test.YtemibefbkjpnaaaGreatRows
import Derived.WalkKit
import Derived.ProofKit
import Derived.OpenShut
import Derived.ShutString
import Derived.ChangeOld
import Derived.Below
import Derived.Deep.QuietTactic
import Derived.BigQuiet
import Derived.WalkSmall
import Derived.Laws.OwnMore
import Derived.WalkSpells
import Derived.WalkLawsBesides
import Derived.Test.YtemibefbkjpnaaaGreatM1
import Derived.Test.YtemibefbkjpnaaaGreatM2
import Derived.Lib.SmallJoins
namespace Go.Proofs.YtemibefbkjpnaaaGreat
open Go.ChangeShapes Go.WideShapes Go.ChangeAt Go.RowKit
open Go.ChangeMaps (open_string shut_string)
set_option linter.unusedVariables false
set_option maxRecDepth 100000

theorem ptInfo : (Tryz.prog.info? 75).map (fun i => (i.zero, i.size, i.bytes)) = some (some (.agg #[.bool false, .bool false, .int .i64 0, .int .i64 0, .int .i64 0, .int .i64 0, .int .i64 0, .int .i64 0, .int .i64 0, .int .i64 0, .bool false]), 11, 80) := by kernel_rfl
set_option maxHeartbeats 2000000 in
theorem ptToS (ad : Option Addr) (cap : Nat) (L : List Pt) (w : World) (hv : FView ptEnc w ad L) (hl : L.length ≤ 1048576) :
    Calls Tryz.prog 152 #[.slice ad L.length cap] w fun e w' => e = .returned (.slice (some ⟨w.heap.size, 0, none⟩) L.length L.length) ∧ FOwn ptEnc 11 75 w.heap.size w' (.slice (some ⟨w.heap.size, 0, none⟩) L.length L.length) L ∧ Below w.heap.size w w' := by
  obtain ⟨i0, hi, hz0, hz1, hz2⟩ := info_parts ptInfo
  have hB := hv.lt ptEnc_len (by omega)
  go_enter Tryz.func152, Tryz.ntmps152
  go_wp2_with (first | (refine wpList_make_full _ rfl _ _ 38 rfl w.heap.size 75 i0 (.agg #[.bool false, .bool false, .int .i64 0, .int .i64 0, .int .i64 0, .int .i64 0, .int .i64 0, .int .i64 0, .int .i64 0, .int .i64 0, .bool false]) 11 Tryz.underlying38 hi hz0 hz1 .i64 .i64 _ _ L.length rfl rfl rfl rfl ?c1 ?c2 ?c3 ?_))
  case c1 => rw [hz2]; omega
  case c2 => unfold maxLen; omega
  case c3 => exact Nat.le_refl _
  intro w1 hown hgrow
  have F0 : FFill ptEnc 11 75 w.heap.size w1 w.heap.size L 0 := FFill.start hown
  have B0 : Below w.heap.size w w1 := (Below.refl _ _).grown hgrow (Nat.le_refl _) (by simp)
  clear hown hgrow
  go_wp2
  go_loopw [4] (fun i wr => ∃ k : Nat, k ≤ L.length ∧ i = .int .i64 k ∧ FFill ptEnc 11 75 w.heap.size wr w.heap.size L k ∧ Below w.heap.size w wr) (fun i _ => L.length - (intOf i).toNat)
  case atStart => exact ⟨0, Nat.zero_le _, rfl, F0, B0⟩
  case round =>
    obtain ⟨k, hk, rfl, F, B⟩ := hrel
    clear F0 B0
    by_cases hlt : k < L.length
    · obtain ⟨b, off, rfl, _⟩ := hv (by omega)
      obtain ⟨h, hh⟩ : ∃ h, L.getD k Pt.nil = h := ⟨_, rfl⟩
      have hck : PtAtO wr b (off + k * 11) h := by
        rw [← hh]
        exact ptAtO_of ((hv.below B hB).at_ ptEnc_len Pt.nil hlt)
      obtain ⟨c0, c1, c2, c3, c4, c5, c6, c7, c8, c9, c10⟩ := hck
      have hsz := F.lt
      go_wp2_with fail
      go_at_call 172
      refine (toP h wr).mono ?_
      rintro e w2 ⟨rfl, k2⟩
      have G := F.keep (k2.block _ hsz.2)
      have B2 := B.trans (k2.mono (Nat.le_of_lt hsz.2))
      obtain ⟨u0, hu0⟩ := G.cell (k * 11) (by omega)
      obtain ⟨u1, hu1⟩ := G.cell (k * 11 + 1) (by omega)
      obtain ⟨u2, hu2⟩ := G.cell (k * 11 + 2) (by omega)
      obtain ⟨u3, hu3⟩ := G.cell (k * 11 + 3) (by omega)
      obtain ⟨u4, hu4⟩ := G.cell (k * 11 + 4) (by omega)
      obtain ⟨u5, hu5⟩ := G.cell (k * 11 + 5) (by omega)
      obtain ⟨u6, hu6⟩ := G.cell (k * 11 + 6) (by omega)
      obtain ⟨u7, hu7⟩ := G.cell (k * 11 + 7) (by omega)
      obtain ⟨u8, hu8⟩ := G.cell (k * 11 + 8) (by omega)
      obtain ⟨u9, hu9⟩ := G.cell (k * 11 + 9) (by omega)
      obtain ⟨u10, hu10⟩ := G.cell (k * 11 + 10) (by omega)
      have f0 := G.frozen (k * 11)
      have f1 := G.frozen (k * 11 + 1)
      have f2 := G.frozen (k * 11 + 2)
      have f3 := G.frozen (k * 11 + 3)
      have f4 := G.frozen (k * 11 + 4)
      have f5 := G.frozen (k * 11 + 5)
      have f6 := G.frozen (k * 11 + 6)
      have f7 := G.frozen (k * 11 + 7)
      have f8 := G.frozen (k * 11 + 8)
      have f9 := G.frozen (k * 11 + 9)
      have f10 := G.frozen (k * 11 + 10)
      have G1 := G.step ptEnc_len Pt.nil hlt
      have B3 := below_putAll (Nat.le_refl _) (ptEnc h) (k * 11) B2
      rw [hh, ptPut] at G1
      rw [ptPut] at B3
      clear F G B B2 hh hsz
      go_wp2
      go_roundw
      case rel => exact ⟨k + 1, by omega, by go_num, G1, B3⟩
      case measure => simp [intOf]; omega
    · obtain rfl : k = L.length := by omega
      go_wp2
      go_ret
      exact ⟨rfl, F.done ptEnc_len, B⟩
set_option maxHeartbeats 2000000 in
theorem ptEqS (ad ad' : Option Addr) (cap cap' : Nat) (L : List Pt) (w : World) (hv : FView ptEnc w ad L) (hv' : FView ptEnc w ad' L) (hl : L.length ≤ 1048576) :
    Calls Tryz.prog 150 #[.slice ad L.length cap, .slice ad' L.length cap'] w fun e w' => e = .returned (.bool true) ∧ Below w.heap.size w w' := by
  have hB := hv.lt ptEnc_len (by omega)
  have hB' := hv'.lt ptEnc_len (by omega)
  go_enter Tryz.func150, Tryz.ntmps150
  go_wp2
  go_loopw [5] (fun i wr => ∃ k : Nat, k ≤ L.length ∧ i = .int .i64 k ∧ Below w.heap.size w wr) (fun i _ => L.length - (intOf i).toNat)
  case atStart => exact ⟨0, Nat.zero_le _, rfl, Below.refl _ _⟩
  case round =>
    obtain ⟨k, hk, rfl, hb⟩ := hrel
    by_cases hlt : k < L.length
    · obtain ⟨b, off, rfl, _⟩ := hv (by omega)
      obtain ⟨b', off', rfl, _⟩ := hv' (by omega)
      obtain ⟨h, hh⟩ : ∃ h, L.getD k Pt.nil = h := ⟨_, rfl⟩
      have hc : ∀ Y, Below w.heap.size w Y → PtAtO Y b (off + k * 11) h := fun Y hY => by rw [← hh]; exact ptAtO_of ((hv.below hY hB).at_ ptEnc_len Pt.nil hlt)
      have hc' : ∀ Y, Below w.heap.size w Y → PtAtO Y b' (off' + k * 11) h := fun Y hY => by rw [← hh]; exact ptAtO_of ((hv'.below hY hB').at_ ptEnc_len Pt.nil hlt)
      clear hh hv hv' hB hB'
      go_wp2_with fail
      refine wp_region_held (S := fun Y => Below w.heap.size w Y) (by kernel_rfl) ?_
      change wpAnyH _ _ _ _ _ _ _ _ (World.drew _)
      have hb0 : Below w.heap.size w wr.drew := hb.drew
      refine takeW 0 17 (.slice (some ⟨b, off, none⟩) L.length cap) rfl rfl (by kernel_rfl) (by kernel_rfl) (by kernel_rfl) (fun _ _ _ h => h) (by kernel_rfl) (by (intro w hSw; go_simp)) (by assumption) ?_
      simp only [List.set_cons_zero, List.set_cons_succ]
      refine takeW 1 18 (.int .i64 k) rfl rfl (by kernel_rfl) (by kernel_rfl) (by kernel_rfl) (fun _ _ _ h => h) (by kernel_rfl) (by (intro w hSw; go_simp)) (by assumption) ?_
      simp only [List.set_cons_zero, List.set_cons_succ]
      refine takeW 2 19 (.pointer (some ⟨b, off + k * 11, none⟩)) rfl rfl (by kernel_rfl) (by kernel_rfl) (by kernel_rfl) (fun _ _ _ h => h) (by kernel_rfl) (by (intro Y hSw; go_simp; try omega)) (by assumption) ?_
      simp only [List.set_cons_zero, List.set_cons_succ]
      refine takeW 3 20 (.agg #[.bool h.up, .bool h.has, .int .i64 h.r, .int .i64 h.c, .int .i64 h.b, .int .i64 h.p, .int .i64 h.h, .int .i64 h.l, .int .i64 h.ro, .int .i64 h.wa, .bool h.op]) rfl rfl (by kernel_rfl) (by kernel_rfl) (by kernel_rfl) (fun _ _ _ h => h) (by kernel_rfl) (by (intro Y hSw; obtain ⟨X0, X1, X2, X3, X4, X5, X6, X7, X8, X9, X10⟩ := hc Y hSw; go_simp)) (by assumption) ?_
      simp only [List.set_cons_zero, List.set_cons_succ]
      refine takeW 4 21 (.slice (some ⟨b', off', none⟩) L.length cap') rfl rfl (by kernel_rfl) (by kernel_rfl) (by kernel_rfl) (fun _ _ _ h => h) (by kernel_rfl) (by (intro w hSw; go_simp)) (by assumption) ?_
      simp only [List.set_cons_zero, List.set_cons_succ]
      refine takeW 5 22 (.int .i64 k) rfl rfl (by kernel_rfl) (by kernel_rfl) (by kernel_rfl) (fun _ _ _ h => h) (by kernel_rfl) (by (intro w hSw; go_simp)) (by assumption) ?_
      simp only [List.set_cons_zero, List.set_cons_succ]
      refine takeW 6 23 (.pointer (some ⟨b', off' + k * 11, none⟩)) rfl rfl (by kernel_rfl) (by kernel_rfl) (by kernel_rfl) (fun _ _ _ h => h) (by kernel_rfl) (by (intro Y hSw; go_simp; try omega)) (by assumption) ?_
      simp only [List.set_cons_zero, List.set_cons_succ]
      refine takeW 7 24 (.agg #[.bool h.up, .bool h.has, .int .i64 h.r, .int .i64 h.c, .int .i64 h.b, .int .i64 h.p, .int .i64 h.h, .int .i64 h.l, .int .i64 h.ro, .int .i64 h.wa, .bool h.op]) rfl rfl (by kernel_rfl) (by kernel_rfl) (by kernel_rfl) (fun _ _ _ h => h) (by kernel_rfl) (by (intro Y hSw; obtain ⟨X0, X1, X2, X3, X4, X5, X6, X7, X8, X9, X10⟩ := hc' Y hSw; go_simp)) (by assumption) ?_
      simp only [List.set_cons_zero, List.set_cons_succ]
      refine wpAnyH_all (rs := [8]) (by kernel_rfl) (by simp) ?_
      intro i hi; obtain rfl : i = 8 := by simpa using hi
      refine wpOp_step rfl (fun K hK => ?_)
      rw [if_pos (by kernel_rfl)]
      go_simp
      go_at_call 171
      refine (eqP h _).mono ?_
      rintro e y1 ⟨rfl, j1⟩
      have hb1 : Below w.heap.size w y1 := hb0.trans (j1.mono hb0.size)
      refine hK _ _ ⟨hb1, ?_⟩
      clear hK K hi
      refine takeW 9 26 (.bool false) rfl rfl (by kernel_rfl) (by kernel_rfl) (by kernel_rfl) (fun _ _ _ h => h) (by kernel_rfl) (by (intro w hSw; go_simp)) (by assumption) ?_
      simp only [List.set_cons_zero, List.set_cons_succ]
      refine wpAnyH_done (by kernel_rfl) ?_ _
      go_wp2
      go_roundw
      case rel => exact ⟨k + 1, by omega, by go_num, hb1⟩
      case measure => simp [intOf]; omega
    · obtain rfl : k = L.length := by omega
      go_wp2
      go_ret
      exact ⟨rfl, hb⟩

end Go.Proofs.YtemibefbkjpnaaaGreat
namespace Go.Proofs.YtemibefbkjpnaaaGreat
open Go.ChangeShapes Go.WideShapes Go.ChangeAt Go.RowKit
open Go.ChangeMaps (open_string shut_string)
set_option linter.unusedVariables false
set_option maxRecDepth 100000

/-- A bridge's box: its number, and the list of its ports. -/
structure BrAt (w : World) (q : Nat) (id : Int) (v : Value) : Prop where
  c0 : w.cell? ⟨q, 0, none⟩ = some (.int .i64 id)
  c1 : w.cell? ⟨q, 1, none⟩ = some v
theorem BrAt.keep {w w' : World} {q : Nat} {id : Int} {v : Value} (h : BrAt w q id v) (k : w'.heap[q]? = w.heap[q]?) : BrAt w' q id v :=
  ⟨(World.cell?_of_block (a := ⟨q, 0, none⟩) k).trans h.c0, (World.cell?_of_block (a := ⟨q, 1, none⟩) k).trans h.c1⟩
theorem BrAt.below {w w' : World} {q n : Nat} {id : Int} {v : Value} (h : BrAt w q id v) (k : Below n w w') (hq : q < n) : BrAt w' q id v := h.keep (k.block q hq)
theorem BrAt.lt {w : World} {q : Nat} {id : Int} {v : Value} (h : BrAt w q id v) : q < w.heap.size := World.block_lt_of_cell? w _ h.c0
theorem BrAt.new (w : World) (t : TypeId) (id : Int) (v : Value) : BrAt (w.alloc (Obj.cells #[.int .i64 id, v] t)) w.heap.size id v := by
  refine ⟨?_, ?_⟩ <;> simp [go_sem]
theorem BrAt.alloc {w : World} {q : Nat} {id : Int} {v : Value} (h : BrAt w q id v) (o : Obj) : BrAt (w.alloc o) q id v := h.keep (Below.heap_alloc w o q h.lt)
theorem below_new {w : World} (o : Obj) : Below w.heap.size w (w.alloc o) := (Below.refl _ _).alloc (Nat.le_refl _) _
/-- A bridge's box that may be written. -/
structure BBox (w : World) (q : Nat) (id : Int) (v : Value) : Prop where
  at_ : BrAt w q id v
  fr : ∀ i, w.frozen? ⟨q, i, none⟩ = false
theorem BBox.keep {w w' : World} {q : Nat} {id : Int} {v : Value} (h : BBox w q id v) (k : w'.heap[q]? = w.heap[q]?) : BBox w' q id v :=
  ⟨h.at_.keep k, fun i => (World.frozen?_of_block (a := ⟨q, i, none⟩) k).trans (h.fr i)⟩
theorem BBox.lt {w : World} {q : Nat} {id : Int} {v : Value} (h : BBox w q id v) : q < w.heap.size := h.at_.lt
theorem BBox.below {w w' : World} {q n : Nat} {id : Int} {v : Value} (h : BBox w q id v) (k : Below n w w') (hq : q < n) : BBox w' q id v := h.keep (k.block q hq)
theorem BBox.new (w : World) (t : TypeId) (id : Int) (v : Value) : BBox (w.alloc (Obj.cells #[.int .i64 id, v] t)) w.heap.size id v := ⟨BrAt.new w t id v, fun i => by simp [go_sem]⟩
theorem BBox.put {w : World} {q : Nat} {id : Int} {v : Value} (h : BBox w q id v) (id' : Int) (v' : Value) : BBox ((w.setCell ⟨q, 0, none⟩ (.int .i64 id')).setCell ⟨q, 1, none⟩ v') q id' v' := by
  have e1 : (w.setCell ⟨q, 0, none⟩ (.int .i64 id')).cell? ⟨q, 1, none⟩ = some v := (pset_else (by decide)).trans h.at_.c1
  refine ⟨⟨(pset_else (by decide)).trans (pset_same h.at_.c0), pset_same e1⟩, fun i => ?_⟩
  rw [World.frozen?_setCell, World.frozen?_setCell]; exact h.fr i
/-- What is known of a bridge that comes in. -/
structure BrIn (w : World) (ad : Option Addr) (cap : Nat) (L : List Pt) : Prop where
  lm : L.length ≤ maxLen
  hv : FView ptEnc w ad L
  hn : ad = none → cap = 0
set_option maxRecDepth 100000 in
theorem brIn_open {H : Type} {enc : TypeId × Value → H} {w : World} {r : Reach} {b0 : Nat} {v : Value} {d : DataW H} {p : List MemPlace} (hv : Value.okWide Tryz.prog w r b0 151 v) (h : DataW.Trod enc Tryz.prog w 0 (fun _ => true) true 151 v d p) :
    ∃ id ad cap L, v = .agg #[.int .i64 id, .slice ad (List.length L) cap] ∧ (Lit.int .i64 id).wf = true ∧ BrIn w ad cap L := by
  obtain ⟨v0, v1, y0, y1, n, rfl, _, _, h0, h1⟩ := Go.Joins.open_agg2 Tryz.underlying151 (by kernel_rfl) (by kernel_rfl) hv h
  obtain ⟨z0, e0, _, w0⟩ := DataW.trod_int Tryz.underlying3 h0
  simp at e0
  subst e0
  obtain ⟨ad, cap, L, rfl, m, hV, hn⟩ := ptRow_open h1
  exact ⟨z0, ad, cap, L, rfl, w0, m, hV, hn⟩
theorem brSz (id : Int) (ad : Option Addr) (len cap : Nat) (left : Int) (w : World) (h0 : 0 ≤ left) (h1 : left ≤ 1048576) (hm : len ≤ maxLen) :
    Calls Tryz.prog 111 #[.agg #[.int .i64 id, .slice ad len cap], .int .i64 left] w fun e w' => e = .returned (.int .i64 (if (len : Int) ≤ left then left - len else -1)) ∧ Below w.heap.size w w' := by
  have B0 := below_new (w := w) (Obj.cells #[.int .i64 id, .slice ad len cap] 151)
  by_cases h : (len : Int) ≤ left
  · rw [if_pos h]
    have h2 : 0 ≤ left - (len : Int) := by omega
    go_enter Tryz.func111, Tryz.ntmps111
    go_wp2_with fail
    go_at_call 151
    refine (ptSz ad len cap left _ h0 h1 hm).mono ?_
    rintro e w1 ⟨rfl, rfl⟩
    rw [if_pos h]
    go_wp2
    go_ret
    exact ⟨rfl, B0⟩
  · rw [if_neg h]
    go_enter Tryz.func111, Tryz.ntmps111
    go_wp2_with fail
    go_at_call 151
    refine (ptSz ad len cap left _ h0 h1 hm).mono ?_
    rintro e w1 ⟨rfl, rfl⟩
    rw [if_neg (by omega)]
    go_wp2
    go_ret
    exact ⟨rfl, B0⟩
/-- A bridge that a call made: its list is its own. -/
def BrNew (base : Nat) (w : World) (id : Int) (L : List Pt) (v : Value) : Prop := ∃ ad cap, v = .agg #[.int .i64 id, .slice ad L.length cap] ∧ FOwn ptEnc 11 75 base w (.slice ad L.length cap) L
set_option maxHeartbeats 1000000 in
theorem brTo (id : Int) (ad : Option Addr) (cap : Nat) (L : List Pt) (w : World) (hv : FView ptEnc w ad L) (hl : L.length ≤ 1048576) :
    Calls Tryz.prog 112 #[.agg #[.int .i64 id, .slice ad L.length cap]] w fun e w' => ∃ g, e = .returned (.agg #[.int .i64 id, .slice (some ⟨g, 0, none⟩) L.length L.length]) ∧ w.heap.size ≤ g ∧ g < w'.heap.size ∧ FOwn ptEnc 11 75 w.heap.size w' (.slice (some ⟨g, 0, none⟩) L.length L.length) L ∧ Below w.heap.size w w' := by
  have hB := hv.lt ptEnc_len (by omega)
  obtain ⟨y, hy⟩ : ∃ y, y = ((w.alloc (Obj.cells #[.int .i64 id, .slice ad L.length cap] 151)).alloc (Obj.cells #[.int .i64 0, .slice none 0 0] 40)).alloc (Obj.cells #[.int .i64 id, .slice none 0 0] 40) := ⟨_, rfl⟩
  have B0 : Below w.heap.size w y := by rw [hy]; exact (((Below.refl _ _).alloc (Nat.le_refl _) _).alloc (by simp) _).alloc (by simp; omega) _
  have A0 : BrAt y w.heap.size id (.slice ad L.length cap) := by rw [hy]; constructor <;> simp [go_sem]
  have A1 : BrAt y (w.heap.size + 1) 0 (.slice none 0 0) := by rw [hy]; constructor <;> simp [go_sem]
  have A2 : BrAt y (w.heap.size + 1 + 1) id (.slice none 0 0) := by rw [hy]; constructor <;> simp [go_sem]
  have F1 : ∀ i, y.frozen? ⟨w.heap.size + 1, i, none⟩ = false := fun i => by rw [hy]; simp [go_sem]
  have F2 : ∀ i, y.frozen? ⟨w.heap.size + 1 + 1, i, none⟩ = false := fun i => by rw [hy]; simp [go_sem]
  have S0 := A2.lt
  go_enter Tryz.func112, Tryz.ntmps112
  go_wp2_with fail
  go_at_call 152
  rw [← hy]
  clear hy
  refine (ptToS ad cap L y (hv.below B0 hB) hl).mono ?_
  rintro e w1 ⟨rfl, O1, k1⟩
  generalize hg : y.heap.size = g at O1 k1 S0 ⊢
  have hgs : g < w1.heap.size := (O1.lt g rfl).2
  have B1 := B0.trans (k1.mono (by omega))
  have A1 := A1.below k1 (by omega)
  have A2 := A2.below k1 (by omega)
  have F1 : ∀ i, w1.frozen? ⟨w.heap.size + 1, i, none⟩ = false := fun i => (World.frozen?_of_block (a := ⟨w.heap.size + 1, i, none⟩) (k1.block (w.heap.size + 1) (by omega))).trans (F1 i)
  have F2 : ∀ i, w1.frozen? ⟨w.heap.size + 1 + 1, i, none⟩ = false := fun i => (World.frozen?_of_block (a := ⟨w.heap.size + 1 + 1, i, none⟩) (k1.block (w.heap.size + 1 + 1) (by omega))).trans (F2 i)
  have hg' : w.heap.size + 1 + 1 < g := S0
  have O1 : FOwn ptEnc 11 75 w.heap.size w1 (.slice (some ⟨g, 0, none⟩) L.length L.length) L := O1.base (by omega)
  clear hg k1 B0 hv hB
  obtain ⟨a0, a1⟩ := A1
  obtain ⟨c0, c1⟩ := A2
  have f10 := F1 0
  have f11 := F1 1
  have f21 := F2 1
  have B3 : Below w.heap.size w (((w1.setCell ⟨w.heap.size + 1 + 1, 1, none⟩ (.slice (some ⟨g, 0, none⟩) L.length L.length)).setCell ⟨w.heap.size + 1, 0, none⟩ (.int .i64 id)).setCell ⟨w.heap.size + 1, 1, none⟩ (.slice (some ⟨g, 0, none⟩) L.length L.length)) := ((B1.setCell (by show _ ≤ w.heap.size + 1 + 1; omega) _).setCell (by show _ ≤ w.heap.size + 1; omega) _).setCell (by show _ ≤ w.heap.size + 1; omega) _
  have O3 : FOwn ptEnc 11 75 w.heap.size (((w1.setCell ⟨w.heap.size + 1 + 1, 1, none⟩ (.slice (some ⟨g, 0, none⟩) L.length L.length)).setCell ⟨w.heap.size + 1, 0, none⟩ (.int .i64 id)).setCell ⟨w.heap.size + 1, 1, none⟩ (.slice (some ⟨g, 0, none⟩) L.length L.length)) (.slice (some ⟨g, 0, none⟩) L.length L.length) L := O1.keep fun g' e => by
    obtain rfl : g = g' := by simpa [Value.ownBlock] using e
    rw [Below.heap_setCell _ _ _ _ (by show g ≠ w.heap.size + 1; omega), Below.heap_setCell _ _ _ _ (by show g ≠ w.heap.size + 1; omega), Below.heap_setCell _ _ _ _ (by show g ≠ w.heap.size + 1 + 1; omega)]
  go_wp2
  refine bodyPost_ret (v := .agg #[.int .i64 id, .slice (some ⟨g, 0, none⟩) L.length L.length]) (by simp [results, Tryz.results112, go_sem, *]) rfl ⟨g, rfl, by omega, by simpa using hgs, O3, B3⟩
theorem brEq (id : Int) (ad ad' : Option Addr) (cap cap' : Nat) (L : List Pt) (w : World) (hv : FView ptEnc w ad L) (hv' : FView ptEnc w ad' L) (hl : L.length ≤ 1048576) :
    Calls Tryz.prog 108 #[.agg #[.int .i64 id, .slice ad L.length cap], .agg #[.int .i64 id, .slice ad' L.length cap']] w fun e w' => e = .returned (.bool true) ∧ Below w.heap.size w w' := by
  have hB := hv.lt ptEnc_len (by omega)
  have hB' := hv'.lt ptEnc_len (by omega)
  obtain ⟨y, hy⟩ : ∃ y, y = (w.alloc (Obj.cells #[.int .i64 id, .slice ad L.length cap] 40)).alloc (Obj.cells #[.int .i64 id, .slice ad' L.length cap'] 40) := ⟨_, rfl⟩
  have B0 : Below w.heap.size w y := by rw [hy]; exact ((Below.refl _ _).alloc (Nat.le_refl _) _).alloc (by simp) _
  go_enter Tryz.func108, Tryz.ntmps108
  go_wp2_with fail
  go_at_call 150
  rw [← hy]
  clear hy
  refine (ptEqS ad ad' cap cap' L y (hv.below B0 hB) (hv'.below B0 hB') hl).mono ?_
  rintro e w1 ⟨rfl, k1⟩
  have B1 := B0.trans (k1.mono B0.size)
  clear k1 B0
  go_wp2
  go_ret
  exact ⟨rfl, B1⟩

end Go.Proofs.YtemibefbkjpnaaaGreat
