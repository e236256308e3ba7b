/- Contracts of the cursor by which values are drawn. -/
import Derived.Test.YtlgcjhebbmejaaaRows
import Derived.WalkKit
import Derived.ProofKit
import Derived.OpenShut
import Derived.ShutString
import Derived.ChangeOld
import Derived.Below
import Derived.Deep.QuietTactic
import Derived.BigQuiet
import Derived.WalkSmall
import Derived.Laws.OwnMore
import Derived.WalkSpells
import Derived.WalkLawsBesides
import Derived.Test.YtlgcjhebbmejaaaBase
namespace Go.Proofs.Ytlgcjhebbmejaaa
open Go.ChangeShapes Go.WideShapes Go.ChangeAt Go.RowKit
open Go.ChangeMaps (open_string shut_string)
set_option linter.unusedVariables false
set_option maxRecDepth 100000

theorem and255 (n : Int) : bits .and .i64 n 255 = n % 256 := by
  have h255 : (BitVec.ofInt 64 255).toNat = 2 ^ 8 - 1 := by decide
  have key : (BitVec.ofInt 64 n &&& BitVec.ofInt 64 255).toNat = (n % ((2 ^ 64 : Nat) : Int)).toNat % 2 ^ 8 := by
    rw [BitVec.toNat_and, BitVec.toNat_ofInt, h255, Nat.and_two_pow_sub_one_eq_mod]
  show IntKind.i64.wrap ((BitVec.ofInt 64 n &&& BitVec.ofInt 64 255).toNat : Nat) = n % 256
  rw [key, IntKind.wrap_i64]
  omega

/-- In the world w block cb is a cursor over the bytes at 'ad', 'len' of them. -/
def Cur (w : World) (cb : Nat) (ad : Option Addr) (len cap : Nat) : Prop :=
  ∃ i h : Int, 0 ≤ i ∧ i ≤ len ∧ w.heap[cb]? = some (.cells #[.slice ad len cap, .int .i64 i, .int .i64 h] 80 (0, 0))
theorem Cur.carry {w w' : World} {cb : Nat} {ad : Option Addr} {len cap : Nat} (h : Cur w cb ad len cap) (e : w'.heap[cb]? = w.heap[cb]?) : Cur w' cb ad len cap := by
  obtain ⟨i, h, a, b, c⟩ := h
  exact ⟨i, h, a, b, e.trans c⟩
theorem Cur.lt {w : World} {cb : Nat} {ad : Option Addr} {len cap : Nat} (h : Cur w cb ad len cap) : cb < w.heap.size := by
  obtain ⟨_, _, _, _, c⟩ := h
  exact (Array.getElem?_eq_some_iff.1 c).1
theorem cu_trans {a b c : World} {r : Option Nat} (h : a.grownBy b r) (k : b.grownBy c r) : a.grownBy c r :=
  ⟨k.os.trans h.os, k.tape.trans h.tape, k.output.trans h.output, Nat.le_trans h.size k.size, fun j hj hne => (k.block j (Nat.lt_of_lt_of_le hj h.size) hne).trans (h.block j hj hne)⟩
theorem grown_refl (a : World) (r : Option Nat) : a.grownBy a r := ⟨rfl, rfl, rfl, Nat.le_refl _, fun _ _ _ => rfl⟩
theorem grown_drewN {a b : World} {r : Option Nat} (h : a.grownBy b r) (n : Nat) : a.grownBy (b.drewN n) r := ⟨h.os, h.tape, h.output, h.size, h.block⟩
theorem cu_set {a b : World} {g : Nat} (h : a.grownBy b (some g)) (o : Nat) (v : Value) : a.grownBy (b.setCell ⟨g, o, none⟩ v) (some g) :=
  ⟨h.os, h.tape, h.output, by simpa using h.size, fun j hj hne => (Below.heap_setCell _ _ _ _ (fun e => hne (by rw [e]))).trans (h.block j hj hne)⟩

set_option maxHeartbeats 2000000 in
theorem drawByte (cb : Nat) (ad : Option Addr) (len cap : Nat) (f : Nat → Int) (w : World) (hc : Cur w cb ad len cap) (hv : View w ad len f) (hne : ∀ a, ad = some a → 0 < len → a.block ≠ cb) (hl : len ≤ 1048576) (hf : ∀ i, 0 ≤ f i ∧ f i ≤ 255) :
    Calls Try.prog 60 #[.pointer (some ⟨cb, 0, none⟩)] w fun e w' => ∃ x, e = .returned (.int .i64 x) ∧ 0 ≤ x ∧ x ≤ 255 ∧ Cur w' cb ad len cap ∧ w.grownBy w' (some cb) := by
  obtain ⟨i, h, hi0, hi1, hh⟩ := hc
  have hcell := fun j => cell_of_row w cb j _ _ _ hh
  have c0 : w.cell? ⟨cb, 0, none⟩ = some (.slice ad len cap) := by rw [hcell 0]; rfl
  have c1 : w.cell? ⟨cb, 1, none⟩ = some (.int .i64 i) := by rw [hcell 1]; rfl
  have c2 : w.cell? ⟨cb, 2, none⟩ = some (.int .i64 h) := by rw [hcell 2]; rfl
  have z1 : w.frozen? ⟨cb, 1, none⟩ = false := frozen_of_row w cb 1 _ _ hh
  have z2 : w.frozen? ⟨cb, 2, none⟩ = false := frozen_of_row w cb 2 _ _ hh
  clear hcell
  have h255 : ∀ n : Int, bits BinOp.and IntKind.i64 n 255 = n % 256 := and255
  by_cases hlt : i < len
  · obtain ⟨b, off, rfl, hcv⟩ := hv (by omega)
    have hbn : b ≠ cb := hne _ rfl (by omega)
    obtain ⟨k, rfl⟩ : ∃ k : Nat, i = k := ⟨i.toNat, by omega⟩
    have hck := hcv k (by omega)
    have hfk := hf k
    have hdl : decide ((k : Int) < (len : Int)) = true := by simp; omega
    go_enter Try.func60, Try.ntmps60
    go_wp2
    generalize wrap64 (wrap64 (h * 6364136223846793005) + 1442695040888963407) = h'
    have hh1 : (w.setCell ⟨cb, 2, none⟩ (.int .i64 h')).heap[cb]? = some (.cells #[.slice (some ⟨b, off, none⟩) len cap, .int .i64 k, .int .i64 h'] 80 (0, 0)) := heap_setCell_same w cb 2 _ _ _ hh
    have hg1 : w.grownBy (w.setCell ⟨cb, 2, none⟩ (.int .i64 h')) (some cb) := cu_set (grown_refl w _) 2 _
    have hk1 : (w.setCell ⟨cb, 2, none⟩ (.int .i64 h')).cell? ⟨b, off + k, none⟩ = some (.int .u8 (f k)) := by
      rw [World.cell?_setCell_other _ _ _ _ (fun e => hbn (by injection e with e1; exact e1.symm))]
      exact hck
    generalize w.setCell ⟨cb, 2, none⟩ (.int .i64 h') = w1 at *
    have d0 : w1.cell? ⟨cb, 0, none⟩ = some (.slice (some ⟨b, off, none⟩) len cap) := by rw [cell_of_row w1 cb 0 _ _ _ hh1]; rfl
    have d1 : w1.cell? ⟨cb, 1, none⟩ = some (.int .i64 k) := by rw [cell_of_row w1 cb 1 _ _ _ hh1]; rfl
    have d2 : w1.cell? ⟨cb, 2, none⟩ = some (.int .i64 h') := by rw [cell_of_row w1 cb 2 _ _ _ hh1]; rfl
    have y1 : w1.frozen? ⟨cb, 1, none⟩ = false := frozen_of_row w1 cb 1 _ _ hh1
    clear c0 c1 c2 z1 z2 hh hck hcv
    go_quiet (fail)
    go_wp2
    go_quiet (fail)
    go_wp2
    go_quiet (fail)
    go_wp2
    go_ret
    exact ⟨_, rfl, by omega, by omega, ⟨(k : Int) + 1, h', by omega, by omega, heap_setCell_same w1 cb 1 _ _ _ hh1⟩, grown_drewN (cu_set hg1 1 _) _⟩
  · have hdl : decide (i < (len : Int)) = false := by simp; omega
    go_enter Try.func60, Try.ntmps60
    go_wp2
    generalize wrap64 (wrap64 (h * 6364136223846793005) + 1442695040888963407) = h'
    have hh1 : (w.setCell ⟨cb, 2, none⟩ (.int .i64 h')).heap[cb]? = some (.cells #[.slice ad len cap, .int .i64 i, .int .i64 h'] 80 (0, 0)) := heap_setCell_same w cb 2 _ _ _ hh
    have hg1 : w.grownBy (w.setCell ⟨cb, 2, none⟩ (.int .i64 h')) (some cb) := cu_set (grown_refl w _) 2 _
    generalize w.setCell ⟨cb, 2, none⟩ (.int .i64 h') = w1 at *
    have d0 : w1.cell? ⟨cb, 0, none⟩ = some (.slice ad len cap) := by rw [cell_of_row w1 cb 0 _ _ _ hh1]; rfl
    have d1 : w1.cell? ⟨cb, 1, none⟩ = some (.int .i64 i) := by rw [cell_of_row w1 cb 1 _ _ _ hh1]; rfl
    have d2 : w1.cell? ⟨cb, 2, none⟩ = some (.int .i64 h') := by rw [cell_of_row w1 cb 2 _ _ _ hh1]; rfl
    clear c0 c1 c2 z1 z2 hh hv hne
    go_quiet (fail)
    go_wp2
    go_quiet (fail)
    go_wp2
    go_ret
    exact ⟨_, rfl, by omega, by omega, ⟨i, h', by omega, by omega, hh1⟩, grown_drewN (grown_drewN hg1 _) _⟩

/-- What all draws from a cursor ask. -/
structure Src (w : World) (cb : Nat) (ad : Option Addr) (len cap : Nat) (f : Nat → Int) : Prop where
  cur : Cur w cb ad len cap
  view : View w ad len f
  ne : ∀ a, ad = some a → 0 < len → a.block ≠ cb
  small : len ≤ 1048576
  bytes : ∀ i, 0 ≤ f i ∧ f i ≤ 255
theorem Src.grown {w w' : World} {cb : Nat} {ad : Option Addr} {len cap : Nat} {f : Nat → Int} (h : Src w cb ad len cap f) (hc : Cur w' cb ad len cap) (hg : w.grownBy w' (some cb)) : Src w' cb ad len cap f :=
  ⟨hc, h.view.carry (fun a e hp => hg.block _ (by obtain ⟨b, off, e2, hcv⟩ := h.view hp; have := World.block_lt_of_cell? w _ (hcv 0 hp); rw [e2] at e; cases e; exact this) (by have := h.ne a e hp; simpa using this)), h.ne, h.small, h.bytes⟩
theorem Src.later {w w' : World} {cb : Nat} {ad : Option Addr} {len cap : Nat} {f : Nat → Int} (h : Src w cb ad len cap f) (hb : Below w.heap.size w w') : Src w' cb ad len cap f :=
  ⟨h.cur.carry (hb.block _ h.cur.lt), h.view.carry (fun a e hp => hb.block _ (by obtain ⟨b, off, e2, hcv⟩ := h.view hp; have := World.block_lt_of_cell? w _ (hcv 0 hp); rw [e2] at e; cases e; exact this)), h.ne, h.small, h.bytes⟩

theorem drawByte' {cb : Nat} {ad : Option Addr} {len cap : Nat} {f : Nat → Int} {w : World} (hs : Src w cb ad len cap f) :
    Calls Try.prog 60 #[.pointer (some ⟨cb, 0, none⟩)] w fun e w' => ∃ x, e = .returned (.int .i64 x) ∧ 0 ≤ x ∧ x ≤ 255 ∧ Src w' cb ad len cap f ∧ w.grownBy w' (some cb) := by
  refine (drawByte cb ad len cap f w hs.cur hs.view hs.ne hs.small hs.bytes).mono ?_
  rintro e w' ⟨x, rfl, h0, h1, hc, hg⟩
  exact ⟨x, rfl, h0, h1, hs.grown hc hg, hg⟩

set_option maxHeartbeats 1000000 in
theorem drawBelow {cb : Nat} {ad : Option Addr} {len cap : Nat} {f : Nat → Int} {w : World} (hs : Src w cb ad len cap f) (n : Int) (h0 : 0 < n) (h1 : n ≤ 256) :
    Calls Try.prog 38 #[.pointer (some ⟨cb, 0, none⟩), .int .i64 n] w fun e w' => ∃ x, e = .returned (.int .i64 x) ∧ 0 ≤ x ∧ x < n ∧ Src w' cb ad len cap f ∧ w.grownBy w' (some cb) := by
  have hd0 : decide (n ≤ 0) = false := by simp; omega
  have hd1 : decide (n ≤ 256) = true := by simp; omega
  go_enter Try.func38, Try.ntmps38
  go_wp2_with fail
  go_at_call 60
  refine (drawByte' hs).mono ?_
  rintro e w' ⟨x, rfl, hx0, hx1, hs', hg⟩
  have hne : (n == 0) = false := by rw [beq_eq_false_iff_ne]; omega
  have hm0 := Int.emod_nonneg x (by omega : n ≠ 0)
  have hm1 := Int.emod_lt_of_pos x h0
  have htm : x.tmod n = x % n := Int.tmod_eq_emod_of_nonneg hx0
  go_wp2
  go_ret
  exact ⟨_, rfl, hm0, hm1, hs', hg⟩

theorem Cur.new {w : World} {ad : Option Addr} {len cap : Nat} {h : Int} : Cur (w.alloc (.cells #[.slice ad len cap, .int .i64 0, .int .i64 h] 80)) w.heap.size ad len cap :=
  ⟨0, h, by omega, by omega, heap_alloc_new w _⟩

set_option maxHeartbeats 1000000 in
theorem drawNew (ad : Option Addr) (len cap : Nat) (f : Nat → Int) (w : World) (hv : View w ad len f) (hB : ∀ a, ad = some a → 0 < len → a.block < w.heap.size) (hl : len ≤ 1048576) (hf : ∀ i, 0 ≤ f i ∧ f i ≤ 255) :
    Calls Try.prog 34 #[.slice ad len cap] w fun e w' => e = .returned (.pointer (some ⟨w.heap.size, 0, none⟩)) ∧ Src w' w.heap.size ad len cap f ∧ Below w.heap.size w w' ∧ w'.heap.size = w.heap.size + 1 := by
  go_enter Try.func34, Try.ntmps34
  go_wp2
  go_loop [3, 4] (fun x i => ∃ (k : Nat) (h : Int), k ≤ len ∧ i = .int .i64 k ∧ x = .int .i64 h) (fun _ i => len - (intOf i).toNat)
  case atStart => exact ⟨0, _, Nat.zero_le _, rfl, rfl⟩
  case round =>
    obtain ⟨k, h, hk, rfl, rfl⟩ := hrel
    by_cases hlt : k < len ∧ k < 4000
    · obtain ⟨b, off, rfl, hc⟩ := hv (by omega)
      have hck := hc k hlt.1
      have hfk := hf k
      have hd0 : decide ((k : Int) < (len : Int)) = true := by simp; omega
      have hd1 : decide ((k : Int) < 4000) = true := by simp; omega
      have hk1 : k < len := hlt.1
      clear hlt
      go_wp2
      go_round
      case rel => exact ⟨k + 1, _, by omega, by go_num, rfl⟩
      case measure => simp [intOf]; omega
    · have fin : ∀ h : Int, Src (w.alloc (.cells #[.slice ad len cap, .int .i64 0, .int .i64 h] 80)) w.heap.size ad len cap f := fun h =>
        ⟨Cur.new, hv.carry (fun a e hp => ((Below.refl w.heap.size w).alloc (Nat.le_refl _) _).block _ (hB a e hp)), fun a e hp => Nat.ne_of_lt (hB a e hp), hl, hf⟩
      by_cases hk2 : k < len
      · have hd0 : decide ((k : Int) < (len : Int)) = true := by simp; omega
        have hd1 : decide ((k : Int) < 4000) = false := by simp; omega
        clear hlt
        go_wp2
        go_ret
        exact ⟨rfl, fin h, (Below.refl _ _).alloc (Nat.le_refl _) _, by simp⟩
      · have hd0 : decide ((k : Int) < (len : Int)) = false := by simp; omega
        clear hlt
        go_wp2
        go_ret
        exact ⟨rfl, fin h, (Below.refl _ _).alloc (Nat.le_refl _) _, by simp⟩

set_option maxHeartbeats 1000000 in
theorem pickInt {cb : Nat} {ad : Option Addr} {len cap : Nat} {f : Nat → Int} {w : World} (hs : Src w cb ad len cap f) (b n c : Nat) (g : Nat → Int) (hb : b ≠ cb) (h0 : 0 < n) (h1 : n ≤ 256) (hg : ∀ i, i < n → w.cell? ⟨b, i, none⟩ = some (.int .i64 (g i))) :
    Calls Try.prog 39 #[.pointer (some ⟨cb, 0, none⟩), .slice (some ⟨b, 0, none⟩) n c] w fun e w' => ∃ i, i < n ∧ e = .returned (.int .i64 (g i)) ∧ Src w' cb ad len cap f ∧ w.grownBy w' (some cb) := by
  go_enter Try.func39, Try.ntmps39
  go_wp2_with fail
  go_at_call 38
  refine (drawBelow hs n (by omega) (by omega)).mono ?_
  rintro e w' ⟨x, rfl, hx0, hx1, hs', hgr⟩
  obtain ⟨i, rfl⟩ : ∃ i : Nat, x = i := ⟨x.toNat, by omega⟩
  have hi : i < n := by omega
  have hci : w'.cell? ⟨b, i, none⟩ = some (.int .i64 (g i)) := (World.cell?_of_block (a := ⟨b, i, none⟩) (hgr.block b (World.block_lt_of_cell? w _ (hg i hi)) (by simpa using hb))).trans (hg i hi)
  clear hg
  go_wp2
  go_ret
  exact ⟨i, hi, rfl, hs', hgr⟩


open Classical in
theorem pickIntP {cb : Nat} {ad : Option Addr} {len cap : Nat} {f : Nat → Int} {w : World} (hs : Src w cb ad len cap f) (P : Int → Prop) (b n c : Nat) (hb : b ≠ cb) (h0 : 0 < n) (h1 : n ≤ 256) (hg : ∀ i, i < n → ∃ y, w.cell? ⟨b, i, none⟩ = some (.int .i64 y) ∧ P y) :
    Calls Try.prog 39 #[.pointer (some ⟨cb, 0, none⟩), .slice (some ⟨b, 0, none⟩) n c] w fun e w' => ∃ y, e = .returned (.int .i64 y) ∧ P y ∧ Src w' cb ad len cap f ∧ w.grownBy w' (some cb) := by
  refine (pickInt hs b n c (fun i => if h : i < n then (hg i h).choose else 0) hb h0 h1 (fun i hi => by simp only [dif_pos hi]; exact (hg i hi).choose_spec.1)).mono ?_
  rintro e w' ⟨i, hi, rfl, hs', hgr⟩
  exact ⟨_, rfl, by simp only [dif_pos hi]; exact (hg i hi).choose_spec.2, hs', hgr⟩
theorem lit_at (w : World) (a : Array Value) (E i : Nat) {v : Value} (h : a[i]? = some v) : (w.alloc (.cells a E)).cell? ⟨w.heap.size, i, none⟩ = some v :=
  (cell_of_row _ w.heap.size i _ _ _ (heap_alloc_new w _)).trans h
theorem below_cb {B cb : Nat} {w w1 w2 : World} (h : Below B w w1) (hg : w1.grownBy w2 (some cb)) (h1 : B ≤ cb) (h2 : B ≤ w1.heap.size) : Below B w w2 :=
  h.grown hg h2 (fun k e => by cases e; exact h1)
/-- The code that a value is drawn of. -/
structure Code0 (w : World) (ad : Option Addr) (len : Nat) (f : Nat → Int) : Prop where
  view : View w ad len f
  lt : ∀ a, ad = some a → 0 < len → a.block < w.heap.size
  small : len ≤ 1048576
  bytes : ∀ i, 0 ≤ f i ∧ f i ≤ 255
theorem Code0.later {w w' : World} {ad : Option Addr} {len : Nat} {f : Nat → Int} (h : Code0 w ad len f) {B : Nat} (hb : Below B w w') (hB : w.heap.size ≤ B) : Code0 w' ad len f :=
  ⟨h.view.carry (fun a e hp => hb.block _ (Nat.lt_of_lt_of_le (h.lt a e hp) hB)), fun a e hp => Nat.lt_of_lt_of_le (h.lt a e hp) hb.size, h.small, h.bytes⟩

/-- A number that an int holds. -/
def InI (x : Int) : Prop := -9223372036854775808 ≤ x ∧ x ≤ 9223372036854775807


theorem drawOnce {cb : Nat} {ad : Option Addr} {len cap : Nat} {f : Nat → Int} {w : World} (hs : Src w cb ad len cap f) (n : Int) (h0 : 0 < n) (h1 : n ≤ 256) :
    Calls Try.prog 55 #[.pointer (some ⟨cb, 0, none⟩), .int .i64 n] w fun e w' => ∃ b : Bool, e = .returned (.bool b) ∧ Src w' cb ad len cap f ∧ w.grownBy w' (some cb) := by
  go_enter Try.func55, Try.ntmps55
  go_wp2_with fail
  go_at_call 38
  refine (drawBelow hs n h0 h1).mono ?_
  rintro e w' ⟨x, rfl, hx0, hx1, hs', hg⟩
  go_wp2
  go_ret
  exact ⟨_, rfl, hs', hg⟩


end Go.Proofs.Ytlgcjhebbmejaaa
