/- Contracts of the cursor by which values are drawn. spec.Own, spec.Hops, walked. -/
import Derived.Test.YthgcbihhdbpbdaaGreatDoorRows
import Derived.WalkKit
import Derived.ProofKit
import Derived.OpenShut
import Derived.ShutString
import Derived.ChangeOld
import Derived.Below
import Derived.Deep.QuietTactic
import Derived.BigQuiet
import Derived.WalkSmall
import Derived.Laws.OwnMore
import Derived.WalkSpells
import Derived.WalkLawsBesides
import Derived.Test.YthgcbihhdbpbdaaGreatDoorM2
import Derived.Deep.Cut
import Derived.Test.YthgcbihhdbpbdaaGreatDoorKBr5s
import Derived.Test.YthgcbihhdbpbdaaGreatDoorM5
namespace Go.Proofs.YthgcbihhdbpbdaaGreatDoor
open Go.ChangeShapes Go.WideShapes Go.ChangeAt Go.RowKit
open Go.ChangeMaps (open_string shut_string)
set_option linter.unusedVariables false
set_option maxRecDepth 100000

theorem and255 (n : Int) : bits .and .i64 n 255 = n % 256 := by
  have h255 : (BitVec.ofInt 64 255).toNat = 2 ^ 8 - 1 := by decide
  have key : (BitVec.ofInt 64 n &&& BitVec.ofInt 64 255).toNat = (n % ((2 ^ 64 : Nat) : Int)).toNat % 2 ^ 8 := by
    rw [BitVec.toNat_and, BitVec.toNat_ofInt, h255, Nat.and_two_pow_sub_one_eq_mod]
  show IntKind.i64.wrap ((BitVec.ofInt 64 n &&& BitVec.ofInt 64 255).toNat : Nat) = n % 256
  rw [key, IntKind.wrap_i64]
  omega

/-- In the world w block cb is a cursor over the bytes at 'ad', 'len' of them. -/
def Cur (w : World) (cb : Nat) (ad : Option Addr) (len cap : Nat) : Prop :=
  ∃ i h : Int, 0 ≤ i ∧ i ≤ len ∧ w.heap[cb]? = some (.cells #[.slice ad len cap, .int .i64 i, .int .i64 h] 128 (0, 0))
theorem Cur.carry {w w' : World} {cb : Nat} {ad : Option Addr} {len cap : Nat} (h : Cur w cb ad len cap) (e : w'.heap[cb]? = w.heap[cb]?) : Cur w' cb ad len cap := by
  obtain ⟨i, h, a, b, c⟩ := h
  exact ⟨i, h, a, b, e.trans c⟩
theorem Cur.lt {w : World} {cb : Nat} {ad : Option Addr} {len cap : Nat} (h : Cur w cb ad len cap) : cb < w.heap.size := by
  obtain ⟨_, _, _, _, c⟩ := h
  exact (Array.getElem?_eq_some_iff.1 c).1
theorem grown_trans {a b c : World} {r : Option Nat} (h : a.grownBy b r) (k : b.grownBy c r) : a.grownBy c r :=
  ⟨k.os.trans h.os, k.tape.trans h.tape, k.output.trans h.output, Nat.le_trans h.size k.size, fun j hj hne => (k.block j (Nat.lt_of_lt_of_le hj h.size) hne).trans (h.block j hj hne)⟩
theorem grown_refl (a : World) (r : Option Nat) : a.grownBy a r := ⟨rfl, rfl, rfl, Nat.le_refl _, fun _ _ _ => rfl⟩
theorem grown_drewN {a b : World} {r : Option Nat} (h : a.grownBy b r) (n : Nat) : a.grownBy (b.drewN n) r := ⟨h.os, h.tape, h.output, h.size, h.block⟩
theorem grown_set {a b : World} {g : Nat} (h : a.grownBy b (some g)) (o : Nat) (v : Value) : a.grownBy (b.setCell ⟨g, o, none⟩ v) (some g) :=
  ⟨h.os, h.tape, h.output, by simpa using h.size, fun j hj hne => (Below.heap_setCell _ _ _ _ (fun e => hne (by rw [e]))).trans (h.block j hj hne)⟩

set_option maxHeartbeats 2000000 in
theorem drawByte (cb : Nat) (ad : Option Addr) (len cap : Nat) (f : Nat → Int) (w : World) (hc : Cur w cb ad len cap) (hv : View w ad len f) (hne : ∀ a, ad = some a → 0 < len → a.block ≠ cb) (hl : len ≤ 1048576) (hf : ∀ i, 0 ≤ f i ∧ f i ≤ 255) :
    Calls Tryz.prog 97 #[.pointer (some ⟨cb, 0, none⟩)] w fun e w' => ∃ x, e = .returned (.int .i64 x) ∧ 0 ≤ x ∧ x ≤ 255 ∧ Cur w' cb ad len cap ∧ w.grownBy w' (some cb) := by
  obtain ⟨i, h, hi0, hi1, hh⟩ := hc
  have hcell := fun j => cell_of_row w cb j _ _ _ hh
  have c0 : w.cell? ⟨cb, 0, none⟩ = some (.slice ad len cap) := by rw [hcell 0]; rfl
  have c1 : w.cell? ⟨cb, 1, none⟩ = some (.int .i64 i) := by rw [hcell 1]; rfl
  have c2 : w.cell? ⟨cb, 2, none⟩ = some (.int .i64 h) := by rw [hcell 2]; rfl
  have z1 : w.frozen? ⟨cb, 1, none⟩ = false := frozen_of_row w cb 1 _ _ hh
  have z2 : w.frozen? ⟨cb, 2, none⟩ = false := frozen_of_row w cb 2 _ _ hh
  clear hcell
  have h255 : ∀ n : Int, bits BinOp.and IntKind.i64 n 255 = n % 256 := and255
  by_cases hlt : i < len
  · obtain ⟨b, off, rfl, hcv⟩ := hv (by omega)
    have hbn : b ≠ cb := hne _ rfl (by omega)
    obtain ⟨k, rfl⟩ : ∃ k : Nat, i = k := ⟨i.toNat, by omega⟩
    have hck := hcv k (by omega)
    have hfk := hf k
    have hdl : decide ((k : Int) < (len : Int)) = true := by simp; omega
    go_enter Tryz.func97, Tryz.ntmps97
    go_wp2
    generalize wrap64 (wrap64 (h * 6364136223846793005) + 1442695040888963407) = h'
    have hh1 : (w.setCell ⟨cb, 2, none⟩ (.int .i64 h')).heap[cb]? = some (.cells #[.slice (some ⟨b, off, none⟩) len cap, .int .i64 k, .int .i64 h'] 128 (0, 0)) := heap_setCell_same w cb 2 _ _ _ hh
    have hg1 : w.grownBy (w.setCell ⟨cb, 2, none⟩ (.int .i64 h')) (some cb) := grown_set (grown_refl w _) 2 _
    have hk1 : (w.setCell ⟨cb, 2, none⟩ (.int .i64 h')).cell? ⟨b, off + k, none⟩ = some (.int .u8 (f k)) := by
      rw [World.cell?_setCell_other _ _ _ _ (fun e => hbn (by injection e with e1; exact e1.symm))]
      exact hck
    generalize w.setCell ⟨cb, 2, none⟩ (.int .i64 h') = w1 at *
    have d0 : w1.cell? ⟨cb, 0, none⟩ = some (.slice (some ⟨b, off, none⟩) len cap) := by rw [cell_of_row w1 cb 0 _ _ _ hh1]; rfl
    have d1 : w1.cell? ⟨cb, 1, none⟩ = some (.int .i64 k) := by rw [cell_of_row w1 cb 1 _ _ _ hh1]; rfl
    have d2 : w1.cell? ⟨cb, 2, none⟩ = some (.int .i64 h') := by rw [cell_of_row w1 cb 2 _ _ _ hh1]; rfl
    have y1 : w1.frozen? ⟨cb, 1, none⟩ = false := frozen_of_row w1 cb 1 _ _ hh1
    clear c0 c1 c2 z1 z2 hh hck hcv
    go_quiet (fail)
    go_wp2
    go_quiet (fail)
    go_wp2
    go_quiet (fail)
    go_wp2
    go_ret
    exact ⟨_, rfl, by omega, by omega, ⟨(k : Int) + 1, h', by omega, by omega, heap_setCell_same w1 cb 1 _ _ _ hh1⟩, grown_drewN (grown_set hg1 1 _) _⟩
  · have hdl : decide (i < (len : Int)) = false := by simp; omega
    go_enter Tryz.func97, Tryz.ntmps97
    go_wp2
    generalize wrap64 (wrap64 (h * 6364136223846793005) + 1442695040888963407) = h'
    have hh1 : (w.setCell ⟨cb, 2, none⟩ (.int .i64 h')).heap[cb]? = some (.cells #[.slice ad len cap, .int .i64 i, .int .i64 h'] 128 (0, 0)) := heap_setCell_same w cb 2 _ _ _ hh
    have hg1 : w.grownBy (w.setCell ⟨cb, 2, none⟩ (.int .i64 h')) (some cb) := grown_set (grown_refl w _) 2 _
    generalize w.setCell ⟨cb, 2, none⟩ (.int .i64 h') = w1 at *
    have d0 : w1.cell? ⟨cb, 0, none⟩ = some (.slice ad len cap) := by rw [cell_of_row w1 cb 0 _ _ _ hh1]; rfl
    have d1 : w1.cell? ⟨cb, 1, none⟩ = some (.int .i64 i) := by rw [cell_of_row w1 cb 1 _ _ _ hh1]; rfl
    have d2 : w1.cell? ⟨cb, 2, none⟩ = some (.int .i64 h') := by rw [cell_of_row w1 cb 2 _ _ _ hh1]; rfl
    clear c0 c1 c2 z1 z2 hh hv hne
    go_quiet (fail)
    go_wp2
    go_quiet (fail)
    go_wp2
    go_ret
    exact ⟨_, rfl, by omega, by omega, ⟨i, h', by omega, by omega, hh1⟩, grown_drewN (grown_drewN hg1 _) _⟩

/-- What all draws from a cursor ask. -/
structure Src (w : World) (cb : Nat) (ad : Option Addr) (len cap : Nat) (f : Nat → Int) : Prop where
  cur : Cur w cb ad len cap
  view : View w ad len f
  ne : ∀ a, ad = some a → 0 < len → a.block ≠ cb
  small : len ≤ 1048576
  bytes : ∀ i, 0 ≤ f i ∧ f i ≤ 255
theorem Src.grown {w w' : World} {cb : Nat} {ad : Option Addr} {len cap : Nat} {f : Nat → Int} (h : Src w cb ad len cap f) (hc : Cur w' cb ad len cap) (hg : w.grownBy w' (some cb)) : Src w' cb ad len cap f :=
  ⟨hc, h.view.carry (fun a e hp => hg.block _ (by obtain ⟨b, off, e2, hcv⟩ := h.view hp; have := World.block_lt_of_cell? w _ (hcv 0 hp); rw [e2] at e; cases e; exact this) (by have := h.ne a e hp; simpa using this)), h.ne, h.small, h.bytes⟩
theorem Src.later {w w' : World} {cb : Nat} {ad : Option Addr} {len cap : Nat} {f : Nat → Int} (h : Src w cb ad len cap f) (hb : Below w.heap.size w w') : Src w' cb ad len cap f :=
  ⟨h.cur.carry (hb.block _ h.cur.lt), h.view.carry (fun a e hp => hb.block _ (by obtain ⟨b, off, e2, hcv⟩ := h.view hp; have := World.block_lt_of_cell? w _ (hcv 0 hp); rw [e2] at e; cases e; exact this)), h.ne, h.small, h.bytes⟩

theorem drawByte' {cb : Nat} {ad : Option Addr} {len cap : Nat} {f : Nat → Int} {w : World} (hs : Src w cb ad len cap f) :
    Calls Tryz.prog 97 #[.pointer (some ⟨cb, 0, none⟩)] w fun e w' => ∃ x, e = .returned (.int .i64 x) ∧ 0 ≤ x ∧ x ≤ 255 ∧ Src w' cb ad len cap f ∧ w.grownBy w' (some cb) := by
  refine (drawByte cb ad len cap f w hs.cur hs.view hs.ne hs.small hs.bytes).mono ?_
  rintro e w' ⟨x, rfl, h0, h1, hc, hg⟩
  exact ⟨x, rfl, h0, h1, hs.grown hc hg, hg⟩

set_option maxHeartbeats 1000000 in
theorem drawBelow {cb : Nat} {ad : Option Addr} {len cap : Nat} {f : Nat → Int} {w : World} (hs : Src w cb ad len cap f) (n : Int) (h0 : 0 < n) (h1 : n ≤ 256) :
    Calls Tryz.prog 56 #[.pointer (some ⟨cb, 0, none⟩), .int .i64 n] w fun e w' => ∃ x, e = .returned (.int .i64 x) ∧ 0 ≤ x ∧ x < n ∧ Src w' cb ad len cap f ∧ w.grownBy w' (some cb) := by
  have hd0 : decide (n ≤ 0) = false := by simp; omega
  have hd1 : decide (n ≤ 256) = true := by simp; omega
  go_enter Tryz.func56, Tryz.ntmps56
  go_wp2_with fail
  go_at_call 97
  refine (drawByte' hs).mono ?_
  rintro e w' ⟨x, rfl, hx0, hx1, hs', hg⟩
  have hne : (n == 0) = false := by rw [beq_eq_false_iff_ne]; omega
  have hm0 := Int.emod_nonneg x (by omega : n ≠ 0)
  have hm1 := Int.emod_lt_of_pos x h0
  have htm : x.tmod n = x % n := Int.tmod_eq_emod_of_nonneg hx0
  go_wp2
  go_ret
  exact ⟨_, rfl, hm0, hm1, hs', hg⟩

theorem Cur.new {w : World} {ad : Option Addr} {len cap : Nat} {h : Int} : Cur (w.alloc (.cells #[.slice ad len cap, .int .i64 0, .int .i64 h] 128)) w.heap.size ad len cap :=
  ⟨0, h, by omega, by omega, heap_alloc_new w _⟩

set_option maxHeartbeats 1000000 in
theorem drawNew (ad : Option Addr) (len cap : Nat) (f : Nat → Int) (w : World) (hv : View w ad len f) (hB : ∀ a, ad = some a → 0 < len → a.block < w.heap.size) (hl : len ≤ 1048576) (hf : ∀ i, 0 ≤ f i ∧ f i ≤ 255) :
    Calls Tryz.prog 39 #[.slice ad len cap] w fun e w' => e = .returned (.pointer (some ⟨w.heap.size, 0, none⟩)) ∧ Src w' w.heap.size ad len cap f ∧ Below w.heap.size w w' ∧ w'.heap.size = w.heap.size + 1 := by
  go_enter Tryz.func39, Tryz.ntmps39
  go_wp2
  go_loop [3, 4] (fun x i => ∃ (k : Nat) (h : Int), k ≤ len ∧ i = .int .i64 k ∧ x = .int .i64 h) (fun _ i => len - (intOf i).toNat)
  case atStart => exact ⟨0, _, Nat.zero_le _, rfl, rfl⟩
  case round =>
    obtain ⟨k, h, hk, rfl, rfl⟩ := hrel
    by_cases hlt : k < len ∧ k < 4000
    · obtain ⟨b, off, rfl, hc⟩ := hv (by omega)
      have hck := hc k hlt.1
      have hfk := hf k
      have hd0 : decide ((k : Int) < (len : Int)) = true := by simp; omega
      have hd1 : decide ((k : Int) < 4000) = true := by simp; omega
      have hk1 : k < len := hlt.1
      clear hlt
      go_wp2
      go_round
      case rel => exact ⟨k + 1, _, by omega, by go_num, rfl⟩
      case measure => simp [intOf]; omega
    · have fin : ∀ h : Int, Src (w.alloc (.cells #[.slice ad len cap, .int .i64 0, .int .i64 h] 128)) w.heap.size ad len cap f := fun h =>
        ⟨Cur.new, hv.carry (fun a e hp => ((Below.refl w.heap.size w).alloc (Nat.le_refl _) _).block _ (hB a e hp)), fun a e hp => Nat.ne_of_lt (hB a e hp), hl, hf⟩
      by_cases hk2 : k < len
      · have hd0 : decide ((k : Int) < (len : Int)) = true := by simp; omega
        have hd1 : decide ((k : Int) < 4000) = false := by simp; omega
        clear hlt
        go_wp2
        go_ret
        exact ⟨rfl, fin h, (Below.refl _ _).alloc (Nat.le_refl _) _, by simp⟩
      · have hd0 : decide ((k : Int) < (len : Int)) = false := by simp; omega
        clear hlt
        go_wp2
        go_ret
        exact ⟨rfl, fin h, (Below.refl _ _).alloc (Nat.le_refl _) _, by simp⟩

set_option maxHeartbeats 1000000 in
theorem pickInt {cb : Nat} {ad : Option Addr} {len cap : Nat} {f : Nat → Int} {w : World} (hs : Src w cb ad len cap f) (b n c : Nat) (g : Nat → Int) (hb : b ≠ cb) (h0 : 0 < n) (h1 : n ≤ 256) (hg : ∀ i, i < n → w.cell? ⟨b, i, none⟩ = some (.int .i64 (g i))) :
    Calls Tryz.prog 47 #[.pointer (some ⟨cb, 0, none⟩), .slice (some ⟨b, 0, none⟩) n c] w fun e w' => ∃ i, i < n ∧ e = .returned (.int .i64 (g i)) ∧ Src w' cb ad len cap f ∧ w.grownBy w' (some cb) := by
  go_enter Tryz.func47, Tryz.ntmps47
  go_wp2_with fail
  go_at_call 56
  refine (drawBelow hs n (by omega) (by omega)).mono ?_
  rintro e w' ⟨x, rfl, hx0, hx1, hs', hgr⟩
  obtain ⟨i, rfl⟩ : ∃ i : Nat, x = i := ⟨x.toNat, by omega⟩
  have hi : i < n := by omega
  have hci : w'.cell? ⟨b, i, none⟩ = some (.int .i64 (g i)) := (World.cell?_of_block (a := ⟨b, i, none⟩) (hgr.block b (World.block_lt_of_cell? w _ (hg i hi)) (by simpa using hb))).trans (hg i hi)
  clear hg
  go_wp2
  go_ret
  exact ⟨i, hi, rfl, hs', hgr⟩


open Classical in
theorem pickIntP {cb : Nat} {ad : Option Addr} {len cap : Nat} {f : Nat → Int} {w : World} (hs : Src w cb ad len cap f) (P : Int → Prop) (b n c : Nat) (hb : b ≠ cb) (h0 : 0 < n) (h1 : n ≤ 256) (hg : ∀ i, i < n → ∃ y, w.cell? ⟨b, i, none⟩ = some (.int .i64 y) ∧ P y) :
    Calls Tryz.prog 47 #[.pointer (some ⟨cb, 0, none⟩), .slice (some ⟨b, 0, none⟩) n c] w fun e w' => ∃ y, e = .returned (.int .i64 y) ∧ P y ∧ Src w' cb ad len cap f ∧ w.grownBy w' (some cb) := by
  refine (pickInt hs b n c (fun i => if h : i < n then (hg i h).choose else 0) hb h0 h1 (fun i hi => by simp only [dif_pos hi]; exact (hg i hi).choose_spec.1)).mono ?_
  rintro e w' ⟨i, hi, rfl, hs', hgr⟩
  exact ⟨_, rfl, by simp only [dif_pos hi]; exact (hg i hi).choose_spec.2, hs', hgr⟩
theorem lit_at (w : World) (a : Array Value) (E i : Nat) {v : Value} (h : a[i]? = some v) : (w.alloc (.cells a E)).cell? ⟨w.heap.size, i, none⟩ = some v :=
  (cell_of_row _ w.heap.size i _ _ _ (heap_alloc_new w _)).trans h
theorem below_cb {B cb : Nat} {w w1 w2 : World} (h : Below B w w1) (hg : w1.grownBy w2 (some cb)) (h1 : B ≤ cb) (h2 : B ≤ w1.heap.size) : Below B w w2 :=
  h.grown hg h2 (fun k e => by cases e; exact h1)
/-- The code that a value is drawn of. -/
structure Code0 (w : World) (ad : Option Addr) (len : Nat) (f : Nat → Int) : Prop where
  view : View w ad len f
  lt : ∀ a, ad = some a → 0 < len → a.block < w.heap.size
  small : len ≤ 1048576
  bytes : ∀ i, 0 ≤ f i ∧ f i ≤ 255
theorem Code0.later {w w' : World} {ad : Option Addr} {len : Nat} {f : Nat → Int} (h : Code0 w ad len f) {B : Nat} (hb : Below B w w') (hB : w.heap.size ≤ B) : Code0 w' ad len f :=
  ⟨h.view.carry (fun a e hp => hb.block _ (Nat.lt_of_lt_of_le (h.lt a e hp) hB)), fun a e hp => Nat.lt_of_lt_of_le (h.lt a e hp) hb.size, h.small, h.bytes⟩

/-- A number that an int holds. -/
def InI (x : Int) : Prop := -9223372036854775808 ≤ x ∧ x ≤ 9223372036854775807


theorem drawOnce {cb : Nat} {ad : Option Addr} {len cap : Nat} {f : Nat → Int} {w : World} (hs : Src w cb ad len cap f) (n : Int) (h0 : 0 < n) (h1 : n ≤ 256) :
    Calls Tryz.prog 52 #[.pointer (some ⟨cb, 0, none⟩), .int .i64 n] w fun e w' => ∃ b : Bool, e = .returned (.bool b) ∧ Src w' cb ad len cap f ∧ w.grownBy w' (some cb) := by
  go_enter Tryz.func52, Tryz.ntmps52
  go_wp2_with fail
  go_at_call 56
  refine (drawBelow hs n h0 h1).mono ?_
  rintro e w' ⟨x, rfl, hx0, hx1, hs', hg⟩
  go_wp2
  go_ret
  exact ⟨_, rfl, hs', hg⟩


end Go.Proofs.YthgcbihhdbpbdaaGreatDoor
namespace Go.Proofs.YthgcbihhdbpbdaaGreatDoor
open Go.ChangeShapes Go.WideShapes Go.ChangeAt Go.RowKit
open Go.ChangeMaps (open_string shut_string)
set_option linter.unusedVariables false
set_option maxRecDepth 100000

set_option maxHeartbeats 4000000 in
theorem ownS (id : Int) (ad : Option Addr) (cap : Nat) (L : List Pt) (port : Int) (w : World) (hv : FView ptEnc w ad L) (hl : L.length ≤ 1048576) :
    Calls Tryz.prog 94 #[.agg #[.int .i64 id, .slice ad L.length cap], .int .i64 port] w fun e w' => e = .returned (.agg #[.int .i64 (ownR id L port).1, .int .i64 (ownR id L port).2.1, .int .i64 (ownR id L port).2.2.1, .int .i64 (ownR id L port).2.2.2]) ∧ Below w.heap.size w w' := by
  have hB := hv.lt ptEnc_len (by omega)
  obtain ⟨y, hy⟩ : ∃ y, y = (w.alloc (Obj.cells #[.int .i64 id, .slice ad L.length cap] 51)).alloc (Obj.cells #[.int .i64 0, .int .i64 0, .int .i64 0, .int .i64 0] 25) := ⟨_, rfl⟩
  have B0 : Below w.heap.size w y := by rw [hy]; exact ((Below.refl _ _).alloc (Nat.le_refl _) _).alloc (by simp) _
  have A0 : BrAt y w.heap.size id (.slice ad L.length cap) := by rw [hy]; constructor <;> simp [go_sem]
  have V0 : VBox y (w.heap.size + 1) 0 0 0 0 := by rw [hy]; refine ⟨?_, fun i => ?_⟩; (refine ⟨?_, ?_, ?_, ?_⟩ <;> simp [go_sem]); simp [go_sem]
  have S0 : w.heap.size + 1 < y.heap.size := V0.lt
  have hv1 := hv.below B0 hB
  have hB1 := hv1.lt ptEnc_len (by omega)
  obtain ⟨Y, hY⟩ : ∃ Y, Y = ownR id L port := ⟨_, rfl⟩
  rw [← hY]
  replace hY : Hid _ := hY
  go_enter Tryz.func94, Tryz.ntmps94
  go_wp2_with fail
  go_at_call 91
  rw [← hy]
  clear hy hv hB
  refine (bOkS id ad cap L y hv1 hl).mono ?_
  rintro e w1 ⟨rfl, k1⟩
  have B1 : Below w.heap.size w w1 := B0.trans (k1.mono B0.size)
  have A1 := A0.below k1 (by omega)
  have V1 := V0.below k1 (by omega)
  have S1 : w.heap.size + 1 < w1.heap.size := V1.lt
  have hv2 := hv1.below k1 hB1
  have hB2 := hv2.lt ptEnc_len (by omega)
  clear A0 V0 hv1 hB1 k1 B0 S0
  cases hb : bOk id L with
  | false =>
    have hN : Hid (Y = (0, 0, 0, 0)) := by unfold Hid; rw [hY.out]; unfold ownR; rw [hb]; rfl
    clear hY
    obtain ⟨⟨t0, t1, t2, t3⟩, tf⟩ := V1
    have BZ := B1.setCell (p := ⟨w.heap.size + 1, 0, none⟩) (by show _ ≤ w.heap.size + 1; omega) (.int .i64 0)
    have BZ := BZ.setCell (p := ⟨w.heap.size + 1, 1, none⟩) (by show _ ≤ w.heap.size + 1; omega) (.int .i64 0)
    have BZ := BZ.setCell (p := ⟨w.heap.size + 1, 2, none⟩) (by show _ ≤ w.heap.size + 1; omega) (.int .i64 0)
    have BZ := BZ.setCell (p := ⟨w.heap.size + 1, 3, none⟩) (by show _ ≤ w.heap.size + 1; omega) (.int .i64 0)
    go_wp2
    refine bodyPost_ret (v := .agg #[.int .i64 0, .int .i64 0, .int .i64 0, .int .i64 0]) (by simp [results, Tryz.results94, go_sem, *]) rfl ⟨by rw [hN.out], BZ⟩
  | true =>
    have hlen := (bOk_all hb).2.1
    by_cases hp : 0 ≤ port ∧ port < (L.length : Int)
    rotate_left
    · have hN : Hid (Y = (0, 0, 0, 0)) := by unfold Hid; rw [hY.out]; unfold ownR; rw [hb, decide_eq_false hp]; rfl
      have dp : decide (0 ≤ port ∧ port < (L.length : Int)) = false := decide_eq_false hp
      clear hY
      obtain ⟨a0, a1⟩ := A1
      replace hp : Hid _ := hp
      have es : decide (0 ≤ port ∧ port ≤ (L.length : Int) - 1) = decide (0 ≤ port ∧ port < (L.length : Int)) := decide_eq_decide.2 (by omega)
      go_wp2_with fail
      go_at_call 66
      refine (inB port 0 ((L.length : Int) - 1) w1).mono ?_
      rintro e w2 ⟨rfl, hw2⟩
      have kp : Below w1.heap.size w1 w2 := by rw [hw2]; exact Below.refl _ _
      rw [es]
      clear es hw2
      rw [dp]
      have B2 := B1.trans (kp.mono B1.size)
      have V2 := V1.below kp S1
      clear dp
      obtain ⟨⟨t0, t1, t2, t3⟩, tf⟩ := V2
      have BZ := B2.setCell (p := ⟨w.heap.size + 1, 0, none⟩) (by show _ ≤ w.heap.size + 1; omega) (.int .i64 0)
      have BZ := BZ.setCell (p := ⟨w.heap.size + 1, 1, none⟩) (by show _ ≤ w.heap.size + 1; omega) (.int .i64 0)
      have BZ := BZ.setCell (p := ⟨w.heap.size + 1, 2, none⟩) (by show _ ≤ w.heap.size + 1; omega) (.int .i64 0)
      have BZ := BZ.setCell (p := ⟨w.heap.size + 1, 3, none⟩) (by show _ ≤ w.heap.size + 1; omega) (.int .i64 0)
      go_wp2
      refine bodyPost_ret (v := .agg #[.int .i64 0, .int .i64 0, .int .i64 0, .int .i64 0]) (by simp [results, Tryz.results94, go_sem, *]) rfl ⟨by rw [hN.out], BZ⟩
    have dp : decide (0 ≤ port ∧ port < (L.length : Int)) = true := decide_eq_true hp
    have hN : Hid (Y = match rootO id L with
      | none => (id, 0, id, port)
      | some k => ((L.getD k Pt.nil).r, (L.getD k Pt.nil).c + 1, id, port)) := by unfold Hid; rw [hY.out]; unfold ownR; rw [hb, dp]; rfl
    clear hY
    replace hp : Hid _ := hp
    obtain ⟨a0, a1⟩ := A1
    have es : decide (0 ≤ port ∧ port ≤ (L.length : Int) - 1) = decide (0 ≤ port ∧ port < (L.length : Int)) := decide_eq_decide.2 (by omega)
    go_wp2_with fail
    go_at_call 66
    refine (inB port 0 ((L.length : Int) - 1) w1).mono ?_
    rintro e w2 ⟨rfl, hw2⟩
    have kp : Below w1.heap.size w1 w2 := by rw [hw2]; exact Below.refl _ _
    rw [es]
    clear es hw2
    rw [dp]
    have B2 := B1.trans (kp.mono B1.size)
    have A2 := BrAt.below ⟨a0, a1⟩ kp (by omega)
    have V2 := V1.below kp S1
    have S2 : w.heap.size + 1 < w2.heap.size := V2.lt
    have hv3 := hv2.below kp hB2
    have hB3 := hv3.lt ptEnc_len (by omega)
    clear dp a0 a1 kp V1 hv2 hB2 B1
    obtain ⟨a0, a1⟩ := A2
    go_wp2_with fail
    go_at_call 116
    refine (rootPS id ad cap L w2 hv3 hl).mono ?_
    rintro e w3 ⟨rfl, k3⟩
    have B3 := B2.trans (k3.mono B2.size)
    have A3 := BrAt.below ⟨a0, a1⟩ k3 (by omega)
    have V3 := V2.below k3 S2
    have S3 : w.heap.size + 1 < w3.heap.size := V3.lt
    have hv4 := hv3.below k3 hB3
    clear a0 a1 k3 V2 hv3 hB3 B2
    obtain ⟨a0, a1⟩ := A3
    obtain ⟨⟨t0, t1, t2, t3⟩, tf⟩ := V3
    cases hr : rootO id L with
    | none =>
      have hN2 : Hid (Y = (id, 0, id, port)) := by unfold Hid; rw [hN.out, hr]
      clear hN
      have BZ := B3.setCell (p := ⟨w.heap.size + 1, 0, none⟩) (by show _ ≤ w.heap.size + 1; omega) (.int .i64 id)
      have BZ := BZ.setCell (p := ⟨w.heap.size + 1, 1, none⟩) (by show _ ≤ w.heap.size + 1; omega) (.int .i64 0)
      have BZ := BZ.setCell (p := ⟨w.heap.size + 1, 2, none⟩) (by show _ ≤ w.heap.size + 1; omega) (.int .i64 id)
      have BZ := BZ.setCell (p := ⟨w.heap.size + 1, 3, none⟩) (by show _ ≤ w.heap.size + 1; omega) (.int .i64 port)
      simp only [oI, Option.isSome]
      go_wp2
      refine bodyPost_ret (v := .agg #[.int .i64 id, .int .i64 0, .int .i64 id, .int .i64 port]) (by simp [results, Tryz.results94, go_sem, *]) rfl ⟨by rw [hN2.out], BZ⟩
    | some k =>
      obtain ⟨_, hk, hcd⟩ := rootO_some hr
      obtain ⟨g, hg⟩ : ∃ g, L.getD k Pt.nil = g := ⟨_, rfl⟩
      have hN2 : Hid (Y = (g.r, g.c + 1, id, port)) := by unfold Hid; rw [hN.out, hr, ← hg]
      have hc20 : g.c < 20 := by
        rw [hg] at hcd
        simp only [cand, Bool.and_eq_true, decide_eq_true_eq] at hcd
        exact hcd.2.2.2.1
      have hc0 : 0 ≤ g.c := by
        rw [hg] at hcd
        simp only [cand, Bool.and_eq_true, decide_eq_true_eq] at hcd
        have h1 := (bOk_all hb).2.2 k
        rw [hg] at h1
        have h2 := (pOk_has h1 hcd.1).2.1
        simp only [vOk, decide_eq_true_eq] at h2
        omega
      obtain ⟨bk, off, rfl, _⟩ := hv4 (by omega)
      obtain ⟨c0, c1, c2, c3, c4, c5, c6, c7, c8, c9, c10⟩ : PtAtO w3 bk (off + k * 11) g := by rw [← hg]; exact ptAtO_of (hv4.at_ ptEnc_len Pt.nil hk)
      clear hN hg hcd hr hv4
      obtain ⟨y4, hy4⟩ : ∃ y_, y_ = w3.alloc (Obj.cells #[.int .i64 g.r, .int .i64 g.c, .int .i64 g.b, .int .i64 g.p] 25) := ⟨_, rfl⟩
      have kn : Below w3.heap.size w3 y4 := by rw [hy4]; exact below_new _
      have G4 : VecAt y4 w3.heap.size g.r g.c g.b g.p := by rw [hy4]; exact vecAt_box w3 _ _ _ _ _
      have A4 := BrAt.below ⟨a0, a1⟩ kn (by omega)
      have V4 := VBox.below ⟨⟨t0, t1, t2, t3⟩, tf⟩ kn (by omega)
      have B4 := B3.trans (kn.mono B3.size)
      simp only [oI, Option.isSome]
      go_upto_region 7 with fail
      rw [← hy4]
      clear hy4 a0 a1 t0 t1 t2 t3 tf kn c0 c1 c2 c3 c4 c5 c6 c7 c8 c9 c10
      generalize w3.heap.size = Q at S3 G4 ⊢
      obtain ⟨a0, a1⟩ := A4
      obtain ⟨⟨t0, t1, t2, t3⟩, tf⟩ := V4
      obtain ⟨g0, g1, g2, g3⟩ := G4
      have BZ := B4.setCell (p := ⟨w.heap.size + 1, 0, none⟩) (by show _ ≤ w.heap.size + 1; omega) (.int .i64 g.r)
      have BZ := BZ.setCell (p := ⟨w.heap.size + 1, 1, none⟩) (by show _ ≤ w.heap.size + 1; omega) (.int .i64 (g.c + 1))
      have BZ := BZ.setCell (p := ⟨w.heap.size + 1, 2, none⟩) (by show _ ≤ w.heap.size + 1; omega) (.int .i64 id)
      have BZ := BZ.setCell (p := ⟨w.heap.size + 1, 3, none⟩) (by show _ ≤ w.heap.size + 1; omega) (.int .i64 port)
      go_wp2
      refine bodyPost_ret (v := .agg #[.int .i64 g.r, .int .i64 (g.c + 1), .int .i64 id, .int .i64 port]) (by simp [results, Tryz.results94, go_sem, *]) rfl ⟨by rw [hN2.out], BZ⟩
set_option maxHeartbeats 2000000 in
theorem hopsS (id : Int) (ad : Option Addr) (cap : Nat) (L : List Pt) (w : World) (hv : FView ptEnc w ad L) (hl : L.length ≤ 1048576) :
    Calls Tryz.prog 95 #[.agg #[.int .i64 id, .slice ad L.length cap]] w fun e w' => e = .returned (.int .i64 (hopsR id L)) ∧ Below w.heap.size w w' := by
  have hB := hv.lt ptEnc_len (by omega)
  obtain ⟨y, hy⟩ : ∃ y, y = w.alloc (Obj.cells #[.int .i64 id, .slice ad L.length cap] 51) := ⟨_, rfl⟩
  have B0 : Below w.heap.size w y := by rw [hy]; exact below_new _
  have A0 : BrAt y w.heap.size id (.slice ad L.length cap) := by rw [hy]; exact BrAt.new w _ _ _
  have S0 := A0.lt
  have hv1 := hv.below B0 hB
  have hB1 := hv1.lt ptEnc_len (by omega)
  obtain ⟨Y, hY⟩ : ∃ Y, Y = hopsR id L := ⟨_, rfl⟩
  rw [← hY]
  replace hY : Hid _ := hY
  go_enter Tryz.func95, Tryz.ntmps95
  go_wp2_with fail
  go_at_call 116
  rw [← hy]
  clear hy hv hB
  refine (rootPS id ad cap L y hv1 hl).mono ?_
  rintro e w3 ⟨rfl, k3⟩
  have B3 := B0.trans (k3.mono B0.size)
  obtain ⟨a0, a1⟩ := A0.below k3 (by omega)
  have hv4 := hv1.below k3 hB1
  clear k3 hv1 hB1 A0
  cases hr : rootO id L with
  | none =>
    have hN2 : Hid (Y = 0) := by unfold Hid; rw [hY.out]; unfold hopsR; rw [hr]
    simp only [oI, Option.isSome]
    go_wp2
    go_ret
    exact ⟨by rw [hN2.out]; rfl, B3⟩
  | some k =>
    obtain ⟨hb, hk, hcd⟩ := rootO_some hr
    obtain ⟨g, hg⟩ : ∃ g, L.getD k Pt.nil = g := ⟨_, rfl⟩
    have hN2 : Hid (Y = g.h + 1) := by unfold Hid; rw [hY.out]; unfold hopsR; rw [hr, ← hg]
    have hlen := (bOk_all hb).2.1
    have hh8 : 0 ≤ g.h ∧ g.h < 8 := by
      rw [hg] at hcd
      simp only [cand, Bool.and_eq_true, decide_eq_true_eq] at hcd
      have h1 := (bOk_all hb).2.2 k
      rw [hg] at h1
      exact ⟨(pOk_has h1 hcd.1).2.2.1, hcd.2.2.2.2⟩
    obtain ⟨h0, h8⟩ := hh8
    obtain ⟨bk, off, rfl, _⟩ := hv4 (by omega)
    obtain ⟨c0, c1, c2, c3, c4, c5, c6, c7, c8, c9, c10⟩ : PtAtO w3 bk (off + k * 11) g := by rw [← hg]; exact ptAtO_of (hv4.at_ ptEnc_len Pt.nil hk)
    clear hY hg hcd hr hv4 hb
    simp only [oI, Option.isSome]
    go_wp2
    go_ret
    exact ⟨by rw [hN2.out]; rfl, B3⟩

end Go.Proofs.YthgcbihhdbpbdaaGreatDoor
