/- What is drawn for chapter 1. -/
import Derived.Test.YtpddgladbodkbaaDoorRows
import Derived.WalkKit
import Derived.ProofKit
import Derived.OpenShut
import Derived.ShutString
import Derived.ChangeOld
import Derived.Below
import Derived.Deep.QuietTactic
import Derived.BigQuiet
import Derived.WalkSmall
import Derived.Laws.OwnMore
import Derived.WalkSpells
import Derived.WalkLawsBesides
import Derived.Test.YtpddgladbodkbaaDoorCur
import Derived.Test.YtpddgladbodkbaaDoorPut
namespace Go.Proofs.YtpddgladbodkbaaDoor
open Go.ChangeShapes Go.WideShapes Go.ChangeAt Go.RowKit
open Go.ChangeMaps (open_string shut_string)
set_option linter.unusedVariables false

open Classical in
theorem pickIntP {cb : Nat} {ad : Option Addr} {len cap : Nat} {f : Nat → Int} {w : World} (hs : Src w cb ad len cap f) (P : Int → Prop) (b n c : Nat) (hb : b ≠ cb) (h0 : 0 < n) (h1 : n ≤ 256) (hg : ∀ i, i < n → ∃ y, w.cell? ⟨b, i, none⟩ = some (.int .i64 y) ∧ P y) :
    Calls Tryd.prog 32 #[.pointer (some ⟨cb, 0, none⟩), .slice (some ⟨b, 0, none⟩) n c] w fun e w' => ∃ y, e = .returned (.int .i64 y) ∧ P y ∧ Src w' cb ad len cap f ∧ w.grownBy w' (some cb) := by
  refine (pickInt hs b n c (fun i => if h : i < n then (hg i h).choose else 0) hb h0 h1 (fun i hi => by simp only [dif_pos hi]; exact (hg i hi).choose_spec.1)).mono ?_
  rintro e w' ⟨i, hi, rfl, hs', hgr⟩
  exact ⟨_, rfl, by simp only [dif_pos hi]; exact (hg i hi).choose_spec.2, hs', hgr⟩
open Classical in
theorem pickStrP {cb : Nat} {ad : Option Addr} {len cap : Nat} {f : Nat → Int} {w : World} (hs : Src w cb ad len cap f) (P : ByteArray → Prop) (b n c : Nat) (hb : b ≠ cb) (h0 : 0 < n) (h1 : n ≤ 256) (hg : ∀ i, i < n → ∃ y, w.cell? ⟨b, i, none⟩ = some (.string y) ∧ P y) :
    Calls Tryd.prog 34 #[.pointer (some ⟨cb, 0, none⟩), .slice (some ⟨b, 0, none⟩) n c] w fun e w' => ∃ y, e = .returned (.string y) ∧ P y ∧ Src w' cb ad len cap f ∧ w.grownBy w' (some cb) := by
  refine (pickStr hs b n c (fun i => if h : i < n then (hg i h).choose else ByteArray.empty) hb h0 h1 (fun i hi => by simp only [dif_pos hi]; exact (hg i hi).choose_spec.1)).mono ?_
  rintro e w' ⟨i, hi, rfl, hs', hgr⟩
  exact ⟨_, rfl, by simp only [dif_pos hi]; exact (hg i hi).choose_spec.2, hs', hgr⟩
theorem lit_at (w : World) (a : Array Value) (E i : Nat) {v : Value} (h : a[i]? = some v) : (w.alloc (.cells a E)).cell? ⟨w.heap.size, i, none⟩ = some v :=
  (cell_of_row _ w.heap.size i _ _ _ (heap_alloc_new w _)).trans h
theorem below_cb {B cb : Nat} {w w1 w2 : World} (h : Below B w w1) (hg : w1.grownBy w2 (some cb)) (h1 : B ≤ cb) (h2 : B ≤ w1.heap.size) : Below B w w2 :=
  h.grown hg h2 (fun k e => by cases e; exact h1)
/-- The code that a value is drawn of. -/
structure Code0 (w : World) (ad : Option Addr) (len : Nat) (f : Nat → Int) : Prop where
  view : View w ad len f
  lt : ∀ a, ad = some a → 0 < len → a.block < w.heap.size
  small : len ≤ 1048576
  bytes : ∀ i, 0 ≤ f i ∧ f i ≤ 255
theorem Code0.later {w w' : World} {ad : Option Addr} {len : Nat} {f : Nat → Int} (h : Code0 w ad len f) {B : Nat} (hb : Below B w w') (hB : w.heap.size ≤ B) : Code0 w' ad len f :=
  ⟨h.view.carry (fun a e hp => hb.block _ (Nat.lt_of_lt_of_le (h.lt a e hp) hB)), fun a e hp => Nat.lt_of_lt_of_le (h.lt a e hp) hb.size, h.small, h.bytes⟩

/-- A number that an int holds. -/
def InI (x : Int) : Prop := -9223372036854775808 ≤ x ∧ x ≤ 9223372036854775807

theorem drawPut {w : World} {ad : Option Addr} {len cap : Nat} {f : Nat → Int} (h : Code0 w ad len f) :
    Calls Tryd.prog 9 #[.slice ad len cap] w fun e w' => ∃ x, e = .returned (.int .i64 x) ∧ InI x ∧ Below w.heap.size w w' := by
  go_enter Tryd.func9, Tryd.ntmps9
  go_wp2_with fail
  go_at_call 33
  refine (drawNew ad len cap f w h.view h.lt h.small h.bytes).mono ?_
  rintro e w1 ⟨rfl, hs, hb, hz0⟩
  have hz : w.heap.size < w1.heap.size := by omega
  clear hz0
  have hLhlit := hs.later (w' := w1.alloc (.cells #[.int .i64 (0), .int .i64 (1), .int .i64 (127), .int .i64 (128), .int .i64 (300), .int .i64 (16384), .int .i64 (2147483647), .int .i64 (2147483648), .int .i64 (-1), .int .i64 (9223372036854775807)] 3)) ((Below.refl _ _).alloc (Nat.le_refl _) _)
  have hlit : ∀ i, i < 10 → ∃ y, (w1.alloc (.cells #[.int .i64 (0), .int .i64 (1), .int .i64 (127), .int .i64 (128), .int .i64 (300), .int .i64 (16384), .int .i64 (2147483647), .int .i64 (2147483648), .int .i64 (-1), .int .i64 (9223372036854775807)] 3)).cell? ⟨w1.heap.size, i, none⟩ = some (.int .i64 y) ∧ InI y := by
    intro i hi
    have hc : i = 0 ∨ i = 1 ∨ i = 2 ∨ i = 3 ∨ i = 4 ∨ i = 5 ∨ i = 6 ∨ i = 7 ∨ i = 8 ∨ i = 9 := by omega
    rcases hc with rfl | rfl | rfl | rfl | rfl | rfl | rfl | rfl | rfl | rfl <;> exact ⟨_, lit_at w1 _ _ _ rfl, by constructor <;> decide⟩
  go_wp2_with fail
  go_at_call 32
  refine (pickIntP hLhlit InI w1.heap.size 10 10 (by omega) (by omega) (by omega) hlit).mono ?_
  rintro e w2 ⟨x, rfl, hx, hs2, hg⟩
  have hbb := below_cb (hb.alloc (by omega) _) hg (Nat.le_refl _) (by simp; omega)
  clear hlit hLhlit hg hs2 hs
  go_wp2
  go_ret
  exact ⟨x, rfl, hx, hbb⟩

theorem drawDig {w : World} {ad : Option Addr} {len cap : Nat} {f : Nat → Int} (h : Code0 w ad len f) :
    Calls Tryd.prog 11 #[.slice ad len cap] w fun e w' => ∃ x, e = .returned (.int .i64 x) ∧ InI x ∧ Below w.heap.size w w' := by
  go_enter Tryd.func11, Tryd.ntmps11
  go_wp2_with fail
  go_at_call 33
  refine (drawNew ad len cap f w h.view h.lt h.small h.bytes).mono ?_
  rintro e w1 ⟨rfl, hs, hb, hz0⟩
  have hz : w.heap.size < w1.heap.size := by omega
  clear hz0
  have hLhlit := hs.later (w' := w1.alloc (.cells #[.int .i64 (0), .int .i64 (7), .int .i64 (-12), .int .i64 (100000), .int .i64 (9223372036854775807), .int .i64 (-9223372036854775808)] 3)) ((Below.refl _ _).alloc (Nat.le_refl _) _)
  have hlit : ∀ i, i < 6 → ∃ y, (w1.alloc (.cells #[.int .i64 (0), .int .i64 (7), .int .i64 (-12), .int .i64 (100000), .int .i64 (9223372036854775807), .int .i64 (-9223372036854775808)] 3)).cell? ⟨w1.heap.size, i, none⟩ = some (.int .i64 y) ∧ InI y := by
    intro i hi
    have hc : i = 0 ∨ i = 1 ∨ i = 2 ∨ i = 3 ∨ i = 4 ∨ i = 5 := by omega
    rcases hc with rfl | rfl | rfl | rfl | rfl | rfl <;> exact ⟨_, lit_at w1 _ _ _ rfl, by constructor <;> decide⟩
  go_wp2_with fail
  go_at_call 32
  refine (pickIntP hLhlit InI w1.heap.size 6 6 (by omega) (by omega) (by omega) hlit).mono ?_
  rintro e w2 ⟨x, rfl, hx, hs2, hg⟩
  have hbb := below_cb (hb.alloc (by omega) _) hg (Nat.le_refl _) (by simp; omega)
  clear hlit hLhlit hg hs2 hs
  go_wp2
  go_ret
  exact ⟨x, rfl, hx, hbb⟩

theorem drawNum {w : World} {ad : Option Addr} {len cap : Nat} {f : Nat → Int} (h : Code0 w ad len f) :
    Calls Tryd.prog 12 #[.slice ad len cap] w fun e w' => ∃ x : ByteArray, e = .returned (.string x) ∧ x.size ≤ 100 ∧ Below w.heap.size w w' := by
  go_enter Tryd.func12, Tryd.ntmps12
  go_wp2_with fail
  go_at_call 33
  refine (drawNew ad len cap f w h.view h.lt h.small h.bytes).mono ?_
  rintro e w1 ⟨rfl, hs, hb, hz0⟩
  have hz : w.heap.size < w1.heap.size := by omega
  clear hz0
  have hLhlit := hs.later (w' := w1.alloc (.cells #[.string ⟨#[48]⟩, .string ⟨#[55]⟩, .string ⟨#[57, 57, 57, 57, 57, 57]⟩, .string ⟨#[49, 48, 48, 48, 48, 48, 48]⟩, .string ⟨#[48, 49]⟩, .string ⟨#[]⟩, .string ⟨#[45, 49]⟩, .string ⟨#[120]⟩, .string ⟨#[49, 50, 97]⟩] 9)) ((Below.refl _ _).alloc (Nat.le_refl _) _)
  have hlit : ∀ i, i < 9 → ∃ y : ByteArray, (w1.alloc (.cells #[.string ⟨#[48]⟩, .string ⟨#[55]⟩, .string ⟨#[57, 57, 57, 57, 57, 57]⟩, .string ⟨#[49, 48, 48, 48, 48, 48, 48]⟩, .string ⟨#[48, 49]⟩, .string ⟨#[]⟩, .string ⟨#[45, 49]⟩, .string ⟨#[120]⟩, .string ⟨#[49, 50, 97]⟩] 9)).cell? ⟨w1.heap.size, i, none⟩ = some (.string y) ∧ y.size ≤ 100 := by
    intro i hi
    have hc : i = 0 ∨ i = 1 ∨ i = 2 ∨ i = 3 ∨ i = 4 ∨ i = 5 ∨ i = 6 ∨ i = 7 ∨ i = 8 := by omega
    rcases hc with rfl | rfl | rfl | rfl | rfl | rfl | rfl | rfl | rfl <;> exact ⟨_, lit_at w1 _ _ _ rfl, by decide⟩
  go_wp2_with fail
  go_at_call 34
  refine (pickStrP hLhlit (fun y => y.size ≤ 100) w1.heap.size 9 9 (by omega) (by omega) (by omega) hlit).mono ?_
  rintro e w2 ⟨x, rfl, hx, hs2, hg⟩
  have hbb := below_cb (hb.alloc (by omega) _) hg (Nat.le_refl _) (by simp; omega)
  clear hlit hLhlit hg hs2 hs
  go_wp2
  go_ret
  exact ⟨x, rfl, hx, hbb⟩

theorem drawSpl {w : World} {ad : Option Addr} {len cap : Nat} {f : Nat → Int} (h : Code0 w ad len f) :
    Calls Tryd.prog 24 #[.slice ad len cap] w fun e w' => ∃ (x : ByteArray) (c : UInt8), e = .returned (.tuple #[.string x, .int .u8 (c.toNat : Int)]) ∧ x.size ≤ 100 ∧ Below w.heap.size w w' := by
  go_enter Tryd.func24, Tryd.ntmps24
  go_wp2_with fail
  go_at_call 33
  refine (drawNew ad len cap f w h.view h.lt h.small h.bytes).mono ?_
  rintro e w1 ⟨rfl, hs, hb, hz0⟩
  have hz : w.heap.size < w1.heap.size := by omega
  clear hz0
  have hLhlit := hs.later (w' := w1.alloc (.cells #[.string ⟨#[]⟩, .string ⟨#[97]⟩, .string ⟨#[97, 44, 98]⟩, .string ⟨#[44]⟩, .string ⟨#[97, 44, 44, 98, 44]⟩, .string ⟨#[97, 47, 98, 44, 99, 47]⟩] 9)) ((Below.refl _ _).alloc (Nat.le_refl _) _)
  have hlit : ∀ i, i < 6 → ∃ y : ByteArray, (w1.alloc (.cells #[.string ⟨#[]⟩, .string ⟨#[97]⟩, .string ⟨#[97, 44, 98]⟩, .string ⟨#[44]⟩, .string ⟨#[97, 44, 44, 98, 44]⟩, .string ⟨#[97, 47, 98, 44, 99, 47]⟩] 9)).cell? ⟨w1.heap.size, i, none⟩ = some (.string y) ∧ y.size ≤ 100 := by
    intro i hi
    have hc : i = 0 ∨ i = 1 ∨ i = 2 ∨ i = 3 ∨ i = 4 ∨ i = 5 := by omega
    rcases hc with rfl | rfl | rfl | rfl | rfl | rfl <;> exact ⟨_, lit_at w1 _ _ _ rfl, by decide⟩
  go_wp2_with fail
  go_at_call 34
  refine (pickStrP hLhlit (fun y => y.size ≤ 100) w1.heap.size 6 6 (by omega) (by omega) (by omega) hlit).mono ?_
  rintro e w2 ⟨x, rfl, hx, hs2, hg⟩
  have hbb := below_cb (hb.alloc (by omega) _) hg (Nat.le_refl _) (by simp; omega)
  have hz2 : w.heap.size + 2 ≤ w2.heap.size := by have := hg.size; simp at this; omega
  have hLhlit2 := hs2.later (w' := w2.alloc (.cells #[.int .i64 44, .int .i64 47] 3)) ((Below.refl _ _).alloc (Nat.le_refl _) _)
  have hlit2 : ∀ i, i < 2 → ∃ y, (w2.alloc (.cells #[.int .i64 44, .int .i64 47] 3)).cell? ⟨w2.heap.size, i, none⟩ = some (.int .i64 y) ∧ 0 ≤ y ∧ y ≤ 255 := by
    intro i hi
    have hc : i = 0 ∨ i = 1 := by omega
    rcases hc with rfl | rfl <;> exact ⟨_, lit_at w2 _ _ _ rfl, by decide, by decide⟩
  clear hlit hLhlit hg hs
  go_wp2_with fail
  go_at_call 32
  refine (pickIntP hLhlit2 (fun y => 0 ≤ y ∧ y ≤ 255) w2.heap.size 2 2 (by omega) (by omega) (by omega) hlit2).mono ?_
  rintro e w3 ⟨y, rfl, hy, hs3, hg3⟩
  have hb3 := below_cb (hbb.alloc (by omega) _) hg3 (Nat.le_refl _) (by simp; omega)
  obtain ⟨c, rfl⟩ : ∃ c : UInt8, y = (c.toNat : Int) := ⟨UInt8.ofNat y.toNat, by simp; omega⟩
  obtain ⟨hy0, hy1⟩ := hy
  clear hlit2 hLhlit2 hg3 hs2 hs3
  go_wp2
  exact bodyPost_ret (v := .tuple #[.string x, .int .u8 (c.toNat : Int)]) (by simp [results, Tryd.results24, go_sem]) rfl ⟨x, c, rfl, hx, hb3⟩

end Go.Proofs.YtpddgladbodkbaaDoor
