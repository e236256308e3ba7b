/- What is drawn for chapter 1: bytes. -/
import Derived.Test.YtpddgladbodkbaaDoorRows
import Derived.WalkKit
import Derived.ProofKit
import Derived.OpenShut
import Derived.ShutString
import Derived.ChangeOld
import Derived.Below
import Derived.Deep.QuietTactic
import Derived.BigQuiet
import Derived.WalkSmall
import Derived.Laws.OwnMore
import Derived.WalkSpells
import Derived.WalkLawsBesides
import Derived.Test.YtpddgladbodkbaaDoorDraws1
namespace Go.Proofs.YtpddgladbodkbaaDoor
open Go.ChangeShapes Go.WideShapes Go.ChangeAt Go.RowKit
open Go.ChangeMaps (open_string shut_string)
set_option linter.unusedVariables false

theorem wf64d {n : Int} (h : -9223372036854775808 ≤ n ∧ n ≤ 9223372036854775807) : (Lit.int .i64 n).wf = true := by
  simp [Lit.wf, IntKind.min, IntKind.max, IntKind.signed, IntKind.bits]
  omega
theorem own_grown {w w' : World} {base E n cb : Nat} {v : Value} {xs : List Value} (h : w.ownsRow base E 1 v n xs) (hg : w.grownBy w' (some cb)) (hcb : cb < base) : w'.ownsRow base E 1 v n xs := by
  refine ⟨h.1, ?_⟩
  rcases h.2 with ⟨a, b⟩ | ⟨g, cap, cur, a, hb, hh, r⟩
  · exact .inl ⟨a, b⟩
  · exact .inr ⟨g, cap, cur, a, hb, (hg.block g (Array.getElem?_eq_some_iff.1 hh).1 (by intro e; cases e; omega)).trans hh, r⟩
theorem own_below {w w' : World} {base E n B : Nat} {v : Value} {xs : List Value} (h : w.ownsRow base E 1 v n xs) (hb : Below B w w') (hB : w.heap.size ≤ B) : w'.ownsRow base E 1 v n xs := by
  refine ⟨h.1, ?_⟩
  rcases h.2 with ⟨a, b⟩ | ⟨g, cap, cur, a, hb2, hh, r⟩
  · exact .inl ⟨a, b⟩
  · exact .inr ⟨g, cap, cur, a, hb2, (hb.block g (Nat.lt_of_lt_of_le (Array.getElem?_eq_some_iff.1 hh).1 hB)).trans hh, r⟩
theorem own_base {w : World} {base base' E n : Nat} {v : Value} {xs : List Value} (h : w.ownsRow base E 1 v n xs) (hb : base' ≤ base) : w.ownsRow base' E 1 v n xs := by
  refine ⟨h.1, ?_⟩
  rcases h.2 with ⟨a, b⟩ | ⟨g, cap, cur, a, hb2, r⟩
  · exact .inl ⟨a, b⟩
  · exact .inr ⟨g, cap, cur, a, by omega, r⟩
/-- What lies below 'base' is as it was: the cursor and the code lie there. -/
theorem Src.under {w w' : World} {cb : Nat} {ad : Option Addr} {len cap : Nat} {f : Nat → Int} {base : Nat} (h : Src w cb ad len cap f) (hb : Below base w w') (hcb : cb < base) (had : ∀ a, ad = some a → 0 < len → a.block < base) : Src w' cb ad len cap f :=
  ⟨h.cur.carry (hb.block _ hcb), h.view.carry (fun a e hp => hb.block _ (had a e hp)), h.ne, h.small, h.bytes⟩
/-- A row of bytes that a draw has made, with its cursor. -/
structure Made (w0 w : World) (ad : Option Addr) (len cap : Nat) (f : Nat → Int) (v : Value) (L : List Int) : Prop where
  src : Src w w0.heap.size ad len cap f
  own : w.ownsRow (w0.heap.size + 1) 5 1 v L.length (L.map (Value.int .u8))
  bel : Below w0.heap.size w0 w
  sz : w0.heap.size < w.heap.size
  bytes : ∀ x ∈ L, 0 ≤ x ∧ x ≤ 255
theorem Made.grown {w0 w w' : World} {ad : Option Addr} {len cap : Nat} {f : Nat → Int} {v : Value} {L : List Int} (h : Made w0 w ad len cap f v L) (hs : Src w' w0.heap.size ad len cap f) (hg : w.grownBy w' (some w0.heap.size)) : Made w0 w' ad len cap f v L :=
  ⟨hs, own_grown h.own hg (by omega), below_cb h.bel hg (Nat.le_refl _) (Nat.le_of_lt h.sz), Nat.lt_of_lt_of_le h.sz hg.size, h.bytes⟩
theorem Made.later {w0 w w' : World} {ad : Option Addr} {len cap : Nat} {f : Nat → Int} {v : Value} {L : List Int} (h : Made w0 w ad len cap f v L) (hb : Below w.heap.size w w') : Made w0 w' ad len cap f v L :=
  ⟨h.src.later hb, own_below h.own hb (Nat.le_refl _), h.bel.trans (hb.mono (Nat.le_of_lt h.sz)), Nat.lt_of_lt_of_le h.sz hb.size, h.bytes⟩
/-- Some bytes more behind it. -/
theorem Made.push {w0 w w1 w2 : World} {ad : Option Addr} {len cap : Nat} {f : Nat → Int} {v v' : Value} {L N : List Int} (h : Made w0 w ad len cap f v L) (hb : Below w.heap.size w w1) (had : ∀ a, ad = some a → 0 < len → a.block < w0.heap.size)
    (hown' : w2.ownsRow (w0.heap.size + 1) 5 1 v' (L.length + N.length) (L.map (Value.int .u8) ++ N.map (Value.int .u8))) (hg : w1.grownBy w2 v.ownBlock) (hN : ∀ x ∈ N, 0 ≤ x ∧ x ≤ 255) : Made w0 w2 ad len cap f v' (L ++ N) := by
  have h1 := h.later hb
  have hrow : ∀ k, v.ownBlock = some k → w0.heap.size + 1 ≤ k := by
    intro k hk
    rcases h.own.2 with ⟨rfl, _⟩ | ⟨g, cap, cur, rfl, hb, _⟩
    · simp [Value.ownBlock] at hk
    · simp [Value.ownBlock] at hk; omega
  have hbel : Below (w0.heap.size + 1) w1 w2 := (Below.refl _ _).grown hg h1.sz hrow
  refine ⟨h1.src.under hbel (by omega) (fun a e hp => Nat.lt_succ_of_lt (had a e hp)), by simpa using hown', h1.bel.trans (hbel.mono (by omega)), Nat.lt_of_lt_of_le h1.sz hbel.size, ?_⟩
  intro x hx
  rcases List.mem_append.1 hx with hx | hx
  · exact h.bytes x hx
  · exact hN x hx
theorem Made.start {w0 w1 : World} {ad : Option Addr} {len cap : Nat} {f : Nat → Int} (hs : Src w1 w0.heap.size ad len cap f) (hb : Below w0.heap.size w0 w1) (hz : w0.heap.size < w1.heap.size) :
    Made w0 (w1.alloc (.cells #[] 5)) ad len cap f (.slice (some ⟨w1.heap.size, 0, none⟩) 0 0) [] :=
  ⟨hs.later ((Below.refl _ _).alloc (Nat.le_refl _) _), own_base (own_empty w1 5) (by omega), hb.alloc (Nat.le_of_lt hz) _, by simp; omega, fun x h => by cases h⟩

set_option maxHeartbeats 2000000 in
theorem drawSum {w : World} {ad : Option Addr} {len cap : Nat} {f : Nat → Int} (h : Code0 w ad len f) :
    Calls Tryd.prog 15 #[.slice ad len cap] w fun e w' => ∃ v L, e = .returned v ∧ Made w w' ad len cap f v L ∧ L.length ≤ 100 := by
  obtain ⟨i0, hi, hz0, hz1, hz2⟩ := info_parts Tryd.info5
  have had := h.lt
  go_enter Tryd.func15, Tryd.ntmps15
  go_wp2_with fail
  go_at_call 33
  refine (drawNew ad len cap f w h.view h.lt h.small h.bytes).mono ?_
  rintro e w1 ⟨rfl, hs, hb, hzz⟩
  have hz : w.heap.size < w1.heap.size := by omega
  have M0 := Made.start hs hb hz
  clear hzz hs hb h
  go_wp2
  go_loopw [4, 5] (fun v i wr => ∃ (k : Nat) (L : List Int), k ≤ 9 ∧ i = .int .i64 k ∧ L.length = k ∧ Made w wr ad len cap f v L) (fun _ i _ => 9 - (intOf i).toNat)
  case atStart => exact ⟨0, [], by omega, rfl, rfl, M0⟩
  case round =>
    obtain ⟨k, L, hk, rfl, hLk, M⟩ := hrel
    clear M0
    go_wp2_with fail
    go_at_call 37
    refine (drawBelow M.src 9 (by omega) (by omega)).mono ?_
    rintro e x1 ⟨x, rfl, hx0, hx1, hs1, hg1⟩
    have M1 := M.grown hs1 hg1
    clear hs1 hg1 M
    by_cases hlt : (k : Int) < x
    · have hd0 : decide ((k : Int) < x) = true := by simp; omega
      go_wp2_with fail
      go_at_call 37
      refine (drawBelow M1.src 256 (by omega) (by omega)).mono ?_
      rintro e x2 ⟨y, rfl, hy0, hy1, hs2, hg2⟩
      have M2 := M1.grown hs2 hg2
      have hown := M2.own
      have hsz := M2.sz
      have hL9 : L.length ≤ 9 := by omega
      have HLk : Hid (L.length = k) := hLk
      clear hs2 hg2 M1 hLk
      go_wp2_with (first | (at_builtin; refine wpList_append_own _ rfl _ _ 22 rfl (w.heap.size + 1) 5 i0 (.int .u8 0) 1 1 Tryd.underlying22 hi hz0 hz1 hz2 rfl (by decide) _ _ _ rfl (hown.alloc _) ⟨x2.heap.size, 0, none⟩ 1 1 [.int .u8 y] rfl rfl ?c1 ?c2 ?c3 ?c4 ?c5 ?_) | go_in)
      case c1 => exact cell_one_new _ _ _
      case c2 => first | rfl | (intro u hu; simp at hu; subst hu; rfl)
      case c3 => unfold maxLen; omega
      case c4 => omega
      case c5 => first | omega | (simp; omega)
      intro v' w3 hown' hgrow _
      have M3 := M2.push (N := [y]) ((Below.refl _ _).alloc (Nat.le_refl _) _) had hown' hgrow (by intro x hx; simp at hx; omega)
      have hL1 : (L ++ [y]).length = k + 1 := by rw [List.length_append, HLk.out]; rfl
      clear hown' hgrow hown M2
      go_wp2
      go_roundw
      case rel => exact ⟨k + 1, L ++ [y], by omega, by go_num, hL1, M3⟩
      case measure => simp [intOf]; omega
    · have hd0 : decide ((k : Int) < x) = false := by simp; omega
      go_wp2
      go_ret
      exact ⟨_, L, rfl, M1, by omega⟩

theorem drawOnce {cb : Nat} {ad : Option Addr} {len cap : Nat} {f : Nat → Int} {w : World} (hs : Src w cb ad len cap f) (n : Int) (h0 : 0 < n) (h1 : n ≤ 256) :
    Calls Tryd.prog 48 #[.pointer (some ⟨cb, 0, none⟩), .int .i64 n] w fun e w' => ∃ b : Bool, e = .returned (.bool b) ∧ Src w' cb ad len cap f ∧ w.grownBy w' (some cb) := by
  go_enter Tryd.func48, Tryd.ntmps48
  go_wp2_with fail
  go_at_call 37
  refine (drawBelow hs n h0 h1).mono ?_
  rintro e w' ⟨x, rfl, hx0, hx1, hs', hg⟩
  go_wp2
  go_ret
  exact ⟨_, rfl, hs', hg⟩

theorem putZ_bytes (n : Int) : ∀ x ∈ putZ n, 0 ≤ x ∧ x ≤ 255 := by
  have key : ∀ m : Nat, ∀ x ∈ put m, 0 ≤ x ∧ x ≤ 255 := by
    intro m
    induction m using Nat.strongRecOn with
    | ind m ih =>
      intro x hx
      by_cases h : m ≤ 127
      · rw [put_lo h] at hx
        simp at hx
        omega
      · rw [put_hi h] at hx
        rcases List.mem_cons.1 hx with rfl | hx
        · omega
        · exact ih (m / 128) (by omega) x hx
  unfold putZ
  split
  · exact key _
  · intro x hx; cases hx

set_option maxHeartbeats 2000000 in
theorem drawNums {w0 w : World} {ad : Option Addr} {len cap : Nat} {f : Nat → Int} (hs : Src w w0.heap.size ad len cap f) (hb : Below w0.heap.size w0 w) (hz : w0.heap.size < w.heap.size) (had : ∀ a, ad = some a → 0 < len → a.block < w0.heap.size) :
    Calls Tryd.prog 42 #[.pointer (some ⟨w0.heap.size, 0, none⟩)] w fun e w' => ∃ v L, e = .returned v ∧ Made w0 w' ad len cap f v L ∧ L.length ≤ 100 := by
  obtain ⟨i0, hi, hz0, hz1, hz2⟩ := info_parts Tryd.info5
  have M0 := Made.start hs hb hz
  clear hs hb hz
  go_enter Tryd.func42, Tryd.ntmps42
  go_wp2
  go_loopw [3, 4] (fun v i wr => ∃ (k : Nat) (L : List Int), k ≤ 4 ∧ i = .int .i64 k ∧ L.length ≤ 5 * k ∧ Made w0 wr ad len cap f v L) (fun _ i _ => 4 - (intOf i).toNat)
  case atStart => exact ⟨0, [], by omega, rfl, by simp, M0⟩
  case round =>
    obtain ⟨k, L, hk, rfl, hLk, M⟩ := hrel
    clear M0
    go_wp2_with fail
    go_at_call 37
    refine (drawBelow M.src 4 (by omega) (by omega)).mono ?_
    rintro e x1 ⟨x, rfl, hx0, hx1, hs1, hg1⟩
    have M1 := M.grown hs1 hg1
    clear hs1 hg1 M
    by_cases hlt : (k : Int) < x
    · have hd0 : decide ((k : Int) < x) = true := by simp; omega
      have hlit : ∀ i, i < 6 → ∃ y, (x1.alloc (.cells #[.int .i64 0, .int .i64 1, .int .i64 127, .int .i64 128, .int .i64 300, .int .i64 2147483647] 3)).cell? ⟨x1.heap.size, i, none⟩ = some (.int .i64 y) ∧ 0 ≤ y ∧ y ≤ 2147483647 := by
        intro i hi
        have hc : i = 0 ∨ i = 1 ∨ i = 2 ∨ i = 3 ∨ i = 4 ∨ i = 5 := by omega
        rcases hc with rfl | rfl | rfl | rfl | rfl | rfl <;> exact ⟨_, lit_at x1 _ _ _ rfl, by decide, by decide⟩
      have M1a := M1.later (w' := x1.alloc (.cells #[.int .i64 0, .int .i64 1, .int .i64 127, .int .i64 128, .int .i64 300, .int .i64 2147483647] 3)) ((Below.refl _ _).alloc (Nat.le_refl _) _)
      have hsz1 := M1.sz
      clear M1
      go_wp2_with fail
      go_at_call 32
      refine (pickIntP M1a.src (fun y => 0 ≤ y ∧ y ≤ 2147483647) x1.heap.size 6 6 (by omega) (by omega) (by omega) hlit).mono ?_
      rintro e x2 ⟨y, rfl, hy, hs2, hg2⟩
      obtain ⟨hy0, hy1⟩ := hy
      have M2 := M1a.grown hs2 hg2
      clear hs2 hg2 M1a hlit
      go_wp2_with fail
      go_at_call 16
      refine (putSpec y x2 (wf64d (by omega))).mono ?_
      rintro e x3 ⟨v, rfl, ho, hb3⟩
      have hNl := putZ_len y
      have hNb := putZ_bytes y
      have hN1 : 1 ≤ (putZ y).length := by unfold putZ; rw [if_pos ⟨hy0, hy1⟩]; exact (put_len _).1
      generalize putZ y = Nn at *
      obtain ⟨_, ad3, cap3, rfl, v3, _, _⟩ := own_view ho
      obtain ⟨b3, o3, rfl, hc3⟩ := v3 (by omega)
      have hown := own_below M2.own hb3 (Nat.le_refl _)
      have hsz := M2.sz
      have hsz3 := hb3.size
      clear ho
      go_wp2_with (first | (at_builtin; refine wpList_append_own _ rfl _ _ 22 rfl (w0.heap.size + 1) 5 i0 (.int .u8 0) 1 1 Tryd.underlying22 hi hz0 hz1 hz2 rfl (by decide) _ _ _ rfl hown ⟨b3, o3, none⟩ Nn.length cap3 (Nn.map (Value.int .u8)) rfl ?c0 ?c1 ?c2 ?c3 ?c4 ?c5 ?_) | go_in)
      case c0 => simp
      case c1 =>
        intro j u hj
        have hjl : j < Nn.length := by have := (List.getElem?_eq_some_iff.1 hj).1; simpa using this
        rw [List.getElem?_map, List.getElem?_eq_getElem hjl] at hj
        simp at hj
        subst hj
        have hcj := hc3 j hjl
        simp [List.getD, List.getElem?_eq_getElem hjl] at hcj
        by_cases hj0 : j = 0
        · subst hj0; simpa [Addr.add] using hcj
        · simpa [Addr.add, hj0] using hcj
      case c2 => intro u hu; obtain ⟨x, _, rfl⟩ := List.mem_map.1 hu; rfl
      case c3 => unfold maxLen; omega
      case c4 => omega
      case c5 => omega
      intro v' w4 hown' hgrow _
      have M4 := M2.push (N := Nn) hb3 had hown' hgrow hNb
      have hL1 : (L ++ Nn).length ≤ 5 * (k + 1) := by rw [List.length_append]; omega
      clear hown' hgrow hown M2 hc3 hb3
      go_wp2
      go_roundw
      case rel => exact ⟨k + 1, L ++ Nn, by omega, by go_num, hL1, M4⟩
      case measure => simp [intOf]; omega
    · have hd0 : decide ((k : Int) < x) = false := by simp; omega
      clear hlt
      go_wp2_with fail
      go_at_call 48
      refine (drawOnce M1.src 3 (by omega) (by omega)).mono ?_
      rintro e x2 ⟨bb, rfl, hs2, hg2⟩
      have M2 := M1.grown hs2 hg2
      clear hs2 hg2 M1
      cases bb with
      | false =>
        go_wp2
        go_ret
        exact ⟨_, L, rfl, M2, by omega⟩
      | true =>
        have hlit : ∀ i, i < 3 → ∃ y, (x2.alloc (.cells #[.int .i64 0, .int .i64 128, .int .i64 255] 3)).cell? ⟨x2.heap.size, i, none⟩ = some (.int .i64 y) ∧ 0 ≤ y ∧ y ≤ 255 := by
          intro i hi
          have hc : i = 0 ∨ i = 1 ∨ i = 2 := by omega
          rcases hc with rfl | rfl | rfl <;> exact ⟨_, lit_at x2 _ _ _ rfl, by decide, by decide⟩
        have M2a := M2.later (w' := x2.alloc (.cells #[.int .i64 0, .int .i64 128, .int .i64 255] 3)) ((Below.refl _ _).alloc (Nat.le_refl _) _)
        have hsz2 := M2.sz
        clear M2
        go_wp2_with fail
        go_at_call 32
        refine (pickIntP M2a.src (fun y => 0 ≤ y ∧ y ≤ 255) x2.heap.size 3 3 (by omega) (by omega) (by omega) hlit).mono ?_
        rintro e x3 ⟨y, rfl, hy, hs3, hg3⟩
        obtain ⟨hy0, hy1⟩ := hy
        have M3 := M2a.grown hs3 hg3
        clear hs3 hg3 M2a hlit
        go_wp2_with fail
        go_at_call 37
        refine (drawBelow M3.src 3 (by omega) (by omega)).mono ?_
        rintro e x4 ⟨z, rfl, hq0, hq1, hs4, hg4⟩
        have M4 := M3.grown hs4 hg4
        have hown := M4.own
        have hsz := M4.sz
        clear hs4 hg4 M3
        go_wp2_with (first | (at_builtin; refine wpList_append_own _ rfl _ _ 22 rfl (w0.heap.size + 1) 5 i0 (.int .u8 0) 1 1 Tryd.underlying22 hi hz0 hz1 hz2 rfl (by decide) _ _ _ rfl (hown.alloc _) ⟨x4.heap.size, 0, none⟩ 2 2 [.int .u8 y, .int .u8 z] rfl rfl ?e1 ?e2 ?e3 ?e4 ?e5 ?_) | go_in)
        case e1 => exact cell_two_new _ _ _ _
        case e2 => intro u hu; simp at hu; rcases hu with rfl | rfl <;> rfl
        case e3 => unfold maxLen; omega
        case e4 => omega
        case e5 => first | omega | (simp; omega)
        intro v' w5 hown' hgrow _
        have M5 := M4.push (N := [y, z]) ((Below.refl _ _).alloc (Nat.le_refl _) _) had hown' hgrow (by intro x hx; simp at hx; omega)
        have hL1 : (L ++ [y, z]).length ≤ 100 := by rw [List.length_append]; simp; omega
        clear hown' hgrow hown M4
        go_wp2
        go_ret
        exact ⟨_, _, rfl, M5, hL1⟩

end Go.Proofs.YtpddgladbodkbaaDoor
