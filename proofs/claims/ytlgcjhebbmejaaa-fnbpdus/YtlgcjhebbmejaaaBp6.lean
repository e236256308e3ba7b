/- The small functions of BpduOf, walked. -/
import Derived.Test.YtlgcjhebbmejaaaRows
import Derived.WalkKit
import Derived.ProofKit
import Derived.OpenShut
import Derived.ShutString
import Derived.ChangeOld
import Derived.Below
import Derived.Deep.QuietTactic
import Derived.BigQuiet
import Derived.WalkSmall
import Derived.Laws.OwnMore
import Derived.WalkSpells
import Derived.WalkLawsBesides
import Derived.Deep.Cut
import Derived.Lib.BufferRead
import Derived.Laws.IdiomStrings
import Derived.LoopN
import Derived.Test.YtlgcjhebbmejaaaBp5
namespace Go.Proofs.Ytlgcjhebbmejaaa
open Go.ChangeShapes Go.WideShapes Go.ChangeAt Go.RowKit
open Go.ChangeMaps (open_string shut_string)
set_option linter.unusedVariables false
set_option maxRecDepth 100000

/-- The text of a row of bytes. -/
def txt (L : List Int) : ByteArray := ⟨(L.map fun x => UInt8.ofNat x.toNat).toArray⟩
theorem conv_view {w : World} {ad : Option Addr} {cap : Nat} {L : List Int} (hv : View w ad L.length (fun i => L.getD i 0)) (hb : ∀ x ∈ L, 0 ≤ x ∧ x ≤ 255) :
    (convert 22 9 (.slice ad L.length cap)).run Try.prog w = .ok (.string (txt L)) w := by
  cases ad with
  | none =>
    have hL : L = [] := by
      cases L with
      | nil => rfl
      | cons a r => obtain ⟨b, off, e, _⟩ := hv (by simp); cases e
    subst hL
    exact Lib.run_convert_nil_bytes w 22 9 5 cap Try.underlying22 Try.underlying5 Try.underlying9
  | some a =>
    have h := run_convert_bytes_back (P := Try.prog) w 22 9 5 a cap (L.map fun x => UInt8.ofNat x.toNat) Try.underlying22 Try.underlying5 Try.underlying9 (fun j hj => by
      have hj' : j < L.length := by simpa using hj
      obtain ⟨b, off, e, hc⟩ := hv (by omega)
      cases e
      have hcj : w.cell? ⟨b, off + j, none⟩ = some (.int .u8 (L.getD j 0)) := hc j hj'
      have hbj := hb L[j] (List.getElem_mem hj')
      have e1 : L.getD j 0 = L[j] := by simp [List.getD, List.getElem?_eq_getElem hj']
      rw [e1] at hcj
      have e2 : (((L.map fun x => UInt8.ofNat x.toNat)[j]'hj).toNat : Int) = L[j] := by simp; omega
      rw [e2]
      by_cases hj0 : j = 0
      · subst hj0; simpa [Addr.add] using hcj
      · simpa [Addr.add, hj0] using hcj)
    rw [List.length_map] at h
    exact h
/-- What string(b) answers in every later world. -/
theorem conv_later {w w' : World} {ad : Option Addr} {cap : Nat} {L : List Int} {B : Nat} (hv : View w ad L.length (fun i => L.getD i 0)) (hb : ∀ x ∈ L, 0 ≤ x ∧ x ≤ 255) (k : ∀ a, ad = some a → a.block < B) (h : Below B w w') :
    (convert 22 9 (.slice ad L.length cap)).run Try.prog w' = .ok (.string (txt L)) w' :=
  conv_view (hv.carry (fun a e _ => h.block _ (k a e))) hb

theorem u8_inj {x y : Int} (hx : 0 ≤ x ∧ x ≤ 255) (hy : 0 ≤ y ∧ y ≤ 255) (h : UInt8.ofNat x.toNat = UInt8.ofNat y.toNat) : x = y := by
  have := congrArg UInt8.toNat h
  simp only [UInt8.toNat_ofNat'] at this
  omega
theorem txt_toList (A : List Int) : (txt A).toList = A.map fun x => UInt8.ofNat x.toNat := by rw [ByteArray.toList_eq]; simp [txt]
theorem txt_inj {A B : List Int} (hA : ∀ x ∈ A, 0 ≤ x ∧ x ≤ 255) (hB : ∀ x ∈ B, 0 ≤ x ∧ x ≤ 255) (h : (A.map fun x => UInt8.ofNat x.toNat) = B.map fun x => UInt8.ofNat x.toNat) : A = B := by
  induction A generalizing B with
  | nil => cases B with
    | nil => rfl
    | cons y B => simp at h
  | cons x A ih => cases B with
    | nil => simp at h
    | cons y B =>
      simp only [List.map_cons, List.cons.injEq] at h
      rw [u8_inj (hA x (by simp)) (hB y (by simp)) h.1, ih (fun z hz => hA z (by simp [hz])) (fun z hz => hB z (by simp [hz])) h.2]
theorem txt_eq {A B : List Int} (hA : ∀ x ∈ A, 0 ≤ x ∧ x ≤ 255) (hB : ∀ x ∈ B, 0 ≤ x ∧ x ≤ 255) : ((txt A).toList == (txt B).toList) = decide (A = B) := by
  rw [txt_toList, txt_toList]
  by_cases h : A = B
  · subst h; simp
  · rw [decide_eq_false h]
    simp only [beq_eq_false_iff_ne, ne_eq]
    exact fun e => h (txt_inj hA hB e)
theorem cut_view {w : World} {b off : Nat} {L : List Int} (hv : View w (some ⟨b, off, none⟩) L.length (fun i => L.getD i 0)) (p q : Nat) (h : p + q ≤ L.length) :
    View w (some ⟨b, off + p, none⟩) ((L.drop p).take q).length (fun i => ((L.drop p).take q).getD i 0) := by
  intro hp
  have hq : ((L.drop p).take q).length = q := by simp; omega
  rw [hq] at hp ⊢
  obtain ⟨b', off', e, hc⟩ := hv (by omega)
  cases e
  refine ⟨b, off + p, rfl, fun i hi => ?_⟩
  have := hc (p + i) (by omega)
  rw [Nat.add_assoc, this]
  congr 2
  simp [List.getD, hi]
theorem cut_bd {L : List Int} (hL : ∀ x ∈ L, 0 ≤ x ∧ x ≤ 255) (p q : Nat) : ∀ x ∈ (L.drop p).take q, 0 ≤ x ∧ x ≤ 255 :=
  fun x hx => hL x (List.mem_of_mem_drop (List.mem_of_mem_take hx))
theorem or_i64_nat (a b : Nat) (ha : a < 9223372036854775808) (hb : b < 9223372036854775808) : bits .or .i64 (a : Int) (b : Int) = ((a ||| b : Nat) : Int) := by
  have hx : a ||| b < 2 ^ 63 := Nat.or_lt_two_pow (by omega) (by omega)
  have h1 : (BitVec.ofInt 64 (a : Int)).toNat = a := by
    rw [BitVec.ofInt_natCast, BitVec.toNat_ofNat]; exact Nat.mod_eq_of_lt (by omega)
  have h2 : (BitVec.ofInt 64 (b : Int)).toNat = b := by
    rw [BitVec.ofInt_natCast, BitVec.toNat_ofNat]; exact Nat.mod_eq_of_lt (by omega)
  show IntKind.i64.wrap ((BitVec.ofInt 64 (a : Int) ||| BitVec.ofInt 64 (b : Int)).toNat : Int) = _
  rw [BitVec.toNat_or, h1, h2, IntKind.wrap_i64]
  omega
theorem bytesEq (ad ad' : Option Addr) (cap cap' : Nat) (A B : List Int) (w : World) (hv : View w ad A.length (fun i => A.getD i 0)) (hv' : View w ad' B.length (fun i => B.getD i 0)) (hA : ∀ x ∈ A, 0 ≤ x ∧ x ≤ 255) (hB : ∀ x ∈ B, 0 ≤ x ∧ x ≤ 255) :
    Calls Try.prog 41 #[.slice ad A.length cap, .slice ad' B.length cap'] w fun e w' => e = .returned (.bool (decide (A = B))) ∧ w' = w := by
  have h1 := conv_view (cap := cap) hv hA
  have h2 := conv_view (cap := cap') hv' hB
  have h3 := txt_eq hA hB
  go_enter Try.func41, Try.ntmps41
  go_wp2
  go_ret
  exact ⟨rfl, rfl⟩
theorem or_hi (n c : Int) (h0 : 0 ≤ n) (h1 : n < 281474976710656) (c0 : 0 ≤ c) (c1 : c ≤ 255) : bits .or .i64 (n * 256) c = n * 256 + c := by
  obtain ⟨a, rfl⟩ : ∃ a : Nat, n = a := ⟨n.toNat, by omega⟩
  obtain ⟨b, rfl⟩ : ∃ b : Nat, c = b := ⟨c.toNat, by omega⟩
  have e : (a : Int) * 256 = ((2 ^ 8 * a : Nat) : Int) := by simp; omega
  rw [e, or_i64_nat _ _ (by omega) (by omega), ← Nat.two_pow_add_eq_or_of_lt (by omega)]
  simp
def pw : Nat → Int
  | 0 => 1
  | k + 1 => pw k * 256
theorem numZ_succ {L : List Int} {k : Nat} (h : k < L.length) : numZ (L.take (k + 1)) = numZ (L.take k) * 256 + L.getD k 0 := by
  rw [List.take_succ_eq_append_getElem h]
  unfold numZ
  rw [List.foldl_append]
  simp [List.getD, h]
theorem numZ_bd {L : List Int} (hb : ∀ x ∈ L, 0 ≤ x ∧ x ≤ 255) (k : Nat) (h : k ≤ L.length) : 0 ≤ numZ (L.take k) ∧ numZ (L.take k) < pw k := by
  induction k with
  | zero => exact ⟨by simp [numZ], by simp [numZ, pw]⟩
  | succ k ih =>
    obtain ⟨h0, h1⟩ := ih (by omega)
    have hk : k < L.length := by omega
    have hc := hb L[k] (List.getElem_mem hk)
    have e : L.getD k 0 = L[k] := by simp [List.getD, hk]
    rw [numZ_succ hk, e]
    show _ ∧ _ < pw k * 256
    omega
theorem pw_6 {k : Nat} (h : k ≤ 6) : pw k ≤ 281474976710656 := by
  rcases (by omega : k = 0 ∨ k = 1 ∨ k = 2 ∨ k = 3 ∨ k = 4 ∨ k = 5 ∨ k = 6) with rfl | rfl | rfl | rfl | rfl | rfl | rfl <;> decide
theorem nb_bd {L : List Int} (hb : ∀ x ∈ L, 0 ≤ x ∧ x ≤ 255) (p q : Nat) : 0 ≤ nb L p q ∧ nb L p q < pw ((L.drop p).take q).length := by
  have h := numZ_bd (cut_bd hb p q) _ (Nat.le_refl _)
  rw [List.take_length] at h
  exact h
set_option maxHeartbeats 1000000 in
theorem numHF (ad : Option Addr) (cap : Nat) (L : List Int) (w : World) (hv : View w ad L.length (fun i => L.getD i 0)) (hl : L.length ≤ 7) (hb : ∀ x ∈ L, 0 ≤ x ∧ x ≤ 255) :
    Calls Try.prog 62 #[.slice ad L.length cap] w fun e w' => e = .returned (.int .i64 (numZ L)) ∧ w' = w := by
  go_enter Try.func62, Try.ntmps62
  go_wp2
  go_loop [3, 8] (fun n i => ∃ k : Nat, k ≤ L.length ∧ i = .int .i64 k ∧ n = .int .i64 (numZ (L.take k))) (fun _ i => L.length - (intOf i).toNat)
  case atStart => exact ⟨0, Nat.zero_le _, rfl, rfl⟩
  case round =>
    obtain ⟨k, hk, rfl, rfl⟩ := hrel
    by_cases hlt : k < L.length
    · obtain ⟨b, off, rfl, hc⟩ := hv (by omega)
      have hck := hc k hlt
      simp only at hck
      obtain ⟨n0, n1⟩ := numZ_bd hb k hk
      have n2 := pw_6 (k := k) (by omega)
      have n3 : numZ (L.take k) < 281474976710656 := by omega
      have hcb := hb L[k] (List.getElem_mem hlt)
      have e1 : L.getD k 0 = L[k] := by simp [List.getD, hlt]
      have e2 := numZ_succ hlt
      rw [← e1] at hcb
      have e2 : Hid (numZ (L.take (k + 1)) = numZ (L.take k) * 256 + L.getD k 0) := e2
      clear e1 n1 n2 hb hc
      generalize L.getD k 0 = c at *
      generalize numZ (L.take k) = n at *
      obtain ⟨c0, c1⟩ := hcb
      have ho := or_hi n c n0 n3 c0 c1
      go_wp2
      go_round
      case rel => exact ⟨k + 1, by omega, by go_num, by rw [e2.out]⟩
      case measure => simp [intOf]; omega
    · obtain rfl : k = L.length := by omega
      rw [List.take_length]
      go_wp2
      go_ret
      exact ⟨rfl, rfl⟩
set_option maxHeartbeats 1000000 in
theorem rd4 (q b off cap : Nat) (L : List Int) (w : World) (hq : w.cell? ⟨q, 0, none⟩ = some (.slice (some ⟨b, off, none⟩) 36 cap)) (hv : View w (some ⟨b, off, none⟩) L.length (fun i => L.getD i 0)) (hl : L.length = 36) (hcap : 36 ≤ cap) (hb : ∀ x ∈ L, 0 ≤ x ∧ x ≤ 255) :
    Calls Try.prog 61 #[.int .i64 4, .int .i64 5, .pointer (some ⟨q, 0, none⟩)] w fun e w' => e = .returned (.int .i64 (nb L 4 1)) ∧ w' = w := by
  have hV := cut_view hv 4 1 (by omega)
  have hL : ((L.drop 4).take 1).length = 1 := by simp; omega
  have hB := cut_bd hb 4 1
  have h := numHF (some ⟨b, off + 4, none⟩) 1 ((L.drop 4).take 1) w hV (by omega) hB
  rw [hL] at h
  clear hV hL hB hv hb
  go_enter Try.func61, Try.ntmps61
  go_wp2_with fail
  go_at_call 62
  refine h.mono ?_
  rintro e w1 ⟨rfl, rfl⟩
  go_wp2
  go_ret
  exact ⟨rfl, rfl⟩
set_option maxHeartbeats 1000000 in
theorem rd27 (q b off cap : Nat) (L : List Int) (w : World) (hq : w.cell? ⟨q, 0, none⟩ = some (.slice (some ⟨b, off, none⟩) 36 cap)) (hv : View w (some ⟨b, off, none⟩) L.length (fun i => L.getD i 0)) (hl : L.length = 36) (hcap : 36 ≤ cap) (hb : ∀ x ∈ L, 0 ≤ x ∧ x ≤ 255) :
    Calls Try.prog 61 #[.int .i64 27, .int .i64 28, .pointer (some ⟨q, 0, none⟩)] w fun e w' => e = .returned (.int .i64 (nb L 27 1)) ∧ w' = w := by
  have hV := cut_view hv 27 1 (by omega)
  have hL : ((L.drop 27).take 1).length = 1 := by simp; omega
  have hB := cut_bd hb 27 1
  have h := numHF (some ⟨b, off + 27, none⟩) 1 ((L.drop 27).take 1) w hV (by omega) hB
  rw [hL] at h
  clear hV hL hB hv hb
  go_enter Try.func61, Try.ntmps61
  go_wp2_with fail
  go_at_call 62
  refine h.mono ?_
  rintro e w1 ⟨rfl, rfl⟩
  go_wp2
  go_ret
  exact ⟨rfl, rfl⟩
set_option maxHeartbeats 1000000 in
theorem rd6 (q b off cap : Nat) (L : List Int) (w : World) (hq : w.cell? ⟨q, 0, none⟩ = some (.slice (some ⟨b, off, none⟩) 36 cap)) (hv : View w (some ⟨b, off, none⟩) L.length (fun i => L.getD i 0)) (hl : L.length = 36) (hcap : 36 ≤ cap) (hb : ∀ x ∈ L, 0 ≤ x ∧ x ≤ 255) :
    Calls Try.prog 61 #[.int .i64 6, .int .i64 13, .pointer (some ⟨q, 0, none⟩)] w fun e w' => e = .returned (.int .i64 (nb L 6 7)) ∧ w' = w := by
  have hV := cut_view hv 6 7 (by omega)
  have hL : ((L.drop 6).take 7).length = 7 := by simp; omega
  have hB := cut_bd hb 6 7
  have h := numHF (some ⟨b, off + 6, none⟩) 7 ((L.drop 6).take 7) w hV (by omega) hB
  rw [hL] at h
  clear hV hL hB hv hb
  go_enter Try.func61, Try.ntmps61
  go_wp2_with fail
  go_at_call 62
  refine h.mono ?_
  rintro e w1 ⟨rfl, rfl⟩
  go_wp2
  go_ret
  exact ⟨rfl, rfl⟩
set_option maxHeartbeats 1000000 in
theorem rd13 (q b off cap : Nat) (L : List Int) (w : World) (hq : w.cell? ⟨q, 0, none⟩ = some (.slice (some ⟨b, off, none⟩) 36 cap)) (hv : View w (some ⟨b, off, none⟩) L.length (fun i => L.getD i 0)) (hl : L.length = 36) (hcap : 36 ≤ cap) (hb : ∀ x ∈ L, 0 ≤ x ∧ x ≤ 255) :
    Calls Try.prog 61 #[.int .i64 13, .int .i64 17, .pointer (some ⟨q, 0, none⟩)] w fun e w' => e = .returned (.int .i64 (nb L 13 4)) ∧ w' = w := by
  have hV := cut_view hv 13 4 (by omega)
  have hL : ((L.drop 13).take 4).length = 4 := by simp; omega
  have hB := cut_bd hb 13 4
  have h := numHF (some ⟨b, off + 13, none⟩) 4 ((L.drop 13).take 4) w hV (by omega) hB
  rw [hL] at h
  clear hV hL hB hv hb
  go_enter Try.func61, Try.ntmps61
  go_wp2_with fail
  go_at_call 62
  refine h.mono ?_
  rintro e w1 ⟨rfl, rfl⟩
  go_wp2
  go_ret
  exact ⟨rfl, rfl⟩
set_option maxHeartbeats 1000000 in
theorem rd18 (q b off cap : Nat) (L : List Int) (w : World) (hq : w.cell? ⟨q, 0, none⟩ = some (.slice (some ⟨b, off, none⟩) 36 cap)) (hv : View w (some ⟨b, off, none⟩) L.length (fun i => L.getD i 0)) (hl : L.length = 36) (hcap : 36 ≤ cap) (hb : ∀ x ∈ L, 0 ≤ x ∧ x ≤ 255) :
    Calls Try.prog 61 #[.int .i64 18, .int .i64 25, .pointer (some ⟨q, 0, none⟩)] w fun e w' => e = .returned (.int .i64 (nb L 18 7)) ∧ w' = w := by
  have hV := cut_view hv 18 7 (by omega)
  have hL : ((L.drop 18).take 7).length = 7 := by simp; omega
  have hB := cut_bd hb 18 7
  have h := numHF (some ⟨b, off + 18, none⟩) 7 ((L.drop 18).take 7) w hV (by omega) hB
  rw [hL] at h
  clear hV hL hB hv hb
  go_enter Try.func61, Try.ntmps61
  go_wp2_with fail
  go_at_call 62
  refine h.mono ?_
  rintro e w1 ⟨rfl, rfl⟩
  go_wp2
  go_ret
  exact ⟨rfl, rfl⟩
set_option maxHeartbeats 1000000 in
theorem rd26 (q b off cap : Nat) (L : List Int) (w : World) (hq : w.cell? ⟨q, 0, none⟩ = some (.slice (some ⟨b, off, none⟩) 36 cap)) (hv : View w (some ⟨b, off, none⟩) L.length (fun i => L.getD i 0)) (hl : L.length = 36) (hcap : 36 ≤ cap) (hb : ∀ x ∈ L, 0 ≤ x ∧ x ≤ 255) :
    Calls Try.prog 61 #[.int .i64 26, .int .i64 27, .pointer (some ⟨q, 0, none⟩)] w fun e w' => e = .returned (.int .i64 (nb L 26 1)) ∧ w' = w := by
  have hV := cut_view hv 26 1 (by omega)
  have hL : ((L.drop 26).take 1).length = 1 := by simp; omega
  have hB := cut_bd hb 26 1
  have h := numHF (some ⟨b, off + 26, none⟩) 1 ((L.drop 26).take 1) w hV (by omega) hB
  rw [hL] at h
  clear hV hL hB hv hb
  go_enter Try.func61, Try.ntmps61
  go_wp2_with fail
  go_at_call 62
  refine h.mono ?_
  rintro e w1 ⟨rfl, rfl⟩
  go_wp2
  go_ret
  exact ⟨rfl, rfl⟩
theorem roZ_v : roZ 2 = 3 ∧ roZ 1 = 2 ∧ roZ 3 = 1 := ⟨rfl, rfl, rfl⟩
set_option maxHeartbeats 2000000 in
theorem role3 (w : World) : Calls Try.prog 63 #[.int .i64 3] w fun e w' => e = .returned (.int .i64 (roB 3)) ∧ Below w.heap.size w w' := by
  obtain ⟨y, hy⟩ : ∃ y, y = w.alloc (Obj.cells #[.int .i64 2, .int .i64 1, .int .i64 3] 3) := ⟨_, rfl⟩
  have B0 : Below w.heap.size w y := by rw [hy]; exact below_new _
  have c0 : y.cell? ⟨w.heap.size, 0, none⟩ = some (.int .i64 2) := by rw [hy]; simp [go_sem]
  have c1 : y.cell? ⟨w.heap.size, 1, none⟩ = some (.int .i64 1) := by rw [hy]; simp [go_sem]
  have c2 : y.cell? ⟨w.heap.size, 2, none⟩ = some (.int .i64 3) := by rw [hy]; simp [go_sem]
  go_enter Try.func63, Try.ntmps63
  go_wp2
  rw [← hy]
  clear hy
  refine wp_loop_rounds 4 ?_
  rw [rounds_succ]
  go_wp2_with fail
  go_at_call 48
  refine (roleI 2 _).mono ?_
  rintro e w1 ⟨rfl, rfl⟩
  rw [show roZ 2 = 3 from rfl]
  go_wp2
  go_ret
  exact ⟨rfl, B0⟩
set_option maxHeartbeats 2000000 in
theorem role2 (w : World) : Calls Try.prog 63 #[.int .i64 2] w fun e w' => e = .returned (.int .i64 (roB 2)) ∧ Below w.heap.size w w' := by
  obtain ⟨y, hy⟩ : ∃ y, y = w.alloc (Obj.cells #[.int .i64 2, .int .i64 1, .int .i64 3] 3) := ⟨_, rfl⟩
  have B0 : Below w.heap.size w y := by rw [hy]; exact below_new _
  have c0 : y.cell? ⟨w.heap.size, 0, none⟩ = some (.int .i64 2) := by rw [hy]; simp [go_sem]
  have c1 : y.cell? ⟨w.heap.size, 1, none⟩ = some (.int .i64 1) := by rw [hy]; simp [go_sem]
  have c2 : y.cell? ⟨w.heap.size, 2, none⟩ = some (.int .i64 3) := by rw [hy]; simp [go_sem]
  go_enter Try.func63, Try.ntmps63
  go_wp2
  rw [← hy]
  clear hy
  refine wp_loop_rounds 4 ?_
  rw [rounds_succ]
  go_wp2_with fail
  go_at_call 48
  refine (roleI 2 _).mono ?_
  rintro e w1 ⟨rfl, rfl⟩
  rw [show roZ 2 = 3 from rfl]
  go_wp2
  rw [rounds_succ]
  go_wp2_with fail
  go_at_call 48
  refine (roleI 1 _).mono ?_
  rintro e w1 ⟨rfl, rfl⟩
  rw [show roZ 1 = 2 from rfl]
  go_wp2
  go_ret
  exact ⟨rfl, B0⟩
set_option maxHeartbeats 2000000 in
theorem role1 (w : World) : Calls Try.prog 63 #[.int .i64 1] w fun e w' => e = .returned (.int .i64 (roB 1)) ∧ Below w.heap.size w w' := by
  obtain ⟨y, hy⟩ : ∃ y, y = w.alloc (Obj.cells #[.int .i64 2, .int .i64 1, .int .i64 3] 3) := ⟨_, rfl⟩
  have B0 : Below w.heap.size w y := by rw [hy]; exact below_new _
  have c0 : y.cell? ⟨w.heap.size, 0, none⟩ = some (.int .i64 2) := by rw [hy]; simp [go_sem]
  have c1 : y.cell? ⟨w.heap.size, 1, none⟩ = some (.int .i64 1) := by rw [hy]; simp [go_sem]
  have c2 : y.cell? ⟨w.heap.size, 2, none⟩ = some (.int .i64 3) := by rw [hy]; simp [go_sem]
  go_enter Try.func63, Try.ntmps63
  go_wp2
  rw [← hy]
  clear hy
  refine wp_loop_rounds 4 ?_
  rw [rounds_succ]
  go_wp2_with fail
  go_at_call 48
  refine (roleI 2 _).mono ?_
  rintro e w1 ⟨rfl, rfl⟩
  rw [show roZ 2 = 3 from rfl]
  go_wp2
  rw [rounds_succ]
  go_wp2_with fail
  go_at_call 48
  refine (roleI 1 _).mono ?_
  rintro e w1 ⟨rfl, rfl⟩
  rw [show roZ 1 = 2 from rfl]
  go_wp2
  rw [rounds_succ]
  go_wp2_with fail
  go_at_call 48
  refine (roleI 3 _).mono ?_
  rintro e w1 ⟨rfl, rfl⟩
  rw [show roZ 3 = 1 from rfl]
  go_wp2
  go_ret
  exact ⟨rfl, B0⟩
set_option maxHeartbeats 2000000 in
theorem role0 (w : World) : Calls Try.prog 63 #[.int .i64 0] w fun e w' => e = .returned (.int .i64 (roB 0)) ∧ Below w.heap.size w w' := by
  obtain ⟨y, hy⟩ : ∃ y, y = w.alloc (Obj.cells #[.int .i64 2, .int .i64 1, .int .i64 3] 3) := ⟨_, rfl⟩
  have B0 : Below w.heap.size w y := by rw [hy]; exact below_new _
  have c0 : y.cell? ⟨w.heap.size, 0, none⟩ = some (.int .i64 2) := by rw [hy]; simp [go_sem]
  have c1 : y.cell? ⟨w.heap.size, 1, none⟩ = some (.int .i64 1) := by rw [hy]; simp [go_sem]
  have c2 : y.cell? ⟨w.heap.size, 2, none⟩ = some (.int .i64 3) := by rw [hy]; simp [go_sem]
  go_enter Try.func63, Try.ntmps63
  go_wp2
  rw [← hy]
  clear hy
  refine wp_loop_rounds 4 ?_
  rw [rounds_succ]
  go_wp2_with fail
  go_at_call 48
  refine (roleI 2 _).mono ?_
  rintro e w1 ⟨rfl, rfl⟩
  rw [show roZ 2 = 3 from rfl]
  go_wp2
  rw [rounds_succ]
  go_wp2_with fail
  go_at_call 48
  refine (roleI 1 _).mono ?_
  rintro e w1 ⟨rfl, rfl⟩
  rw [show roZ 1 = 2 from rfl]
  go_wp2
  rw [rounds_succ]
  go_wp2_with fail
  go_at_call 48
  refine (roleI 3 _).mono ?_
  rintro e w1 ⟨rfl, rfl⟩
  rw [show roZ 3 = 1 from rfl]
  go_wp2
  rw [rounds_succ]
  go_wp2
  go_ret
  exact ⟨rfl, B0⟩
theorem roleOf (n : Int) (w : World) (h : 0 ≤ n ∧ n ≤ 3) : Calls Try.prog 63 #[.int .i64 n] w fun e w' => e = .returned (.int .i64 (roB n)) ∧ Below w.heap.size w w' := by
  rcases (by omega : n = 0 ∨ n = 1 ∨ n = 2 ∨ n = 3) with rfl | rfl | rfl | rfl
  · exact role0 w
  · exact role1 w
  · exact role2 w
  · exact role3 w
/-- A box of a Bpdu that may be written. -/
structure BpW (w : World) (q : Nat) (x : Bp) : Prop where
  at_ : BpAt w q x
  fr : ∀ i, w.frozen? ⟨q, i, none⟩ = false
theorem BpW.keep {w w' : World} {q : Nat} {x : Bp} (h : BpW w q x) (k : w'.heap[q]? = w.heap[q]?) : BpW w' q x :=
  ⟨h.at_.keep k, fun i => (World.frozen?_of_block (a := ⟨q, i, none⟩) k).trans (h.fr i)⟩
theorem BpW.lt {w : World} {q : Nat} {x : Bp} (h : BpW w q x) : q < w.heap.size := h.at_.lt
theorem BpW.below {w w' : World} {q n : Nat} {x : Bp} (h : BpW w q x) (k : Below n w w') (hq : q < n) : BpW w' q x := h.keep (k.block q hq)
theorem BpW.set0 {w : World} {q : Nat} {x : Bp} (z : Bool) (h : BpW w q x) : BpW (w.setCell ⟨q, 0, none⟩ (.bool z)) q { x with ch := z } := ⟨⟨pset_same h.at_.c0, (pset_else (by decide)).trans h.at_.c1, (pset_else (by decide)).trans h.at_.c2, (pset_else (by decide)).trans h.at_.c3, (pset_else (by decide)).trans h.at_.c4, (pset_else (by decide)).trans h.at_.c5, (pset_else (by decide)).trans h.at_.c6, (pset_else (by decide)).trans h.at_.c7, (pset_else (by decide)).trans h.at_.c8, (pset_else (by decide)).trans h.at_.c9, (pset_else (by decide)).trans h.at_.c10⟩, fun i => by rw [World.frozen?_setCell]; exact h.fr i⟩
theorem BpW.set1 {w : World} {q : Nat} {x : Bp} (z : Bool) (h : BpW w q x) : BpW (w.setCell ⟨q, 1, none⟩ (.bool z)) q { x with ak := z } := ⟨⟨(pset_else (by decide)).trans h.at_.c0, pset_same h.at_.c1, (pset_else (by decide)).trans h.at_.c2, (pset_else (by decide)).trans h.at_.c3, (pset_else (by decide)).trans h.at_.c4, (pset_else (by decide)).trans h.at_.c5, (pset_else (by decide)).trans h.at_.c6, (pset_else (by decide)).trans h.at_.c7, (pset_else (by decide)).trans h.at_.c8, (pset_else (by decide)).trans h.at_.c9, (pset_else (by decide)).trans h.at_.c10⟩, fun i => by rw [World.frozen?_setCell]; exact h.fr i⟩
theorem BpW.set2 {w : World} {q : Nat} {x : Bp} (z : Bool) (h : BpW w q x) : BpW (w.setCell ⟨q, 2, none⟩ (.bool z)) q { x with ag := z } := ⟨⟨(pset_else (by decide)).trans h.at_.c0, (pset_else (by decide)).trans h.at_.c1, pset_same h.at_.c2, (pset_else (by decide)).trans h.at_.c3, (pset_else (by decide)).trans h.at_.c4, (pset_else (by decide)).trans h.at_.c5, (pset_else (by decide)).trans h.at_.c6, (pset_else (by decide)).trans h.at_.c7, (pset_else (by decide)).trans h.at_.c8, (pset_else (by decide)).trans h.at_.c9, (pset_else (by decide)).trans h.at_.c10⟩, fun i => by rw [World.frozen?_setCell]; exact h.fr i⟩
theorem BpW.set3 {w : World} {q : Nat} {x : Bp} (z : Bool) (h : BpW w q x) : BpW (w.setCell ⟨q, 3, none⟩ (.bool z)) q { x with le := z } := ⟨⟨(pset_else (by decide)).trans h.at_.c0, (pset_else (by decide)).trans h.at_.c1, (pset_else (by decide)).trans h.at_.c2, pset_same h.at_.c3, (pset_else (by decide)).trans h.at_.c4, (pset_else (by decide)).trans h.at_.c5, (pset_else (by decide)).trans h.at_.c6, (pset_else (by decide)).trans h.at_.c7, (pset_else (by decide)).trans h.at_.c8, (pset_else (by decide)).trans h.at_.c9, (pset_else (by decide)).trans h.at_.c10⟩, fun i => by rw [World.frozen?_setCell]; exact h.fr i⟩
theorem BpW.set4 {w : World} {q : Nat} {x : Bp} (z : Bool) (h : BpW w q x) : BpW (w.setCell ⟨q, 4, none⟩ (.bool z)) q { x with op := z } := ⟨⟨(pset_else (by decide)).trans h.at_.c0, (pset_else (by decide)).trans h.at_.c1, (pset_else (by decide)).trans h.at_.c2, (pset_else (by decide)).trans h.at_.c3, pset_same h.at_.c4, (pset_else (by decide)).trans h.at_.c5, (pset_else (by decide)).trans h.at_.c6, (pset_else (by decide)).trans h.at_.c7, (pset_else (by decide)).trans h.at_.c8, (pset_else (by decide)).trans h.at_.c9, (pset_else (by decide)).trans h.at_.c10⟩, fun i => by rw [World.frozen?_setCell]; exact h.fr i⟩
theorem BpW.set5 {w : World} {q : Nat} {x : Bp} (z : Int) (h : BpW w q x) : BpW (w.setCell ⟨q, 5, none⟩ (.int .i64 z)) q { x with ro := z } := ⟨⟨(pset_else (by decide)).trans h.at_.c0, (pset_else (by decide)).trans h.at_.c1, (pset_else (by decide)).trans h.at_.c2, (pset_else (by decide)).trans h.at_.c3, (pset_else (by decide)).trans h.at_.c4, pset_same h.at_.c5, (pset_else (by decide)).trans h.at_.c6, (pset_else (by decide)).trans h.at_.c7, (pset_else (by decide)).trans h.at_.c8, (pset_else (by decide)).trans h.at_.c9, (pset_else (by decide)).trans h.at_.c10⟩, fun i => by rw [World.frozen?_setCell]; exact h.fr i⟩
theorem BpW.set6 {w : World} {q : Nat} {x : Bp} (z : Int) (h : BpW w q x) : BpW (w.setCell ⟨q, 6, none⟩ (.int .i64 z)) q { x with r := z } := ⟨⟨(pset_else (by decide)).trans h.at_.c0, (pset_else (by decide)).trans h.at_.c1, (pset_else (by decide)).trans h.at_.c2, (pset_else (by decide)).trans h.at_.c3, (pset_else (by decide)).trans h.at_.c4, (pset_else (by decide)).trans h.at_.c5, pset_same h.at_.c6, (pset_else (by decide)).trans h.at_.c7, (pset_else (by decide)).trans h.at_.c8, (pset_else (by decide)).trans h.at_.c9, (pset_else (by decide)).trans h.at_.c10⟩, fun i => by rw [World.frozen?_setCell]; exact h.fr i⟩
theorem BpW.set7 {w : World} {q : Nat} {x : Bp} (z : Int) (h : BpW w q x) : BpW (w.setCell ⟨q, 7, none⟩ (.int .i64 z)) q { x with c := z } := ⟨⟨(pset_else (by decide)).trans h.at_.c0, (pset_else (by decide)).trans h.at_.c1, (pset_else (by decide)).trans h.at_.c2, (pset_else (by decide)).trans h.at_.c3, (pset_else (by decide)).trans h.at_.c4, (pset_else (by decide)).trans h.at_.c5, (pset_else (by decide)).trans h.at_.c6, pset_same h.at_.c7, (pset_else (by decide)).trans h.at_.c8, (pset_else (by decide)).trans h.at_.c9, (pset_else (by decide)).trans h.at_.c10⟩, fun i => by rw [World.frozen?_setCell]; exact h.fr i⟩
theorem BpW.set8 {w : World} {q : Nat} {x : Bp} (z : Int) (h : BpW w q x) : BpW (w.setCell ⟨q, 8, none⟩ (.int .i64 z)) q { x with b := z } := ⟨⟨(pset_else (by decide)).trans h.at_.c0, (pset_else (by decide)).trans h.at_.c1, (pset_else (by decide)).trans h.at_.c2, (pset_else (by decide)).trans h.at_.c3, (pset_else (by decide)).trans h.at_.c4, (pset_else (by decide)).trans h.at_.c5, (pset_else (by decide)).trans h.at_.c6, (pset_else (by decide)).trans h.at_.c7, pset_same h.at_.c8, (pset_else (by decide)).trans h.at_.c9, (pset_else (by decide)).trans h.at_.c10⟩, fun i => by rw [World.frozen?_setCell]; exact h.fr i⟩
theorem BpW.set9 {w : World} {q : Nat} {x : Bp} (z : Int) (h : BpW w q x) : BpW (w.setCell ⟨q, 9, none⟩ (.int .i64 z)) q { x with p := z } := ⟨⟨(pset_else (by decide)).trans h.at_.c0, (pset_else (by decide)).trans h.at_.c1, (pset_else (by decide)).trans h.at_.c2, (pset_else (by decide)).trans h.at_.c3, (pset_else (by decide)).trans h.at_.c4, (pset_else (by decide)).trans h.at_.c5, (pset_else (by decide)).trans h.at_.c6, (pset_else (by decide)).trans h.at_.c7, (pset_else (by decide)).trans h.at_.c8, pset_same h.at_.c9, (pset_else (by decide)).trans h.at_.c10⟩, fun i => by rw [World.frozen?_setCell]; exact h.fr i⟩
theorem BpW.set10 {w : World} {q : Nat} {x : Bp} (z : Int) (h : BpW w q x) : BpW (w.setCell ⟨q, 10, none⟩ (.int .i64 z)) q { x with h := z } := ⟨⟨(pset_else (by decide)).trans h.at_.c0, (pset_else (by decide)).trans h.at_.c1, (pset_else (by decide)).trans h.at_.c2, (pset_else (by decide)).trans h.at_.c3, (pset_else (by decide)).trans h.at_.c4, (pset_else (by decide)).trans h.at_.c5, (pset_else (by decide)).trans h.at_.c6, (pset_else (by decide)).trans h.at_.c7, (pset_else (by decide)).trans h.at_.c8, (pset_else (by decide)).trans h.at_.c9, pset_same h.at_.c10⟩, fun i => by rw [World.frozen?_setCell]; exact h.fr i⟩
theorem gr_setI (w : World) (q i : Nat) (v : Value) : w.grownBy (w.setCell ⟨q, i, none⟩ v) (some q) := grown_putAll [v] i (gr_refl w (some q))
set_option maxHeartbeats 1000000 in
theorem setF0 (b q : Nat) (x : Bp) (n : Int) (w : World) (hb : BpW w b x) (hn : NuB w q n) :
    Calls Try.prog 64 #[.pointer (some ⟨b, 0, none⟩), .int .i64 1, .pointer (some ⟨q, 0, none⟩)] w fun e w' => e = .returned (.tuple #[]) ∧ BpW w' b { x with ch := btB n 1 } ∧ w.grownBy w' (some b) := by
  have R0 := hb.set0 (btB n 1)
  obtain ⟨n0, n1⟩ := hn
  have a0 := hb.at_.c0
  have f0 := hb.fr 0
  have e : btB n 1 = !decide (bits .and .i64 n 1 = 0) := rfl
  rw [e] at R0 ⊢
  clear e hb
  go_enter Try.func64, Try.ntmps64
  go_wp2
  go_end0
  exact ⟨rfl, R0, gr_setI _ _ _ _⟩
set_option maxHeartbeats 1000000 in
theorem setF1 (b q : Nat) (x : Bp) (n : Int) (w : World) (hb : BpW w b x) (hn : NuB w q n) :
    Calls Try.prog 64 #[.pointer (some ⟨b, 1, none⟩), .int .i64 2, .pointer (some ⟨q, 0, none⟩)] w fun e w' => e = .returned (.tuple #[]) ∧ BpW w' b { x with ak := btB n 2 } ∧ w.grownBy w' (some b) := by
  have R0 := hb.set1 (btB n 2)
  obtain ⟨n0, n1⟩ := hn
  have a0 := hb.at_.c1
  have f0 := hb.fr 1
  have e : btB n 2 = !decide (bits .and .i64 n 2 = 0) := rfl
  rw [e] at R0 ⊢
  clear e hb
  go_enter Try.func64, Try.ntmps64
  go_wp2
  go_end0
  exact ⟨rfl, R0, gr_setI _ _ _ _⟩
set_option maxHeartbeats 1000000 in
theorem setF3 (b q : Nat) (x : Bp) (n : Int) (w : World) (hb : BpW w b x) (hn : NuB w q n) :
    Calls Try.prog 64 #[.pointer (some ⟨b, 3, none⟩), .int .i64 16, .pointer (some ⟨q, 0, none⟩)] w fun e w' => e = .returned (.tuple #[]) ∧ BpW w' b { x with le := btB n 16 } ∧ w.grownBy w' (some b) := by
  have R0 := hb.set3 (btB n 16)
  obtain ⟨n0, n1⟩ := hn
  have a0 := hb.at_.c3
  have f0 := hb.fr 3
  have e : btB n 16 = !decide (bits .and .i64 n 16 = 0) := rfl
  rw [e] at R0 ⊢
  clear e hb
  go_enter Try.func64, Try.ntmps64
  go_wp2
  go_end0
  exact ⟨rfl, R0, gr_setI _ _ _ _⟩
set_option maxHeartbeats 1000000 in
theorem setF4 (b q : Nat) (x : Bp) (n : Int) (w : World) (hb : BpW w b x) (hn : NuB w q n) :
    Calls Try.prog 64 #[.pointer (some ⟨b, 4, none⟩), .int .i64 32, .pointer (some ⟨q, 0, none⟩)] w fun e w' => e = .returned (.tuple #[]) ∧ BpW w' b { x with op := btB n 32 } ∧ w.grownBy w' (some b) := by
  have R0 := hb.set4 (btB n 32)
  obtain ⟨n0, n1⟩ := hn
  have a0 := hb.at_.c4
  have f0 := hb.fr 4
  have e : btB n 32 = !decide (bits .and .i64 n 32 = 0) := rfl
  rw [e] at R0 ⊢
  clear e hb
  go_enter Try.func64, Try.ntmps64
  go_wp2
  go_end0
  exact ⟨rfl, R0, gr_setI _ _ _ _⟩
set_option maxHeartbeats 1000000 in
theorem setF2 (b q : Nat) (x : Bp) (n : Int) (w : World) (hb : BpW w b x) (hn : NuB w q n) :
    Calls Try.prog 64 #[.pointer (some ⟨b, 2, none⟩), .int .i64 64, .pointer (some ⟨q, 0, none⟩)] w fun e w' => e = .returned (.tuple #[]) ∧ BpW w' b { x with ag := btB n 64 } ∧ w.grownBy w' (some b) := by
  have R0 := hb.set2 (btB n 64)
  obtain ⟨n0, n1⟩ := hn
  have a0 := hb.at_.c2
  have f0 := hb.fr 2
  have e : btB n 64 = !decide (bits .and .i64 n 64 = 0) := rfl
  rw [e] at R0 ⊢
  clear e hb
  go_enter Try.func64, Try.ntmps64
  go_wp2
  go_end0
  exact ⟨rfl, R0, gr_setI _ _ _ _⟩
set_option maxHeartbeats 4000000 in
theorem eachR (b q : Nat) (x : Bp) (n : Int) (w : World) (hb : BpW w b x) (hn : NuB w q n) (hne : b ≠ q) :
    Calls Try.prog 49 #[.pointer (some ⟨b, 0, none⟩), .func (Fn.func 64) #[] #[.pointer (some ⟨q, 0, none⟩)]] w fun e w' => e = .returned (.tuple #[]) ∧ BpW w' b { x with ch := btB n 1, ak := btB n 2, le := btB n 16, op := btB n 32, ag := btB n 64 } ∧ w.grownBy w' (some b) := by
  have G0 := gr_refl w (some b)
  have L0 := hn.lt
  go_enter Try.func49, Try.ntmps49
  go_wp2_with fail
  go_at_call 64
  refine (setF0 b q _ n w hb hn).mono ?_
  rintro e w1 ⟨rfl, A1, k1⟩
  have G1 := gr_trans G0 k1
  have N1 := hn.keep (G1.block q L0 (fun e => hne (Option.some.inj e).symm))
  clear k1 G0
  go_wp2_with fail
  go_at_call 64
  refine (setF1 b q _ n w1 A1 N1).mono ?_
  rintro e w2 ⟨rfl, A2, k2⟩
  have G2 := gr_trans G1 k2
  have N2 := hn.keep (G2.block q L0 (fun e => hne (Option.some.inj e).symm))
  clear k2 G1
  go_wp2_with fail
  go_at_call 64
  refine (setF3 b q _ n w2 A2 N2).mono ?_
  rintro e w3 ⟨rfl, A3, k3⟩
  have G3 := gr_trans G2 k3
  have N3 := hn.keep (G3.block q L0 (fun e => hne (Option.some.inj e).symm))
  clear k3 G2
  go_wp2_with fail
  go_at_call 64
  refine (setF4 b q _ n w3 A3 N3).mono ?_
  rintro e w4 ⟨rfl, A4, k4⟩
  have G4 := gr_trans G3 k4
  have N4 := hn.keep (G4.block q L0 (fun e => hne (Option.some.inj e).symm))
  clear k4 G3
  go_wp2_with fail
  go_at_call 64
  refine (setF2 b q _ n w4 A4 N4).mono ?_
  rintro e w5 ⟨rfl, A5, k5⟩
  have G5 := gr_trans G4 k5
  have N5 := hn.keep (G5.block q L0 (fun e => hne (Option.some.inj e).symm))
  clear k5 G4
  go_wp2
  go_end0
  exact ⟨rfl, A5, G5⟩

end Go.Proofs.Ytlgcjhebbmejaaa
