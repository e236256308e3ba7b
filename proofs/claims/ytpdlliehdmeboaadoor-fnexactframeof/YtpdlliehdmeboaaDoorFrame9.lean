/- What FrameOf answers, in plain lists; copiedBytes, walked. -/
import Derived.Test.YtpdlliehdmeboaaDoorRows
import Derived.WalkKit
import Derived.ProofKit
import Derived.OpenShut
import Derived.ShutString
import Derived.ChangeOld
import Derived.Below
import Derived.Deep.QuietTactic
import Derived.BigQuiet
import Derived.WalkSmall
import Derived.Laws.OwnMore
import Derived.WalkSpells
import Derived.WalkLawsBesides
import Derived.Laws.CopyOwn
import Derived.Test.YtpdlliehdmeboaaDoorFrame8
import Derived.Test.YtpdlliehdmeboaaDoorGetImpl
namespace Go.Proofs.YtpdlliehdmeboaaDoor
open Go.ChangeShapes Go.WideShapes Go.ChangeAt Go.RowKit
open Go.ChangeMaps (open_string shut_string)
set_option linter.unusedVariables false

theorem getFrom_some {len at_ : Int} {g : Nat → Int} : ∀ (fuel k : Nat) {n s : Int}, getFrom len at_ g fuel k = some (n, s) → 0 ≤ n ∧ n ≤ 2147483647 ∧ at_ + 1 ≤ s ∧ s ≤ len ∧ 0 ≤ at_
  | 0, _, _, _, h => by simp [getFrom] at h
  | fuel + 1, k, n, s, h => by
    unfold getFrom at h
    split at h
    · simp at h
    · rename_i h1
      split at h
      · rename_i h2
        split at h
        · simp at h
        · rename_i h3
          simp only [Option.some.injEq, Prod.mk.injEq] at h
          obtain ⟨rfl, rfl⟩ := h
          have := val_bd g (k + 1)
          refine ⟨this.1, ?_, ?_, ?_, ?_⟩ <;> omega
      · exact getFrom_some fuel (k + 1) h
/-- What FrameOf answers: the frame, and whether it is one. -/
structure FR where
  a : Int
  b : Int
  c : Int
  M : List Int
  ok : Bool
def FR.no : FR := ⟨0, 0, 0, [], false⟩
def eqL (A B : List Int) : Bool := (txt A).toList == (txt B).toList
def frameOf (L : List Int) : FR :=
  match getFrom L.length 3 (fun i => L.getD (3 + i) 0) 5 0 with
  | none => FR.no
  | some (n, s) => if n ≠ (L.length : Int) - s - 4 then FR.no else
    if eqL (written (L.getD 0 0) (L.getD 1 0) (L.getD 2 0) ((L.drop s.toNat).take n.toNat)) L = true then ⟨L.getD 0 0, L.getD 1 0, L.getD 2 0, (L.drop s.toNat).take n.toNat, true⟩ else FR.no
/-- The three ways of FrameOf. -/
def Of (L : List Int) : Prop :=
  (getFrom L.length 3 (fun i => L.getD (3 + i) 0) 5 0 = none ∧ frameOf L = FR.no) ∨
  (∃ p q : Nat, getFrom L.length 3 (fun i => L.getD (3 + i) 0) 5 0 = some ((q : Int), (p : Int)) ∧ 4 ≤ p ∧ q ≤ 2147483647 ∧ p ≤ L.length ∧ (q : Int) ≠ (L.length : Int) - p - 4 ∧ frameOf L = FR.no) ∨
  ∃ p q : Nat, getFrom L.length 3 (fun i => L.getD (3 + i) 0) 5 0 = some ((q : Int), (p : Int)) ∧ 4 ≤ p ∧ L.length = p + q + 4 ∧
    frameOf L = if eqL (written (L.getD 0 0) (L.getD 1 0) (L.getD 2 0) ((L.drop p).take q)) L = true then ⟨L.getD 0 0, L.getD 1 0, L.getD 2 0, (L.drop p).take q, true⟩ else FR.no
theorem of_ways (L : List Int) : Of L := by
  cases h : getFrom L.length 3 (fun i => L.getD (3 + i) 0) 5 0 with
  | none => exact .inl ⟨h, by unfold frameOf; rw [h]⟩
  | some r =>
    obtain ⟨n, s⟩ := r
    obtain ⟨h1, h2, h3, h4, _⟩ := getFrom_some 5 0 h
    obtain ⟨q, rfl⟩ : ∃ q : Nat, n = (q : Int) := ⟨n.toNat, by omega⟩
    obtain ⟨p, rfl⟩ : ∃ p : Nat, s = (p : Int) := ⟨s.toNat, by omega⟩
    by_cases hne : (q : Int) ≠ (L.length : Int) - p - 4
    · exact .inr (.inl ⟨p, q, h, by omega, by omega, by omega, hne, by unfold frameOf; rw [h]; exact if_pos hne⟩)
    · refine .inr (.inr ⟨p, q, h, by omega, by omega, ?_⟩)
      unfold frameOf
      rw [h]
      exact if_neg hne
theorem txtf_list (L : List Int) : txtf (fun i => L.getD i 0) L.length = txt L := by
  unfold txtf
  congr 1
  refine List.ext_getElem (by simp) fun i h1 h2 => ?_
  simp [List.getD, h2]
theorem eqL_self (L : List Int) : eqL L L = true := by unfold eqL; simp
theorem cut_view {w : World} {b off : Nat} {L : List Int} (hv : View w (some ⟨b, off, none⟩) L.length (fun i => L.getD i 0)) (p q : Nat) (h : p + q ≤ L.length) :
    View w (some ⟨b, off + p, none⟩) ((L.drop p).take q).length (fun i => ((L.drop p).take q).getD i 0) := by
  intro hp
  have hq : ((L.drop p).take q).length = q := by simp; omega
  rw [hq] at hp ⊢
  obtain ⟨b', off', e, hc⟩ := hv (by omega)
  cases e
  refine ⟨b, off + p, rfl, fun i hi => ?_⟩
  have := hc (p + i) (by omega)
  rw [Nat.add_assoc, this]
  congr 2
  simp [List.getD, hi]
theorem cut_bd {L : List Int} (hL : ∀ x ∈ L, 0 ≤ x ∧ x ≤ 255) (p q : Nat) : ∀ x ∈ (L.drop p).take q, 0 ≤ x ∧ x ≤ 255 :=
  fun x hx => hL x (List.mem_of_mem_drop (List.mem_of_mem_take hx))
theorem own_nil {w : World} {base E n : Nat} {ad : Option Addr} {cap : Nat} {xs : List Value} (h : w.ownsRow base E 1 (.slice ad n cap) n xs) : (ad = none → cap = 0) ∧ n ≤ cap := by
  rcases h.2 with ⟨e, h0⟩ | ⟨g, cap', cur, e, hb, hg, hnc, _⟩
  · cases e; exact ⟨fun _ => rfl, Nat.le_refl _⟩
  · cases e; exact ⟨fun h => (by cases h), hnc⟩

set_option maxHeartbeats 1000000 in
theorem copied0 (ad : Option Addr) (len cap : Nat) (cs : List Value) (w : World) (hcs : Hid (cs.length = len)) (hone : ∀ u ∈ cs, u.oneCell' = true) (hv : 0 < len → ∃ x, ad = some x ∧ ∀ j u, cs[j]? = some u → w.cell? (x.add j) = some u) (hm : len ≤ 1048576) :
    Calls Tryd.prog 45 #[.slice ad len cap] w fun e w' => ∃ v, e = .returned v ∧ w'.ownsRow w.heap.size 5 1 v len cs ∧ Below w.heap.size w w' := by
  by_cases h0 : len = 0
  · subst h0
    obtain rfl : cs = [] := List.eq_nil_of_length_eq_zero hcs
    go_enter Tryd.func45, Tryd.ntmps45
    go_wp2
    go_ret
    exact ⟨_, rfl, World.ownsRow_nil _ _ _ _, Below.refl _ _⟩
  obtain ⟨i0, hi, hz0, hz1, hz2⟩ := info_parts Tryd.info5'
  have hne : decide ((len : Int) = 0) = false := decide_eq_false (by omega)
  obtain ⟨x, rfl, hc⟩ := hv (by omega)
  go_enter Tryd.func45, Tryd.ntmps45
  go_wp2_with (first | (refine wpList_make_full _ rfl _ _ 22 rfl w.heap.size 5 i0 (.int .u8 0) 1 Tryd.underlying22 hi hz0 hz1 .i64 .i64 _ _ len rfl rfl rfl rfl ?c1 ?c2 ?c3 ?_) | go_in)
  case c1 => rw [hz2]; omega
  case c2 => unfold maxLen; omega
  case c3 => exact Nat.le_refl _
  intro w1 hown hgrow
  have B1 : Below w.heap.size w w1 := (Below.refl _ _).grown hgrow (Nat.le_refl _) (by simp)
  obtain ⟨cur, hg, hcur⟩ : ∃ cur : Array Value, w1.heap[w.heap.size]? = some (.cells cur 5 (0, 0)) ∧ Hid (cur.size = len) := by
    rcases hown.2 with ⟨h, _⟩ | ⟨g, cap, cur, h, _, hg, _, _, hsz, _⟩
    · simp at h
    · simp only [Value.slice.injEq, Option.some.injEq, Addr.mk.injEq, and_true, true_and] at h
      obtain ⟨rfl, rfl⟩ := h
      exact ⟨cur, hg, show _ = _ by omega⟩
  have hc1 : ∀ j u, cs[j]? = some u → w1.cell? (x.add j) = some u := fun j u hj => by
    have h1 := hc j u hj
    have hlt : (x.add j).block < w.heap.size := World.block_lt_of_cell? w _ h1
    exact (B1.cell (p := x.add j) hlt).trans h1
  clear hown hgrow hc
  have hsz : (Tryd.prog.info? 5).map (·.size) = some 1 := by rw [hi]; simp [hz1]
  have hn2 : cs.length = Nat.min len len := by rw [hcs.out]; exact (Nat.min_self _).symm
  have hn3 : 0 + cs.length ≤ cur.size := by rw [hcs.out, hcur.out]; omega
  have hres : (cur.toList.take 0 ++ (cs ++ cur.toList.drop (0 + cs.length))).toArray = cs.toArray := by
    rw [List.drop_eq_nil_of_le (by rw [Array.length_toList]; have := hcs.out; have := hcur.out; omega)]; simp
  go_wp2_with (first | (refine wpList_copy_own rfl _ _ 22 22 rfl 5 Tryd.underlying22 hsz w.heap.size 0 len len x len cap rfl rfl cur 5 hg cs hn2 hc1 hn3 hone ?_; rw [hres]) | go_in)
  go_ret
  refine ⟨_, rfl, ⟨show cs.length = len * 1 by rw [hcs.out]; omega, .inr ⟨w.heap.size, len, cs.toArray, rfl, Nat.le_refl _, ?_, Nat.le_refl _, by unfold maxLen; omega, by rw [List.size_toArray, hcs.out]; omega, ?_⟩⟩, below_setRow B1 (Nat.le_refl _) _⟩
  · exact setRow_heap w1 _ cur _ _ _ hg
  · rw [List.take_of_length_le]
    have := hcs.out
    simp; omega
theorem copied (ad : Option Addr) (cap : Nat) (M : List Int) (w : World) (hv : View w ad M.length (fun i => M.getD i 0)) (hm : M.length ≤ 1048576) :
    Calls Tryd.prog 45 #[.slice ad M.length cap] w fun e w' => ∃ v, e = .returned v ∧ w'.ownsRow w.heap.size 5 1 v M.length (M.map (Value.int .u8)) ∧ Below w.heap.size w w' := by
  refine copied0 ad M.length cap (M.map (Value.int .u8)) w (show _ = _ by simp) (fun u hu => by obtain ⟨y, _, rfl⟩ := List.mem_map.1 hu; rfl) (fun hp => ?_) hm
  obtain ⟨b, off, rfl, _⟩ := hv hp
  exact ⟨_, rfl, hv.add⟩

end Go.Proofs.YtpdlliehdmeboaaDoor
