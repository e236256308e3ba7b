/- Both Age, walked. -/
import Derived.Test.YtogabciiicjloaaRows
import Derived.WalkKit
import Derived.ProofKit
import Derived.OpenShut
import Derived.ShutString
import Derived.ChangeOld
import Derived.Below
import Derived.Deep.QuietTactic
import Derived.BigQuiet
import Derived.WalkSmall
import Derived.Laws.OwnMore
import Derived.WalkSpells
import Derived.Maps.AppendAt
import Derived.Test.YtogabciiicjloaaHeard11
import Derived.Test.YtogabciiicjloaaHeard12
namespace Go.Proofs.Ytogabciiicjloaa
open Go.ChangeShapes Go.WideShapes Go.ChangeAt Go.RowKit
open Go.ChangeMaps (open_string shut_string)
set_option linter.unusedVariables false

def Hd.older (h : Hd) : Hd := ⟨h.a, h.v, h.p, wrap64 (h.l - 1)⟩
def aged (L : List Hd) : List Hd := (L.filter fun h => !goneA h).map Hd.older
def forgot (n : Int) (L : List Hd) : List Hd := L.filter fun h => !goneF n h
theorem aged_app (A B : List Hd) : aged (A ++ B) = aged A ++ aged B := by simp [aged]
theorem forgot_app (n : Int) (A B : List Hd) : forgot n (A ++ B) = forgot n A ++ forgot n B := by simp [forgot]
theorem aged_len (L : List Hd) : (aged L).length ≤ L.length := by simpa [aged] using List.length_filter_le (fun h => !goneA h) L
theorem forgot_len (n : Int) (L : List Hd) : (forgot n L).length ≤ L.length := by simpa [forgot] using List.length_filter_le (fun h => !goneF n h) L
theorem take_step {L : List Hd} {k : Nat} {h : Hd} (hk : k < L.length) (hh : L.getD k Hd.nil = h) : L.take (k + 1) = L.take k ++ [h] := by
  rw [List.take_succ_eq_append_getElem hk]
  simp [List.getD, List.getElem?_eq_getElem hk] at hh
  rw [hh]
theorem heap_new (w : World) (o : Obj) : (w.alloc o).heap[w.heap.size]? = some o := by
  show (w.heap.push o)[w.heap.size]? = some o
  simp
theorem cells4' (w : World) (h : Hd) (t : TypeId) (n : Nat) (hn : n = w.heap.size) : ∀ j u, ([.int .i64 h.a, .int .i64 h.v, .int .i64 h.p, .int .i64 h.l] : List Value)[j]? = some u → (w.alloc (Obj.cells #[.int .i64 h.a, .int .i64 h.v, .int .i64 h.p, .int .i64 h.l] t)).cell? ((⟨n, 0, none⟩ : Addr).add j) = some u := by
  subst hn
  exact cells4 w h t
theorem hown_empty (w : World) : HOwn (w.alloc (.cells #[] 40)) w.heap.size (.slice (some ⟨w.heap.size, 0, none⟩) 0 0) [] :=
  ⟨rfl, .inr ⟨w.heap.size, 0, #[], rfl, Nat.le_refl _, heap_new w _, Nat.le_refl _, Nat.zero_le _, rfl, rfl⟩⟩
theorem picked_filter (L : List Hd) (q : Hd → Bool) : picked L (fun i => q (L.getD i Hd.nil)) = L.filter q := by
  have e : (List.range L.length).map (fun i => L.getD i Hd.nil) = L := by
    apply List.ext_getElem (by simp)
    intro i h1 h2
    simp [List.getD, List.getElem?_eq_getElem h2]
  unfold picked placesP
  conv => rhs; rw [← e, List.filter_map]
  rfl
/-- What an answer is: a list that lies behind 'base'. -/
def HRes (base : Nat) (M : List Hd) (e : Ending) (w' : World) : Prop :=
  ∃ ad cap, e = .returned (.slice ad M.length cap) ∧ HView w' ad M ∧ HRoom w' ad M.length ∧ ∀ a, ad = some a → base ≤ a.block ∧ a.block < w'.heap.size
theorem HOwn.res {w : World} {base : Nat} {v : Value} {M : List Hd} (h : HOwn w base v M) : HRes base M (.returned v) w := by
  obtain ⟨ad, cap, rfl, v, r, m⟩ := hown_view h
  exact ⟨ad, cap, rfl, v, r, fun a e => ⟨(m a e).1, (m a e).2.1⟩⟩
set_option maxHeartbeats 2000000 in
theorem ageS (ad : Option Addr) (cap : Nat) (L : List Hd) (w : World) (hv : HView w ad L) (hm : L.length ≤ 1048576) (hB : HIs ad L (· < w.heap.size)) :
    Calls Try.prog 21 #[.slice ad L.length cap] w fun e w' => HRes w.heap.size (aged L) e w' ∧ Below w.heap.size w w' := by
  obtain ⟨i1, hj, hy0, hy1, hy2⟩ := info_parts Try.info40'
  go_enter Try.func21, Try.ntmps21
  go_wp2
  go_loopw [3, 4] (fun l i wr => ∃ k : Nat, i = .int .i64 (k : Int) ∧ k ≤ L.length ∧ HOwn wr w.heap.size l (aged (L.take k)) ∧ Below w.heap.size w wr) (fun _ i _ => L.length - (intOf i).toNat)
  case atStart => exact ⟨0, rfl, Nat.zero_le _, hown_empty w, below_box w _⟩
  case round =>
    obtain ⟨k, rfl, hk, hl, hb⟩ := hrel
    by_cases hlt : k < L.length
    · obtain ⟨b, off, rfl, hc0⟩ := hv (by omega)
      obtain ⟨h, hh⟩ : ∃ h, L.getD k Hd.nil = h := ⟨_, rfl⟩
      have hck : HAt wr b (off + k * 4) h := by rw [← hh]; exact (hc0 k hlt).of_block (hb.block _ (hB ⟨b, off, none⟩ rfl (by omega)))
      obtain ⟨c1, c2, c3, c4⟩ := hck
      have hts := take_step hlt hh
      have hbs := hb.size
      obtain ⟨P, hP⟩ : ∃ P, aged (L.take k) = P := ⟨_, rfl⟩
      have hpl : Hid (P.length ≤ 1048576) := by rw [← hP]; have := aged_len (L.take k); unfold Hid; simp at this; omega
      rw [hP] at hl
      have hge := own_ge hl
      by_cases hg : 1 < h.l
      · have hnx : aged (L.take (k + 1)) = P ++ [h.older] := by
          rw [hts, aged_app, hP]
          have e : goneA h = false := decide_eq_false (by omega)
          simp [aged, e]
        have hnX : Hid (aged (L.take (k + 1)) = P ++ [h.older]) := hnx
        clear hh hc0 hts hP hnx
        go_wp2_with (first | (at_builtin; refine wpList_append_own_at _ rfl _ _ 24 rfl w.heap.size 40 i1 (.agg #[.int .i64 0, .int .i64 0, .int .i64 0, .int .i64 0]) 4 32 Try.underlying24 hj hy0 hy1 hy2 rfl (by decide) _ _ _ rfl ((hl.alloc _).alloc _) ⟨wr.heap.size + 1, 0, none⟩ 1 1 [.int .i64 h.a, .int .i64 h.v, .int .i64 h.p, .int .i64 (wrap64 (h.l - 1))] rfl rfl ?d1 ?d2 ?d3 ?d4 ?d5 ?_) | go_in)
        case d1 => exact cells4' (wr.alloc _) h.older _ _ (by simp)
        case d2 => intro u hu; simp at hu; rcases hu with rfl | rfl | rfl | rfl <;> rfl
        case d3 => have := hpl.out; unfold maxLen; omega
        case d4 => have := hpl.out; omega
        case d5 => simp; omega
        intro v' w3 hown3 hgrow3 _ _
        have hown4 : HOwn w3 w.heap.size v' (aged (L.take (k + 1))) := by
          rw [hnX.out]
          unfold HOwn
          rw [hcells_app, List.length_append]
          exact hown3
        have hb4 : Below w.heap.size w w3 := ((hb.alloc hbs _).alloc (by simp; omega) _).grown hgrow3 (by simp; omega) hge
        clear hown3 hgrow3
        go_wp2
        go_roundw
        case rel => exact ⟨k + 1, by go_num, by omega, hown4, hb4⟩
        case measure => simp [intOf]; omega
      · have hg' : decide (1 < h.l) = false := decide_eq_false hg
        have hnx : aged (L.take (k + 1)) = P := by
          rw [hts, aged_app, hP]
          have e : goneA h = true := decide_eq_true (by omega)
          simp [aged, e]
        have hl4 : HOwn (wr.alloc (Obj.cells #[.int .i64 h.a, .int .i64 h.v, .int .i64 h.p, .int .i64 h.l] 40)) w.heap.size u3 (aged (L.take (k + 1))) := by
          rw [hnx]
          exact hl.alloc _
        clear hh hc0 hts hP hnx hg
        go_wp2
        go_roundw
        case rel => exact ⟨k + 1, by go_num, by omega, hl4, hb.alloc hbs _⟩
        case measure => simp [intOf]; omega
    · obtain rfl : k = L.length := by omega
      rw [List.take_length] at hl
      go_wp2
      go_ret
      exact ⟨hl.res, hb⟩
/-- What the loop of impl.Age has done behind k rounds. -/
def HAged (base b off : Nat) (M : List Hd) (k : Nat) (w wr : World) : Prop :=
  Below base w wr ∧ b < wr.heap.size ∧ (∀ j, j < M.length * 4 → (∃ u, wr.cell? ⟨b, off + j, none⟩ = some u) ∧ wr.frozen? ⟨b, off + j, none⟩ = false) ∧ ∀ j, j < M.length → HAt wr b (off + j * 4) (if j < k then (M.getD j Hd.nil).older else M.getD j Hd.nil)
theorem HAged.step {base b off : Nat} {M : List Hd} {k : Nat} {w wr : World} (h : HAged base b off M k w wr) (hk : k < M.length) (hb : base ≤ b) : HAged base b off M (k + 1) w (wr.setCell ⟨b, off + k * 4 + 3, none⟩ (.int .i64 (wrap64 ((M.getD k Hd.nil).l - 1)))) := by
  obtain ⟨h1, h2, h3, h4⟩ := h
  refine ⟨h1.setCell hb _, by simpa using h2, fun j hj => ⟨cell?_setCell_some (h3 j hj).1.choose_spec, by simpa using (h3 j hj).2⟩, fun j hj => ?_⟩
  by_cases e : j = k
  · subst e
    obtain ⟨q0, q1, q2, q3⟩ := h4 j hj
    rw [if_neg (by omega)] at q0 q1 q2 q3
    rw [if_pos (by omega)]
    exact ⟨(cell_set_ne (by omega)).trans q0, (cell_set_ne (by omega)).trans q1, (cell_set_ne (by omega)).trans q2, cell_set_same ⟨_, q3⟩⟩
  · obtain ⟨q0, q1, q2, q3⟩ := h4 j hj
    have e2 : (if j < k + 1 then (M.getD j Hd.nil).older else M.getD j Hd.nil) = if j < k then (M.getD j Hd.nil).older else M.getD j Hd.nil := by
      by_cases q : j < k
      · rw [if_pos q, if_pos (by omega)]
      · rw [if_neg q, if_neg (by omega)]
    rw [e2]
    exact ⟨(cell_set_ne (by omega)).trans q0, (cell_set_ne (by omega)).trans q1, (cell_set_ne (by omega)).trans q2, (cell_set_ne (by omega)).trans q3⟩
set_option maxHeartbeats 2000000 in
theorem ageI (ad : Option Addr) (cap : Nat) (L : List Hd) (w : World) (hv : HView w ad L) (hm : L.length ≤ 1048576) (hB : HIs ad L (· < w.heap.size)) :
    Calls Try.prog 12 #[.slice ad L.length cap] w fun e w' => HRes w.heap.size (aged L) e w' ∧ Below w.heap.size w w' := by
  have hmx : L.length ≤ maxLen := by unfold maxLen; omega
  go_enter Try.func12, Try.ntmps12
  go_wp2_with fail
  go_at_call 38
  refine (placesOf ad cap L w hv hmx hB).mono ?_
  rintro e w1 ⟨rfl, D, o1, K1, b1⟩
  have t1 := o1.lt
  go_wp2_with fail
  go_at_call 39
  refine (dropA w.heap.size L.length D L w1 o1 K1).mono ?_
  rintro e w2 ⟨rfl, D2, o2, K2, g2⟩
  have s2 := g2.size
  have b2 : Below w.heap.size w w2 := b1.grown g2 (by omega) (fun j hj => by cases hj; exact Nat.le_refl _)
  have K3 : Keeps D2 L (fun i => (fun i => !goneA (L.getD i Hd.nil)) i = true) := K2.congr (fun i _ => by simp)
  clear o1 K1 g2 K2
  go_wp2_with fail
  go_at_call 41
  refine (told w.heap.size L.length D2 L (fun i => !goneA (L.getD i Hd.nil)) w2 o2 K3 hm hmx).mono ?_
  rintro e w3 ⟨v, rfl, o3, b3⟩
  rw [picked_filter L (fun h => !goneA h)] at o3
  have s3 := b3.size
  have B3 := b2.trans (b3.mono (by omega))
  clear o2 K3
  obtain ⟨M, hM⟩ : ∃ M, Hid (L.filter (fun h => !goneA h) = M) := ⟨_, rfl⟩
  rw [hM.out] at o3
  have hMl : M.length ≤ 1048576 := by rw [← hM.out]; have := List.length_filter_le (fun h => !goneA h) L; omega
  have hMg : Hid (aged L = M.map Hd.older) := by unfold Hid; rw [← hM.out]; rfl
  obtain ⟨adM, capM, rfl, vM, rM, mM⟩ := hown_view o3
  clear o3 hM
  by_cases hz : M.length = 0
  · have hM0 : M = [] := List.eq_nil_of_length_eq_zero hz
    subst hM0
    go_wp2
    refine wp_loop_rounds 1 ?_; rw [rounds_succ]
    go_wp2
    go_ret
    refine ⟨?_, B3⟩
    rw [hMg.out]
    exact ⟨adM, capM, rfl, fun h => absurd h (by simp), fun h => absurd h (by simp), fun a e => ⟨by have := (mM a e).1; omega, (mM a e).2.1⟩⟩
  · obtain ⟨b, off, rfl, hc⟩ := vM (by omega)
    obtain ⟨b', off', eb, hr⟩ := rM (by omega)
    obtain ⟨rfl, rfl⟩ : b = b' ∧ off = off' := by simpa using eb
    have m1 : w2.heap.size ≤ b := (mM _ rfl).1
    have m2 : b < w3.heap.size := (mM _ rfl).2.1
    have G0 : HAged w.heap.size b off M 0 w w3 := ⟨B3, m2, hr, fun j hj => by rw [if_neg (by omega)]; exact hc j hj⟩
    clear hc hr vM rM mM eb
    go_wp2
    go_loopw [14] (fun i wr => ∃ k : Nat, i = .int .i64 (k : Int) ∧ k ≤ M.length ∧ HAged w.heap.size b off M k w wr) (fun i _ => M.length - (intOf i).toNat)
    case atStart => exact ⟨0, rfl, Nat.zero_le _, G0⟩
    case round =>
      obtain ⟨k, rfl, hk, G⟩ := hrel
      clear G0
      by_cases hlt : k < M.length
      · have G1 := G.step hlt (by omega)
        obtain ⟨c0, c1, c2, c3⟩ := G.2.2.2 k hlt
        rw [if_neg (by omega)] at c3
        have hf := (G.2.2.1 (k * 4 + 3) (by omega)).2
        rw [← Nat.add_assoc] at hf
        obtain ⟨h, hh⟩ : ∃ h, M.getD k Hd.nil = h := ⟨_, rfl⟩
        rw [hh] at G1 c3
        clear c0 c1 c2 G hh
        go_wp2
        go_roundw
        case rel => exact ⟨k + 1, by go_num, by omega, G1⟩
        case measure => simp [intOf]; omega
      · obtain rfl : k = M.length := by omega
        go_wp2
        go_ret
        refine ⟨?_, G.1⟩
        rw [hMg.out]
        refine ⟨some ⟨b, off, none⟩, capM, by simp, fun _ => ⟨b, off, rfl, fun i hi => ?_⟩, fun _ => ⟨b, off, rfl, fun i hi => G.2.2.1 i (by simpa using hi)⟩, fun a e => ?_⟩
        · have hi' : i < M.length := by simpa using hi
          have q := G.2.2.2 i hi'
          rw [if_pos hi'] at q
          have e : (M.map Hd.older).getD i Hd.nil = (M.getD i Hd.nil).older := by simp [List.getD, List.getElem?_eq_getElem hi']
          rw [e]
          exact q
        · obtain rfl : (⟨b, off, none⟩ : Addr) = a := by simpa using e
          exact ⟨by show w.heap.size ≤ b; omega, G.2.1⟩

end Go.Proofs.Ytogabciiicjloaa
