/- Both Forget, and spec.Age, walked. -/
import Derived.Test.YtifndemkkaelaaaGreatRows
import Derived.WalkKit
import Derived.ProofKit
import Derived.OpenShut
import Derived.ShutString
import Derived.ChangeOld
import Derived.Below
import Derived.Deep.QuietTactic
import Derived.BigQuiet
import Derived.WalkSmall
import Derived.Laws.OwnMore
import Derived.WalkSpells
import Derived.Maps.AppendAt
import Derived.Test.YtifndemkkaelaaaGreatZc11
namespace Go.Proofs.YtifndemkkaelaaaGreat
open Go.ChangeShapes Go.WideShapes Go.ChangeAt Go.RowKit
open Go.ChangeMaps (open_string shut_string)
set_option linter.unusedVariables false

def Hd.older (h : Hd) : Hd := ⟨h.a, h.v, h.p, wrap64 (h.l - 1)⟩
def aged (L : List Hd) : List Hd := (L.filter fun h => !goneA h).map Hd.older
def forgot (n : Int) (L : List Hd) : List Hd := L.filter fun h => !goneF n h
theorem aged_app (A B : List Hd) : aged (A ++ B) = aged A ++ aged B := by simp [aged]
theorem forgot_app (n : Int) (A B : List Hd) : forgot n (A ++ B) = forgot n A ++ forgot n B := by simp [forgot]
theorem aged_len (L : List Hd) : (aged L).length ≤ L.length := by simpa [aged] using List.length_filter_le (fun h => !goneA h) L
theorem forgot_len (n : Int) (L : List Hd) : (forgot n L).length ≤ L.length := by simpa [forgot] using List.length_filter_le (fun h => !goneF n h) L
theorem take_step {L : List Hd} {k : Nat} {h : Hd} (hk : k < L.length) (hh : L.getD k Hd.nil = h) : L.take (k + 1) = L.take k ++ [h] := by
  rw [List.take_succ_eq_append_getElem hk]
  simp [List.getD, List.getElem?_eq_getElem hk] at hh
  rw [hh]
theorem heap_new (w : World) (o : Obj) : (w.alloc o).heap[w.heap.size]? = some o := by
  show (w.heap.push o)[w.heap.size]? = some o
  simp
theorem cells4' (w : World) (h : Hd) (t : TypeId) (n : Nat) (hn : n = w.heap.size) : ∀ j u, ([.int .i64 h.a, .int .i64 h.v, .int .i64 h.p, .int .i64 h.l] : List Value)[j]? = some u → (w.alloc (Obj.cells #[.int .i64 h.a, .int .i64 h.v, .int .i64 h.p, .int .i64 h.l] t)).cell? ((⟨n, 0, none⟩ : Addr).add j) = some u := by
  subst hn
  exact cells4 w h t
theorem hown_empty (w : World) : HOwn (w.alloc (.cells #[] 97)) w.heap.size (.slice (some ⟨w.heap.size, 0, none⟩) 0 0) [] :=
  ⟨rfl, .inr ⟨w.heap.size, 0, #[], rfl, Nat.le_refl _, heap_new w _, Nat.le_refl _, Nat.zero_le _, rfl, rfl⟩⟩
theorem picked_filter (L : List Hd) (q : Hd → Bool) : picked L (fun i => q (L.getD i Hd.nil)) = L.filter q := by
  have e : (List.range L.length).map (fun i => L.getD i Hd.nil) = L := by
    apply List.ext_getElem (by simp)
    intro i h1 h2
    simp [List.getD, List.getElem?_eq_getElem h2]
  unfold picked placesP
  conv => rhs; rw [← e, List.filter_map]
  rfl
def HRes (base : Nat) (M : List Hd) (e : Ending) (w' : World) : Prop :=
  ∃ ad cap, e = .returned (.slice ad M.length cap) ∧ HView w' ad M ∧ HRoom w' ad M.length ∧ ∀ a, ad = some a → base ≤ a.block ∧ a.block < w'.heap.size
theorem HOwn.res {w : World} {base : Nat} {v : Value} {M : List Hd} (h : HOwn w base v M) : HRes base M (.returned v) w := by
  obtain ⟨ad, cap, rfl, v, r, m⟩ := hown_view h
  exact ⟨ad, cap, rfl, v, r, fun a e => ⟨(m a e).1, (m a e).2.1⟩⟩
set_option maxHeartbeats 2000000 in
theorem forgS (ad : Option Addr) (cap : Nat) (L : List Hd) (n : Int) (w : World) (hv : HView w ad L) (hm : L.length ≤ 1048576) (hB : HIs ad L (· < w.heap.size)) :
    Calls Tryz.prog 54 #[.slice ad L.length cap, .int .i64 n] w fun e w' => HRes w.heap.size (forgot n L) e w' ∧ Below w.heap.size w w' := by
  obtain ⟨i1, hj, hy0, hy1, hy2⟩ := info_parts Tryz.info97'
  go_enter Tryz.func54, Tryz.ntmps54
  go_wp2
  go_loopw [5, 6] (fun l i wr => ∃ k : Nat, i = .int .i64 (k : Int) ∧ k ≤ L.length ∧ HOwn wr w.heap.size l (forgot n (L.take k)) ∧ Below w.heap.size w wr) (fun _ i _ => L.length - (intOf i).toNat)
  case atStart => exact ⟨0, rfl, Nat.zero_le _, hown_empty w, below_box w _⟩
  case round =>
    obtain ⟨k, rfl, hk, hl, hb⟩ := hrel
    by_cases hlt : k < L.length
    · obtain ⟨b, off, rfl, hc0⟩ := hv (by omega)
      obtain ⟨h, hh⟩ : ∃ h, L.getD k Hd.nil = h := ⟨_, rfl⟩
      have hck : HAt wr b (off + k * 4) h := by rw [← hh]; exact (hc0 k hlt).of_block (hb.block _ (hB ⟨b, off, none⟩ rfl (by omega)))
      obtain ⟨c1, c2, c3, c4⟩ := hck
      have hts := take_step hlt hh
      have hbs := hb.size
      obtain ⟨P, hP⟩ : ∃ P, forgot n (L.take k) = P := ⟨_, rfl⟩
      have hpl : Hid (P.length ≤ 1048576) := by rw [← hP]; have := forgot_len n (L.take k); unfold Hid; simp at this; omega
      rw [hP] at hl
      have hge := own_ge hl
      by_cases hg : h.p = n
      · have hg' : (h.p != n) = false := by simp [hg]
        have hnx : forgot n (L.take (k + 1)) = P := by
          rw [hts, forgot_app, hP]
          simp [forgot, goneF, hg]
        have hl4 : HOwn wr w.heap.size u5 (forgot n (L.take (k + 1))) := by
          rw [hnx]
          exact hl
        clear hh hc0 hts hP hnx hg
        go_wp2
        go_roundw
        case rel => exact ⟨k + 1, by go_num, by omega, hl4, hb⟩
        case measure => simp [intOf]; omega
      · have hg' : (h.p != n) = true := by simp [hg]
        have hnX : Hid (forgot n (L.take (k + 1)) = P ++ [h]) := by
          unfold Hid
          rw [hts, forgot_app, hP]
          simp [forgot, goneF, hg]
        clear hh hc0 hts hP hg
        go_wp2_with (first | (at_builtin; refine wpList_append_own_at _ rfl _ _ 26 rfl w.heap.size 97 i1 (.agg #[.int .i64 0, .int .i64 0, .int .i64 0, .int .i64 0]) 4 32 Tryz.underlying26 hj hy0 hy1 hy2 rfl (by decide) _ _ _ rfl (hl.alloc _) ⟨wr.heap.size, 0, none⟩ 1 1 [.int .i64 h.a, .int .i64 h.v, .int .i64 h.p, .int .i64 h.l] rfl rfl ?d1 ?d2 ?d3 ?d4 ?d5 ?_) | go_in)
        case d1 => exact cells4 wr h _
        case d2 => intro u hu; simp at hu; rcases hu with rfl | rfl | rfl | rfl <;> rfl
        case d3 => have := hpl.out; unfold maxLen; omega
        case d4 => have := hpl.out; omega
        case d5 => simp; omega
        intro v' w3 hown3 hgrow3 _ _
        have hown4 : HOwn w3 w.heap.size v' (forgot n (L.take (k + 1))) := by
          rw [hnX.out]
          unfold HOwn
          rw [hcells_app, List.length_append]
          exact hown3
        have hb4 : Below w.heap.size w w3 := (hb.alloc hbs _).grown hgrow3 (by simp; omega) hge
        clear hown3 hgrow3
        go_wp2
        go_roundw
        case rel => exact ⟨k + 1, by go_num, by omega, hown4, hb4⟩
        case measure => simp [intOf]; omega
    · obtain rfl : k = L.length := by omega
      rw [List.take_length] at hl
      go_wp2
      go_ret
      exact ⟨hl.res, hb⟩
set_option maxHeartbeats 2000000 in
theorem forgI (ad : Option Addr) (cap : Nat) (L : List Hd) (n : Int) (w : World) (hv : HView w ad L) (hm : L.length ≤ 1048576) (hB : HIs ad L (· < w.heap.size)) :
    Calls Tryz.prog 50 #[.slice ad L.length cap, .int .i64 n] w fun e w' => HRes w.heap.size (forgot n L) e w' ∧ Below w.heap.size w w' := by
  have hmx : L.length ≤ maxLen := by unfold maxLen; omega
  obtain ⟨w0, hx⟩ : ∃ x, x = w.alloc (Obj.cells #[.int .i64 n] 3) := ⟨_, rfl⟩
  have b0 : Below w.heap.size w w0 := by rw [hx]; exact below_box w _
  have t0 : w0.heap.size = w.heap.size + 1 := by rw [hx]; simp
  have c0 : w0.cell? ⟨w.heap.size, 0, none⟩ = some (.int .i64 n) := by rw [hx]; simp [go_sem]
  go_enter Tryz.func50, Tryz.ntmps50
  go_wp2_with fail
  go_at_call 101
  rw [← hx]
  clear hx
  refine (placesOf ad cap L w0 (hv.below hB b0) hmx (hB.le b0.size)).mono ?_
  rintro e w1 ⟨rfl, D, o1, K1, b1⟩
  rw [t0] at b1 o1 ⊢
  have t1 := o1.lt
  have c1 : w1.cell? ⟨w.heap.size, 0, none⟩ = some (.int .i64 n) := (b1.cell (p := ⟨w.heap.size, 0, none⟩) (by show w.heap.size < _; omega)).trans c0
  have B1 : Below w.heap.size w w1 := b0.trans (b1.mono (by omega))
  clear t0 b0 b1 c0
  go_wp2_with fail
  go_at_call 102
  refine (dropF (w.heap.size + 1) L.length D L n w.heap.size w1 o1 K1 (by omega) c1).mono ?_
  rintro e w2 ⟨rfl, D2, o2, K2, g2⟩
  have s2 := g2.size
  have b2 : Below w.heap.size w w2 := B1.grown g2 (by omega) (fun j hj => by cases hj; omega)
  have K3 : Keeps D2 L (fun i => (fun i => !goneF n (L.getD i Hd.nil)) i = true) := K2.congr (fun i _ => by simp)
  clear o1 K1 g2 K2 c1
  go_wp2_with fail
  go_at_call 104
  refine (told (w.heap.size + 1) L.length D2 L (fun i => !goneF n (L.getD i Hd.nil)) w2 o2 K3 hm hmx).mono ?_
  rintro e w3 ⟨v, rfl, o3, b3⟩
  rw [picked_filter L (fun h => !goneF n h)] at o3
  have B3 := b2.trans (b3.mono (by omega))
  have hl : HOwn w3 w.heap.size v (forgot n L) := own_base' o3 (by omega)
  clear o2 K3 o3
  go_wp2
  go_ret
  exact ⟨hl.res, B3⟩

end Go.Proofs.YtifndemkkaelaaaGreat
