/- impl.InBytes, walked. -/
import Derived.Test.YtlnogijlfompoaaDoorRows
import Derived.WalkKit
import Derived.ProofKit
import Derived.OpenShut
import Derived.ShutString
import Derived.ChangeOld
import Derived.Below
import Derived.Deep.QuietTactic
import Derived.BigQuiet
import Derived.WalkSmall
import Derived.Laws.OwnMore
import Derived.WalkSpells
import Derived.WalkLawsBesides
import Derived.Deep.Cut
import Derived.Test.YtlnogijlfompoaaDoorIb1
import Derived.Test.YtlnogijlfompoaaDoorIn2x
namespace Go.Proofs.YtlnogijlfompoaaDoor
open Go.ChangeShapes Go.WideShapes Go.ChangeAt Go.RowKit
open Go.ChangeMaps (open_string shut_string)
set_option linter.unusedVariables false
set_option maxRecDepth 100000

theorem inN_len (x : Ik) : (inN x).length ≤ 7 ∧ 2 ≤ (inN x).length := by
  unfold inN
  (repeat' split) <;> simp
theorem inN_bd {x : Ik} (h : inOk x = true) : ∀ y ∈ inN x, 0 ≤ y ∧ y ≤ 255 := fun y hy => by have := inOk_N h y hy; omega
theorem wfS {n : Int} (h0 : 0 ≤ n) (h1 : n < 128) : (Lit.int .i64 n).wf = true := by
  simp [Lit.wf, IntKind.min, IntKind.max, IntKind.signed, IntKind.bits]
  omega
theorem iAt {w : World} {ad : Option Addr} {L : List Int} (hv : FView iEnc w ad L) {k : Nat} (hk : k < L.length) : ∃ b off, ad = some ⟨b, off, none⟩ ∧ w.cell? ⟨b, off + k, none⟩ = some (.int .i64 (L.getD k 0)) := by
  obtain ⟨b, off, rfl, hc⟩ := hv (by omega)
  refine ⟨b, off, rfl, hc k _ ?_⟩
  rw [iCells, List.getElem?_map, List.getElem?_eq_getElem hk]
  simp [List.getD, List.getElem?_eq_getElem hk]
theorem take_next {L : List Int} {k : Nat} (hk : k < L.length) : L.take k ++ [L.getD k 0] = L.take (k + 1) := by
  rw [List.take_add_one, List.getElem?_eq_getElem hk]
  simp [List.getD, List.getElem?_eq_getElem hk]
theorem getD_mem0 {L : List Int} {k : Nat} (hk : k < L.length) : L.getD k 0 ∈ L := by
  simp only [List.getD, List.getElem?_eq_getElem hk, Option.getD_some]
  exact List.getElem_mem hk
set_option maxHeartbeats 4000000 in
theorem inBI (x : Ik) (w : World) : Calls Tryd.prog 42 #[.agg #[.int .i64 x.k, .int .i64 x.q, .int .i64 x.r, .int .i64 x.c, .int .i64 x.b, .int .i64 x.p, .int .i64 x.h, .bool x.up]] w fun e w' => ∃ v, e = .returned v ∧ w'.ownsRow w.heap.size 5 1 v (inBy x).length ((inBy x).map (Value.int .u8)) ∧ Below w.heap.size w w' := by
  obtain ⟨y, hy⟩ : ∃ y, y = w.alloc (Obj.cells #[.int .i64 x.k, .int .i64 x.q, .int .i64 x.r, .int .i64 x.c, .int .i64 x.b, .int .i64 x.p, .int .i64 x.h, .bool x.up] 26) := ⟨_, rfl⟩
  have A0 : InAt y w.heap.size x := by rw [hy]; exact InAt.new w _ x
  have B0 : Below w.heap.size w y := by rw [hy]; exact below_new _
  have E0 := A0.lt
  cases hok : inOk x with
  | false =>
    have e : inBy x = [] := by unfold inBy; rw [if_neg (by rw [hok]; simp)]
    rw [e]
    clear e
    obtain ⟨a0, a1, a2, a3, a4, a5, a6, a7⟩ := A0
    go_enter Tryd.func42, Tryd.ntmps42
    go_upto_region 1 with fail
    rw [← hy]
    clear hy
    go_wp2_with fail
    go_at_call 57
    refine (inOkI x y).mono ?_
    rintro e y1 ⟨rfl, k1⟩
    rw [hok]
    have B1 := B0.trans (k1.mono B0.size)
    go_wp2
    go_ret
    exact ⟨_, rfl, World.ownsRow_nil _ _ _ _, B1⟩
  | true =>
    have e : inBy x = inN x ++ low4 (sumL (inN x)) := by unfold inBy; rw [if_pos hok]
    rw [e]
    clear e
    have hbd := inOk_N hok
    have hlen := (inN_len x).1
    have HB := sumL_bd (inN x)
    obtain ⟨L, hL⟩ : ∃ L, inN x = L := ⟨_, rfl⟩
    rw [hL] at hbd hlen HB ⊢
    obtain ⟨s, hsum⟩ : ∃ s, sumL L = s := ⟨_, rfl⟩
    rw [hsum] at HB ⊢
    replace hL : Hid _ := hL
    replace hsum : Hid _ := hsum
    go_enter Tryd.func42, Tryd.ntmps42
    go_upto_region 1 with fail
    rw [← hy]
    clear hy
    have cc := A0
    obtain ⟨a0, a1, a2, a3, a4, a5, a6, a7⟩ := cc
    go_wp2_with fail
    go_at_call 57
    clear a0 a1 a2 a3 a4 a5 a6 a7
    refine (inOkI x y).mono ?_
    rintro e y1 ⟨rfl, k1⟩
    rw [hok]
    have B1 := B0.trans (k1.mono B0.size)
    have A1 := A0.below k1 E0
    clear A0 k1
    obtain ⟨a0, a1, a2, a3, a4, a5, a6, a7⟩ := A1
    go_wp2_with fail
    go_at_call 39
    clear a0 a1 a2 a3 a4 a5 a6 a7
    refine (numsI x y1).mono ?_
    rintro e y2 ⟨adN, capN, rfl, oN, k2⟩
    rw [hL.out] at oN ⊢
    have B2 := B1.trans (k2.mono B1.size)
    have vN := oN.view.2
    have lN : ∀ a, adN = some a → 0 < L.length → a.block < y2.heap.size := vN.lt iEnc_len (by omega)
    clear oN k2 B1 B0 hok E0
    go_wp2
    go_loopw [3, 12] (fun v i wr => ∃ k : Nat, k ≤ L.length ∧ i = .int .i64 k ∧ wr.ownsRow y2.heap.size 5 1 v (L.take k).length ((L.take k).map (Value.int .u8)) ∧ Below y2.heap.size y2 wr) (fun _ i _ => L.length - (intOf i).toNat)
    case atStart => exact ⟨0, Nat.zero_le _, rfl, World.ownsRow_nil _ _ _ _, Below.refl _ _⟩
    case round =>
      obtain ⟨k, hk, rfl, hown, hb⟩ := hrel
      by_cases hlt : k < L.length
      · obtain ⟨b, off, rfl, hc⟩ := iAt (vN.below hb lN) hlt
        obtain ⟨n0, n1⟩ := hbd _ (getD_mem0 hlt)
        have HT : Hid (L.take k ++ [L.getD k 0] = L.take (k + 1)) := take_next hlt
        have htl : (L.take k).length ≤ 7 := by simp; omega
        generalize L.getD k 0 = n at hc n0 n1 HT
        have hwf := wfS n0 n1
        have hs := hb.size
        go_wp2_with fail
        go_at_call 58
        refine (putImpl n wr hwf).mono ?_
        rintro e w2 ⟨v2, rfl, o2, k2⟩
        rw [putZ_small n0 (by omega)] at o2
        obtain ⟨_, ad2, cap2, rfl, v2, _, _⟩ := own_view o2
        have hown2 := own_carry hown k2
        have hb2 := hb.trans (k2.mono hs)
        have hs2 := k2.size
        generalize hM : L.take k = M at hown hown2 HT htl
        clear hM hown hc hwf o2
        go_wp2_with (first | (at_builtin; refine app_view rfl _ _ rfl y2.heap.size _ M rfl hown2 ad2 cap2 [n] rfl v2 ?n1 ?n2 ?n3 ?_))
        case n1 => exact fun h => by simp at h
        try case n2 => simp; omega
        try case n3 => omega
        intro v3 w3 o3 k3
        have hb3 := hb2.trans k3
        have o3 : w3.ownsRow y2.heap.size 5 1 v3 (M ++ [n]).length ((M ++ [n]).map (Value.int .u8)) := by simpa using o3
        rw [HT.out] at o3
        go_wp2
        go_roundw
        case rel => exact ⟨k + 1, by omega, by go_num, o3, hb3⟩
        case measure => simp [intOf]; omega
      · obtain rfl : k = L.length := by omega
        rw [List.take_length] at hown
        have hgd : ∀ i, 0 ≤ L.getD i 0 ∧ L.getD i 0 ≤ 255 := getD_bd (fun y hy => by have := hbd y hy; omega)
        obtain ⟨_, ad1, cap1, rfl, v1, _, _⟩ := own_view hown
        have hs := hb.size
        go_wp2_with fail
        go_at_call 60
        refine (sumImpl ad1 L.length cap1 (fun i => L.getD i 0) wr v1 (by omega) hgd).mono ?_
        rintro e w1 ⟨rfl, hw_⟩
        rw [hw_]
        clear hw_ w1
        rw [show sy (fun i => L.getD i 0) L.length * 65536 + sx (fun i => L.getD i 0) L.length = s from hsum.out]
        go_wp2_with fail
        go_at_call 59
        refine (lowFirst s wr HB.1 HB.2).mono ?_
        rintro e w2 ⟨rfl, v2, s2, k2⟩
        have hown2 := own_carry hown k2
        have hb2 := hb.trans (k2.mono hs)
        have e4 : (low4 s).length = 4 := rfl
        clear hown v1
        go_wp2_with (first | (at_builtin; refine app_view rfl _ _ rfl y2.heap.size _ L rfl hown2 (some ⟨wr.heap.size, 0, none⟩) 4 (low4 s) rfl v2 ?m1 ?m2 ?m3 ?_))
        case m1 => exact fun h => by simp [low4] at h
        try case m2 => rw [e4]; omega
        try case m3 => omega
        intro v3 w3 o3 k3
        have B3 := B2.trans ((hb2.trans k3).mono B2.size)
        clear e4
        have o3 : w3.ownsRow y2.heap.size 5 1 v3 (L ++ low4 s).length ((L ++ low4 s).map (Value.int .u8)) := by rw [List.length_append, show (low4 s).length = 4 from rfl]; simpa using o3
        go_wp2
        go_ret
        exact ⟨_, rfl, own_base o3 B2.size, B3⟩

end Go.Proofs.YtlnogijlfompoaaDoor
