/- spec.CardOk, walked. The contract of slices.Sort at this translation, laid in plain words by the guide's own tool. What was heard, as a map by its place. What leaves the map. -/
import Derived.Test.YtifndemkkaelaaaGreatRows
import Derived.WalkKit
import Derived.ProofKit
import Derived.OpenShut
import Derived.ShutString
import Derived.ChangeOld
import Derived.Below
import Derived.Deep.QuietTactic
import Derived.BigQuiet
import Derived.WalkSmall
import Derived.Laws.OwnMore
import Derived.WalkSpells
import Derived.WalkLawsBesides
import Derived.Test.YtifndemkkaelaaaGreatZl7
import Derived.Test.YtifndemkkaelaaaGreatZlHeard7
import Derived.Test.YtifndemkkaelaaaGreatZlNets5
import Derived.Test.YtifndemkkaelaaaGreatZl1
import Derived.Shelf.Sort.Plain
import Derived.Test.YtifndemkkaelaaaGreatProg
import Derived.Maps.Own
import Derived.Maps.OwnOps
import Derived.Maps.OwnSet
import Derived.Maps.RangeWalk
import Derived.Test.YtifndemkkaelaaaGreatZl6
namespace Go.Proofs.YtifndemkkaelaaaGreat
open Go.ChangeShapes Go.WideShapes Go.ChangeAt Go.RowKit
open Go.ChangeMaps (open_string shut_string)
set_option linter.unusedVariables false
set_option maxRecDepth 100000

def okMem (d : Int × List Int) : Bool := mOk d.1 (fun i => d.2.getD i 0) d.2.length
def cOk (O : List Bool) (D : DL) (T : List Hd) : Bool := decide (1 ≤ O.length) && (decide (O.length ≤ 4) && (decide (D.length = O.length) && (D.all okMem && tokB T)))
theorem all_no {D : DL} {k : Nat} (hk : k < D.length) (h : okMem (D.getD k (0, [])) = false) : D.all okMem = false := by
  rw [List.all_eq_false]
  exact ⟨D.getD k (0, []), by simp [List.getD, List.getElem?_eq_getElem hk], by rw [h]; simp⟩
theorem all_yes {D : DL} (h : ∀ k, k < D.length → okMem (D.getD k (0, [])) = true) : D.all okMem = true := by
  rw [List.all_eq_true]
  intro d hd
  obtain ⟨i, hi, rfl⟩ := List.getElem_of_mem hd
  have := h i hi
  simpa [List.getD, List.getElem?_eq_getElem hi] using this
theorem siz_max (D : DL) (h : sizD D ≤ 1048576) (i : Nat) (hi : i < D.length) : (D.getD i (0, [])).2.length ≤ maxLen := by
  have := getD_siz hi
  unfold maxLen
  omega
set_option maxHeartbeats 2000000 in
theorem cardOkS (adO : Option Addr) (cO : Nat) (O : List Bool) (adM : Option Addr) (cM : Nat) (D : DL) (adT : Option Addr) (cT : Nat) (T : List Hd) (lo hi : Nat) (w : World) (I : CdV w lo hi adO O adM D adT T) (ht : hi ≤ w.heap.size) (hl : O.length + totD D + T.length ≤ 1048576) :
    Calls Tryz.prog 16 #[.agg #[.slice adO O.length cO, .slice adM D.length cM, .slice adT T.length cT]] w fun e w' => e = .returned (.bool (cOk O D T)) ∧ Below w.heap.size w w' := by
  obtain ⟨Ms, hD, vM, iM, jM⟩ := I.vM
  have hlen : D.length = Ms.length := by rw [← hD, List.length_map]
  have hget : ∀ i, D.getD i (0, []) = (Ms.getD i Mb.nil).d := fun i => by rw [← hD]; exact d_get Ms i
  have hts := tot_siz D
  have hmx : ∀ i, i < Ms.length → (Ms.getD i Mb.nil).L.length ≤ maxLen := fun i hi => by
    have := siz_max D (by omega) i (by omega)
    rw [hget i] at this
    exact this
  have iT : HIs adT T (· < w.heap.size) := fun a e p => by have := I.iT a e p; show a.block < _; omega
  have lT : T.length ≤ maxLen := by unfold maxLen; omega
  have vT := I.vT
  clear hts jM
  rw [hlen]
  obtain ⟨x0, hx⟩ : ∃ x, x = w.alloc (Obj.cells #[.slice adO O.length cO, .slice adM Ms.length cM, .slice adT T.length cT] 28) := ⟨_, rfl⟩
  have B0 : Below w.heap.size w x0 := by rw [hx]; exact below_box w _
  have A0 : CdAt x0 w.heap.size adO O.length cO adM Ms.length cM adT T.length cT := by rw [hx]; exact CdAt.box _ _ _ _ _ _ _ _ _ _ _
  have T0 : w.heap.size < x0.heap.size := A0.lt
  by_cases h1 : 1 ≤ (O.length : Int) ∧ (O.length : Int) ≤ 4
  rotate_left
  · have d1 : decide (1 ≤ (O.length : Int) ∧ (O.length : Int) ≤ 4) = false := decide_eq_false h1
    have hC : Hid (cOk O D T = false) := by
      unfold Hid cOk
      by_cases q : 1 ≤ O.length
      · rw [decide_eq_false (p := O.length ≤ 4) (by omega)]; simp
      · rw [decide_eq_false q]; rfl
    rw [hC.out]
    clear h1 hC
    go_enter Tryz.func16, Tryz.ntmps16
    go_wp2_with fail
    go_at_call 45
    rw [← hx]
    clear hx
    refine (inIs (O.length : Int) 1 4 x0).mono ?_
    rintro e w1 ⟨rfl, rfl⟩
    rw [d1]
    go_wp2
    go_ret
    exact ⟨rfl, B0⟩
  have d1 : decide (1 ≤ (O.length : Int) ∧ (O.length : Int) ≤ 4) = true := decide_eq_true h1
  by_cases h2 : Ms.length = O.length
  rotate_left
  · have d2 : ((Ms.length : Int) != (O.length : Int)) = true := by simp; omega
    have hC : Hid (cOk O D T = false) := by
      unfold Hid cOk
      rw [decide_eq_false (p := D.length = O.length) (by omega)]; simp
    rw [hC.out]
    clear h1 h2 hC
    go_enter Tryz.func16, Tryz.ntmps16
    go_wp2_with fail
    go_at_call 45
    rw [← hx]
    clear hx
    refine (inIs (O.length : Int) 1 4 x0).mono ?_
    rintro e w1 ⟨rfl, rfl⟩
    rw [d1]
    obtain ⟨C1, C2, C3⟩ := A0
    go_wp2
    go_ret
    exact ⟨rfl, B0⟩
  have d2 : ((Ms.length : Int) != (O.length : Int)) = false := by simp; omega
  by_cases h3 : tokB T = true
  rotate_left
  · have h3' : tokB T = false := by simpa using h3
    have hC : Hid (cOk O D T = false) := by unfold Hid cOk; rw [h3']; simp
    rw [hC.out]
    clear h1 h2 h3 hC
    go_enter Tryz.func16, Tryz.ntmps16
    go_wp2_with fail
    go_at_call 45
    rw [← hx]
    clear hx
    refine (inIs (O.length : Int) 1 4 x0).mono ?_
    rintro e w1 ⟨rfl, rfl⟩
    rw [d1]
    obtain ⟨C1, C2, C3⟩ := A0
    go_wp2_with fail
    go_at_call 55
    refine (okS adT cT T w1 (vT.below iT B0) lT (iT.le B0.size)).mono ?_
    rintro e w2 ⟨rfl, k2⟩
    rw [h3']
    go_wp2
    go_ret
    exact ⟨rfl, B0.trans (k2.mono B0.size)⟩
  have hC : Hid (cOk O D T = D.all okMem) := by
    unfold Hid cOk
    rw [decide_eq_true (p := 1 ≤ O.length) (by omega), decide_eq_true (p := O.length ≤ 4) (by omega), decide_eq_true (p := D.length = O.length) (by omega), h3]
    simp
  rw [hC.out]
  have hm2 : Ms.length ≤ 1048576 := by omega
  clear h1 h2 hC
  go_enter Tryz.func16, Tryz.ntmps16
  go_wp2_with fail
  go_at_call 45
  rw [← hx]
  clear hx
  refine (inIs (O.length : Int) 1 4 x0).mono ?_
  rintro e w1 ⟨rfl, rfl⟩
  rw [d1]
  have A0' := A0
  obtain ⟨C1, C2, C3⟩ := A0'
  go_wp2_with fail
  go_at_call 55
  refine (okS adT cT T w1 (vT.below iT B0) lT (iT.le B0.size)).mono ?_
  rintro e w2 ⟨rfl, k2⟩
  rw [h3]
  have B2 := B0.trans (k2.mono B0.size)
  have A2 := A0.below k2 T0
  have T2 : w.heap.size < w2.heap.size := A2.lt
  clear C1 C2 C3 A0 B0 T0 k2 d1 d2 h3
  go_wp2
  go_loopw [3] (fun i wr => ∃ k : Nat, i = .int .i64 (k : Int) ∧ k ≤ Ms.length ∧ Hid (∀ j, j < k → okMem (D.getD j (0, [])) = true) ∧ Below w.heap.size w wr ∧ CdAt wr w.heap.size adO O.length cO adM Ms.length cM adT T.length cT) (fun i _ => Ms.length - (intOf i).toNat)
  case atStart => exact ⟨0, rfl, Nat.zero_le _, fun j hj => absurd hj (by omega), B2, A2⟩
  case round =>
    obtain ⟨k, rfl, hk, hF, hb, hA⟩ := hrel
    clear A2 B2 T2
    have hA' := hA
    obtain ⟨C1, C2, C3⟩ := hA'
    by_cases hlt : k < Ms.length
    · obtain ⟨b, off, rfl, hc⟩ := vM.row (by omega)
      have hck := (hc k hlt).same (hb.block _ (vM.lt ⟨b, off, none⟩ rfl (by omega)))
      have hnk := ViewI.below (vM.nest k hlt) hb (Nat.le_refl _)
      have hmk := hmx k hlt
      have hgk := hget k
      obtain ⟨m, hh⟩ : ∃ m, Ms.getD k Mb.nil = m := ⟨_, rfl⟩
      rw [hh] at hck hnk hmk hgk
      obtain ⟨c1, c2⟩ := hck
      have hgk' : Hid (okMem (D.getD k (0, [])) = mOk m.o (fun i => m.L.getD i 0) m.L.length) := by unfold Hid; rw [hgk]; rfl
      clear hc hh hgk hget vM iM vT
      go_wp2_with fail
      go_at_call 56
      refine (memberOkS m.o m.ad m.L.length m.cap (fun i => m.L.getD i 0) wr hnk hmk).mono ?_
      rintro e w3 ⟨rfl, k3⟩
      have b3 := hb.trans (k3.mono hb.size)
      have a3 := hA.below k3 hA.lt
      by_cases hq : mOk m.o (fun i => m.L.getD i 0) m.L.length = true
      · rw [hq]
        clear C1 C2 C3
        go_wp2
        go_roundw
        case rel =>
          refine ⟨k + 1, by go_num, by omega, fun j hj => ?_, b3, a3⟩
          by_cases e : j = k
          · rw [e, hgk'.out]; exact hq
          · exact hF.out j (by omega)
        case measure => simp [intOf]; omega
      · have hq' : mOk m.o (fun i => m.L.getD i 0) m.L.length = false := by simpa using hq
        rw [hq']
        clear C1 C2 C3
        go_wp2
        go_ret
        exact ⟨by rw [all_no (D := D) (k := k) (by omega) (by rw [hgk'.out]; exact hq')]; rfl, b3⟩
    · obtain rfl : k = Ms.length := by omega
      go_wp2
      go_ret
      exact ⟨by rw [all_yes (D := D) (fun j hj => hF.out j (by omega))]; rfl, hb⟩

end Go.Proofs.YtifndemkkaelaaaGreat
namespace Go.Proofs
open Go.Shelf
def Tryz.lays189_ren : Go.Shelf.Ren := ⟨fun | 189 => 128 | 125 => 137 | 257 => 138 | 128 => 148 | 129 => 149 | 294 => 150 | 295 => 151 | 296 => 152 | 297 => 153 | 298 => 154 | 299 => 155 | 216 => 129 | 300 => 156 | 301 => 157 | 328 => 163 | 329 => 159 | 330 => 160 | 331 => 164 | 332 => 165 | 215 => 139 | 343 => 167 | n => n, fun | 28 => 48 | 3 => 3 | 46 => 142 | 0 => 0 | 51 => 163 | 53 => 165 | 4 => 4 | 183 => 157 | 182 => 156 | 131 => 51 | 5 => 5 | 9 => 9 | 218 => 171 | 222 => 175 | 228 => 179 | 229 => 180 | n => n, fun | n => n⟩
theorem Tryz.lays189 : Go.Proofs.Lays.n189 Tryz.prog Tryz.lays189_ren := {
  mixed := by kernel_rfl
  f125 := Tryz.func137.trans (congrArg some (by kernel_rfl))
  f128 := Tryz.func148.trans (congrArg some (by kernel_rfl))
  f129 := Tryz.func149.trans (congrArg some (by kernel_rfl))
  f189 := Tryz.func128.trans (congrArg some (by kernel_rfl))
  f215 := Tryz.func139.trans (congrArg some (by kernel_rfl))
  f216 := Tryz.func129.trans (congrArg some (by kernel_rfl))
  f257 := Tryz.func138.trans (congrArg some (by kernel_rfl))
  f294 := Tryz.func150.trans (congrArg some (by kernel_rfl))
  f295 := Tryz.func151.trans (congrArg some (by kernel_rfl))
  f296 := Tryz.func152.trans (congrArg some (by kernel_rfl))
  f297 := Tryz.func153.trans (congrArg some (by kernel_rfl))
  f298 := Tryz.func154.trans (congrArg some (by kernel_rfl))
  f299 := Tryz.func155.trans (congrArg some (by kernel_rfl))
  f300 := Tryz.func156.trans (congrArg some (by kernel_rfl))
  f301 := Tryz.func157.trans (congrArg some (by kernel_rfl))
  f328 := Tryz.func163.trans (congrArg some (by kernel_rfl))
  f329 := Tryz.func159.trans (congrArg some (by kernel_rfl))
  f330 := Tryz.func160.trans (congrArg some (by kernel_rfl))
  f331 := Tryz.func164.trans (congrArg some (by kernel_rfl))
  f332 := Tryz.func165.trans (congrArg some (by kernel_rfl))
  f343 := Tryz.func167.trans (congrArg some (by kernel_rfl))
  t0 := Tryz.underlying0
  a0 := Tryz.isAgg0
  z0 := Tryz.sizeOf0
  v0 := Tryz.zeroValue0
  t3 := Tryz.underlying3
  a3 := Tryz.isAgg3
  z3 := Tryz.sizeOf3
  v3 := Tryz.zeroValue3
  t4 := Tryz.underlying4
  a4 := Tryz.isAgg4
  z4 := Tryz.sizeOf4
  v4 := Tryz.zeroValue4
  t5 := Tryz.underlying5
  a5 := Tryz.isAgg5
  z5 := Tryz.sizeOf5
  v5 := Tryz.zeroValue5
  t9 := Tryz.underlying9
  a9 := Tryz.isAgg9
  z9 := Tryz.sizeOf9
  v9 := Tryz.zeroValue9
  t28 := Tryz.underlying48
  a28 := Tryz.isAgg48
  z28 := Tryz.sizeOf48
  v28 := Tryz.zeroValue48
  t46 := Tryz.underlying142
  a46 := Tryz.isAgg142
  z46 := Tryz.sizeOf142
  v46 := Tryz.zeroValue142
  t51 := Tryz.underlying163
  a51 := Tryz.isAgg163
  z51 := Tryz.sizeOf163
  v51 := Tryz.zeroValue163
  t53 := Tryz.underlying165
  a53 := Tryz.isAgg165
  z53 := Tryz.sizeOf165
  v53 := Tryz.zeroValue165
  t131 := Tryz.underlying51
  a131 := Tryz.isAgg51
  z131 := Tryz.sizeOf51
  v131 := Tryz.zeroValue51
  t182 := Tryz.underlying156
  a182 := Tryz.isAgg156
  z182 := Tryz.sizeOf156
  v182 := Tryz.zeroValue156
  t183 := Tryz.underlying157
  a183 := Tryz.isAgg157
  z183 := Tryz.sizeOf157
  v183 := Tryz.zeroValue157
  t218 := Tryz.underlying171
  a218 := Tryz.isAgg171
  z218 := Tryz.sizeOf171
  v218 := Tryz.zeroValue171
  t222 := Tryz.underlying175
  a222 := Tryz.isAgg175
  z222 := Tryz.sizeOf175
  v222 := Tryz.zeroValue175
  t228 := Tryz.underlying179
  a228 := Tryz.isAgg179
  z228 := Tryz.sizeOf179
  v228 := Tryz.zeroValue179
  t229 := Tryz.underlying180
  a229 := Tryz.isAgg180
  z229 := Tryz.sizeOf180
  v229 := Tryz.zeroValue180 }
open Go.Sort Go.RowKit in
theorem Tryz.slices_Sort_int (blk off cap : Nat) (zs : List Int) (w : World) (hH : Holds (Value.int .i64) w blk off zs.toArray) (hblk : blk < w.heap.size) (hsz : zs.length < 4611686018427387904) :
    Calls Tryz.prog 128 #[.slice (some ⟨blk, off, none⟩) zs.length cap] w fun e w' =>
      e = .returned (.tuple #[]) ∧ ∃ n os, w' = grow (putRow (Value.int .i64) (Sort.ahead w n) blk off (zs.mergeSort fun x y => decide (x ≤ y)).toArray) os := Any.slices_Sort_int Tryz.lays189 blk off cap zs w hH hblk hsz
end Go.Proofs
namespace Go.Proofs.YtifndemkkaelaaaGreat
open Go.ChangeShapes Go.WideShapes Go.ChangeAt Go.RowKit
open Go.ChangeMaps (open_string shut_string)
set_option linter.unusedVariables false

open Go.Maps (Keyed has)
def Hd.agg (h : Hd) : Value := .agg #[.int .i64 h.a, .int .i64 h.v, .int .i64 h.p, .int .i64 h.l]
def hdD (h : Hd) : DataW Unit := .agg [.lit (.int .i64 h.a), .lit (.int .i64 h.v), .lit (.int .i64 h.p), .lit (.int .i64 h.l)]
def hdR : Value → Option (DataW Unit × List MemPlace)
  | .agg xs => match xs.toList with
    | [.int .i64 a, .int .i64 v, .int .i64 p, .int .i64 l] => some (hdD ⟨a, v, p, l⟩, [])
    | _ => none
  | _ => none
theorem hdR_mk (h : Hd) : hdR h.agg = some (hdD h, []) := rfl
theorem hdR_inv {v : Value} {y : DataW Unit × List MemPlace} (e : hdR v = some y) : ∃ h : Hd, v = h.agg ∧ y = (hdD h, []) := by
  unfold hdR at e
  split at e
  · rename_i xs
    split at e
    · rename_i a v p l hx
      cases e
      refine ⟨⟨a, v, p, l⟩, ?_, rfl⟩
      show Value.agg xs = _
      rw [show xs = #[.int .i64 a, .int .i64 v, .int .i64 p, .int .i64 l] from Array.ext' hx]
      rfl
    · cases e
  · cases e
theorem hdD_inj {x y : Hd} (e : hdD x = hdD y) : x = y := by
  obtain ⟨a, b, c, d⟩ := x
  obtain ⟨a', b', c', d'⟩ := y
  simp [hdD] at e
  obtain ⟨rfl, rfl, rfl, rfl⟩ := e
  rfl
theorem law3 : Keyed Tryz.prog 3 := Go.Maps.int_keyed Tryz.underlying3
def key (i : Nat) : Lit := .int .i64 (i : Int)
theorem key_inj {i j : Nat} (e : key i = key j) : i = j := by
  unfold key at e
  simp at e
  omega
def Keeps (D : DataW Unit) (L : List Hd) (p : Nat → Prop) : Prop :=
  (∀ kl, has D kl = true ↔ ∃ i, i < L.length ∧ p i ∧ kl = key i) ∧ ∀ i, i < L.length → p i → ∀ z, D.atKey (key i) z = hdD (L.getD i Hd.nil)
theorem Keeps.congr {D : DataW Unit} {L : List Hd} {p q : Nat → Prop} (h : Keeps D L p) (e : ∀ i, i < L.length → (p i ↔ q i)) : Keeps D L q :=
  ⟨fun kl => (h.1 kl).trans ⟨fun ⟨i, h1, h2, h3⟩ => ⟨i, h1, (e i h1).1 h2, h3⟩, fun ⟨i, h1, h2, h3⟩ => ⟨i, h1, (e i h1).2 h2, h3⟩⟩, fun i h1 h2 => h.2 i h1 ((e i h1).2 h2)⟩
theorem keeps_none (L : List Hd) : Keeps (.map []) L (fun i => i < 0) :=
  ⟨fun kl => ⟨fun h => by simp [has] at h, fun ⟨i, _, h, _⟩ => absurd h (by omega)⟩, fun i _ h => absurd h (by omega)⟩
theorem Keeps.put {D : DataW Unit} {L : List Hd} {k : Nat} (h : Keeps D L (fun i => i < k)) (hk : k < L.length) (hD : Go.Maps.IsMap D) : Keeps (D.put (key k) (hdD (L.getD k Hd.nil))) L (fun i => i < k + 1) := by
  refine ⟨fun kl => ?_, fun i h1 h2 z => ?_⟩
  · by_cases e : kl = key k
    · subst e
      rw [Go.Maps.has_put_same hD (show WideAt.IsKeyLit (key k) from trivial)]
      exact ⟨fun _ => ⟨k, hk, Nat.lt_succ_self _, rfl⟩, fun _ => rfl⟩
    · rw [Go.Maps.has_put_other e, h.1]
      constructor
      · rintro ⟨i, h1, h2, rfl⟩
        exact ⟨i, h1, by omega, rfl⟩
      · rintro ⟨i, h1, h2, rfl⟩
        refine ⟨i, h1, ?_, rfl⟩
        by_cases e2 : i = k
        · subst e2; exact absurd rfl e
        · omega
  · by_cases e : i = k
    · subst e
      rw [Go.Maps.atKey_put_same hD (show WideAt.IsKeyLit (key i) from trivial)]
    · rw [Go.Maps.atKey_put_other (fun q => e (key_inj q))]
      exact h.2 i h1 (by omega) z
theorem wf_nat {k n : Nat} (h : k ≤ n) (hn : n ≤ 2 ^ 63 - 1) : (Lit.int .i64 (k : Int)).wf = true := WalkArith.wf_i64 (by omega)
set_option maxHeartbeats 1000000 in
theorem placesOf (ad : Option Addr) (cap : Nat) (L : List Hd) (w : World) (hv : HView w ad L) (hm : L.length ≤ maxLen) (hB : HIs ad L (· < w.heap.size)) :
    Calls Tryz.prog 101 #[.slice ad L.length cap] w fun e w' => e = .returned (.map (some w.heap.size)) ∧ ∃ D, w'.ownsMap Tryz.prog 3 hdR w.heap.size L.length D ∧ Keeps D L (fun _ => True) ∧ Below w.heap.size w w' := by
  have hm0 := hm
  unfold maxLen at hm
  have hmm := @run_makeMap Tryz.prog
  go_enter Tryz.func101, Tryz.ntmps101
  go_wp2
  go_loopw [9] (fun i wr => ∃ (k : Nat) (D : DataW Unit), i = .int .i64 (k : Int) ∧ k ≤ L.length ∧ wr.ownsMap Tryz.prog 3 hdR w.heap.size k D ∧ Keeps D L (fun i => i < k) ∧ Below w.heap.size w wr) (fun i _ => L.length - (intOf i).toNat)
  case atStart => exact ⟨0, _, rfl, Nat.zero_le _, World.ownsMap_made _ _ _ _, keeps_none L, (Below.refl _ _).alloc (Nat.le_refl _) _⟩
  case round =>
    obtain ⟨k, D, rfl, hk, hown, hK, hb⟩ := hrel
    by_cases hlt : k < L.length
    · obtain ⟨b, off, rfl, hc0⟩ := hv (by omega)
      obtain ⟨h, hh⟩ : ∃ h, L.getD k Hd.nil = h := ⟨_, rfl⟩
      have hck : HAt wr b (off + k * 4) h := by rw [← hh]; exact (hc0 k hlt).of_block (hb.block _ (hB ⟨b, off, none⟩ rfl (by omega)))
      obtain ⟨c1, c2, c3, c4⟩ := hck
      have hK1 := hK.put hlt hown.isMap
      rw [hh] at hK1
      have hwk := wf_nat (Nat.le_of_lt hlt) hm
      have hbs := hb.size
      clear hh hc0 hK hmm
      go_wp2_with (first
        | (at_mapUpdate; refine wpList_mapUpdate_own _ rfl _ _ _ 127 rfl 3 97 law3 Tryz.underlying127 hdR w.heap.size k D rfl (hown.alloc _) (by unfold maxLen; omega) _ _ (key k) rfl rfl (Go.Maps.keyOf_int_mk Tryz.underlying3 hwk) (hdD h) [] (hdR_mk h) ?_)
        | go_in)
      intro w1 hown1 hgrow1
      go_wp2
      go_roundw
      case rel => exact ⟨k + 1, _, by go_num, by omega, hown1, hK1, (hb.alloc hbs _).grown hgrow1 (by simp; omega) (fun j hj => by cases hj; exact Nat.le_refl _)⟩
      case measure => simp [intOf]; omega
    · obtain rfl : k = L.length := by omega
      go_wp2
      go_ret
      exact ⟨rfl, D, hown, hK.congr (fun i hi => ⟨fun _ => trivial, fun _ => hi⟩), hb⟩

end Go.Proofs.YtifndemkkaelaaaGreat
namespace Go.Proofs.YtifndemkkaelaaaGreat
open Go.ChangeShapes Go.WideShapes Go.ChangeAt Go.RowKit
open Go.ChangeMaps (open_string shut_string)
set_option linter.unusedVariables false

theorem below_grown {w w' : World} (b : Below w.heap.size w w') (row : Option Nat) : w.grownBy w' row := ⟨b.os, b.tape, b.output, b.size, fun k hk _ => b.block k hk⟩
theorem keyInv {k : Value} {kl : Lit} (e : keyOf Tryz.prog 3 k = some kl) : ∃ x : Int, k = Value.int .i64 x := by
  obtain ⟨x, rfl, _⟩ := Go.Maps.keyOf_int_inv Tryz.underlying3 e
  exact ⟨x, rfl⟩
theorem valInv {v : Value} {y : DataW Unit × List MemPlace} (e : hdR v = some y) : ∃ h : Hd, v = Value.agg #[.int .i64 h.a, .int .i64 h.v, .int .i64 h.p, .int .i64 h.l] := by
  obtain ⟨h, rfl, _⟩ := hdR_inv e
  exact ⟨h, rfl⟩
theorem keyIs {x : Int} {kl : Lit} (e : keyOf Tryz.prog 3 (Value.int .i64 x) = some kl) : (Lit.int .i64 x).wf = true ∧ kl = .int .i64 x := by
  obtain ⟨x', ex, rfl, hwx⟩ := Go.Maps.keyOf_int_inv Tryz.underlying3 e
  cases ex
  exact ⟨hwx, rfl⟩
theorem Keeps.came {D : DataW Unit} {L : List Hd} {p : Nat → Prop} {x : Int} {h : Hd} {y : DataW Unit × List MemPlace} (hK : Keeps D L p) (hv : hdR (Value.agg #[.int .i64 h.a, .int .i64 h.v, .int .i64 h.p, .int .i64 h.l]) = some y) (hat : ∀ z, D.atKey (.int .i64 x) z = y.1) : ∃ i, i < L.length ∧ x = (i : Int) ∧ L.getD i Hd.nil = h := by
  have hy : y = (hdD h, []) := by
    have := hdR_mk h
    unfold Hd.agg at this
    rw [this] at hv
    cases hv
    rfl
  subst hy
  obtain ⟨i, hi, hp, e⟩ := (hK.1 _).1 (Go.Maps.has_true_of_atKey hat)
  have ex : x = (i : Int) := by unfold key at e; simpa using e
  subst ex
  exact ⟨i, hi, rfl, (hdD_inj ((hat (.map [])).symm.trans (hK.2 i hi hp (.map [])))).symm⟩
theorem same_key {i j : Nat} : (key i).sameKey (key j) = decide (i = j) := by
  by_cases e : i = j
  · subst e; simp [key, Lit.sameKey]
  · rw [Go.Maps.sameKey_ne (fun q => e (key_inj q))]; simp [e]
theorem Keeps.struck {D : DataW Unit} {L : List Hd} {g : Nat → Prop} {left : Lit → Bool} {i : Nat} (h : Keeps D L (fun j => g j ∨ left (key j) = true)) (hl : left (.int .i64 (i : Int)) = true) (hg : ¬ g i) : Keeps (D.del (.int .i64 (i : Int))) L (fun j => g j ∨ (left (key j) && !(key j).sameKey (.int .i64 (i : Int))) = true) := by
  have hk : (Lit.int .i64 (i : Int)) = key i := rfl
  rw [hk] at hl ⊢
  refine ⟨fun kl => ?_, fun j h1 h2 z => ?_⟩
  · by_cases e : kl = key i
    · subst e
      rw [Go.Maps.has_del_same]
      constructor
      · intro q; cases q
      · rintro ⟨j, h1, h2, h3⟩
        obtain rfl := key_inj h3
        have h2' : g i ∨ (left (key i) && !(key i).sameKey (key i)) = true := h2
        rw [same_key] at h2'
        simp [hg] at h2'
    · rw [Go.Maps.has_del_other e, h.1]
      constructor
      · rintro ⟨j, h1, h2, rfl⟩
        refine ⟨j, h1, ?_, rfl⟩
        have hne : j ≠ i := fun q => e (by rw [q])
        show g j ∨ (left (key j) && !(key j).sameKey (key i)) = true
        rw [same_key]
        simpa [hne] using h2
      · rintro ⟨j, h1, h2, rfl⟩
        refine ⟨j, h1, ?_, rfl⟩
        have hne : j ≠ i := fun q => e (by rw [q])
        have h2' : g j ∨ (left (key j) && !(key j).sameKey (key i)) = true := h2
        rw [same_key] at h2'
        simpa [hne] using h2'
  · have h2' : g j ∨ (left (key j) && !(key j).sameKey (key i)) = true := h2
    rw [same_key] at h2'
    have hne : j ≠ i := by
      rintro rfl
      simp [hg] at h2'
    rw [Go.Maps.atKey_del_other (fun q => hne (key_inj q))]
    exact h.2 j h1 (by simpa [hne] using h2') z
theorem Keeps.stays {D : DataW Unit} {L : List Hd} {g : Nat → Prop} {left : Lit → Bool} {i : Nat} (h : Keeps D L (fun j => g j ∨ left (key j) = true)) (hg : g i) : Keeps D L (fun j => g j ∨ (left (key j) && !(key j).sameKey (.int .i64 (i : Int))) = true) := by
  have hk : (Lit.int .i64 (i : Int)) = key i := rfl
  rw [hk]
  refine h.congr fun j hj => ?_
  rw [same_key]
  by_cases e : j = i
  · subst e; simp [hg]
  · simp [e]
def goneA (h : Hd) : Bool := decide (h.l ≤ 1)
def goneF (n : Int) (h : Hd) : Bool := h.p == n
theorem closF (h : Hd) (n : Int) (q : Nat) (w : World) (c : w.cell? ⟨q, 0, none⟩ = some (.int .i64 n)) : Calls Tryz.prog 103 #[.agg #[.int .i64 h.a, .int .i64 h.v, .int .i64 h.p, .int .i64 h.l], .pointer (some ⟨q, 0, none⟩)] w fun e w' => e = .returned (.bool (goneF n h)) ∧ Below w.heap.size w w' := by
  have hq : q < w.heap.size := World.block_lt_of_cell? w _ c
  have c1 : (w.alloc (Obj.cells #[.int .i64 h.a, .int .i64 h.v, .int .i64 h.p, .int .i64 h.l] 97)).cell? ⟨q, 0, none⟩ = some (.int .i64 n) := ((below_box w _).cell (p := ⟨q, 0, none⟩) hq).trans c
  go_enter Tryz.func103, Tryz.ntmps103
  go_wp2
  go_ret
  exact ⟨rfl, below_box w _⟩
set_option maxHeartbeats 2000000 in
theorem dropF (b n : Nat) (D0 : DataW Unit) (L : List Hd) (n0 : Int) (q0 : Nat) (w : World) (hown : w.ownsMap Tryz.prog 3 hdR b n D0) (hK0 : Keeps D0 L (fun _ => True)) (hq0 : q0 ≠ b) (hc0 : w.cell? ⟨q0, 0, none⟩ = some (.int .i64 n0)) :
    Calls Tryz.prog 102 #[.map (some b), .func (Fn.func 103) #[] #[.pointer (some ⟨q0, 0, none⟩)]] w fun e w' => e = .returned (.tuple #[]) ∧ ∃ D, w'.ownsMap Tryz.prog 3 hdR b n D ∧ Keeps D L (fun i => goneF n0 (L.getD i Hd.nil) = false) ∧ w.grownBy w' (some b) := by
  have hbl := hown.lt
  go_enter Tryz.func102, Tryz.ntmps102
  go_wp2_with (first
    | (at_range; refine wpList_range_own _ rfl _ 127 rfl 3 97 law3 Tryz.underlying127 hdR b n D0 rfl hown ?_; intro w0 hrg0 hg0 hs0; go_frame)
    | go_in)
  go_loopw [4] (fun _ wr => ∃ (D : DataW Unit) (left : Lit → Bool) (cnt : Nat), wr.ranges Tryz.prog 3 hdR b w.heap.size n D left cnt ∧ Keeps D L (fun i => goneF n0 (L.getD i Hd.nil) = false ∨ left (key i) = true) ∧ w.grownBy wr (some b)) (fun _ wr => wr.rangeLeft b w.heap.size)
  case atStart => exact ⟨D0, _, _, hrg0, hK0.congr (fun i hi => ⟨fun _ => .inr ((hK0.1 _).2 ⟨i, hi, trivial, rfl⟩), fun _ => trivial⟩), hg0.but _⟩
  case round =>
    obtain ⟨D, left, cnt, hrg, hK, hgw⟩ := hrel
    clear hrg0 hg0 hs0
    go_wp2_with (first
      | (at_next; refine wpList_next_ranges _ rfl _ rfl 3 law3 hdR (fun x : Int => Value.int .i64 x) (fun h : Hd => Value.agg #[.int .i64 h.a, .int .i64 h.v, .int .i64 h.p, .int .i64 h.l]) (fun k kl e => keyInv e) (fun v y e => valInv e) b w.heap.size n D left cnt rfl hrg ?_ ?_)
      | go_in)
    · intro _ hl0
      go_wp2
      go_end0
      exact ⟨rfl, D, hrg.owns, hK.congr (fun i hi => ⟨fun q => q.resolve_right (by rw [hl0]; simp), .inl⟩), hgw⟩
    · intro x h kl yd yp w1 cnt1 hkey hlk hv hat hrg1 hlt hg1 hs1 hen
      obtain ⟨hwx, rfl⟩ := keyIs hkey
      obtain ⟨i, hi, rfl, hhi⟩ := hK.came (y := (yd, yp)) hv hat
      have hgw1 := hgw.andThen hg1 (fun j hj => by cases hj; exact Or.inl (Nat.le_refl _))
      have hsz1 := hgw1.size
      have hq1 : (w1.alloc (Obj.cells #[.int .i64 h.a, .int .i64 h.v, .int .i64 h.p, .int .i64 h.l] 97)).cell? ⟨q0, 0, none⟩ = some (.int .i64 n0) := by
        have hql : q0 < w.heap.size := World.block_lt_of_cell? w _ hc0
        have e1 : w1.heap[q0]? = w.heap[q0]? := hgw1.block q0 hql (by simp; omega)
        exact ((below_box w1 _).cell (p := ⟨q0, 0, none⟩) (by show q0 < _; omega)).trans ((World.cell?_of_block (a := ⟨q0, 0, none⟩) e1).trans hc0)
      clear hat hv hkey hg1 hgw
      cases hgn : goneF n0 h with
      | true =>
        have hK2 := hK.struck hlk (g := fun i => goneF n0 (L.getD i Hd.nil) = false) (by rw [hhi, hgn]; simp)
        clear hK hhi
        go_wp2_with fail
        go_at_call 103
        refine (closF h n0 q0 (w1.alloc (Obj.cells #[.int .i64 h.a, .int .i64 h.v, .int .i64 h.p, .int .i64 h.l] 97)) hq1).mono ?_
        rintro e w2 ⟨rfl, k2⟩
        rw [hgn]
        clear hgn
        have hrg2 := ((hrg1.alloc (Obj.cells #[.int .i64 h.a, .int .i64 h.v, .int .i64 h.p, .int .i64 h.l] 97)).kept (below_grown k2 none) (by simp) (by simp))
        have hgw2 := (hgw1.andThen (World.grownBy_alloc w1 (Obj.cells #[.int .i64 h.a, .int .i64 h.v, .int .i64 h.p, .int .i64 h.l] 97) none) (fun j hj => by cases hj)).andThen (below_grown k2 none) (fun j hj => by cases hj)
        clear hgw1 k2
        go_wp2_with (first
          | (at_delete; refine wpList_delete_ranges _ rfl _ _ 127 3 rfl 97 law3 Tryz.underlying127 hdR b w.heap.size n D _ cnt1 rfl hrg2 _ _ rfl (Go.Maps.keyOf_int_mk Tryz.underlying3 hwx) ?_; intro w3 cnt3 hrg3 hle hturn; go_frame)
          | go_in)
        rw [Go.Maps.strike_twice] at hrg3
        go_roundw
        case rel => exact ⟨_, _, cnt3, hrg3, hK2, hgw2.andThen hturn.grown (fun j hj => by cases hj; exact Or.inr rfl)⟩
        case measure => rw [hrg3.left_eq, hrg.left_eq]; omega
      | false =>
        have hK2 := hK.stays (i := i) (g := fun i => goneF n0 (L.getD i Hd.nil) = false) (by rw [hhi, hgn])
        clear hK hhi
        go_wp2_with fail
        go_at_call 103
        refine (closF h n0 q0 (w1.alloc (Obj.cells #[.int .i64 h.a, .int .i64 h.v, .int .i64 h.p, .int .i64 h.l] 97)) hq1).mono ?_
        rintro e w2 ⟨rfl, k2⟩
        rw [hgn]
        clear hgn
        have hrg2 := ((hrg1.alloc (Obj.cells #[.int .i64 h.a, .int .i64 h.v, .int .i64 h.p, .int .i64 h.l] 97)).kept (below_grown k2 none) (by simp) (by simp))
        have hgw2 := (hgw1.andThen (World.grownBy_alloc w1 (Obj.cells #[.int .i64 h.a, .int .i64 h.v, .int .i64 h.p, .int .i64 h.l] 97) none) (fun j hj => by cases hj)).andThen (below_grown k2 none) (fun j hj => by cases hj)
        clear hgw1 k2
        go_wp2
        go_roundw
        case rel => exact ⟨_, _, cnt1, hrg2, hK2, hgw2⟩
        case measure => rw [hrg2.left_eq, hrg.left_eq]; omega

end Go.Proofs.YtifndemkkaelaaaGreat
