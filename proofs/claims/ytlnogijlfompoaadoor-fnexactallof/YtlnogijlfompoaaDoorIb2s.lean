/- spec.l9Nums, walked. -/
import Derived.Test.YtlnogijlfompoaaDoorRows
import Derived.WalkKit
import Derived.ProofKit
import Derived.OpenShut
import Derived.ShutString
import Derived.ChangeOld
import Derived.Below
import Derived.Deep.QuietTactic
import Derived.BigQuiet
import Derived.WalkSmall
import Derived.Laws.OwnMore
import Derived.WalkSpells
import Derived.WalkLawsBesides
import Derived.Deep.Cut
import Derived.Test.YtlnogijlfompoaaDoorIb2
namespace Go.Proofs.YtlnogijlfompoaaDoor
open Go.ChangeShapes Go.WideShapes Go.ChangeAt Go.RowKit
open Go.ChangeMaps (open_string shut_string)
set_option linter.unusedVariables false
set_option maxRecDepth 100000

theorem l1BitS (o : Bool) (m : Int) (hm : (if o = true then (1 : Int) else 0) = m) (w : World) : Calls Tryd.prog 34 #[.bool o] w fun e w' => e = .returned (.int .i64 m) ∧ w' = w := by
  cases o <;> (simp at hm; subst hm)
  · go_enter Tryd.func34, Tryd.ntmps34
    go_wp2
    go_ret
    exact ⟨rfl, rfl⟩
  · go_enter Tryd.func34, Tryd.ntmps34
    go_wp2
    go_ret
    exact ⟨rfl, rfl⟩
set_option maxHeartbeats 4000000 in
theorem l9NumsS (ad : Option Addr) (cap : Nat) (L : List Int) (w : World) (vN : FView iEnc w ad L) (hbd : ∀ y ∈ L, 0 ≤ y ∧ y < 128) (hlen : L.length ≤ 7) :
    Calls Tryd.prog 33 #[.slice ad L.length cap] w fun e w' => ∃ v, e = .returned v ∧ w'.ownsRow w.heap.size 5 1 v L.length (L.map (Value.int .u8)) ∧ Below w.heap.size w w' := by
  have lN : ∀ a, ad = some a → 0 < L.length → a.block < w.heap.size := vN.lt iEnc_len (by omega)
  go_enter Tryd.func33, Tryd.ntmps33
  go_wp2
  go_loopw [3, 4] (fun v i wr => ∃ k : Nat, k ≤ L.length ∧ i = .int .i64 k ∧ wr.ownsRow w.heap.size 5 1 v (L.take k).length ((L.take k).map (Value.int .u8)) ∧ Below w.heap.size w wr) (fun _ i _ => L.length - (intOf i).toNat)
  case atStart => exact ⟨0, Nat.zero_le _, rfl, by simpa using own_empty w 5, (Below.refl _ _).alloc (Nat.le_refl _) _⟩
  case round =>
    obtain ⟨k, hk, rfl, hown, hb⟩ := hrel
    by_cases hlt : k < L.length
    · obtain ⟨b, off, rfl, hc⟩ := iAt (vN.below hb lN) hlt
      obtain ⟨n0, n1⟩ := hbd _ (getD_mem0 hlt)
      have HT : Hid (L.take k ++ [L.getD k 0] = L.take (k + 1)) := take_next hlt
      have htl : (L.take k).length ≤ 7 := by simp; omega
      generalize L.getD k 0 = n at hc n0 n1 HT
      have hwf := wfS n0 n1
      have hs := hb.size
      go_wp2_with fail
      go_at_call 53
      refine (putSpec n wr hwf).mono ?_
      rintro e w2 ⟨v2, rfl, o2, k2⟩
      rw [putZ_small n0 (by omega)] at o2
      obtain ⟨_, ad2, cap2, rfl, v2, _, _⟩ := own_view o2
      have hown2 := own_carry hown k2
      have hb2 := hb.trans (k2.mono hs)
      have hs2 := k2.size
      generalize hM : L.take k = M at hown hown2 HT htl
      clear hM hown hc hwf o2
      go_wp2_with (first | (at_builtin; refine app_view rfl _ _ rfl w.heap.size _ M rfl hown2 ad2 cap2 [n] rfl v2 ?n1 ?n2 ?n3 ?_))
      case n1 => exact fun h => by simp at h
      try case n2 => simp; omega
      try case n3 => omega
      intro v3 w3 o3 k3
      have hb3 := hb2.trans k3
      have o3 : w3.ownsRow w.heap.size 5 1 v3 (M ++ [n]).length ((M ++ [n]).map (Value.int .u8)) := by simpa using o3
      rw [HT.out] at o3
      go_wp2
      go_roundw
      case rel => exact ⟨k + 1, by omega, by go_num, o3, hb3⟩
      case measure => simp [intOf]; omega
    · obtain rfl : k = L.length := by omega
      rw [List.take_length] at hown
      go_wp2
      go_ret
      exact ⟨_, rfl, hown, hb⟩

end Go.Proofs.YtlnogijlfompoaaDoor
