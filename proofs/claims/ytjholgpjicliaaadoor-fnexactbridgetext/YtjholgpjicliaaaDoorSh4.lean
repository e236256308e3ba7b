/- Both BridgeText. -/
import Derived.Test.YtjholgpjicliaaaDoorRows
import Derived.WalkKit
import Derived.ProofKit
import Derived.OpenShut
import Derived.ShutString
import Derived.ChangeOld
import Derived.Below
import Derived.Deep.QuietTactic
import Derived.BigQuiet
import Derived.WalkSmall
import Derived.Laws.OwnMore
import Derived.WalkSpells
import Derived.WalkLawsBesides
import Derived.Deep.Cut
import Derived.Maps.AppendAt
import Derived.Test.YtjholgpjicliaaaDoorSh3
import Derived.Test.YtjholgpjicliaaaDoorBrw
namespace Go.Proofs.YtjholgpjicliaaaDoor
open Go.ChangeShapes Go.WideShapes Go.ChangeAt Go.RowKit
open Go.ChangeMaps (open_string shut_string)
set_option linter.unusedVariables false
set_option maxRecDepth 100000

/-- A bridge's lines. -/
def brT (id : Int) (L : List Pt) : ByteArray := L.foldl (fun s x => s ++ ptT x ++ ⟨#[10]⟩) (dig id ++ ⟨#[10]⟩)
/-- A bridge's parts. -/
def brP (id : Int) (L : List Pt) : List Prt := L.foldl (fun s x => s ++ ptP x ++ [.inr none]) [.inr (some id), .inr none]
theorem brT_next (id : Int) {L : List Pt} {k : Nat} (hk : k < L.length) : brT id (L.take k) ++ ptT (L.getD k Pt.nil) ++ ⟨#[10]⟩ = brT id (L.take (k + 1)) := by
  have e : L.getD k Pt.nil = L[k] := by simp [List.getD, List.getElem?_eq_getElem hk]
  rw [e, List.take_add_one, List.getElem?_eq_getElem hk, brT, brT, List.foldl_append]
  rfl
theorem brP_next (id : Int) {L : List Pt} {k : Nat} (hk : k < L.length) : brP id (L.take k) ++ ptP (L.getD k Pt.nil) ++ [.inr none] = brP id (L.take (k + 1)) := by
  have e : L.getD k Pt.nil = L[k] := by simp [List.getD, List.getElem?_eq_getElem hk]
  rw [e, List.take_add_one, List.getElem?_eq_getElem hk, brP, brP, List.foldl_append]
  rfl
theorem ptT_size (x : Pt) (h : PtWf x) : (ptT x).size ≤ 130 := by
  have h1 := roT_size x.ro
  have h2 := opT_size x.op
  have h3 := clT_size x h
  have h4 := dig_size h.2.2.2.2.1 h.2.2.2.2.2
  unfold ptT
  simp only [ByteArray.size_append]
  have e : (⟨#[32]⟩ : ByteArray).size = 1 := rfl
  omega
theorem brT_size (id : Int) (hid : I64 id) (L : List Pt) (h : ∀ x ∈ L, PtWf x) : (brT id L).size ≤ 22 + 131 * L.length := by
  have key : ∀ (L : List Pt), (∀ x ∈ L, PtWf x) → ∀ s : ByteArray, (L.foldl (fun s x => s ++ ptT x ++ ⟨#[10]⟩) s).size ≤ s.size + 131 * L.length := by
    intro L
    induction L with
    | nil => intro _ s; simp
    | cons x L ih =>
      intro h s
      have h1 := ih (fun y hy => h y (List.mem_cons_of_mem _ hy)) (s ++ ptT x ++ ⟨#[10]⟩)
      have h2 := ptT_size x (h x List.mem_cons_self)
      have e : (s ++ ptT x ++ ⟨#[10]⟩).size = s.size + (ptT x).size + 1 := by simp only [ByteArray.size_append]; rfl
      simp only [List.foldl_cons, List.length_cons]
      omega
  have h1 := key L h (dig id ++ ⟨#[10]⟩)
  have h2 := dig_size hid.1 hid.2
  have e : (dig id ++ ⟨#[10]⟩).size = (dig id).size + 1 := by simp only [ByteArray.size_append]; rfl
  unfold brT
  omega
theorem brP_len (id : Int) (L : List Pt) : (brP id L).length = 2 + 5 * L.length := by
  have key : ∀ (L : List Pt) (s : List Prt), (L.foldl (fun s x => s ++ ptP x ++ [.inr none]) s).length = s.length + 5 * L.length := by
    intro L
    induction L with
    | nil => intro s; simp
    | cons x L ih =>
      intro s
      simp only [List.foldl_cons, List.length_cons]
      rw [ih]
      simp only [List.length_append, ptP, List.length_cons, List.length_nil]
      omega
  unfold brP
  rw [key]
  simp
theorem brP_wf (id : Int) (hid : I64 id) (L : List Pt) (h : ∀ x ∈ L, PtWf x) : ∀ y ∈ brP id L, pW y := by
  have key : ∀ (L : List Pt), (∀ x ∈ L, PtWf x) → ∀ s : List Prt, (∀ y ∈ s, pW y) → ∀ y ∈ L.foldl (fun s x => s ++ ptP x ++ [.inr none]) s, pW y := by
    intro L
    induction L with
    | nil => intro _ s hs y hy; exact hs y hy
    | cons x L ih =>
      intro h s hs
      refine ih (fun y hy => h y (List.mem_cons_of_mem _ hy)) _ fun y hy => ?_
      simp only [List.mem_append, List.mem_cons, List.not_mem_nil, or_false] at hy
      rcases hy with (hy | hy) | rfl
      · exact hs y hy
      · exact ptP_wf x (h x List.mem_cons_self) y hy
      · trivial
  refine key L h _ fun y hy => ?_
  simp only [List.mem_cons, List.not_mem_nil, or_false] at hy
  rcases hy with rfl | rfl
  · exact hid
  · trivial
theorem shT_bridge (id : Int) (L : List Pt) : shT (brP id L) = brT id L := by
  have key : ∀ (L : List Pt) (s : List Prt) (B : ByteArray), shF s = (B.data.toList, false) → shF (L.foldl (fun s x => s ++ ptP x ++ [.inr none]) s) = ((L.foldl (fun s x => s ++ ptT x ++ ⟨#[10]⟩) B).data.toList, false) := by
    intro L
    induction L with
    | nil => intro s B h; exact h
    | cons x L ih =>
      intro s B h
      refine ih _ _ ?_
      unfold shF at h ⊢
      rw [List.foldl_append, List.foldl_append, h]
      simp [ptP, shS, pE, pT, ptT, ByteArray.data_append]
  have h := key L [.inr (some id), .inr none] (dig id ++ ⟨#[10]⟩) (by simp [shF, shS, pE, pT, ByteArray.data_append])
  apply ByteArray.ext
  unfold shT brP brT
  rw [h]
set_option maxHeartbeats 4000000 in
theorem brTS (id : Int) (ad : Option Addr) (cap : Nat) (L : List Pt) (w : World) (hid : I64 id) (hv : FView ptEnc w ad L) (hws : ∀ x ∈ L, PtWf x) (hl : L.length ≤ 1048576) :
    Calls Tryd.prog 17 #[.agg #[.int .i64 id, .slice ad L.length cap]] w fun e w' => e = .returned (.string (brT id L)) ∧ Below w.heap.size w w' := by
  have hB := hv.lt ptEnc_len (by omega)
  obtain ⟨y, hy⟩ : ∃ y, y = w.alloc (Obj.cells #[.int .i64 id, .slice ad L.length cap] 53) := ⟨_, rfl⟩
  have B0 : Below w.heap.size w y := by rw [hy]; exact below_new _
  have A0 : BrAt y w.heap.size id (.slice ad L.length cap) := by rw [hy]; exact BrAt.new _ _ _ _
  have S0 := A0.lt
  have hv1 := hv.below B0 hB
  have hB1 := hv1.lt ptEnc_len (by omega)
  have z0 := dig_size hid.1 hid.2
  have q1 : ¬ 9223372036854775807 < (dig id).size + 1 := by omega
  go_enter Tryd.func17, Tryd.ntmps17
  go_upto_region 1 with fail
  rw [← hy]
  clear hy
  have A0' := A0
  obtain ⟨a0, a1⟩ := A0'
  go_wp2_with fail
  go_at_call 22
  clear a0 a1
  refine (digitsSpec id y hid.1 hid.2).mono ?_
  rintro e w1 ⟨rfl, k1⟩
  rw [show (⟨(Lib.itoa id).toArray⟩ : ByteArray) = dig id from rfl]
  have B1 := B0.trans (k1.mono B0.size)
  have A1 := A0.below k1 S0
  have S1 := A1.lt
  have hv2 := hv1.below k1 hB1
  have hB2 := hv2.lt ptEnc_len (by omega)
  clear A0 B0 S0 hv hB hv1 hB1 k1
  go_wp2
  go_loopw [3, 4] (fun o i wr => ∃ k : Nat, k ≤ L.length ∧ i = .int .i64 k ∧ o = .string (brT id (L.take k)) ∧ Below w1.heap.size w1 wr) (fun _ i _ => L.length - (intOf i).toNat)
  case atStart => exact ⟨0, Nat.zero_le _, rfl, rfl, Below.refl _ _⟩
  case round =>
    obtain ⟨k, hk, rfl, rfl, B⟩ := hrel
    obtain ⟨a0, a1⟩ := A1.below B S1
    by_cases hlt : k < L.length
    · obtain ⟨b, off, rfl, _⟩ := hv2 (by omega)
      have HT : Hid (brT id (L.take k) ++ ptT (L.getD k Pt.nil) ++ ⟨#[10]⟩ = brT id (L.take (k + 1))) := brT_next id hlt
      have hm : (brT id (L.take k)).size ≤ 200000000 := by
        have h1 := brT_size id hid (L.take k) (fun x hx => hws x (List.mem_of_mem_take hx))
        have h2 : (L.take k).length ≤ k := by simp; omega
        omega
      have hx : PtWf (L.getD k Pt.nil) := hws _ (by rw [show L.getD k Pt.nil = L[k] by simp [List.getD, List.getElem?_eq_getElem hlt]]; exact List.getElem_mem hlt)
      obtain ⟨x, hxe⟩ : ∃ x, L.getD k Pt.nil = x := ⟨_, rfl⟩
      have hck : PtAtO wr b (off + k * 11) x := by
        rw [← hxe]
        exact ptAtO_of ((hv2.below B hB2).at_ ptEnc_len Pt.nil hlt)
      rw [hxe] at HT hx
      clear hxe
      have hbl : b < wr.heap.size := World.block_lt_of_cell? wr _ hck.c0
      obtain ⟨c0, c1, c2, c3, c4, c5, c6, c7, c8, c9, c10⟩ := hck
      generalize brT id (L.take k) = M at HT hm ⊢
      go_wp2_with fail
      go_at_call 13
      clear c0 c1 c2 c3 c4 c5 c6 c7 c8 c9 c10
      refine (ptTS x wr hx).mono ?_
      rintro e w2 ⟨rfl, k2⟩
      have hT := ptT_size x hx
      generalize ptT x = T at HT hT ⊢
      have q2 : ¬ 9223372036854775807 < M.size + T.size := by omega
      have q3 : ¬ 9223372036854775807 < M.size + T.size + 1 := by omega
      have B2 := B.trans (k2.mono B.size)
      go_wp2
      go_roundw
      case rel => exact ⟨k + 1, by omega, by go_num, by rw [← HT.out], B2⟩
      case measure => simp [intOf]; omega
    · obtain rfl : k = L.length := by omega
      rw [List.take_length]
      go_wp2
      go_ret
      exact ⟨rfl, B1.trans (B.mono B1.size)⟩
set_option maxHeartbeats 8000000 in
theorem brTI (id : Int) (ad : Option Addr) (cap : Nat) (L : List Pt) (w : World) (hid : I64 id) (hv : FView ptEnc w ad L) (hws : ∀ x ∈ L, PtWf x) (hl : L.length ≤ 1048576) (htab : TabOk w) :
    Calls Tryd.prog 19 #[.agg #[.int .i64 id, .slice ad L.length cap]] w fun e w' => e = .returned (.string (brT id L)) ∧ Below w.heap.size w w' := by
  have hB := hv.lt ptEnc_len (by omega)
  obtain ⟨i0, hi, hz0, hz1, hz2⟩ := info_parts prInfo
  obtain ⟨y, hy⟩ : ∃ y, y = w.alloc (Obj.cells #[.int .i64 id, .slice ad L.length cap] 53) := ⟨_, rfl⟩
  have B0 : Below w.heap.size w y := by rw [hy]; exact below_new _
  have A0 : BrAt y w.heap.size id (.slice ad L.length cap) := by rw [hy]; exact BrAt.new _ _ _ _
  have S0 := A0.lt
  go_enter Tryd.func19, Tryd.ntmps19
  go_upto_region 1 with fail
  rw [← hy]
  clear hy
  obtain ⟨y1, hy1⟩ : ∃ z, z = y.alloc (Obj.cells #[pV (.inr (some id)), pV (.inr none)] 77) := ⟨_, rfl⟩
  have O1 : FOwn prEnc 1 77 w.heap.size y1 (.slice (some ⟨y.heap.size, 0, none⟩) 2 2) (brP id (L.take 0)) := by rw [hy1]; exact prNew [.inr (some id), .inr none] y (by have := B0.size; omega) (by show 2 ≤ 1000; decide)
  have k1 : Below y.heap.size y y1 := by rw [hy1]; exact below_new _
  have A1 := A0.below k1 S0
  have S1 := A1.lt
  have B1 := B0.trans (k1.mono B0.size)
  have C0 := A0
  obtain ⟨a0, a1⟩ := C0
  go_upto_region 2 with fail
  rw [show (y.alloc (Obj.cells #[.iface 69 (.int .i64 id), .iface 71 (.agg #[])] 77)) = y1 from hy1.symm]
  clear hy1 a0 a1 A0 B0 k1
  generalize y.heap.size = gy at O1 ⊢
  obtain ⟨a0, a1⟩ := A1
  have hsb : w.heap.size ≤ y1.heap.size := B1.size
  go_wp2
  go_loopw [3, 15] (fun v i wr => ∃ k : Nat, k ≤ L.length ∧ i = .int .i64 k ∧ FOwn prEnc 1 77 w.heap.size wr v (brP id (L.take k)) ∧ Below w.heap.size w wr) (fun _ i _ => L.length - (intOf i).toNat)
  case atStart => exact ⟨0, Nat.zero_le _, rfl, O1, B1⟩
  case round =>
    obtain ⟨k, hk, rfl, O, B⟩ := hrel
    by_cases hlt : k < L.length
    · have HV := hv.below B hB
      obtain ⟨b, off, rfl, _⟩ := HV (by omega)
      have HT : Hid (brP id (L.take k) ++ ptP (L.getD k Pt.nil) ++ [.inr none] = brP id (L.take (k + 1))) := brP_next id hlt
      have hm : (brP id (L.take k)).length ≤ 6000000 := by
        have h1 := brP_len id (L.take k)
        have h2 : (L.take k).length ≤ k := by simp; omega
        omega
      have hx : PtWf (L.getD k Pt.nil) := hws _ (by rw [show L.getD k Pt.nil = L[k] by simp [List.getD, List.getElem?_eq_getElem hlt]]; exact List.getElem_mem hlt)
      obtain ⟨x, hxe⟩ : ∃ x, L.getD k Pt.nil = x := ⟨_, rfl⟩
      have hck : PtAtO wr b (off + k * 11) x := by
        rw [← hxe]
        exact ptAtO_of (HV.at_ ptEnc_len Pt.nil hlt)
      rw [hxe] at HT hx
      clear hxe
      have hbl : b < wr.heap.size := World.block_lt_of_cell? wr _ hck.c0
      obtain ⟨c0, c1, c2, c3, c4, c5, c6, c7, c8, c9, c10⟩ := hck
      generalize brP id (L.take k) = M at HT hm O ⊢
      obtain ⟨w1, hw1⟩ : ∃ y, y = wr.alloc (Obj.cells #[.bool x.up, .bool x.has, .int .i64 x.r, .int .i64 x.c, .int .i64 x.b, .int .i64 x.p, .int .i64 x.h, .int .i64 x.l, .int .i64 x.ro, .int .i64 x.wa, .bool x.op] 43) := ⟨_, rfl⟩
      have j1 : Below wr.heap.size wr w1 := by rw [hw1]; exact below_new _
      have N1 : PtAt w1 wr.heap.size x := by rw [hw1]; exact ptAt_box wr _ x
      have O := O.later j1
      have B1 := B.trans (j1.mono B.size)
      go_upto_region 5 with fail
      rw [← hw1]
      clear hw1 c0 c1 c2 c3 c4 c5 c6 c7 c8 c9 c10
      obtain ⟨c0, c1, c2, c3, c4, c5, c6, c7, c8, c9, c10⟩ := N1
      go_wp2_with fail
      go_at_call 29
      clear c0 c1 c2 c3 c4 c5 c6 c7 c8 c9 c10
      refine (partsI x w1 hx (tab_later htab B1)).mono ?_
      rintro e w2 ⟨g2, rfl, O2, k2⟩
      have V2 := O2.view.2
      have l4 : (ptP x).length = 4 := rfl
      have B2 := B1.trans (k2.mono B1.size)
      have O := O.later k2
      have S2 := B2.size
      clear O2
      go_wp2_with (first | (at_builtin; refine fappBL prEnc_len prEnc_ones rfl _ _ 65 rfl w.heap.size 77 i0 .nilIface 16 Tryd.underlying65 hi hz0 hz1 hz2 rfl (by decide) _ M rfl O (some ⟨g2, 0, none⟩) 4 (ptP x) rfl (fun e => by cases e) V2 ?zl (by decide) ?zb ?_))
      try case zl => omega
      try case zb => exact S2
      intro v3 w3 O3 g3 _
      have B3 : Below w.heap.size w w3 := B2.grown g3 S2 (fun g e => (O.lt g e).1)
      have S3 := B3.size
      obtain ⟨w4, hw4⟩ : ∃ z, z = w3.alloc (Obj.cells #[pV (.inr none)] 77) := ⟨_, rfl⟩
      have j4 : Below w3.heap.size w3 w4 := by rw [hw4]; exact below_new _
      have V4 : FView prEnc w4 (some ⟨w3.heap.size, 0, none⟩) [.inr none] := by rw [hw4]; exact (prNew [.inr none] w3 (Nat.le_refl _) (by show 1 ≤ 1000; decide)).view.2
      have O4 := O3.later j4
      have B4 := B3.trans (j4.mono B3.size)
      have S4 := B4.size
      rw [show (Obj.cells #[pV (.inr none)] 77) = Obj.cells #[.iface 71 (.agg #[])] 77 from rfl] at hw4
      go_wp2_with (first | (at_builtin; refine fappBL prEnc_len prEnc_ones rfl _ _ 65 rfl w.heap.size 77 i0 .nilIface 16 Tryd.underlying65 hi hz0 hz1 hz2 rfl (by decide) _ (M ++ ptP x) rfl ?zo (some ⟨w3.heap.size, 0, none⟩) 1 [.inr none] rfl (fun e => by cases e) ?zv ?zl (by decide) ?zb ?_))
      case zo => rw [← hw4]; exact O4
      case zv => rw [← hw4]; exact V4
      try case zl => simp only [List.length_append, List.length_cons, List.length_nil]; omega
      try case zb => rw [← hw4]; exact S4
      rw [← hw4]
      clear hw4 V4
      intro v5 w5 O5 g5 _
      have B5 : Below w.heap.size w w5 := B4.grown g5 S4 (fun g e => (O4.lt g e).1)
      have O6 : FOwn prEnc 1 77 w.heap.size w5 v5 (brP id (L.take (k + 1))) := by rw [← HT.out, List.append_assoc]; exact O5
      go_wp2
      go_roundw
      case rel => exact ⟨k + 1, by omega, by go_num, O6, B5⟩
      case measure => simp [intOf]; omega
    · obtain rfl : k = L.length := by omega
      rw [List.take_length] at O
      obtain ⟨a, c, rfl⟩ := O.open_
      go_wp2_with fail
      go_at_call 28
      have hln := brP_len id L
      refine (shownI a c (brP id L) wr O.view.2 (brP_wf id hid L hws) (by omega) (tab_later htab B)).mono ?_
      rintro e w2 ⟨rfl, k2⟩
      rw [shT_bridge]
      go_wp2
      go_ret
      exact ⟨rfl, B.trans (k2.mono B.size)⟩

end Go.Proofs.YtjholgpjicliaaaDoor
