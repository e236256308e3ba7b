/- Bytes with something put in or taken away. -/
import Derived.Test.YthgcbihhdbpbdaaGreatDoorRows
import Derived.WalkKit
import Derived.ProofKit
import Derived.OpenShut
import Derived.ShutString
import Derived.ChangeOld
import Derived.Below
import Derived.Deep.QuietTactic
import Derived.BigQuiet
import Derived.WalkSmall
import Derived.Laws.OwnMore
import Derived.WalkSpells
import Derived.WalkLawsBesides
import Derived.Laws.AppendOwnNone
import Derived.Test.YthgcbihhdbpbdaaGreatDoorM4
import Derived.Test.YthgcbihhdbpbdaaGreatDoorM11
import Derived.Test.YthgcbihhdbpbdaaGreatDoorM1
import Derived.Test.YthgcbihhdbpbdaaGreatDoorM7
namespace Go.Proofs.YthgcbihhdbpbdaaGreatDoor
open Go.ChangeShapes Go.WideShapes Go.ChangeAt Go.RowKit
open Go.ChangeMaps (open_string shut_string)
set_option linter.unusedVariables false
set_option maxRecDepth 100000

theorem View.lt {w : World} {ad : Option Addr} {len : Nat} {f : Nat → Int} (h : View w ad len f) (x : Addr) (e : ad = some x) (hp : 0 < len) : x.block < w.heap.size := by
  obtain ⟨b, off, e', hc⟩ := h hp
  rw [e] at e'
  cases e'
  exact World.block_lt_of_cell? w _ (hc 0 hp)
theorem grown_below {w w' : World} {g B : Nat} (h : w.grownBy w' (some g)) (hg : B ≤ g) (hs : B ≤ w.heap.size) : Below B w w' :=
  ⟨h.os, h.tape, h.output, h.size, fun k hk => h.block k (by omega) (by simp; omega)⟩
theorem own_keep {w w' : World} {base E n : Nat} {v : Value} {xs : List Value} (h : w.ownsRow base E 1 v n xs) (k : ∀ g, base ≤ g → w'.heap[g]? = w.heap[g]?) : w'.ownsRow base E 1 v n xs := by
  refine ⟨h.1, ?_⟩
  rcases h.2 with h | ⟨g, cap, cur, e, hb, hg, r⟩
  · exact .inl h
  · exact .inr ⟨g, cap, cur, e, hb, (k g hb).trans hg, r⟩
theorem own_view2 {w : World} {base E n cap : Nat} {ad : Option Addr} {L : List Int} (h : w.ownsRow base E 1 (.slice ad n cap) n (L.map (Value.int .u8))) : View w ad n (fun i => L.getD i 0) ∧ Room w ad n ∧ ∀ a, ad = some a → base ≤ a.block ∧ a.block < w.heap.size := by
  obtain ⟨_, ad', cap', e, v, r, m⟩ := own_view h
  cases e
  exact ⟨v, r, m⟩
theorem own_keep2 {w w' : World} {base E n cap g : Nat} {ad : Option Addr} {xs : List Value} (h : w.ownsRow base E 1 (.slice ad n cap) n xs) (hne : ∀ x : Addr, ad = some x → x.block ≠ g) (k : ∀ k, k ≠ g → w'.heap[k]? = w.heap[k]?) : w'.ownsRow base E 1 (.slice ad n cap) n xs := by
  refine ⟨h.1, ?_⟩
  rcases h.2 with h | ⟨q, cap', cur, e, hb, hg, r⟩
  · exact .inl h
  · cases e
    exact .inr ⟨q, cap, cur, rfl, hb, (k q (hne _ rfl)).trans hg, r⟩
/-- Bytes put behind an empty slice, as one operation. -/
theorem app_op {w : World} {o : Oper} {a : Act} {K : Act → World → Prop} {Q : Exit → Act → World → Prop} (s x : Operand) (ho : o.op = .call { callee := .builtin .append, args := #[s, x], argTypes := #[22, 22] })
    (EB : Nat) (hs : a.eval s = .slice (some ⟨EB, 0, none⟩) 0 0) (hown : w.ownsRow EB 5 1 (.slice (some ⟨EB, 0, none⟩) 0 0) ([] : List Int).length (([] : List Int).map (Value.int .u8))) (q : Addr) (cap : Nat) (L : List Int) (hx : a.eval x = .slice (some q) L.length cap)
    (hv : View w (some q) L.length (fun i => L.getD i 0)) (hlen : L.length ≤ 1048576) (hbase : EB ≤ w.heap.size)
    (h : ∀ v' w', w'.ownsRow EB 5 1 v' L.length (L.map (Value.int .u8)) → w.grownBy w' (some EB) → K (a.put o.dst v') w') : o.wp Tryz.prog a w K Q := by
  obtain ⟨i0, hi, hz0, hz1, hz2⟩ := info_parts Tryz.info5
  refine wp_append_own _ s x 22 ho EB 5 i0 (.int .u8 0) 1 1 Tryz.underlying22 hi hz0 hz1 hz2 rfl (by decide) _ _ _ hs hown q L.length cap (L.map (Value.int .u8)) hx (by simp) hv.add ?_ ?_ ?_ hbase ?_
  · intro u hu
    obtain ⟨y, _, rfl⟩ := List.mem_map.1 hu
    rfl
  · simp; unfold maxLen; omega
  · simp; omega
  · intro v' w' h1 h2 _
    exact h v' w' (by simpa using h1) h2
theorem one_view (w : World) (x : Int) : View (w.alloc (Obj.cells #[.int .u8 x] 5)) (some ⟨w.heap.size, 0, none⟩) [x].length (fun i => [x].getD i 0) :=
  View.mk0 (fun i hi => by
    have hi' : i < 1 := hi
    obtain rfl : i = 0 := by omega
    exact lit_at w _ _ _ rfl)
theorem own_grown {w w' : World} {base E n cb : Nat} {v : Value} {xs : List Value} (h : w.ownsRow base E 1 v n xs) (hg : w.grownBy w' (some cb)) (hcb : cb < base) : w'.ownsRow base E 1 v n xs := by
  refine ⟨h.1, ?_⟩
  rcases h.2 with h | ⟨g, cap, cur, e, hb, hh, r⟩
  · exact .inl h
  · exact .inr ⟨g, cap, cur, e, hb, (hg.block g (Array.getElem?_eq_some_iff.1 hh).1 (by simp; omega)).trans hh, r⟩
/-- Bytes put behind a row that the call owns, as one operation. -/
theorem app_opG {w : World} {o : Oper} {a : Act} {K : Act → World → Prop} {Q : Exit → Act → World → Prop} (s x : Operand) (ho : o.op = .call { callee := .builtin .append, args := #[s, x], argTypes := #[22, 22] })
    (base : Nat) (v : Value) (pre : List Int) (hs : a.eval s = v) (hown : w.ownsRow base 5 1 v pre.length (pre.map (Value.int .u8))) (q : Addr) (cap : Nat) (L : List Int) (hx : a.eval x = .slice (some q) L.length cap)
    (hv : View w (some q) L.length (fun i => L.getD i 0)) (hlen : pre.length + L.length ≤ 1048576) (hbase : base ≤ w.heap.size)
    (h : ∀ v' w', w'.ownsRow base 5 1 v' (pre ++ L).length ((pre ++ L).map (Value.int .u8)) → Below base w w' → K (a.put o.dst v') w') : o.wp Tryz.prog a w K Q := by
  obtain ⟨i0, hi, hz0, hz1, hz2⟩ := info_parts Tryz.info5
  refine wp_append_own _ s x 22 ho base 5 i0 (.int .u8 0) 1 1 Tryz.underlying22 hi hz0 hz1 hz2 rfl (by decide) _ _ _ hs hown q L.length cap (L.map (Value.int .u8)) hx (by simp) hv.add ?_ ?_ ?_ hbase ?_
  · intro u hu
    obtain ⟨y, _, rfl⟩ := List.mem_map.1 hu
    rfl
  · unfold maxLen; omega
  · omega
  · intro v' w' h1 h2 _
    refine h v' w' ?_ (below_own hown h2 hbase)
    rw [List.length_append, List.map_append]
    exact h1
theorem Src.move {w w' : World} {cb : Nat} {ad : Option Addr} {len cap : Nat} {f : Nat → Int} (h : Src w cb ad len cap f) (hc : w'.heap[cb]? = w.heap[cb]?) (ha : ∀ x, ad = some x → 0 < len → w'.heap[x.block]? = w.heap[x.block]?) : Src w' cb ad len cap f :=
  ⟨h.cur.carry hc, h.view.carry (fun x e hp => ha x e hp), h.ne, h.small, h.bytes⟩
theorem own_under {w w' : World} {base E n cap B : Nat} {ad : Option Addr} {xs : List Value} (h : w.ownsRow base E 1 (.slice ad n cap) n xs) (hlt : ∀ x, ad = some x → x.block < B) (k : Below B w w') : w'.ownsRow base E 1 (.slice ad n cap) n xs := by
  refine ⟨h.1, ?_⟩
  rcases h.2 with h | ⟨q, cap', cur, e, hb, hg, r⟩
  · exact .inl h
  · cases e
    exact .inr ⟨q, cap, cur, rfl, hb, (k.block q (hlt _ rfl)).trans hg, r⟩
theorem own_nil2 {w : World} {base E n : Nat} {ad : Option Addr} {cap : Nat} {xs : List Value} (h : w.ownsRow base E 1 (.slice ad n cap) n xs) : n ≤ cap ∧ cap ≤ maxLen := by
  rcases h.2 with ⟨e, h0⟩ | ⟨g, cap', cur, e, hb, hg, hnc, hcm, _⟩
  · cases e; exact ⟨Nat.le_refl _, Nat.zero_le _⟩
  · cases e; exact ⟨hnc, hcm⟩
/-- A byte's number. -/
def ByI (x : Int) : Prop := 0 ≤ x ∧ x ≤ 255
/-- Where something is being drawn, in the world y. -/
structure DN (w : World) (cb : Nat) (ad : Option Addr) (len cap : Nat) (f : Nat → Int) (y : World) : Prop where
  src : Src y cb ad len cap f
  grown : w.grownBy y (some cb)
  cbw : cb < w.heap.size
  adw : ∀ x, ad = some x → 0 < len → x.block < w.heap.size
variable {w : World} {cb : Nat} {ad : Option Addr} {len cap : Nat} {f : Nat → Int} {y y' : World}
theorem DN.grow (h : DN w cb ad len cap f y) (hs : Src y' cb ad len cap f) (hg : y.grownBy y' (some cb)) : DN w cb ad len cap f y' := ⟨hs, grown_trans h.grown hg, h.cbw, h.adw⟩
theorem DN.later {B : Nat} (h : DN w cb ad len cap f y) (k : Below B y y') (hB : w.heap.size ≤ B) : DN w cb ad len cap f y' := by
  obtain ⟨h1, h2, h8, h11⟩ := h
  exact ⟨h1.move (k.block _ (by omega)) (fun x e hp => k.block _ (by have := h11 x e hp; omega)), ⟨k.os.trans h2.os, k.tape.trans h2.tape, k.output.trans h2.output, Nat.le_trans h2.size k.size, fun j hj hne => (k.block j (by omega)).trans (h2.block j hj hne)⟩, h8, h11⟩
theorem DN.view (h : DN w cb ad len cap f y) {a : Option Addr} {n : Nat} {g : Nat → Int} (hv : View w a n g) (hne : ∀ x, a = some x → x.block ≠ cb) : View y a n g :=
  hv.carry (fun x e hp => h.grown.block _ (hv.lt x e hp) (by have := hne x e; simp; omega))
theorem take_view {w : World} {b off nB : Nat} {T D : List Int} (hv : View w (some ⟨b, off, none⟩) nB (fun i => (T ++ D).getD i 0)) (hn : nB = T.length + D.length := by assumption) : View w (some ⟨b, off, none⟩) T.length (fun i => T.getD i 0) := by
  intro hp
  obtain ⟨b', off', e, hc⟩ := hv (by omega)
  cases e
  refine ⟨b, off, rfl, fun i hi => (hc i (by omega)).trans ?_⟩
  congr 2
  simp [List.getD, List.getElem?_append_left hi]
theorem drop_view {w : World} {b off nB capB : Nat} {T D : List Int} {aD : Addr} (hD : (capB = T.length ∧ aD = ⟨b, off, none⟩) ∨ (capB ≠ T.length ∧ aD = ⟨b, off + T.length, none⟩)) (hv : View w (some ⟨b, off, none⟩) nB (fun i => (T ++ D).getD i 0)) (hn : nB = T.length + D.length := by assumption) (hc : nB ≤ capB := by assumption) : View w (some aD) D.length (fun i => D.getD i 0) := by
  intro hp
  obtain ⟨b', off', e, hcell⟩ := hv (by omega)
  cases e
  rcases hD with ⟨h1, _⟩ | ⟨_, rfl⟩
  · omega
  refine ⟨b, off + T.length, rfl, fun i hi => ?_⟩
  rw [Nat.add_assoc]
  refine (hcell (T.length + i) (by omega)).trans ?_
  congr 2
  simp [List.getD, List.getElem?_append_right]
set_option maxHeartbeats 8000000 in
theorem dent (bb off nB capB : Nat) (L : List Int) (w : World) (hs : Src w cb ad len cap f) (hcb : cb < w.heap.size) (had : ∀ x, ad = some x → 0 < len → x.block < w.heap.size) (hLn : Hid (nB = L.length)) (hv : View w (some ⟨bb, off, none⟩) nB (fun i => L.getD i 0)) (hbb : bb ≠ cb) (hL : ∀ x ∈ L, 0 ≤ x ∧ x ≤ 255) (hn38 : nB ≤ 200) (hcap : nB ≤ capB) (hcm : capB ≤ maxLen) :
    Calls Tryz.prog 44 #[.pointer (some ⟨cb, 0, none⟩), .slice (some ⟨bb, off, none⟩) nB capB] w fun e w' => ∃ (L' : List Int) (adX : Option Addr) (capX : Nat), e = .returned (.slice adX L'.length capX) ∧ View w' adX L'.length (fun i => L'.getD i 0) ∧ (∀ x ∈ L', 0 ≤ x ∧ x ≤ 255) ∧ L'.length ≤ 1000 ∧ L'.length ≤ capX ∧ capX ≤ maxLen ∧ Src w' cb ad len cap f ∧ w.grownBy w' (some cb) := by
  have hne : ∀ x, some (⟨bb, off, none⟩ : Addr) = some x → x.block ≠ cb := fun x h => by simp at h; subst h; exact hbb
  have N0 : DN w cb ad len cap f w := ⟨hs, grown_refl _ _, hcb, had⟩
  have wn : IntKind.i64.wrap ((nB : Int) + 1) = (nB : Int) + 1 := by rw [IntKind.wrap_i64]; omega
  have hmx : (capB : Int) ≤ 9223372036854775807 := by unfold maxLen at hcm; omega
  go_enter Tryz.func44, Tryz.ntmps44
  go_wp2_with fail
  go_at_call 56
  refine (drawBelow hs ((nB : Int) + 1) (by omega) (by omega)).mono ?_
  rintro e y1 ⟨x, rfl, x0, x1, hs1, hg1⟩
  have N1 := N0.grow hs1 hg1
  obtain ⟨m, rfl⟩ : ∃ m : Nat, x = (m : Int) := ⟨x.toNat, by omega⟩
  obtain ⟨T, D, hTD, hTm⟩ : ∃ T D : List Int, L = T ++ D ∧ m = T.length := ⟨L.take m, L.drop m, (List.take_append_drop m L).symm, by rw [List.length_take]; have := hLn.out; omega⟩
  subst hTD hTm
  have hnTD : nB = T.length + D.length := by rw [hLn.out, List.length_append]
  have hn1 : Hid (nB = T.length + D.length) := hnTD
  have hTn : T.length ≤ nB := by omega
  have hTi : (T.length : Int) ≤ (nB : Int) := by omega
  have hTc : T.length ≤ capB := by omega
  have hTc' : (T.length : Int) ≤ (capB : Int) := by omega
  have hT1 : T.length ≤ 1048576 := by omega
  have hDl : nB - T.length = D.length := by omega
  clear hnTD hs hs1 hg1 N0
  go_wp2_with fail
  go_at_call 56
  refine (drawBelow N1.src 5 (by omega) (by omega)).mono ?_
  rintro e y ⟨z, rfl, z0, z1, hs2, hg2⟩
  have Ny := N1.grow hs2 hg2
  clear hs2 hg2 N1
  by_cases h0 : z = 0
  · subst h0
    have hvy := Ny.view hv hne
    go_wp2
    go_ret
    exact ⟨T, _, _, rfl, take_view hvy hn1, fun x hx => hL x (List.mem_append.2 (.inl hx)), by omega, by omega, hcm, Ny.src, Ny.grown⟩
  have hd0 : decide (z = 0) = false := decide_eq_false h0
  by_cases h1 : z = 1
  · subst h1
    obtain ⟨aD, haD, hD⟩ : ∃ aD : Addr, (if capB = T.length then some (⟨bb, off, none⟩ : Addr) else some ⟨bb, off + T.length, none⟩) = some aD ∧ ((capB = T.length ∧ aD = ⟨bb, off, none⟩) ∨ (capB ≠ T.length ∧ aD = ⟨bb, off + T.length, none⟩)) := by
      by_cases h : capB = T.length
      · exact ⟨_, if_pos h, .inl ⟨h, rfl⟩⟩
      · exact ⟨_, if_neg h, .inr ⟨h, rfl⟩⟩
    go_wp2_with fail
    refine wp_region_held (S := fun _ => True) (by kernel_rfl) ?_
    change wpAnyH _ _ _ _ _ _ _ _ (World.drew _)
    obtain ⟨y0, hy⟩ : ∃ z, z = World.drew y := ⟨_, rfl⟩
    have Ny0 : DN w cb ad len cap f y0 := by rw [hy]; exact Ny.later (Below.refl y.heap.size _).drew Ny.grown.size
    rw [← hy]
    clear hy Ny
    have htr : True := trivial
    have uy0 := Ny0.grown.size
    refine takeW 1 21 (.slice (some ⟨bb, off, none⟩) nB capB) rfl rfl (by kernel_rfl) (by kernel_rfl) (by kernel_rfl) (fun _ _ _ h => h) (by kernel_rfl) (by (intro w hSw; go_simp)) (by assumption) ?_
    simp only [List.set_cons_zero, List.set_cons_succ]
    refine takeW 2 22 (.int .i64 (T.length : Int)) rfl rfl (by kernel_rfl) (by kernel_rfl) (by kernel_rfl) (fun _ _ _ h => h) (by kernel_rfl) (by (intro w hSw; go_simp)) (by assumption) ?_
    simp only [List.set_cons_zero, List.set_cons_succ]
    refine takeW 3 23 (.slice (some ⟨bb, off, none⟩) T.length capB) rfl rfl (by kernel_rfl) (by kernel_rfl) (by kernel_rfl) (fun _ _ _ h => h) (by kernel_rfl) (by (intro w hSw; go_simp)) (by assumption) ?_
    simp only [List.set_cons_zero, List.set_cons_succ]
    refine takeW 5 25 (.pointer (some ⟨cb, 0, none⟩)) rfl rfl (by kernel_rfl) (by kernel_rfl) (by kernel_rfl) (fun _ _ _ h => h) (by kernel_rfl) (by (intro w hSw; go_simp)) (by assumption) ?_
    simp only [List.set_cons_zero, List.set_cons_succ]
    refine takeW 10 30 (.slice (some ⟨bb, off, none⟩) nB capB) rfl rfl (by kernel_rfl) (by kernel_rfl) (by kernel_rfl) (fun _ _ _ h => h) (by kernel_rfl) (by (intro w hSw; go_simp)) (by assumption) ?_
    simp only [List.set_cons_zero, List.set_cons_succ]
    refine takeW 11 31 (.int .i64 (T.length : Int)) rfl rfl (by kernel_rfl) (by kernel_rfl) (by kernel_rfl) (fun _ _ _ h => h) (by kernel_rfl) (by (intro w hSw; go_simp)) (by assumption) ?_
    simp only [List.set_cons_zero, List.set_cons_succ]
    refine takeW 12 32 (.slice (some aD) D.length (capB - T.length)) rfl rfl (by kernel_rfl) (by kernel_rfl) (by kernel_rfl) (fun _ _ _ h => h) (by kernel_rfl) (by (intro w hSw; go_simp)) (by assumption) ?_
    simp only [List.set_cons_zero, List.set_cons_succ]
    refine wpAnyH_all (rs := [0, 6]) (by kernel_rfl) (by simp) ?_
    intro i hi; rcases (by simpa using hi : i = 0 ∨ i = 6) with rfl | rfl
    · refine wpOp_step rfl (fun K hK => ?_)
      rw [if_pos (by kernel_rfl)]
      go_simp
      obtain ⟨z1, hy⟩ : ∃ q, q = y0.alloc (Obj.cells #[] 5) := ⟨_, rfl⟩
      have oE : z1.ownsRow y0.heap.size 5 1 (.slice (some ⟨y0.heap.size, 0, none⟩) 0 0) ([] : List Int).length (([] : List Int).map (Value.int .u8)) := by rw [hy]; exact own_empty y0 5
      have kz1 : Below y0.heap.size y0 z1 := by rw [hy]; exact below_box y0 _
      have tz1 : y0.heap.size < z1.heap.size := by rw [hy]; exact size_box y0 _
      rw [← hy]
      clear hy
      have Nz1 := Ny0.later kz1 Ny0.grown.size
      have uz1 := Nz1.grown.size
      refine hK _ _ ⟨trivial, ?_⟩
      clear hK K hi
      refine wpAnyH_all (rs := [4, 6]) (by kernel_rfl) (by simp) ?_
      intro i hi; rcases (by simpa using hi : i = 4 ∨ i = 6) with rfl | rfl
      · refine wpOp_step rfl (fun K hK => ?_)
        rw [if_pos (by kernel_rfl)]
        refine app_op _ _ rfl y0.heap.size rfl oE _ _ T rfl (take_view (Nz1.view hv hne)) hT1 (by omega) ?_
        intro vA z2 oA gA
        have kz2 : Below y0.heap.size z1 z2 := grown_below gA (Nat.le_refl _) (by omega)
        have sz2 := kz2.size
        have Nz2 := Nz1.later kz2 (by omega)
        have uz2 := Nz2.grown.size
        refine hK _ _ ⟨trivial, ?_⟩
        clear hK K hi
        refine wpAnyH_all (rs := [6]) (by kernel_rfl) (by simp) ?_
        intro i hi; obtain rfl : i = 6 := by simpa using hi
        refine wpOp_step rfl (fun K hK => ?_)
        rw [if_pos (by kernel_rfl)]
        go_simp
        obtain ⟨z3, hy⟩ : ∃ q, q = z2.alloc (Obj.cells #[.int .i64 0, .int .i64 1, .int .i64 128, .int .i64 3] 3) := ⟨_, rfl⟩
        have hlit : ∀ i, i < 4 → ∃ q, z3.cell? ⟨z2.heap.size, i, none⟩ = some (.int .i64 q) ∧ ByI q := by
          intro i hi
          rw [hy]
          rcases (by omega : i = 0 ∨ i = 1 ∨ i = 2 ∨ i = 3) with rfl | rfl | rfl | rfl <;> exact ⟨_, lit_at z2 _ _ _ rfl, by constructor <;> decide⟩
        have kz3 : Below z2.heap.size z2 z3 := by rw [hy]; exact below_box z2 _
        have tz3 : z2.heap.size < z3.heap.size := by rw [hy]; exact size_box z2 _
        rw [← hy]
        clear hy
        have Nz3 := Nz2.later kz3 Nz2.grown.size
        have uz3 := Nz3.grown.size
        have oA := own_carry oA kz3
        refine hK _ _ ⟨trivial, ?_⟩
        clear hK K hi
        refine wpAnyH_all (rs := [7]) (by kernel_rfl) (by simp) ?_
        intro i hi; obtain rfl : i = 7 := by simpa using hi
        refine wpOp_step rfl (fun K hK => ?_)
        rw [if_pos (by kernel_rfl)]
        go_simp
        go_at_call 47
        refine (pickIntP Nz3.src ByI z2.heap.size 4 4 (by omega) (by omega) (by omega) hlit).mono ?_
        rintro e q1 ⟨v, rfl, hvI, hs1, hg1⟩
        have Nq1 := Nz3.grow hs1 hg1
        have oA := own_grown oA hg1 (by omega)
        obtain ⟨_, adA, capA, rfl, _, _, mA⟩ := own_view oA
        have uq1 := Nq1.grown.size
        have sq1 := hg1.size
        clear hlit hs1 hg1
        have hv0 := hvI.1
        have hv1 := hvI.2
        refine hK _ _ ⟨trivial, ?_⟩
        clear hK K hi
        have hvw : IntKind.u8.wrap v = v := by rw [IntKind.wrap_u8]; omega
        refine takeW 8 28 (.int .u8 v) rfl rfl (by kernel_rfl) (by kernel_rfl) (by kernel_rfl) (fun _ _ _ h => h) (by kernel_rfl) (by (intro w hSw; go_simp)) (by assumption) ?_
        simp only [List.set_cons_zero, List.set_cons_succ]
        refine wpAnyH_all (rs := [9]) (by kernel_rfl) (by simp) ?_
        intro i hi; obtain rfl : i = 9 := by simpa using hi
        refine wpOp_step rfl (fun K hK => ?_)
        rw [if_pos (by kernel_rfl)]
        go_simp
        obtain ⟨q2, hy⟩ : ∃ q, q = q1.alloc (Obj.cells #[.int .u8 v] 5) := ⟨_, rfl⟩
        have oV : q2.ownsRow q1.heap.size 5 1 (.slice (some ⟨q1.heap.size, 0, none⟩) 1 1) [v].length ([v].map (Value.int .u8)) := by rw [hy]; exact World.ownsRow_lit q1 #[.int .u8 v] 1 (Nat.le_refl _) (by decide) rfl
        have kq2 : Below q1.heap.size q1 q2 := by rw [hy]; exact below_box q1 _
        have tq2 : q1.heap.size < q2.heap.size := by rw [hy]; exact size_box q1 _
        rw [← hy]
        clear hy
        have Nq2 := Nq1.later kq2 uq1
        have oA := own_carry oA kq2
        refine hK _ _ ⟨trivial, ?_⟩
        clear hK K hi
        refine wpAnyH_all (rs := [13]) (by kernel_rfl) (by simp) ?_
        intro i hi; obtain rfl : i = 13 := by simpa using hi
        refine wpOp_step rfl (fun K hK => ?_)
        rw [if_pos (by kernel_rfl)]
        refine app_opG _ _ rfl q1.heap.size _ [v] rfl oV _ _ D rfl (drop_view hD (Nq2.view hv hne)) (by simp; omega) (by omega) ?_
        intro vR q3 oR kR
        have Nq3 := Nq2.later kR uq1
        have sR := kR.size
        have oA := own_under oA (fun x h => (mA x h).2) kR
        obtain ⟨_, adR, capR, rfl, vR, _, mR⟩ := own_view oR
        obtain ⟨bR, fR, rfl, _⟩ := vR (by simp)
        refine hK _ _ ⟨trivial, ?_⟩
        clear hK K hi
        refine wpAnyH_all (rs := [14]) (by kernel_rfl) (by simp) ?_
        intro i hi; obtain rfl : i = 14 := by simpa using hi
        refine wpOp_step rfl (fun K hK => ?_)
        rw [if_pos (by kernel_rfl)]
        refine app_opG _ _ rfl y0.heap.size _ T rfl oA _ _ ([v] ++ D) rfl vR (by simp; omega) (by omega) ?_
        intro vF q4 oF kF
        have Nq4 := Nq3.later kF (by omega)
        obtain ⟨F, hF0⟩ : ∃ F, F = T ++ ([v] ++ D) := ⟨_, rfl⟩
        rw [← hF0] at oF
        have hF : Hid (F = T ++ ([v] ++ D)) := hF0
        clear hF0
        obtain ⟨_, adF, capF, rfl, vF, _, mF⟩ := own_view oF
        have nF := own_nil2 oF
        refine hK _ _ ⟨trivial, ?_⟩
        clear hK K hi
        refine takeW 15 4 (.slice adF F.length capF) rfl rfl (by kernel_rfl) (by kernel_rfl) (by kernel_rfl) (fun _ _ _ h => h) (by kernel_rfl) (by (intro w hSw; go_simp)) (by assumption) ?_
        try simp only [List.set_cons_zero, List.set_cons_succ]
        refine wpAnyH_done (by kernel_rfl) ?_ _
        go_wp2
        go_ret
        exact ⟨F, adF, capF, rfl, vF, fun x hx => by
          rw [hF.out] at hx
          rcases List.mem_append.1 hx with h | h
          · exact hL x (List.mem_append.2 (.inl h))
          · rcases List.mem_append.1 h with h | h
            · simp at h; omega
            · exact hL x (List.mem_append.2 (.inr h)), by rw [hF.out]; simp; omega, nF.1, nF.2, Nq4.src, Nq4.grown⟩
      · refine wpOp_step rfl (fun K hK => ?_)
        rw [if_pos (by kernel_rfl)]
        go_simp
        obtain ⟨z2, hy⟩ : ∃ q, q = z1.alloc (Obj.cells #[.int .i64 0, .int .i64 1, .int .i64 128, .int .i64 3] 3) := ⟨_, rfl⟩
        have hlit : ∀ i, i < 4 → ∃ q, z2.cell? ⟨z1.heap.size, i, none⟩ = some (.int .i64 q) ∧ ByI q := by
          intro i hi
          rw [hy]
          rcases (by omega : i = 0 ∨ i = 1 ∨ i = 2 ∨ i = 3) with rfl | rfl | rfl | rfl <;> exact ⟨_, lit_at z1 _ _ _ rfl, by constructor <;> decide⟩
        have kz2 : Below z1.heap.size z1 z2 := by rw [hy]; exact below_box z1 _
        have tz2 : z1.heap.size < z2.heap.size := by rw [hy]; exact size_box z1 _
        rw [← hy]
        clear hy
        have Nz2 := Nz1.later kz2 Nz1.grown.size
        have uz2 := Nz2.grown.size
        have oE := own_carry oE kz2
        refine hK _ _ ⟨trivial, ?_⟩
        clear hK K hi
        refine wpAnyH_all (rs := [4]) (by kernel_rfl) (by simp) ?_
        intro i hi; obtain rfl : i = 4 := by simpa using hi
        refine wpOp_step rfl (fun K hK => ?_)
        rw [if_pos (by kernel_rfl)]
        refine app_op _ _ rfl y0.heap.size rfl oE _ _ T rfl (take_view (Nz2.view hv hne)) hT1 (by omega) ?_
        intro vA z3 oA gA
        have kz3 : Below y0.heap.size z2 z3 := grown_below gA (Nat.le_refl _) (by omega)
        have sz3 := kz3.size
        have Nz3 := Nz2.later kz3 (by omega)
        have uz3 := Nz3.grown.size
        have hlit : ∀ i, i < 4 → ∃ q, z3.cell? ⟨z1.heap.size, i, none⟩ = some (.int .i64 q) ∧ ByI q := fun i hi => by
          obtain ⟨q, h1, h2⟩ := hlit i hi
          exact ⟨q, (World.cell?_of_block (a := ⟨z1.heap.size, i, none⟩) (gA.block _ (World.block_lt_of_cell? z2 _ h1) (by simp; omega))).trans h1, h2⟩
        refine hK _ _ ⟨trivial, ?_⟩
        clear hK K hi
        refine wpAnyH_all (rs := [7]) (by kernel_rfl) (by simp) ?_
        intro i hi; obtain rfl : i = 7 := by simpa using hi
        refine wpOp_step rfl (fun K hK => ?_)
        rw [if_pos (by kernel_rfl)]
        go_simp
        go_at_call 47
        refine (pickIntP Nz3.src ByI z1.heap.size 4 4 (by omega) (by omega) (by omega) hlit).mono ?_
        rintro e q1 ⟨v, rfl, hvI, hs1, hg1⟩
        have Nq1 := Nz3.grow hs1 hg1
        have oA := own_grown oA hg1 (by omega)
        obtain ⟨_, adA, capA, rfl, _, _, mA⟩ := own_view oA
        have uq1 := Nq1.grown.size
        have sq1 := hg1.size
        clear hlit hs1 hg1
        have hv0 := hvI.1
        have hv1 := hvI.2
        refine hK _ _ ⟨trivial, ?_⟩
        clear hK K hi
        have hvw : IntKind.u8.wrap v = v := by rw [IntKind.wrap_u8]; omega
        refine takeW 8 28 (.int .u8 v) rfl rfl (by kernel_rfl) (by kernel_rfl) (by kernel_rfl) (fun _ _ _ h => h) (by kernel_rfl) (by (intro w hSw; go_simp)) (by assumption) ?_
        simp only [List.set_cons_zero, List.set_cons_succ]
        refine wpAnyH_all (rs := [9]) (by kernel_rfl) (by simp) ?_
        intro i hi; obtain rfl : i = 9 := by simpa using hi
        refine wpOp_step rfl (fun K hK => ?_)
        rw [if_pos (by kernel_rfl)]
        go_simp
        obtain ⟨q2, hy⟩ : ∃ q, q = q1.alloc (Obj.cells #[.int .u8 v] 5) := ⟨_, rfl⟩
        have oV : q2.ownsRow q1.heap.size 5 1 (.slice (some ⟨q1.heap.size, 0, none⟩) 1 1) [v].length ([v].map (Value.int .u8)) := by rw [hy]; exact World.ownsRow_lit q1 #[.int .u8 v] 1 (Nat.le_refl _) (by decide) rfl
        have kq2 : Below q1.heap.size q1 q2 := by rw [hy]; exact below_box q1 _
        have tq2 : q1.heap.size < q2.heap.size := by rw [hy]; exact size_box q1 _
        rw [← hy]
        clear hy
        have Nq2 := Nq1.later kq2 uq1
        have oA := own_carry oA kq2
        refine hK _ _ ⟨trivial, ?_⟩
        clear hK K hi
        refine wpAnyH_all (rs := [13]) (by kernel_rfl) (by simp) ?_
        intro i hi; obtain rfl : i = 13 := by simpa using hi
        refine wpOp_step rfl (fun K hK => ?_)
        rw [if_pos (by kernel_rfl)]
        refine app_opG _ _ rfl q1.heap.size _ [v] rfl oV _ _ D rfl (drop_view hD (Nq2.view hv hne)) (by simp; omega) (by omega) ?_
        intro vR q3 oR kR
        have Nq3 := Nq2.later kR uq1
        have sR := kR.size
        have oA := own_under oA (fun x h => (mA x h).2) kR
        obtain ⟨_, adR, capR, rfl, vR, _, mR⟩ := own_view oR
        obtain ⟨bR, fR, rfl, _⟩ := vR (by simp)
        refine hK _ _ ⟨trivial, ?_⟩
        clear hK K hi
        refine wpAnyH_all (rs := [14]) (by kernel_rfl) (by simp) ?_
        intro i hi; obtain rfl : i = 14 := by simpa using hi
        refine wpOp_step rfl (fun K hK => ?_)
        rw [if_pos (by kernel_rfl)]
        refine app_opG _ _ rfl y0.heap.size _ T rfl oA _ _ ([v] ++ D) rfl vR (by simp; omega) (by omega) ?_
        intro vF q4 oF kF
        have Nq4 := Nq3.later kF (by omega)
        obtain ⟨F, hF0⟩ : ∃ F, F = T ++ ([v] ++ D) := ⟨_, rfl⟩
        rw [← hF0] at oF
        have hF : Hid (F = T ++ ([v] ++ D)) := hF0
        clear hF0
        obtain ⟨_, adF, capF, rfl, vF, _, mF⟩ := own_view oF
        have nF := own_nil2 oF
        refine hK _ _ ⟨trivial, ?_⟩
        clear hK K hi
        refine takeW 15 4 (.slice adF F.length capF) rfl rfl (by kernel_rfl) (by kernel_rfl) (by kernel_rfl) (fun _ _ _ h => h) (by kernel_rfl) (by (intro w hSw; go_simp)) (by assumption) ?_
        try simp only [List.set_cons_zero, List.set_cons_succ]
        refine wpAnyH_done (by kernel_rfl) ?_ _
        go_wp2
        go_ret
        exact ⟨F, adF, capF, rfl, vF, fun x hx => by
          rw [hF.out] at hx
          rcases List.mem_append.1 hx with h | h
          · exact hL x (List.mem_append.2 (.inl h))
          · rcases List.mem_append.1 h with h | h
            · simp at h; omega
            · exact hL x (List.mem_append.2 (.inr h)), by rw [hF.out]; simp; omega, nF.1, nF.2, Nq4.src, Nq4.grown⟩
    · refine wpOp_step rfl (fun K hK => ?_)
      rw [if_pos (by kernel_rfl)]
      go_simp
      obtain ⟨z1, hy⟩ : ∃ q, q = y0.alloc (Obj.cells #[.int .i64 0, .int .i64 1, .int .i64 128, .int .i64 3] 3) := ⟨_, rfl⟩
      have hlit : ∀ i, i < 4 → ∃ q, z1.cell? ⟨y0.heap.size, i, none⟩ = some (.int .i64 q) ∧ ByI q := by
        intro i hi
        rw [hy]
        rcases (by omega : i = 0 ∨ i = 1 ∨ i = 2 ∨ i = 3) with rfl | rfl | rfl | rfl <;> exact ⟨_, lit_at y0 _ _ _ rfl, by constructor <;> decide⟩
      have kz1 : Below y0.heap.size y0 z1 := by rw [hy]; exact below_box y0 _
      have tz1 : y0.heap.size < z1.heap.size := by rw [hy]; exact size_box y0 _
      rw [← hy]
      clear hy
      have Nz1 := Ny0.later kz1 Ny0.grown.size
      have uz1 := Nz1.grown.size
      refine hK _ _ ⟨trivial, ?_⟩
      clear hK K hi
      refine wpAnyH_all (rs := [0]) (by kernel_rfl) (by simp) ?_
      intro i hi; obtain rfl : i = 0 := by simpa using hi
      refine wpOp_step rfl (fun K hK => ?_)
      rw [if_pos (by kernel_rfl)]
      go_simp
      obtain ⟨z2, hy⟩ : ∃ q, q = z1.alloc (Obj.cells #[] 5) := ⟨_, rfl⟩
      have oE : z2.ownsRow z1.heap.size 5 1 (.slice (some ⟨z1.heap.size, 0, none⟩) 0 0) ([] : List Int).length (([] : List Int).map (Value.int .u8)) := by rw [hy]; exact own_empty z1 5
      have kz2 : Below z1.heap.size z1 z2 := by rw [hy]; exact below_box z1 _
      have tz2 : z1.heap.size < z2.heap.size := by rw [hy]; exact size_box z1 _
      rw [← hy]
      clear hy
      have Nz2 := Nz1.later kz2 Nz1.grown.size
      have uz2 := Nz2.grown.size
      have hlit : ∀ i, i < 4 → ∃ q, z2.cell? ⟨y0.heap.size, i, none⟩ = some (.int .i64 q) ∧ ByI q := fun i hi => by
        obtain ⟨q, h1, h2⟩ := hlit i hi
        exact ⟨q, (kz2.cell (p := ⟨y0.heap.size, i, none⟩) (World.block_lt_of_cell? z1 _ h1)).trans h1, h2⟩
      refine hK _ _ ⟨trivial, ?_⟩
      clear hK K hi
      refine wpAnyH_all (rs := [4]) (by kernel_rfl) (by simp) ?_
      intro i hi; obtain rfl : i = 4 := by simpa using hi
      refine wpOp_step rfl (fun K hK => ?_)
      rw [if_pos (by kernel_rfl)]
      refine app_op _ _ rfl z1.heap.size rfl oE _ _ T rfl (take_view (Nz2.view hv hne)) hT1 (by omega) ?_
      intro vA z3 oA gA
      have kz3 : Below z1.heap.size z2 z3 := grown_below gA (Nat.le_refl _) (by omega)
      have sz3 := kz3.size
      have Nz3 := Nz2.later kz3 (by omega)
      have uz3 := Nz3.grown.size
      have hlit : ∀ i, i < 4 → ∃ q, z3.cell? ⟨y0.heap.size, i, none⟩ = some (.int .i64 q) ∧ ByI q := fun i hi => by
        obtain ⟨q, h1, h2⟩ := hlit i hi
        exact ⟨q, (World.cell?_of_block (a := ⟨y0.heap.size, i, none⟩) (gA.block _ (World.block_lt_of_cell? z2 _ h1) (by simp; omega))).trans h1, h2⟩
      refine hK _ _ ⟨trivial, ?_⟩
      clear hK K hi
      refine wpAnyH_all (rs := [7]) (by kernel_rfl) (by simp) ?_
      intro i hi; obtain rfl : i = 7 := by simpa using hi
      refine wpOp_step rfl (fun K hK => ?_)
      rw [if_pos (by kernel_rfl)]
      go_simp
      go_at_call 47
      refine (pickIntP Nz3.src ByI y0.heap.size 4 4 (by omega) (by omega) (by omega) hlit).mono ?_
      rintro e q1 ⟨v, rfl, hvI, hs1, hg1⟩
      have Nq1 := Nz3.grow hs1 hg1
      have oA := own_grown oA hg1 (by omega)
      obtain ⟨_, adA, capA, rfl, _, _, mA⟩ := own_view oA
      have uq1 := Nq1.grown.size
      have sq1 := hg1.size
      clear hlit hs1 hg1
      have hv0 := hvI.1
      have hv1 := hvI.2
      refine hK _ _ ⟨trivial, ?_⟩
      clear hK K hi
      have hvw : IntKind.u8.wrap v = v := by rw [IntKind.wrap_u8]; omega
      refine takeW 8 28 (.int .u8 v) rfl rfl (by kernel_rfl) (by kernel_rfl) (by kernel_rfl) (fun _ _ _ h => h) (by kernel_rfl) (by (intro w hSw; go_simp)) (by assumption) ?_
      simp only [List.set_cons_zero, List.set_cons_succ]
      refine wpAnyH_all (rs := [9]) (by kernel_rfl) (by simp) ?_
      intro i hi; obtain rfl : i = 9 := by simpa using hi
      refine wpOp_step rfl (fun K hK => ?_)
      rw [if_pos (by kernel_rfl)]
      go_simp
      obtain ⟨q2, hy⟩ : ∃ q, q = q1.alloc (Obj.cells #[.int .u8 v] 5) := ⟨_, rfl⟩
      have oV : q2.ownsRow q1.heap.size 5 1 (.slice (some ⟨q1.heap.size, 0, none⟩) 1 1) [v].length ([v].map (Value.int .u8)) := by rw [hy]; exact World.ownsRow_lit q1 #[.int .u8 v] 1 (Nat.le_refl _) (by decide) rfl
      have kq2 : Below q1.heap.size q1 q2 := by rw [hy]; exact below_box q1 _
      have tq2 : q1.heap.size < q2.heap.size := by rw [hy]; exact size_box q1 _
      rw [← hy]
      clear hy
      have Nq2 := Nq1.later kq2 uq1
      have oA := own_carry oA kq2
      refine hK _ _ ⟨trivial, ?_⟩
      clear hK K hi
      refine wpAnyH_all (rs := [13]) (by kernel_rfl) (by simp) ?_
      intro i hi; obtain rfl : i = 13 := by simpa using hi
      refine wpOp_step rfl (fun K hK => ?_)
      rw [if_pos (by kernel_rfl)]
      refine app_opG _ _ rfl q1.heap.size _ [v] rfl oV _ _ D rfl (drop_view hD (Nq2.view hv hne)) (by simp; omega) (by omega) ?_
      intro vR q3 oR kR
      have Nq3 := Nq2.later kR uq1
      have sR := kR.size
      have oA := own_under oA (fun x h => (mA x h).2) kR
      obtain ⟨_, adR, capR, rfl, vR, _, mR⟩ := own_view oR
      obtain ⟨bR, fR, rfl, _⟩ := vR (by simp)
      refine hK _ _ ⟨trivial, ?_⟩
      clear hK K hi
      refine wpAnyH_all (rs := [14]) (by kernel_rfl) (by simp) ?_
      intro i hi; obtain rfl : i = 14 := by simpa using hi
      refine wpOp_step rfl (fun K hK => ?_)
      rw [if_pos (by kernel_rfl)]
      refine app_opG _ _ rfl z1.heap.size _ T rfl oA _ _ ([v] ++ D) rfl vR (by simp; omega) (by omega) ?_
      intro vF q4 oF kF
      have Nq4 := Nq3.later kF (by omega)
      obtain ⟨F, hF0⟩ : ∃ F, F = T ++ ([v] ++ D) := ⟨_, rfl⟩
      rw [← hF0] at oF
      have hF : Hid (F = T ++ ([v] ++ D)) := hF0
      clear hF0
      obtain ⟨_, adF, capF, rfl, vF, _, mF⟩ := own_view oF
      have nF := own_nil2 oF
      refine hK _ _ ⟨trivial, ?_⟩
      clear hK K hi
      refine takeW 15 4 (.slice adF F.length capF) rfl rfl (by kernel_rfl) (by kernel_rfl) (by kernel_rfl) (fun _ _ _ h => h) (by kernel_rfl) (by (intro w hSw; go_simp)) (by assumption) ?_
      try simp only [List.set_cons_zero, List.set_cons_succ]
      refine wpAnyH_done (by kernel_rfl) ?_ _
      go_wp2
      go_ret
      exact ⟨F, adF, capF, rfl, vF, fun x hx => by
        rw [hF.out] at hx
        rcases List.mem_append.1 hx with h | h
        · exact hL x (List.mem_append.2 (.inl h))
        · rcases List.mem_append.1 h with h | h
          · simp at h; omega
          · exact hL x (List.mem_append.2 (.inr h)), by rw [hF.out]; simp; omega, nF.1, nF.2, Nq4.src, Nq4.grown⟩
  have hd1 : decide (z = 1) = false := decide_eq_false h1
  have hvy := Ny.view hv hne
  go_wp2
  go_ret
  have e : nB = (T ++ D).length := hLn.out
  exact ⟨T ++ D, some ⟨bb, off, none⟩, capB, by rw [e]; rfl, by rw [← e]; exact hvy, hL, by omega, by omega, hcm, Ny.src, Ny.grown⟩

end Go.Proofs.YthgcbihhdbpbdaaGreatDoor
