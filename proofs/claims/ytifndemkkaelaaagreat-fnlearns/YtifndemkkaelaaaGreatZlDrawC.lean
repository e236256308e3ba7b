/- spec.l5DrawRight, walked. -/
import Derived.Test.YtifndemkkaelaaaGreatRows
import Derived.WalkKit
import Derived.ProofKit
import Derived.OpenShut
import Derived.ShutString
import Derived.ChangeOld
import Derived.Below
import Derived.Deep.QuietTactic
import Derived.BigQuiet
import Derived.WalkSmall
import Derived.Laws.OwnMore
import Derived.WalkSpells
import Derived.WalkLawsBesides
import Derived.Laws.AppendOwnNone
import Derived.Laws.CopyOwn
import Derived.Maps.AppendAt
import Derived.Test.YtifndemkkaelaaaGreatZlDrawC0
import Derived.Test.YtifndemkkaelaaaGreatZlCopy3a
import Derived.Test.YtifndemkkaelaaaGreatZl33
import Derived.Test.YtifndemkkaelaaaGreatZl1
import Derived.Test.YtifndemkkaelaaaGreatZl15
namespace Go.Proofs.YtifndemkkaelaaaGreat
open Go.ChangeShapes Go.WideShapes Go.ChangeAt Go.RowKit
open Go.ChangeMaps (open_string shut_string)
set_option linter.unusedVariables false
set_option maxRecDepth 100000

theorem join_region5 {P : Program} {reg : Code} {K : Act → World → Prop} {Q : Exit → Act → World → Prop} {l : List Value} {ds : List Deferred} {W : World} (R : List Value → List Value → World → Prop) (h1 : ∀ l' W', R l l' W' → K ⟨l'.toArray, ds⟩ W') (h2 : ∀ K2 : Act → World → Prop, Hid (∀ l' W', R l l' W' → K2 ⟨l'.toArray, ds⟩ W') → Code.wp P reg (Exit.then K2 Q) ⟨l.toArray, ds⟩ W) : Code.wp P reg (Exit.then K Q) ⟨l.toArray, ds⟩ W := h2 K h1
set_option maxRecDepth 100000 in
set_option maxHeartbeats 8000000 in
theorem drawRightC {cb : Nat} {ad : Option Addr} {len cap : Nat} {f : Nat → Int} (w : World) (hs : Src w cb ad len cap f) (hcb : cb < w.heap.size) (had : ∀ x, ad = some x → 0 < len → x.block < w.heap.size) :
    Calls Tryz.prog 83 #[.pointer (some ⟨cb, 0, none⟩)] w fun e w' => DrawnC w cb ad len cap f e w' := by
  obtain ⟨i1, hj, hy0, hy1, hy2⟩ := info_parts Tryz.infoB'
  obtain ⟨i2, hm, hx0', hx1', hx2'⟩ := info_parts Tryz.info50'
  obtain ⟨x0, hx⟩ : ∃ x, x = (w.alloc (Obj.cells #[.slice none 0 0, .slice none 0 0, .slice none 0 0] 28)).alloc (Obj.cells #[.slice none 0 0, .slice none 0 0, .slice none 0 0] 28) := ⟨_, rfl⟩
  obtain ⟨R, hR⟩ : ∃ R, R = w.heap.size := ⟨_, rfl⟩
  obtain ⟨N, hN⟩ : ∃ N, N = R + 1 := ⟨_, rfl⟩
  have B0 : Below w.heap.size w x0 := by rw [hx]; exact ((Below.refl _ _).alloc (Nat.le_refl _) _).alloc (by simp) _
  have C0 : CdAt x0 R none 0 0 none 0 0 none 0 0 := by rw [hx, hR]; refine ⟨?_, ?_, ?_⟩ <;> simp [go_sem]
  have F0 : ∀ i, x0.frozen? ⟨R, i, none⟩ = false := by intro i; rw [hx, hR]; simp [go_sem]
  have N0 : CdAt x0 N none 0 0 none 0 0 none 0 0 := by rw [hx, hN, hR]; refine ⟨?_, ?_, ?_⟩ <;> simp [go_sem]
  have G0 : ∀ i, x0.frozen? ⟨N, i, none⟩ = false := by intro i; rw [hx, hN, hR]; simp [go_sem]
  have hs0 := hs.later B0
  have t0 := N0.lt
  have hRw : w.heap.size ≤ R := by omega
  have hRN : R < N := by omega
  go_enter Tryz.func83, Tryz.ntmps83
  go_wp2_with fail
  go_at_call 35
  rw [← hR, ← hN, ← hx]
  clear hx
  refine (drawBelow hs0 4 (by omega) (by omega)).mono ?_
  rintro e y1 ⟨x, rfl, hx0, hx4, hs1, hg1⟩
  have hcR : cb < R := by omega
  clear hR hN
  obtain ⟨n, rfl⟩ : ∃ n : Nat, x = (n : Int) := ⟨x.toNat, by omega⟩
  have hn4 : n + 1 ≤ 4 := by omega
  have wn : IntKind.i64.wrap (1 + (n : Int)) = 1 + (n : Int) := wrap_i64' (by omega) (by omega)
  have gz := hg1.size
  have e1 : ∀ j, j < x0.heap.size → j ≠ cb → y1.heap[j]? = x0.heap[j]? := fun j hj hn => hg1.block j hj (fun q => hn (by simpa using q))
  have DI : DC x0 cb ad len cap f N none 0 0 none 0 0 (.slice none 0 0) [] (.slice none 0 0) [] y1 :=
    ⟨hs1, (KeptF.of_grown hg1).weak (fun x hx => by simp at hx; simp [hx]), ⟨by omega, by omega, by omega, fun x e p => ⟨by have := had x e p; omega, by have := had x e p; omega⟩⟩, N0.same (e1 N (by omega) (by omega)), fun i => (World.frozen?_of_block (a := ⟨N, i, none⟩) (e1 N (by omega) (by omega))).trans (G0 i), ⟨rfl, .inl ⟨rfl, rfl⟩⟩, MC.start _ _, fun j q => (by simp [Value.ownBlock] at q), fun i hi => absurd hi (by simp)⟩
  clear hs1 hg1 hs0 hx0 hx4 N0 G0
  go_wp2
  go_loopw [5] (fun i wr => ∃ (k : Nat) (O : List Bool) (Ns : List Mb) (aO : Option Addr) (kO : Nat) (aM : Option Addr) (kM : Nat), i = .int .i64 (k : Int) ∧ k ≤ n + 1 ∧ Hid (O.length = k) ∧ Hid (Ns.length = k) ∧ Hid (∀ m ∈ Ns, m.L.length ≤ 5) ∧ DC x0 cb ad len cap f N aO O.length kO aM Ns.length kM (.slice aO O.length kO) O (.slice aM Ns.length kM) Ns wr) (fun i _ => n + 1 - (intOf i).toNat)
  case atStart => exact ⟨0, [], [], none, 0, none, 0, rfl, by omega, rfl, rfl, fun m hm => (by cases hm), DI⟩
  case round =>
    obtain ⟨k, O, Ns, aO, kO, aM, kM, rfl, hk, hOk, hNk, hNL, D0⟩ := hrel
    clear DI
    have hO4 : O.length ≤ 4 := by have := hOk.out; omega
    have hN4 : Ns.length ≤ 4 := by have := hNk.out; omega
    by_cases hlt : k < n + 1
    · have hlt' : (k : Int) < 1 + (n : Int) := by omega
      go_wp2_with fail
      refine join_region5 (fun l l' W' => ∃ (O2 : List Bool) (a2 : Option Addr) (k2 : Nat) (us : List Value), us.length = 8 ∧ l' = l.take 15 ++ us ++ l.drop 23 ∧ Hid (O2.length = O.length + 1) ∧ DC x0 cb ad len cap f N a2 O2.length k2 aM Ns.length kM (.slice a2 O2.length k2) O2 (.slice aM Ns.length kM) Ns W') ?_ ?_
      rotate_left
      · intro K2 hT
        refine wp_region_held (S := fun _ => True) (by kernel_rfl) ?_
        change wpAnyH _ _ _ _ _ _ _ _ (World.drew _)
        have hTr : True := trivial
        have Dd := D0.later (Below.refl _ _).drew
        obtain ⟨zz, hzz⟩ : ∃ y, y = wr.drew := ⟨_, rfl⟩
        rw [← hzz] at Dd ⊢
        clear hzz
        refine takeW 0 15 (.pointer (some ⟨N, 0, none⟩)) rfl rfl (by kernel_rfl) (by kernel_rfl) (by kernel_rfl) (fun _ _ _ h => h) (by kernel_rfl) (by (intro w hSw; go_simp)) (by assumption) ?_
        simp only [List.set_cons_zero, List.set_cons_succ]
        refine takeW 2 17 (.pointer (some ⟨cb, 0, none⟩)) rfl rfl (by kernel_rfl) (by kernel_rfl) (by kernel_rfl) (fun _ _ _ h => h) (by kernel_rfl) (by (intro w hSw; go_simp)) (by assumption) ?_
        simp only [List.set_cons_zero, List.set_cons_succ]
        refine wpAnyH_all (rs := [1, 3]) (by kernel_rfl) (by simp) ?_
        intro i hi; rcases (by simpa using hi : i = 1 ∨ i = 3) with rfl | rfl
        · refine wpOp_step rfl (fun K hK => ?_)
          rw [if_pos (by kernel_rfl)]
          have hq := Dd.at9.1
          go_simp
          clear hq
          refine hK _ _ ⟨trivial, ?_⟩
          clear hK K hi
          refine wpAnyH_all (rs := [3]) (by kernel_rfl) (by simp) ?_
          intro i hi; obtain rfl : i = 3 := by simpa using hi
          refine wpOp_step rfl (fun K hK => ?_)
          rw [if_pos (by kernel_rfl)]
          go_simp
          go_at_call 36
          refine (drawOnce Dd.src 4 (by omega) (by omega)).mono ?_
          rintro e z2 ⟨bq, rfl, hsq, hgq⟩
          have D2 := Dd.grow hsq hgq
          clear hsq hgq
          refine hK _ _ ⟨trivial, ?_⟩
          clear hK K hi
          refine takeW 4 19 (.bool (!bq)) rfl rfl (by kernel_rfl) (by kernel_rfl) (by kernel_rfl) (fun _ _ _ h => h) (by kernel_rfl) (by (intro w hSw; go_simp)) (by assumption) ?_
          simp only [List.set_cons_zero, List.set_cons_succ]
          refine wpAnyH_all (rs := [5]) (by kernel_rfl) (by simp) ?_
          intro i hi; obtain rfl : i = 5 := by simpa using hi
          refine wpOp_step rfl (fun K hK => ?_)
          rw [if_pos (by kernel_rfl)]
          go_simp
          obtain ⟨N5, hN5⟩ : ∃ n, n = z2.heap.size := ⟨_, rfl⟩
          obtain ⟨z3, hz3⟩ : ∃ z, z = z2.alloc (Obj.cells #[.bool (!bq)] 4) := ⟨_, rfl⟩
          have C5 : ∀ j u, ([.bool (!bq)] : List Value)[j]? = some u → z3.cell? ((⟨N5, 0, none⟩ : Addr).add j) = some u := by rw [hz3, hN5]; exact cell1 z2 _ _
          have D3 : DC x0 cb ad len cap f N aO O.length kO aM Ns.length kM (.slice aO O.length kO) O (.slice aM Ns.length kM) Ns z3 := by rw [hz3]; exact D2.later (below_box _ _)
          rw [← hN5, ← hz3]
          clear hN5 hz3
          refine hK _ _ ⟨trivial, ?_⟩
          clear hK K hi
          refine wpAnyH_all (rs := [6]) (by kernel_rfl) (by simp) ?_
          intro i hi; obtain rfl : i = 6 := by simpa using hi
          refine wpOp_step rfl (fun K hK => ?_)
          rw [if_pos (by kernel_rfl)]
          refine app_atL 21 _ _ 24 rfl rfl x0.heap.size 4 i1 (.bool false) 1 1 Tryz.underlying24 hj hy0 hy1 hy2 rfl (by decide) (.slice aO O.length kO) O.length (O.map Value.bool) rfl D3.ob ⟨N5, 0, none⟩ 1 1 [.bool (!bq)] rfl rfl C5 (fun u hu => by simp at hu; rw [hu]; rfl) (by unfold maxLen; omega) (by omega) D3.kp.size ?_
          intro v6 z4 o6 g6 e6
          have D4 := D3.flag (O' := O ++ [!bq]) (by simpa using o6) g6 e6
          obtain ⟨a6, k6, rfl⟩ := row_slice o6
          clear o6 g6 e6
          refine hK _ _ ⟨trivial, ?_⟩
          clear hK K hi
          simp only [List.set_cons_zero, List.set_cons_succ]
          refine takeW 7 22 (.pointer (some ⟨N, 0, none⟩)) rfl rfl (by kernel_rfl) (by kernel_rfl) (by kernel_rfl) (fun _ _ _ h => h) (by kernel_rfl) (by (intro w hSw; go_simp)) (by assumption) ?_
          simp only [List.set_cons_zero, List.set_cons_succ]
          have DS := D4.setO a6 (O.length + 1) k6
          have hq := D4.at9.1
          have fq := D4.fz 0
          refine wpAnyH_all (rs := [8]) (by kernel_rfl) (by simp) ?_
          intro i hi; obtain rfl : i = 8 := by simpa using hi
          refine wpOp_step rfl (fun K hK => ?_)
          rw [if_pos (by kernel_rfl)]
          go_simp
          clear hq fq
          refine hK _ _ ⟨trivial, ?_⟩
          clear hK K hi
          refine wpAnyH_done (by kernel_rfl) ?_ _
          exact hT.out _ _ ⟨O ++ [!bq], a6, k6, [_, _, _, _, _, _, _, _], rfl, rfl, by unfold Hid; simp, by simpa using DS⟩
        · refine wpOp_step rfl (fun K hK => ?_)
          rw [if_pos (by kernel_rfl)]
          go_simp
          go_at_call 36
          refine (drawOnce Dd.src 4 (by omega) (by omega)).mono ?_
          rintro e z5 ⟨bq, rfl, hsq, hgq⟩
          have D5 := Dd.grow hsq hgq
          clear hsq hgq
          refine hK _ _ ⟨trivial, ?_⟩
          clear hK K hi
          refine takeW 4 19 (.bool (!bq)) rfl rfl (by kernel_rfl) (by kernel_rfl) (by kernel_rfl) (fun _ _ _ h => h) (by kernel_rfl) (by (intro w hSw; go_simp)) (by assumption) ?_
          simp only [List.set_cons_zero, List.set_cons_succ]
          refine wpAnyH_all (rs := [1, 5]) (by kernel_rfl) (by simp) ?_
          intro i hi; rcases (by simpa using hi : i = 1 ∨ i = 5) with rfl | rfl
          · refine wpOp_step rfl (fun K hK => ?_)
            rw [if_pos (by kernel_rfl)]
            have hq := D5.at9.1
            go_simp
            clear hq
            refine hK _ _ ⟨trivial, ?_⟩
            clear hK K hi
            refine wpAnyH_all (rs := [5]) (by kernel_rfl) (by simp) ?_
            intro i hi; obtain rfl : i = 5 := by simpa using hi
            refine wpOp_step rfl (fun K hK => ?_)
            rw [if_pos (by kernel_rfl)]
            go_simp
            obtain ⟨N5, hN5⟩ : ∃ n, n = z5.heap.size := ⟨_, rfl⟩
            obtain ⟨z7, hz7⟩ : ∃ z, z = z5.alloc (Obj.cells #[.bool (!bq)] 4) := ⟨_, rfl⟩
            have C5 : ∀ j u, ([.bool (!bq)] : List Value)[j]? = some u → z7.cell? ((⟨N5, 0, none⟩ : Addr).add j) = some u := by rw [hz7, hN5]; exact cell1 z5 _ _
            have D7 : DC x0 cb ad len cap f N aO O.length kO aM Ns.length kM (.slice aO O.length kO) O (.slice aM Ns.length kM) Ns z7 := by rw [hz7]; exact D5.later (below_box _ _)
            rw [← hN5, ← hz7]
            clear hN5 hz7
            refine hK _ _ ⟨trivial, ?_⟩
            clear hK K hi
            refine wpAnyH_all (rs := [6]) (by kernel_rfl) (by simp) ?_
            intro i hi; obtain rfl : i = 6 := by simpa using hi
            refine wpOp_step rfl (fun K hK => ?_)
            rw [if_pos (by kernel_rfl)]
            refine app_atL 21 _ _ 24 rfl rfl x0.heap.size 4 i1 (.bool false) 1 1 Tryz.underlying24 hj hy0 hy1 hy2 rfl (by decide) (.slice aO O.length kO) O.length (O.map Value.bool) rfl D7.ob ⟨N5, 0, none⟩ 1 1 [.bool (!bq)] rfl rfl C5 (fun u hu => by simp at hu; rw [hu]; rfl) (by unfold maxLen; omega) (by omega) D7.kp.size ?_
            intro v6 z8 o6 g6 e6
            have D8 := D7.flag (O' := O ++ [!bq]) (by simpa using o6) g6 e6
            obtain ⟨a6, k6, rfl⟩ := row_slice o6
            clear o6 g6 e6
            refine hK _ _ ⟨trivial, ?_⟩
            clear hK K hi
            simp only [List.set_cons_zero, List.set_cons_succ]
            refine takeW 7 22 (.pointer (some ⟨N, 0, none⟩)) rfl rfl (by kernel_rfl) (by kernel_rfl) (by kernel_rfl) (fun _ _ _ h => h) (by kernel_rfl) (by (intro w hSw; go_simp)) (by assumption) ?_
            simp only [List.set_cons_zero, List.set_cons_succ]
            have DS := D8.setO a6 (O.length + 1) k6
            have hq := D8.at9.1
            have fq := D8.fz 0
            refine wpAnyH_all (rs := [8]) (by kernel_rfl) (by simp) ?_
            intro i hi; obtain rfl : i = 8 := by simpa using hi
            refine wpOp_step rfl (fun K hK => ?_)
            rw [if_pos (by kernel_rfl)]
            go_simp
            clear hq fq
            refine hK _ _ ⟨trivial, ?_⟩
            clear hK K hi
            refine wpAnyH_done (by kernel_rfl) ?_ _
            exact hT.out _ _ ⟨O ++ [!bq], a6, k6, [_, _, _, _, _, _, _, _], rfl, rfl, by unfold Hid; simp, by simpa using DS⟩
          · refine wpOp_step rfl (fun K hK => ?_)
            rw [if_pos (by kernel_rfl)]
            go_simp
            obtain ⟨N5, hN5⟩ : ∃ n, n = z5.heap.size := ⟨_, rfl⟩
            obtain ⟨z9, hz9⟩ : ∃ z, z = z5.alloc (Obj.cells #[.bool (!bq)] 4) := ⟨_, rfl⟩
            have C5 : ∀ j u, ([.bool (!bq)] : List Value)[j]? = some u → z9.cell? ((⟨N5, 0, none⟩ : Addr).add j) = some u := by rw [hz9, hN5]; exact cell1 z5 _ _
            have D9 : DC x0 cb ad len cap f N aO O.length kO aM Ns.length kM (.slice aO O.length kO) O (.slice aM Ns.length kM) Ns z9 := by rw [hz9]; exact D5.later (below_box _ _)
            rw [← hN5, ← hz9]
            clear hN5 hz9
            refine hK _ _ ⟨trivial, ?_⟩
            clear hK K hi
            refine wpAnyH_all (rs := [1]) (by kernel_rfl) (by simp) ?_
            intro i hi; obtain rfl : i = 1 := by simpa using hi
            refine wpOp_step rfl (fun K hK => ?_)
            rw [if_pos (by kernel_rfl)]
            have hq := D9.at9.1
            go_simp
            clear hq
            refine hK _ _ ⟨trivial, ?_⟩
            clear hK K hi
            refine wpAnyH_all (rs := [6]) (by kernel_rfl) (by simp) ?_
            intro i hi; obtain rfl : i = 6 := by simpa using hi
            refine wpOp_step rfl (fun K hK => ?_)
            rw [if_pos (by kernel_rfl)]
            refine app_atL 21 _ _ 24 rfl rfl x0.heap.size 4 i1 (.bool false) 1 1 Tryz.underlying24 hj hy0 hy1 hy2 rfl (by decide) (.slice aO O.length kO) O.length (O.map Value.bool) rfl D9.ob ⟨N5, 0, none⟩ 1 1 [.bool (!bq)] rfl rfl C5 (fun u hu => by simp at hu; rw [hu]; rfl) (by unfold maxLen; omega) (by omega) D9.kp.size ?_
            intro v6 z11 o6 g6 e6
            have D11 := D9.flag (O' := O ++ [!bq]) (by simpa using o6) g6 e6
            obtain ⟨a6, k6, rfl⟩ := row_slice o6
            clear o6 g6 e6
            refine hK _ _ ⟨trivial, ?_⟩
            clear hK K hi
            simp only [List.set_cons_zero, List.set_cons_succ]
            refine takeW 7 22 (.pointer (some ⟨N, 0, none⟩)) rfl rfl (by kernel_rfl) (by kernel_rfl) (by kernel_rfl) (fun _ _ _ h => h) (by kernel_rfl) (by (intro w hSw; go_simp)) (by assumption) ?_
            simp only [List.set_cons_zero, List.set_cons_succ]
            have DS := D11.setO a6 (O.length + 1) k6
            have hq := D11.at9.1
            have fq := D11.fz 0
            refine wpAnyH_all (rs := [8]) (by kernel_rfl) (by simp) ?_
            intro i hi; obtain rfl : i = 8 := by simpa using hi
            refine wpOp_step rfl (fun K hK => ?_)
            rw [if_pos (by kernel_rfl)]
            go_simp
            clear hq fq
            refine hK _ _ ⟨trivial, ?_⟩
            clear hK K hi
            refine wpAnyH_done (by kernel_rfl) ?_ _
            exact hT.out _ _ ⟨O ++ [!bq], a6, k6, [_, _, _, _, _, _, _, _], rfl, rfl, by unfold Hid; simp, by simpa using DS⟩
      rintro l' W1 ⟨O2, a2, k2, us, hul, rfl, hO2, D1⟩
      obtain ⟨u15, us, rfl⟩ : ∃ a b, us = a :: b := List.exists_cons_of_length_eq_add_one hul
      replace hul := Nat.succ.inj hul
      obtain ⟨u16, us, rfl⟩ : ∃ a b, us = a :: b := List.exists_cons_of_length_eq_add_one hul
      replace hul := Nat.succ.inj hul
      obtain ⟨u17, us, rfl⟩ : ∃ a b, us = a :: b := List.exists_cons_of_length_eq_add_one hul
      replace hul := Nat.succ.inj hul
      obtain ⟨u18, us, rfl⟩ : ∃ a b, us = a :: b := List.exists_cons_of_length_eq_add_one hul
      replace hul := Nat.succ.inj hul
      obtain ⟨u19, us, rfl⟩ : ∃ a b, us = a :: b := List.exists_cons_of_length_eq_add_one hul
      replace hul := Nat.succ.inj hul
      obtain ⟨u20, us, rfl⟩ : ∃ a b, us = a :: b := List.exists_cons_of_length_eq_add_one hul
      replace hul := Nat.succ.inj hul
      obtain ⟨u21, us, rfl⟩ : ∃ a b, us = a :: b := List.exists_cons_of_length_eq_add_one hul
      replace hul := Nat.succ.inj hul
      obtain ⟨u22, us, rfl⟩ : ∃ a b, us = a :: b := List.exists_cons_of_length_eq_add_one hul
      replace hul := Nat.succ.inj hul
      obtain rfl : us = [] := List.eq_nil_of_length_eq_zero hul
      clear hul D0
      simp only [List.take, List.drop, List.cons_append, List.nil_append]
      go_wp2_with fail
      refine wp_region_held (S := fun _ => True) (by kernel_rfl) ?_
      change wpAnyH _ _ _ _ _ _ _ _ (World.drew _)
      have hTr : True := trivial
      have Dr := D1.later (Below.refl _ _).drew
      obtain ⟨zs, hzs⟩ : ∃ y, y = W1.drew := ⟨_, rfl⟩
      rw [← hzs] at Dr ⊢
      clear hzs
      refine takeW 0 23 (.pointer (some ⟨N, 1, none⟩)) rfl rfl (by kernel_rfl) (by kernel_rfl) (by kernel_rfl) (fun _ _ _ h => h) (by kernel_rfl) (by (intro w hSw; go_simp)) (by assumption) ?_
      simp only [List.set_cons_zero, List.set_cons_succ]
      refine takeW 2 25 (.pointer (some ⟨cb, 0, none⟩)) rfl rfl (by kernel_rfl) (by kernel_rfl) (by kernel_rfl) (fun _ _ _ h => h) (by kernel_rfl) (by (intro w hSw; go_simp)) (by assumption) ?_
      simp only [List.set_cons_zero, List.set_cons_succ]
      refine wpAnyH_all (rs := [1, 3]) (by kernel_rfl) (by simp) ?_
      intro i hi; rcases (by simpa using hi : i = 1 ∨ i = 3) with rfl | rfl
      · refine wpOp_step rfl (fun K hK => ?_)
        rw [if_pos (by kernel_rfl)]
        have hq := Dr.at9.2.1
        go_simp
        clear hq
        refine hK _ _ ⟨trivial, ?_⟩
        clear hK K hi
        refine wpAnyH_all (rs := [3]) (by kernel_rfl) (by simp) ?_
        intro i hi; obtain rfl : i = 3 := by simpa using hi
        refine wpOp_step rfl (fun K hK => ?_)
        rw [if_pos (by kernel_rfl)]
        go_simp
        go_at_call 117
        refine (drawMR zs Dr.src (by have := Dr.kp.size; have := Dr.lt.1; omega) (fun x e p => by have := (Dr.lt.2.2.2 x e p).1; have := Dr.kp.size; omega)).mono ?_
        rintro e z13 ⟨own, L, ⟨adL, capL, rfl, oL, hsq, hgq⟩, hL⟩
        have D13 := Dr.grow hsq hgq
        obtain ⟨_, adL', capL', eL, vL, rL, bL, zL⟩ := own_viewN oL
        cases eL
        have iL : ∀ x, adL = some x → zs.heap.size ≤ x.block ∧ x.block < z13.heap.size := fun x e => ⟨(bL x e).1, (bL x e).2.1⟩
        clear bL oL
        refine hK _ _ ⟨trivial, ?_⟩
        clear hK K hi
        refine wpAnyH_all (rs := [4]) (by kernel_rfl) (by simp) ?_
        intro i hi; obtain rfl : i = 4 := by simpa using hi
        refine wpOp_step rfl (fun K hK => ?_)
        rw [if_pos (by kernel_rfl)]
        go_simp
        obtain ⟨N4, hN4⟩ : ∃ n, n = z13.heap.size := ⟨_, rfl⟩
        obtain ⟨z14, hz14⟩ : ∃ z, z = z13.alloc (Obj.cells #[.int .i64 own, .slice adL L.length capL] 50) := ⟨_, rfl⟩
        have k4 : Below z13.heap.size z13 z14 := by rw [hz14]; exact below_box _ _
        have C4 : ∀ j u, ([.int .i64 own, .slice adL L.length capL] : List Value)[j]? = some u → z14.cell? ((⟨N4, 0, none⟩ : Addr).add j) = some u := by rw [hz14, hN4]; exact cells2 z13 _ _ _
        have D14 := D13.later k4
        have hsq := hsq.later k4
        have hgq : zs.grownBy z14 (some cb) := grown_trans hgq (below_grown k4 _)
        have vL := ViewI.below vL k4 (Nat.le_refl _)
        have rL := rL.carry (w' := z14) (fun x e _ => k4.block _ (iL x e).2)
        have iL : ∀ x, adL = some x → zs.heap.size ≤ x.block ∧ x.block < z14.heap.size := fun x e => ⟨(iL x e).1, by have := (iL x e).2; have := k4.size; omega⟩
        rw [← hN4, ← hz14]
        clear hN4 hz14 k4
        refine hK _ _ ⟨trivial, ?_⟩
        clear hK K hi
        refine wpAnyH_all (rs := [5]) (by kernel_rfl) (by simp) ?_
        intro i hi; obtain rfl : i = 5 := by simpa using hi
        refine wpOp_step rfl (fun K hK => ?_)
        rw [if_pos (by kernel_rfl)]
        refine app_atL 28 _ _ 25 rfl rfl x0.heap.size 50 i2 (.agg #[.int .i64 0, .slice none 0 0]) 2 32 Tryz.underlying25 hm hx0' hx1' hx2' rfl (by decide) (.slice aM Ns.length kM) Ns.length (mcells Ns) rfl D14.mc.own ⟨N4, 0, none⟩ 1 1 [.int .i64 own, .slice adL L.length capL] rfl rfl C4 (fun u hu => by simp at hu; rcases hu with rfl | rfl <;> rfl) (by unfold maxLen; omega) (by omega) D14.kp.size ?_
        intro v5 z15 o5 g5 e5
        have D15 := Dr.memb (m := ⟨own, adL, capL, L⟩) hsq hgq vL rL zL (fun x e _ => iL x e) o5 g5 e5
        obtain ⟨a5, k5, rfl⟩ := row_slice o5
        clear o5 g5 e5
        refine hK _ _ ⟨trivial, ?_⟩
        clear hK K hi
        simp only [List.set_cons_zero, List.set_cons_succ]
        refine takeW 6 29 (.pointer (some ⟨N, 1, none⟩)) rfl rfl (by kernel_rfl) (by kernel_rfl) (by kernel_rfl) (fun _ _ _ h => h) (by kernel_rfl) (by (intro w hSw; go_simp)) (by assumption) ?_
        simp only [List.set_cons_zero, List.set_cons_succ]
        have DS := D15.setM a5 (Ns.length + 1) k5
        have hq := D15.at9.2.1
        have fq := D15.fz 1
        refine wpAnyH_all (rs := [7]) (by kernel_rfl) (by simp) ?_
        intro i hi; obtain rfl : i = 7 := by simpa using hi
        refine wpOp_step rfl (fun K hK => ?_)
        rw [if_pos (by kernel_rfl)]
        go_simp
        clear hq fq
        refine hK _ _ ⟨trivial, ?_⟩
        clear hK K hi
        refine wpAnyH_done (by kernel_rfl) ?_ _
        go_wp2
        go_roundw
        case rel => exact ⟨k + 1, O2, Ns ++ [⟨own, adL, capL, L⟩], a2, k2, a5, k5, by go_num, by omega, by have := hO2.out; have := hOk.out; unfold Hid; omega, by have := hNk.out; unfold Hid; simp; omega, pushL hNL.out (by show L.length ≤ 5; omega), by simpa using DS⟩
        case measure => simp [intOf]; omega
      · refine wpOp_step rfl (fun K hK => ?_)
        rw [if_pos (by kernel_rfl)]
        go_simp
        go_at_call 117
        refine (drawMR zs Dr.src (by have := Dr.kp.size; have := Dr.lt.1; omega) (fun x e p => by have := (Dr.lt.2.2.2 x e p).1; have := Dr.kp.size; omega)).mono ?_
        rintro e z16 ⟨own, L, ⟨adL, capL, rfl, oL, hsq, hgq⟩, hL⟩
        have D16 := Dr.grow hsq hgq
        obtain ⟨_, adL', capL', eL, vL, rL, bL, zL⟩ := own_viewN oL
        cases eL
        have iL : ∀ x, adL = some x → zs.heap.size ≤ x.block ∧ x.block < z16.heap.size := fun x e => ⟨(bL x e).1, (bL x e).2.1⟩
        clear bL oL
        refine hK _ _ ⟨trivial, ?_⟩
        clear hK K hi
        refine wpAnyH_all (rs := [1, 4]) (by kernel_rfl) (by simp) ?_
        intro i hi; rcases (by simpa using hi : i = 1 ∨ i = 4) with rfl | rfl
        · refine wpOp_step rfl (fun K hK => ?_)
          rw [if_pos (by kernel_rfl)]
          have hq := D16.at9.2.1
          go_simp
          clear hq
          refine hK _ _ ⟨trivial, ?_⟩
          clear hK K hi
          refine wpAnyH_all (rs := [4]) (by kernel_rfl) (by simp) ?_
          intro i hi; obtain rfl : i = 4 := by simpa using hi
          refine wpOp_step rfl (fun K hK => ?_)
          rw [if_pos (by kernel_rfl)]
          go_simp
          obtain ⟨N4, hN4⟩ : ∃ n, n = z16.heap.size := ⟨_, rfl⟩
          obtain ⟨z18, hz18⟩ : ∃ z, z = z16.alloc (Obj.cells #[.int .i64 own, .slice adL L.length capL] 50) := ⟨_, rfl⟩
          have k4 : Below z16.heap.size z16 z18 := by rw [hz18]; exact below_box _ _
          have C4 : ∀ j u, ([.int .i64 own, .slice adL L.length capL] : List Value)[j]? = some u → z18.cell? ((⟨N4, 0, none⟩ : Addr).add j) = some u := by rw [hz18, hN4]; exact cells2 z16 _ _ _
          have D18 := D16.later k4
          have hsq := hsq.later k4
          have hgq : zs.grownBy z18 (some cb) := grown_trans hgq (below_grown k4 _)
          have vL := ViewI.below vL k4 (Nat.le_refl _)
          have rL := rL.carry (w' := z18) (fun x e _ => k4.block _ (iL x e).2)
          have iL : ∀ x, adL = some x → zs.heap.size ≤ x.block ∧ x.block < z18.heap.size := fun x e => ⟨(iL x e).1, by have := (iL x e).2; have := k4.size; omega⟩
          rw [← hN4, ← hz18]
          clear hN4 hz18 k4
          refine hK _ _ ⟨trivial, ?_⟩
          clear hK K hi
          refine wpAnyH_all (rs := [5]) (by kernel_rfl) (by simp) ?_
          intro i hi; obtain rfl : i = 5 := by simpa using hi
          refine wpOp_step rfl (fun K hK => ?_)
          rw [if_pos (by kernel_rfl)]
          refine app_atL 28 _ _ 25 rfl rfl x0.heap.size 50 i2 (.agg #[.int .i64 0, .slice none 0 0]) 2 32 Tryz.underlying25 hm hx0' hx1' hx2' rfl (by decide) (.slice aM Ns.length kM) Ns.length (mcells Ns) rfl D18.mc.own ⟨N4, 0, none⟩ 1 1 [.int .i64 own, .slice adL L.length capL] rfl rfl C4 (fun u hu => by simp at hu; rcases hu with rfl | rfl <;> rfl) (by unfold maxLen; omega) (by omega) D18.kp.size ?_
          intro v5 z19 o5 g5 e5
          have D19 := Dr.memb (m := ⟨own, adL, capL, L⟩) hsq hgq vL rL zL (fun x e _ => iL x e) o5 g5 e5
          obtain ⟨a5, k5, rfl⟩ := row_slice o5
          clear o5 g5 e5
          refine hK _ _ ⟨trivial, ?_⟩
          clear hK K hi
          simp only [List.set_cons_zero, List.set_cons_succ]
          refine takeW 6 29 (.pointer (some ⟨N, 1, none⟩)) rfl rfl (by kernel_rfl) (by kernel_rfl) (by kernel_rfl) (fun _ _ _ h => h) (by kernel_rfl) (by (intro w hSw; go_simp)) (by assumption) ?_
          simp only [List.set_cons_zero, List.set_cons_succ]
          have DS := D19.setM a5 (Ns.length + 1) k5
          have hq := D19.at9.2.1
          have fq := D19.fz 1
          refine wpAnyH_all (rs := [7]) (by kernel_rfl) (by simp) ?_
          intro i hi; obtain rfl : i = 7 := by simpa using hi
          refine wpOp_step rfl (fun K hK => ?_)
          rw [if_pos (by kernel_rfl)]
          go_simp
          clear hq fq
          refine hK _ _ ⟨trivial, ?_⟩
          clear hK K hi
          refine wpAnyH_done (by kernel_rfl) ?_ _
          go_wp2
          go_roundw
          case rel => exact ⟨k + 1, O2, Ns ++ [⟨own, adL, capL, L⟩], a2, k2, a5, k5, by go_num, by omega, by have := hO2.out; have := hOk.out; unfold Hid; omega, by have := hNk.out; unfold Hid; simp; omega, pushL hNL.out (by show L.length ≤ 5; omega), by simpa using DS⟩
          case measure => simp [intOf]; omega
        · refine wpOp_step rfl (fun K hK => ?_)
          rw [if_pos (by kernel_rfl)]
          go_simp
          obtain ⟨N4, hN4⟩ : ∃ n, n = z16.heap.size := ⟨_, rfl⟩
          obtain ⟨z20, hz20⟩ : ∃ z, z = z16.alloc (Obj.cells #[.int .i64 own, .slice adL L.length capL] 50) := ⟨_, rfl⟩
          have k4 : Below z16.heap.size z16 z20 := by rw [hz20]; exact below_box _ _
          have C4 : ∀ j u, ([.int .i64 own, .slice adL L.length capL] : List Value)[j]? = some u → z20.cell? ((⟨N4, 0, none⟩ : Addr).add j) = some u := by rw [hz20, hN4]; exact cells2 z16 _ _ _
          have D20 := D16.later k4
          have hsq := hsq.later k4
          have hgq : zs.grownBy z20 (some cb) := grown_trans hgq (below_grown k4 _)
          have vL := ViewI.below vL k4 (Nat.le_refl _)
          have rL := rL.carry (w' := z20) (fun x e _ => k4.block _ (iL x e).2)
          have iL : ∀ x, adL = some x → zs.heap.size ≤ x.block ∧ x.block < z20.heap.size := fun x e => ⟨(iL x e).1, by have := (iL x e).2; have := k4.size; omega⟩
          rw [← hN4, ← hz20]
          clear hN4 hz20 k4
          refine hK _ _ ⟨trivial, ?_⟩
          clear hK K hi
          refine wpAnyH_all (rs := [1]) (by kernel_rfl) (by simp) ?_
          intro i hi; obtain rfl : i = 1 := by simpa using hi
          refine wpOp_step rfl (fun K hK => ?_)
          rw [if_pos (by kernel_rfl)]
          have hq := D20.at9.2.1
          go_simp
          clear hq
          refine hK _ _ ⟨trivial, ?_⟩
          clear hK K hi
          refine wpAnyH_all (rs := [5]) (by kernel_rfl) (by simp) ?_
          intro i hi; obtain rfl : i = 5 := by simpa using hi
          refine wpOp_step rfl (fun K hK => ?_)
          rw [if_pos (by kernel_rfl)]
          refine app_atL 28 _ _ 25 rfl rfl x0.heap.size 50 i2 (.agg #[.int .i64 0, .slice none 0 0]) 2 32 Tryz.underlying25 hm hx0' hx1' hx2' rfl (by decide) (.slice aM Ns.length kM) Ns.length (mcells Ns) rfl D20.mc.own ⟨N4, 0, none⟩ 1 1 [.int .i64 own, .slice adL L.length capL] rfl rfl C4 (fun u hu => by simp at hu; rcases hu with rfl | rfl <;> rfl) (by unfold maxLen; omega) (by omega) D20.kp.size ?_
          intro v5 z22 o5 g5 e5
          have D22 := Dr.memb (m := ⟨own, adL, capL, L⟩) hsq hgq vL rL zL (fun x e _ => iL x e) o5 g5 e5
          obtain ⟨a5, k5, rfl⟩ := row_slice o5
          clear o5 g5 e5
          refine hK _ _ ⟨trivial, ?_⟩
          clear hK K hi
          simp only [List.set_cons_zero, List.set_cons_succ]
          refine takeW 6 29 (.pointer (some ⟨N, 1, none⟩)) rfl rfl (by kernel_rfl) (by kernel_rfl) (by kernel_rfl) (fun _ _ _ h => h) (by kernel_rfl) (by (intro w hSw; go_simp)) (by assumption) ?_
          simp only [List.set_cons_zero, List.set_cons_succ]
          have DS := D22.setM a5 (Ns.length + 1) k5
          have hq := D22.at9.2.1
          have fq := D22.fz 1
          refine wpAnyH_all (rs := [7]) (by kernel_rfl) (by simp) ?_
          intro i hi; obtain rfl : i = 7 := by simpa using hi
          refine wpOp_step rfl (fun K hK => ?_)
          rw [if_pos (by kernel_rfl)]
          go_simp
          clear hq fq
          refine hK _ _ ⟨trivial, ?_⟩
          clear hK K hi
          refine wpAnyH_done (by kernel_rfl) ?_ _
          go_wp2
          go_roundw
          case rel => exact ⟨k + 1, O2, Ns ++ [⟨own, adL, capL, L⟩], a2, k2, a5, k5, by go_num, by omega, by have := hO2.out; have := hOk.out; unfold Hid; omega, by have := hNk.out; unfold Hid; simp; omega, pushL hNL.out (by show L.length ≤ 5; omega), by simpa using DS⟩
          case measure => simp [intOf]; omega
    · have hlt' : ¬ (k : Int) < 1 + (n : Int) := by omega
      have hN1 : 1 ≤ Ns.length := by have := hNk.out; omega
      have hnl := D0.lt
      go_wp2_with fail
      go_at_call 118
      refine (drawRightT wr D0.src (by have := D0.kp.size; omega)).mono ?_
      rintro e w2 ⟨vv, M, rfl, oT, hM, hDT⟩
      have D2 := D0.grow hDT.src hDT.gr
      have z2 := hDT.gr.size
      have k0 := D0.kp.size
      obtain ⟨aT, kT, rfl⟩ := row_slice oT
      have C2 : CdAt w2 R none 0 0 none 0 0 none 0 0 := C0.same (D2.kp.block R (by omega) (by simp; omega))
      have F2 : ∀ i, w2.frozen? ⟨R, i, none⟩ = false := fun i => (World.frozen?_of_block (a := ⟨R, i, none⟩) (D2.kp.block R (by omega) (by simp; omega))).trans (F0 i)
      obtain ⟨r1, r2, r3⟩ := C2
      obtain ⟨c1, c2, c3⟩ := D2.at9
      have g2 := D2.fz 2
      have f0 := F2 0
      have f1 := F2 1
      have f2 := F2 2
      go_wp2
      obtain ⟨z, hz⟩ : ∃ z, z = (((w2.setCell ⟨N, 2, none⟩ (.slice aT M.length kT)).setCell ⟨R, 0, none⟩ (.slice aO O.length kO)).setCell ⟨R, 1, none⟩ (.slice aM Ns.length kM)).setCell ⟨R, 2, none⟩ (.slice aT M.length kT) := ⟨_, rfl⟩
      have zh : ∀ j, j ≠ R → j ≠ N → z.heap[j]? = w2.heap[j]? := fun j h1 h2 => by rw [hz, heap_set3 h1]; exact Below.heap_setCell _ _ _ _ h2
      have q1 : z.cell? ⟨R, 0, none⟩ = some (.slice aO O.length kO) := by
        rw [hz, cell_set_ne (by omega), cell_set_ne (by omega)]; exact cell_set_same ⟨_, (World.cell?_of_block (a := ⟨R, 0, none⟩) (Below.heap_setCell _ _ _ _ (by show R ≠ N; omega))).trans r1⟩
      have q2 : z.cell? ⟨R, 1, none⟩ = some (.slice aM Ns.length kM) := by
        rw [hz, cell_set_ne (by omega)]; exact cell_set_same ⟨_, (cell_set_ne (by omega)).trans ((World.cell?_of_block (a := ⟨R, 1, none⟩) (Below.heap_setCell _ _ _ _ (by show R ≠ N; omega))).trans r2)⟩
      have q3 : z.cell? ⟨R, 2, none⟩ = some (.slice aT M.length kT) := by
        rw [hz]; exact cell_set_same ⟨_, (cell_set_ne (by omega)).trans ((cell_set_ne (by omega)).trans ((World.cell?_of_block (a := ⟨R, 2, none⟩) (Below.heap_setCell _ _ _ _ (by show R ≠ N; omega))).trans r3))⟩
      have zs : z.heap.size = w2.heap.size := by rw [hz]; simp
      have zo : z.os = w2.os ∧ z.tape = w2.tape ∧ z.output = w2.output := by rw [hz]; exact ⟨rfl, rfl, rfl⟩
      rw [← hz]
      clear hz r1 r2 r3 c1 c2 c3 g2 f0 f1 f2
      refine bodyPost_ret (v := .agg #[.slice aO O.length kO, .slice aM Ns.length kM, .slice aT M.length kT]) (by simp [results, Tryz.results83, go_sem, q1, q2, q3]) rfl ?_
      have hob := own_lt D2.ob
      have hot := own_lt oT
      have hmo := own_lt D2.mc.own
      have hmo0 := own_lt D0.mc.own
      have hob0 := own_lt D0.ob
      refine ⟨aO, O, kO, aM, Ns, kM, aT, M, kT, rfl, ⟨own_base' (own_same D2.ob (fun j q => zh j (by have := (hob j q).1; omega) (by have := (hob j q).1; omega))) (by omega), ?_, own_base' (own_same oT (fun j q => zh j (by have := (hot j q).1; omega) (by have := (hot j q).1; omega))) (by omega), D2.om, D2.on, fun j q c => by have := (hob0 j q).2; have := (hot j c).1; omega, fun j q c => by have := (hmo0 j q).2; have := (hot j c).1; omega⟩, hDT.src.move (zh _ (by omega) (by omega)) (fun x e p => zh _ (by have := hnl.2.2.2 x e p; have := had x e p; omega) (by have := hnl.2.2.2 x e p; omega)), ?_, hO4, hN1, hN4, hNL.out, hM⟩
      · exact (D2.mc.same (fun j h1 h2 => zh j (by omega) (by omega)) (by omega)).base (by omega)
      · have kk := D2.kp
        refine ⟨zo.1.trans (kk.os.trans B0.os), zo.2.1.trans (kk.tape.trans B0.tape), zo.2.2.trans (kk.output.trans B0.output), by have := B0.size; omega, fun j hj hn => ?_⟩
        have hjc : j ≠ cb := fun q => hn (by rw [q])
        rw [zh j (by omega) (by omega), kk.block j (by omega) (by simp; omega), B0.block j hj]

end Go.Proofs.YtifndemkkaelaaaGreat
