import Derived.Lib.SliceRun
import Derived.Test.YtjmnaeeknomiaaaGreatRM5
namespace Go.Proofs.YtjmnaeeknomiaaaGreat
open Go.ChangeShapes Go.WideShapes Go.ChangeAt Go.RowKit
open Go.ChangeMaps (open_string shut_string)
set_option linter.unusedVariables false
set_option maxRecDepth 100000
set_option maxHeartbeats 32000000
set_option linter.unusedSimpArgs false
open Go.Proofs.Tryz
attribute [local go_sem] ji ja
theorem Ew (id : Int) (ad : Option Addr) (cap : Nat) (L : List Pt) (w : World) (hv : AH AL w ad L) (hl : L.length ≤ 1048576) (hn : ad = none → cap = 0) :
  Calls prog 83 #[.agg #[ji id, .slice ad L.length cap]] w fun e w' => ∃ ad' cap', e = .returned (.agg #[ji id, .slice ad' L.length cap']) ∧ AB AL 11 70 w.heap.size w' (.slice ad' L.length cap') L ∧ Bw w w' := by
 have hB := hv.lt AZ (by omega);obtain ⟨y, hy⟩ := AC ((w.alloc (Obj.cells #[ji id, .slice ad L.length cap] 42)).alloc (Obj.cells #[ji 0, .slice none 0 0] 42));have B0 : Bw w y := by rw [hy]; exact ((Below.refl _ _).alloc (Nat.le_refl _) _).alloc (by simp) _
 have A0 : As y w.heap.size id (.slice ad L.length cap) := by rw [hy]; constructor <;> simp [go_sem]
 have A1 : AU y (w.heap.size + 1) 0 (.slice none 0 0) := by rw [hy]; refine ⟨?_, fun i => ?_⟩; constructor <;> simp [go_sem]; simp [go_sem]
 have S0 := A1.lt;have hv1 := hv.below B0 hB;obtain ⟨i1, hj, hy0, hy1, hy2⟩ := info_parts GJ;go_enter func83, ntmps83
 go_wp2
 rw [← hy];clear hy;refine wp_region_held (S := fun Y => Below (w.heap.size + 1) y Y) (by kernel_rfl) ?_;change wpAnyH _ _ _ _ _ _ _ _ (World.drew _);have hb0 : Bw y y.drew := (Below.refl _ _).drew;obtain ⟨u0, hy0'⟩ : ∃ y_, y_ = y.drew := ⟨_, rfl⟩;rw [← hy0'] at hb0 ⊢;clear hy0';have hc0 : Below (w.heap.size + 1) y u0 := hb0.mono (by omega);refine tw 0 3 (.pointer (some (ja w.heap.size 0))) ?_;refine tw 1 4 (ji id) ?_ (hy := by intro Y hSw; obtain ⟨X0, X1⟩ := A0.below hSw (by omega); go_simp);refine tw 3 6 (.pointer (some (ja w.heap.size 1))) ?_;refine tw 4 7 (.slice ad L.length cap) ?_ (hy := by intro Y hSw; obtain ⟨X0, X1⟩ := A0.below hSw (by omega); go_simp);refine wpAnyH_all (rs := [2]) (by kernel_rfl) (by simp) ?_;intro i hi; obtain rfl : i = 2 := by simpa using hi
 refine wpOp_step rfl (fun K hK => ?_);rw [if_pos (by kernel_rfl)];go_simp
 obtain ⟨u1, hu1, kq⟩ := AI u0 (Obj.cells #[] 70);have oE : AB AL 11 70 u0.heap.size u1 (.slice (some (ja u0.heap.size 0)) 0 0) ([] : List Pt) := by rw [hu1]; exact AB.empty u0
 have z0 := hb0.size;have hb1 := AE hb0 kq;have hc1 : Below (w.heap.size + 1) y u1 := hb1.mono (by omega);have z1 := kq.size;rw [← hu1];clear hu1;generalize u0.heap.size = E at oE kq z0 z1 ⊢
 refine hK _ _ ⟨hc1, ?_⟩;clear hK K hi;refine wpAnyH_all (rs := [5]) (by kernel_rfl) (by simp) ?_;intro i hi; obtain rfl : i = 5 := by simpa using hi
 refine wpOp_step rfl (fun K hK => ?_);rw [if_pos (by kernel_rfl)];refine Bh AZ Gv 8 _ _ 40 rfl rfl E 70 i1 (.agg #[.bool false, .bool false, ji 0, ji 0, ji 0, ji 0, ji 0, ji 0, ji 0, ji 0, .bool false]) 80 underlying40 hj hy0 hy1 hy2 rfl (by decide) (by decide) (.slice (some (ja E 0)) 0 0) ([] : List Pt) rfl oE ad cap L rfl hn (hv1.below hb1 (hv1.lt AZ (by omega))) (by simp; omega) z1 ?_;intro vN u2 oN gN _;replace oN : AB AL 11 70 E u2 vN L := oN;have hb2 : Bw y u2 := hb1.grown gN hb1.size (fun j e => Nat.le_trans z0 (oE.lt j e).1);have hc2 : Below (w.heap.size + 1) y u2 := hb2.mono (by omega);obtain ⟨adN, capN, rfl⟩ := oN.open_;clear gN;simp only [List.set_cons_zero, List.set_cons_succ];refine hK _ _ ⟨hc2, ?_⟩;clear hK K hi;refine tw 6 9 (.agg #[ji id, .slice adN L.length capN]) ?_;refine wpAnyH_all (rs := [7]) (by kernel_rfl) (by simp) ?_;intro i hi; obtain rfl : i = 7 := by simpa using hi
 refine wpOp_step rfl (fun K hK => ?_);rw [if_pos (by kernel_rfl)];have A2 := A1.below hb2 S0;have A3 := A2;obtain ⟨⟨t0, t1⟩, tf⟩ := A2;go_simp
 clear t0 t1 tf;obtain ⟨uf, hu⟩ := AC ((u2.setCell ⟨w.heap.size + 1, 0, none⟩ (ji id)).setCell ⟨w.heap.size + 1, 1, none⟩ (.slice adN L.length capN));have A4 : AU uf (w.heap.size + 1) id (.slice adN L.length capN) := by rw [hu]; exact A3.put _ _
 have OF : AB AL 11 70 w.heap.size uf (.slice adN L.length capN) L := (oN.base (by omega)).keep fun g e => by
  have := oN.lt g e;rw [hu, AF (by show g ≠ w.heap.size + 1; omega), AF (by show g ≠ w.heap.size + 1; omega)]
 have BF : Bw w uf := by rw [hu]; exact ((AE B0 hb2).setCell (by show _ ≤ w.heap.size + 1; omega) _).setCell (by show _ ≤ w.heap.size + 1; omega) _
 have hbf : Below (w.heap.size + 1) y uf := by rw [hu]; exact (hc2.setCell (Nat.le_refl (w.heap.size + 1)) _).setCell (Nat.le_refl (w.heap.size + 1)) _
 rw [← hu];clear hu;refine hK _ _ ⟨hbf, ?_⟩;clear hK K hi;refine AR ?_;obtain ⟨t0, t1⟩ := A4.at_;go_wp2
 refine bodyPost_ret (v := .agg #[ji id, .slice adN L.length capN]) (by simp [results, results83, go_sem, *]) rfl ⟨_, _, rfl, OF, BF⟩
end Go.Proofs.YtjmnaeeknomiaaaGreat
