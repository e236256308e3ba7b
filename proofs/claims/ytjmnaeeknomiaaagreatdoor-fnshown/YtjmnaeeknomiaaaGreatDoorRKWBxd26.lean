import Derived.Test.YtjmnaeeknomiaaaGreatDoorRKWBxd25
namespace Go.Proofs.YtjmnaeeknomiaaaGreatDoor
open Go.ChangeShapes Go.WideShapes Go.ChangeAt Go.RowKit
open Go.ChangeMaps (open_string shut_string)
set_option linter.unusedVariables false
set_option maxRecDepth 100000
set_option maxHeartbeats 32000000
set_option linter.unusedSimpArgs false
open Go.Proofs.Tryz
attribute [local go_sem] ji ja bc
theorem Gr {cb : Nat} {ad : Option Addr} {len cap : Nat} {f : Nat → Int} (w : World) (hs : At w cb ad len cap f) (hcb : cb < w.heap.size) : Calls prog 103 #[.pointer (some (ja cb 0))] w fun e w' => LH w cb ad len cap f e w' := by
 obtain ⟨y0, hy0⟩ := AC (w.alloc (Obj.cells #[ji 0, ji 0, ji 0, ji 0, ji 0, .slice none 0 0, .slice none 0 0, .slice none 0 0, .slice none 0 0, .slice none 0 0] 63));have D : DV w cb ad len cap y0 := by rw [hy0]; exact (DV.start hs).alloc _
 have Z : Aj y0 w.heap.size := by rw [hy0]; exact Cl w _
 have l0 := Z.lt_;go_enter func103, ntmps103
 go_wp2_with fail
 go_at_call 127
 rw [← hy0];clear hy0;refine (Ld 50 (by decide) y0 (D.src hs) D.cur.lt).mono ?_;rintro e y1 ⟨s, x, v, rfl, hxo, O, s_, g_⟩;have D := D.step s_ g_;have Z := Z.keep (g_.block _ Z.lt_ (by simp; omega));have O := O.base (b2 := w.heap.size) (by omega);clear s_ g_ l0;replace hxo : Hid _ := hxo;go_upto_region 2 with fail
 obtain ⟨y2, hy2⟩ := AC ((y1.alloc (Obj.cells (bc s) 63)).alloc (Obj.cells (bc x) 63));rw [← hy2];have kq : Bw y1 y2 := by rw [hy2]; exact (Ax _).trans ((Ax _).mono (by simp))
 have A : AS y2 (y1.heap.size + 1) x := by rw [hy2]; have h1 := AS.new (y1.alloc (Obj.cells (bc s) 63)) 63 x; rw [show (y1.alloc (Obj.cells (bc s) 63)).heap.size = y1.heap.size + 1 from by simp] at h1; exact h1
 clear hy2;have D := D.later8 kq;have Z := Z.keep (kq.block _ Z.lt_);have O := O.later kq;clear kq;have O9 : AL w.heap.size (BT y2 (w.heap.size) x) x := O.keepZ Z (fun g_ hg_ => Ak y2 w.heap.size g_ x hg_);have D9 : DV w cb ad len cap (BT y2 (w.heap.size) x) := D.put10_ x (Nat.le_refl _) hcb;have sZ := D9.src hs;have gZ := D9.gr;have ZB := Z.box;have r0 := Ad ZB;clear Z D O D9;obtain ⟨⟨a0, a1, a2, a3, a4, a5, a6, a7, a8, a9⟩, _⟩ := A;go_wp2
 refine bodyPost_ret (v := AJ x) (by simp [AJ, results, results103, go_sem, *]) rfl ⟨x, rfl, hxo.out, O9, sZ, gZ⟩
theorem HP : Gc := by
 intro cb ad len cap f w hs hcb;refine (Gr w hs hcb).mono ?_;rintro e w' ⟨x, rfl, hxo, O, s_, g_⟩;obtain ⟨h2, hm, _, _, _, _⟩ := EL hxo;refine ⟨x, rfl, O.okV hxo, h2, fun i hi => ⟨⟨Ei (hm i hi), IJ (hm i hi)⟩, (O.l i (by omega)).capn⟩, fun a e => ?_, fun i a hi e => ?_, s_, g_⟩
 ·
  obtain ⟨g, hg, h1, _⟩ := O.t.blk (by omega);rw [e] at hg;cases hg
  exact h1
 have hq := O.l i (by omega);rcases hq.2 with ⟨e0, _⟩ | ⟨g, c, cur, e0, hb, _⟩
 ·
  rw [e] at e0;cases e0
 rw [e] at e0;simp only [Value.slice.injEq, Option.some.injEq] at e0;rw [e0.1];exact hb
end Go.Proofs.YtjmnaeeknomiaaaGreatDoor
