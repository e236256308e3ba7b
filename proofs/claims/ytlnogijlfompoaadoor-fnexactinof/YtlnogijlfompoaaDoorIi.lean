/- impl.InOf, walked. -/
import Derived.Test.YtlnogijlfompoaaDoorRows
import Derived.WalkKit
import Derived.ProofKit
import Derived.OpenShut
import Derived.ShutString
import Derived.ChangeOld
import Derived.Below
import Derived.Deep.QuietTactic
import Derived.BigQuiet
import Derived.WalkSmall
import Derived.Laws.OwnMore
import Derived.WalkSpells
import Derived.WalkLawsBesides
import Derived.Deep.Cut
import Derived.Test.YtlnogijlfompoaaDoorIa
import Derived.Test.YtlnogijlfompoaaDoorEr2
namespace Go.Proofs.YtlnogijlfompoaaDoor
open Go.ChangeShapes Go.WideShapes Go.ChangeAt Go.RowKit
open Go.ChangeMaps (open_string shut_string)
set_option linter.unusedVariables false
set_option maxRecDepth 100000

set_option maxHeartbeats 8000000 in
theorem inOfI (ad : Option Addr) (cap : Nat) (L : List Int) (a : Int) (w : World) (hv : View w ad L.length (fun i => L.getD i 0)) (hB : ∀ x, ad = some x → 0 < L.length → x.block < w.heap.size) (hl : L.length ≤ 1048576) (hcap : L.length ≤ cap) (hLbd : ∀ x ∈ L, 0 ≤ x ∧ x ≤ 255) (ha0 : -9223372036854775808 ≤ a ∧ a ≤ 9223372036854775807) (tp : TypeId) (pv : Value) (hs : w.cell? ⟨1, 0, none⟩ = some (.iface tp pv)) (hge : w.cell? ⟨0, 0, none⟩ = some (.iface 100 (.agg #[.pointer (some ⟨6, 52, none⟩)]))) :
    Calls Tryd.prog 8 #[.slice ad L.length cap, .int .i64 a] w fun e w' => e = .returned (inOfV (inAt L a)) ∧ Below w.heap.size w w' := by
  have hsl : 1 < w.heap.size := World.block_lt_of_cell? w _ hs
  have hgl : 0 < w.heap.size := World.block_lt_of_cell? w _ hge
  obtain ⟨y0, hy⟩ : ∃ y, y = w.alloc (Obj.cells #[.int .i64 0, .int .i64 0, .int .i64 0, .int .i64 0, .int .i64 0, .int .i64 0, .int .i64 0, .bool false] 26) := ⟨_, rfl⟩
  have Z0 : IBox y0 w.heap.size Ik.nil := by rw [hy]; refine ⟨?_, fun i => by simp [go_sem]⟩; constructor <;> simp [go_sem, Ik.nil]
  have BW : Below w.heap.size w y0 := by rw [hy]; exact below_new _
  have lz := Z0.lt
  obtain ⟨R, hR⟩ : ∃ R, R = inAt L a := ⟨_, rfl⟩
  rw [← hR]
  replace hR : Hid _ := hR
  go_enter Tryd.func8, Tryd.ntmps8
  go_wp2_with fail
  go_at_call 22
  rw [← hy]
  clear hy
  refine (inAtI ad cap L a y0 (hv.carry (fun x h h2 => BW.block _ (hB x h h2))) (fun x h h2 => by have := hB x h h2; omega) hl hcap hLbd ha0 tp pv ((BW.cell (p := ⟨1, 0, none⟩) hsl).trans hs)).mono ?_
  rintro e y1 ⟨rfl, kq⟩
  rw [implAt_eq, ← hR.out]
  clear hR
  replace BW := BW.trans (kq.mono BW.size)
  replace Z0 := Z0.below kq Z0.lt
  have sy1 := kq.size
  clear kq
  cases R with
  | none =>
    rw [show inAtV a none = .tuple #[.agg #[.int .i64 0, .int .i64 0, .int .i64 0, .int .i64 0, .int .i64 0, .int .i64 0, .int .i64 0, .bool false], .int .i64 0, .iface 56 (.agg #[.int .i64 a])] from rfl]
    obtain ⟨y2, hy2⟩ : ∃ y_, y_ = (y1.alloc (Obj.cells #[.int .i64 0, .int .i64 0, .int .i64 0, .int .i64 0, .int .i64 0, .int .i64 0, .int .i64 0, .bool false] 26)).alloc (Obj.cells #[.int .i64 0] 56) := ⟨_, rfl⟩
    have kq : Below y1.heap.size y1 y2 := by rw [hy2]; exact ((Below.refl _ _).alloc (Nat.le_refl _) _).alloc (by simp) _
    have ht : y2.cell? ⟨y1.heap.size + 1, 0, none⟩ = some (.int .i64 0) := by rw [hy2]; simp [go_sem]
    have hf : y2.frozen? ⟨y1.heap.size + 1, 0, none⟩ = false := by rw [hy2]; simp [go_sem]
    replace BW := BW.trans (kq.mono BW.size)
    replace Z0 := Z0.below kq Z0.lt
    have hg2 := (BW.cell (p := ⟨0, 0, none⟩) hgl).trans hge
    clear kq
    go_wp2_with fail
    go_at_call 23
    rw [← hy2]
    clear hy2
    refine (as_hit a (y1.heap.size + 1) (.int .i64 0) y2 hg2 ht hf).mono ?_
    rintro e y3 ⟨rfl, _, kq⟩
    replace BW := BW.trans (kq.mono (by omega))
    replace Z0 := Z0.below kq (by omega)
    clear kq
    obtain ⟨⟨e0, e1, e2, e3, e4, e5, e6, e7⟩, ef⟩ := Z0
    have f0 := ef 0
    have f1 := ef 1
    have f2 := ef 2
    have f3 := ef 3
    have f4 := ef 4
    have f5 := ef 5
    have f6 := ef 6
    have f7 := ef 7
    go_wp2
    refine bodyPost_ret (v := .tuple #[.agg #[.int .i64 0, .int .i64 0, .int .i64 0, .int .i64 0, .int .i64 0, .int .i64 0, .int .i64 0, .bool false], .int .i64 0, .bool false]) (by simp [results, Tryd.results8, go_sem, *]) rfl ⟨rfl, ?_⟩
    exact below_all BW (Nat.le_refl _) Ik.nil
  | some xs =>
    obtain ⟨x, s⟩ := xs
    rw [show inAtV a (some (x, s)) = .tuple #[.agg #[.int .i64 x.k, .int .i64 x.q, .int .i64 x.r, .int .i64 x.c, .int .i64 x.b, .int .i64 x.p, .int .i64 x.h, .bool x.up], .int .i64 s, .nilIface] from rfl]
    obtain ⟨y2, hy2⟩ : ∃ y_, y_ = (y1.alloc (Obj.cells #[.int .i64 x.k, .int .i64 x.q, .int .i64 x.r, .int .i64 x.c, .int .i64 x.b, .int .i64 x.p, .int .i64 x.h, .bool x.up] 26)).alloc (Obj.cells #[.int .i64 0] 56) := ⟨_, rfl⟩
    have kq : Below y1.heap.size y1 y2 := by rw [hy2]; exact ((Below.refl _ _).alloc (Nat.le_refl _) _).alloc (by simp) _
    have X0 : IBox y2 y1.heap.size x := by rw [hy2]; refine ⟨?_, fun i => by simp [go_sem]⟩; constructor <;> simp [go_sem]
    replace BW := BW.trans (kq.mono BW.size)
    replace Z0 := Z0.below kq Z0.lt
    clear kq
    go_wp2_with fail
    go_at_call 23
    rw [← hy2]
    clear hy2
    refine (as_nil _ y2).mono ?_
    rintro e y3 ⟨rfl, hy3⟩
    rw [hy3]
    clear hy3 y3
    obtain ⟨⟨e0, e1, e2, e3, e4, e5, e6, e7⟩, ef⟩ := Z0
    obtain ⟨⟨g0, g1, g2, g3, g4, g5, g6, g7⟩, gf⟩ := X0
    have f0 := ef 0
    have f1 := ef 1
    have f2 := ef 2
    have f3 := ef 3
    have f4 := ef 4
    have f5 := ef 5
    have f6 := ef 6
    have f7 := ef 7
    go_wp2
    refine bodyPost_ret (v := .tuple #[.agg #[.int .i64 x.k, .int .i64 x.q, .int .i64 x.r, .int .i64 x.c, .int .i64 x.b, .int .i64 x.p, .int .i64 x.h, .bool x.up], .int .i64 s, .bool true]) (by simp [results, Tryd.results8, go_sem, *]) rfl ⟨rfl, ?_⟩
    exact below_all BW (Nat.le_refl _) x

end Go.Proofs.YtlnogijlfompoaaDoor
