/- A range over the ways out. The laying of slices.SortFunc at this translation, in plain words by the guide's own tool. slices.SortFunc at what was heard. -/
import Derived.Test.YtifndemkkaelaaaGreatRows
import Derived.WalkKit
import Derived.ProofKit
import Derived.OpenShut
import Derived.ShutString
import Derived.ChangeOld
import Derived.Below
import Derived.Deep.QuietTactic
import Derived.BigQuiet
import Derived.WalkSmall
import Derived.Laws.OwnMore
import Derived.WalkSpells
import Derived.WalkLawsBesides
import Derived.Laws.AppendOwnNone
import Derived.Laws.CopyOwn
import Derived.RangeFuncBox
import Derived.RangeFuncSeq
import Derived.RangeFuncCalls
import Derived.RangeFuncLeaves
import Derived.ControlIn
import Derived.Shelf.Abstract
import Derived.Test.YtifndemkkaelaaaGreatZlWays
import Derived.Shelf.SlSortCmp.WholeK
import Derived.Test.YtifndemkkaelaaaGreatProg
import Derived.Test.YtifndemkkaelaaaGreatZl15
import Derived.Test.YtifndemkkaelaaaGreatZl11
namespace Go.Proofs.YtifndemkkaelaaaGreat
open Go.ChangeShapes Go.WideShapes Go.ChangeAt Go.RowKit
open Go.ChangeMaps (open_string shut_string)
set_option linter.unusedVariables false
set_option maxRecDepth 100000

def endRd (l : Nat) (J : World → Prop) (Jx : Code → World → Prop) (W2 : World) : Exit → Act → World → Prop
  | .normal, _, W3 => (W3.heap[l]? = W2.heap[l]? ∧ W3.heap[l - 1]? = W2.heap[l - 1]?) ∧ J W3
  | .exit id, _, W3 => (W3.heap[l]? = W2.heap[l]? ∧ W3.heap[l - 1]? = W2.heap[l - 1]?) ∧ Jx (.exit id) W3
  | _, _, _ => False
set_option maxRecDepth 100000 in
theorem rangeWays (adO : Option Addr) (cO : Nat) (O : List Bool) (adM : Option Addr) (cM : Nat) (D : DL) (adT : Option Addr) (cT : Nat) (T : List Hd) (i : Nat) (a b c : Int) (adL : Option Addr) (capL : Nat) (L : List Int) (lo hi P Q base C1 C2 C3 : Nat) {g : Operand} {ps : Array Tmp} {assign body : Code} {QQ : Exit → Act → World → Prop} {act : Act} {w : World}
    (I : CdV w lo hi adO O adM D adT T) (AA : CdAt w P adO O.length cO adM D.length cM adT T.length cT) (hC : cOk O D T = true) (hl : O.length + totD D + T.length ≤ 1048576) (FF : FrameAt w Q a b c adL L.length capL) (vL : View w adL L.length (fun i => L.getD i 0)) (hlL : L.length ≤ 1048576)
    (c1 : w.cell? ⟨C1, 0, none⟩ = some (.pointer (some ⟨P, 0, none⟩))) (c2 : w.cell? ⟨C2, 0, none⟩ = some (.int .i64 (i : Int))) (c3 : w.cell? ⟨C3, 0, none⟩ = some (.pointer (some ⟨Q, 0, none⟩)))
    (hhi : hi ≤ base) (hP : P < base) (hQ : Q < base) (hLb : ∀ x, adL = some x → 0 < L.length → x.block < base) (hbw : base ≤ w.heap.size) (hOl : i < O.length)
    (hps : ps.size = 1) (hg : act.eval g = .func (.func 126) #[] #[.pointer (some ⟨C1, 0, none⟩), .pointer (some ⟨C2, 0, none⟩), .pointer (some ⟨C3, 0, none⟩)])
    (J : Nat → World → Prop) (Jx : Code → World → Prop)
    (hJ : ∀ k W W', J k W → Below W.heap.size W W' → J k W')
    (hJp : ∀ k W o, J k W → J k (W.putObj (w.heap.size + 1) o)) (hXp : ∀ c W o, Jx c W → Jx c (W.putObj (w.heap.size + 1) o))
    (hSkip : ∀ k W, k < O.length → ((k : Int) = (i : Int) ∨ O.getD k false = false ∨ (outD (D.getD k (0, [])) a b c L).ok = false) → J k W → J (k + 1) W)
    (hround : ∀ (k : Nat) (W0 W : World) (ra rb rc : Int) (ad : Option Addr) (cap : Nat) (M : List Int), k < O.length → ¬ (k : Int) = (i : Int) → O.getD k false = true → outD (D.getD k (0, [])) a b c L = ⟨ra, rb, rc, M, true⟩ → J k W0 → Below W0.heap.size W0 W → View W ad M.length (fun j => M.getD j 0) → Room W ad M.length → (ad = none → cap = 0) → (∀ x, ad = some x → W0.heap.size ≤ x.block ∧ x.block < W.heap.size) → w.heap.size + 1 < W0.heap.size →
      assign.wpIn (Fence.wide.inRound (w.heap.size + 1)) 4 Tryz.prog (Exit.then (fun a₁ W₁ => W₁.heap[w.heap.size + 1]? = W.heap[w.heap.size + 1]? ∧ W₁.heap[w.heap.size]? = W.heap[w.heap.size]? ∧ ∀ o : Obj, body.wpIn (Fence.wide.inRound (w.heap.size + 1)) 4 Tryz.prog (endRd (w.heap.size + 1) (fun W3 => J (k + 1) W3 ∧ KpW base C1 C2 C3 W W3) Jx (W₁.putObj (w.heap.size + 1) o)) a₁ (W₁.putObj (w.heap.size + 1) o)) (fun _ _ _ => False)) { tmps := (ps.zip #[.agg #[.int .i64 (k : Int), .int .i64 ra, .int .i64 rb, .int .i64 rc, .slice ad M.length cap]]).foldl (fun t (p, v) => t.setIfInBounds p v) act.tmps, defers := [] } W)
    (h0 : J 0 w)
    (hdone : ∀ W, J O.length W → W.heap[w.heap.size]? = some (.deferred (some [])) → QQ .normal { act with defers := { target := .collected w.heap.size, args := #[] } :: act.defers } W)
    (hstop : ∀ c W, Jx c W → W.heap[w.heap.size]? = some (.deferred (some [])) → c.wp Tryz.prog QQ { act with defers := { target := .collected w.heap.size, args := #[] } :: act.defers } W) :
    (Code.rangeFunc g ps assign body).wp Tryz.prog QQ act w := by
  have lc1 : C1 < w.heap.size := World.block_lt_of_cell? w _ c1
  have lc2 : C2 < w.heap.size := World.block_lt_of_cell? w _ c2
  have lc3 : C3 < w.heap.size := World.block_lt_of_cell? w _ c3
  refine (wpIn_wide (n := 7)).1 ?_
  refine wpIn_rangeFunc ?_
  intro fn hfn
  obtain ⟨rec, hrec⟩ : ∃ rec : LoopState → Option Code → Loop, rec = fun st pe => { state := st, pending := pe, fn, tmps := act.tmps, params := ps, assign, body, defers := w.heap.size } := ⟨_, rfl⟩
  obtain ⟨W1, hW1⟩ : ∃ W1, (w.alloc (.deferred (some []))).alloc (.loop (rec .ready none)) = W1 := ⟨_, rfl⟩
  have hL1 : W1.heap[w.heap.size + 1]? = some (.loop (rec .ready none)) := by
    rw [← hW1]; have := World.alloc_heap_new (w.alloc (.deferred (some []))) (.loop (rec .ready none)); rwa [World.size_alloc] at this
  have hK1 : W1.heap[w.heap.size]? = some (.deferred (some [])) := by
    rw [← hW1]; exact (Below.heap_alloc _ _ _ (by simp)).trans (World.alloc_heap_new w _)
  have hB1 : Below w.heap.size w W1 := by rw [← hW1]; exact ((Below.refl _ w).alloc (Nat.le_refl _) _).alloc (by simp) _
  refine ⟨w.heap.size + 1, [{ target := .collected w.heap.size, args := #[] }], W1, { target := .fn (.func 126) #[.pointer (some ⟨C1, 0, none⟩), .pointer (some ⟨C2, 0, none⟩), .pointer (some ⟨C3, 0, none⟩)], args := #[.func (.yield (w.heap.size + 1)) #[] #[]] }, W1, 126,
    #[.func (.yield (w.heap.size + 1)) #[] #[]] ++ #[.pointer (some ⟨C1, 0, none⟩), .pointer (some ⟨C2, 0, none⟩), .pointer (some ⟨C3, 0, none⟩)], W1, ?_, ?_, ?_, ?_, (fun _ => by omega), ?_⟩
  · rw [← hW1, hrec]; exact run_enterLoop_outer _ _ _ _ _
  · simp only [resolve, hg]
    simp [go_sem]
  · intro f' _; trivial
  · have eg : ∀ args w, (callFunc 126 args).run Tryz.prog w = .ok (.enter 126 args) w := Go.Proofs.enters_of Tryz.func126 (by kernel_rfl) rfl
    simp [invoke, go_sem, eg]
  refine callsIn_wide.2 ?_
  refine (waysI adO cO O adM cM D adT cT T i a b c adL capL L lo hi P Q base C1 C2 C3 (w.heap.size + 1) W1
    (fun k W => J k W ∧ W.heap[w.heap.size + 1]? = some (.loop (rec .ready none)) ∧ W.heap[w.heap.size]? = some (.deferred (some [])))
    (fun W => ∃ c, Jx c W ∧ W.heap[w.heap.size + 1]? = some (.loop (rec .done (some c))) ∧ W.heap[w.heap.size]? = some (.deferred (some [])))
    (I.below hB1 (by omega)) (AA.below hB1 (by omega)) hC hl (FF.below hB1 (by omega)) (vL.carry (fun x e p => hB1.block _ (vL.lt x e p))) hlL
    ((hB1.cell (p := ⟨C1, 0, none⟩) lc1).trans c1) ((hB1.cell (p := ⟨C2, 0, none⟩) lc2).trans c2) ((hB1.cell (p := ⟨C3, 0, none⟩) lc3).trans c3)
    hhi hP hQ hLb (Nat.le_trans hbw hB1.size) hOl ?_ ?_ ?_ ⟨hJ 0 w W1 h0 hB1, hL1, hK1⟩).mono ?_
  · rintro k W W' ⟨hj, hl1, hk1⟩ hb
    exact ⟨hJ k W W' hj hb, (hb.block _ (Array.getElem?_eq_some_iff.1 hl1).1).trans hl1, (hb.block _ (Array.getElem?_eq_some_iff.1 hk1).1).trans hk1⟩
  · rintro k W hk hc ⟨hj, hl1, hk1⟩
    exact ⟨hSkip k W hk hc hj, hl1, hk1⟩
  · rintro k W0 W ra rb rc ad cap M hk hki hO hout ⟨hj, hl0, hk0⟩ hb hv hr hn hi'
    have hlt0 : w.heap.size + 1 < W0.heap.size := (Array.getElem?_eq_some_iff.1 hl0).1
    have hl2 : W.heap[w.heap.size + 1]? = some (.loop (rec .ready none)) := (hb.block _ hlt0).trans hl0
    have hk2 : W.heap[w.heap.size]? = some (.deferred (some [])) := (hb.block _ (Array.getElem?_eq_some_iff.1 hk0).1).trans hk0
    have hy := run_yield (P := Tryz.prog) (args := #[.agg #[.int .i64 (k : Int), .int .i64 ra, .int .i64 rb, .int .i64 rc, .slice ad M.length cap]]) hl2 (by rw [hrec]; exact hps.symm)
    rw [hrec] at hy
    refine ⟨fn, _, assign, body, hy, roundIn_of_wpIn hfn ?_⟩
    refine Go.wpIn_mono (hround k W0 W ra rb rc ad cap M hk hki hO hout hj hb hv hr hn hi' hlt0) ?_
    rintro e a1 V1 hp
    cases e with
    | normal =>
      obtain ⟨e1, e2, hbody⟩ := hp
      have hl3 : V1.heap[w.heap.size + 1]? = some (.loop (rec .ready none)) := e1.trans hl2
      have hk3 : V1.heap[w.heap.size]? = some (.deferred (some [])) := e2.trans hk2
      have hlt : w.heap.size + 1 < V1.heap.size := (Array.getElem?_eq_some_iff.1 hl3).1
      refine ⟨_, run_beginRound hl3 (by rw [hrec]), ?_⟩
      refine Go.wpIn_mono (hbody _) ?_
      have hl4 : (V1.putObj (w.heap.size + 1) (.loop { rec .ready none with state := .busy })).heap[w.heap.size + 1]? = some (.loop { rec .ready none with state := .busy }) := World.putObj_heap_same hlt
      have hk4 : (V1.putObj (w.heap.size + 1) (.loop { rec .ready none with state := .busy })).heap[w.heap.size]? = some (.deferred (some [])) := (World.putObj_heap_other (by omega)).trans hk3
      rintro e a3 W3 hp
      cases e with
      | normal =>
        obtain ⟨⟨f1, f2⟩, hj3, hkp⟩ := hp
        have hl5 := f1.trans hl4
        have hk5 : W3.heap[w.heap.size]? = _ := f2.trans hk4
        have hlt3 : w.heap.size + 1 < W3.heap.size := (Array.getElem?_eq_some_iff.1 hl5).1
        refine ⟨_, _, run_endRound none hl5, .inl ⟨rfl, ⟨hJp _ _ _ hj3, ?_, (World.putObj_heap_other (by omega)).trans hk5⟩, ?_⟩⟩
        · rw [World.putObj_heap_same hlt3, hrec]; rfl
        · refine ⟨by rw [World.putObj_size]; exact hkp.1, fun j hj => (World.putObj_heap_other (by omega)).trans (hkp.2 j hj)⟩
      | exit id =>
        obtain ⟨⟨f1, f2⟩, hj3⟩ := hp
        have hl5 := f1.trans hl4
        have hk5 : W3.heap[w.heap.size]? = _ := f2.trans hk4
        have hlt3 : w.heap.size + 1 < W3.heap.size := (Array.getElem?_eq_some_iff.1 hl5).1
        refine ⟨_, _, run_endRound (some (.exit id)) hl5, .inr ⟨rfl, .exit id, hXp _ _ _ hj3, ?_, (World.putObj_heap_other (by omega)).trans hk5⟩⟩
        rw [World.putObj_heap_same hlt3, hrec]; rfl
      | ret => exact hp.elim
      | goto t => exact hp.elim
      | panic ch => exact hp.elim
      | outgrown => exact hp.elim
    | ret => exact hp.elim
    | exit id => exact hp.elim
    | goto t => exact hp.elim
    | panic ch => exact hp.elim
    | outgrown => exact hp.elim
  · rintro e W2 ⟨⟨v, rfl⟩, (⟨hj, hl2, hk2⟩ | ⟨c, hj, hl2, hk2⟩)⟩
    · exact ⟨none, _, by have := run_endLoop (P := Tryz.prog) hl2 (by rw [hrec]; simp); rw [hrec] at this; exact this, hdone _ (hJp _ _ _ hj) ((World.putObj_heap_other (by omega)).trans hk2)⟩
    · exact ⟨some c, _, by have := run_endLoop (P := Tryz.prog) hl2 (by rw [hrec]; simp); rw [hrec] at this; exact this, wpIn_wide.2 (hstop _ _ (hXp _ _ _ hj) ((World.putObj_heap_other (by omega)).trans hk2))⟩

end Go.Proofs.YtifndemkkaelaaaGreat
namespace Go.Proofs
open Go.Shelf
def Tryz.sortHd_ren : Go.Shelf.Ren := ⟨fun | 6 => 125 | 15 => 137 | 14 => 136 | 28 => 148 | 29 => 149 | 20 => 140 | 21 => 141 | 22 => 142 | 23 => 143 | 24 => 144 | 25 => 145 | 26 => 146 | 27 => 147 | 46 => 158 | 47 => 159 | 48 => 160 | 49 => 161 | 50 => 162 | 57 => 166 | n => n, fun | 22 => 26 | 24 => 97 | 25 => 145 | 3 => 3 | 39 => 142 | 0 => 0 | 53 => 163 | 55 => 165 | 4 => 4 | 46 => 157 | 45 => 156 | 50 => 51 | 5 => 5 | 9 => 9 | 66 => 171 | 70 => 175 | 76 => 179 | 77 => 180 | n => n, fun | n => n⟩
theorem Tryz.sortHd : Go.Proofs.SlLaysF0.n6 Tryz.prog Tryz.sortHd_ren := {
  mixed := by kernel_rfl
  f6 := ⟨Tryz.f125.name, by decide, Tryz.func125.trans (congrArg some (by kernel_rfl))⟩
  f14 := ⟨Tryz.f136.name, by decide, Tryz.func136.trans (congrArg some (by kernel_rfl))⟩
  f15 := Tryz.func137.trans (congrArg some (by kernel_rfl))
  f20 := ⟨Tryz.f140.name, by decide, Tryz.func140.trans (congrArg some (by kernel_rfl))⟩
  f21 := ⟨Tryz.f141.name, by decide, Tryz.func141.trans (congrArg some (by kernel_rfl))⟩
  f22 := ⟨Tryz.f142.name, by decide, Tryz.func142.trans (congrArg some (by kernel_rfl))⟩
  f23 := ⟨Tryz.f143.name, by decide, Tryz.func143.trans (congrArg some (by kernel_rfl))⟩
  f24 := ⟨Tryz.f144.name, by decide, Tryz.func144.trans (congrArg some (by kernel_rfl))⟩
  f25 := ⟨Tryz.f145.name, by decide, Tryz.func145.trans (congrArg some (by kernel_rfl))⟩
  f26 := ⟨Tryz.f146.name, by decide, Tryz.func146.trans (congrArg some (by kernel_rfl))⟩
  f27 := ⟨Tryz.f147.name, by decide, Tryz.func147.trans (congrArg some (by kernel_rfl))⟩
  f28 := Tryz.func148.trans (congrArg some (by kernel_rfl))
  f29 := Tryz.func149.trans (congrArg some (by kernel_rfl))
  f46 := ⟨Tryz.f158.name, by decide, Tryz.func158.trans (congrArg some (by kernel_rfl))⟩
  f47 := Tryz.func159.trans (congrArg some (by kernel_rfl))
  f48 := Tryz.func160.trans (congrArg some (by kernel_rfl))
  f49 := ⟨Tryz.f161.name, by decide, Tryz.func161.trans (congrArg some (by kernel_rfl))⟩
  f50 := ⟨Tryz.f162.name, by decide, Tryz.func162.trans (congrArg some (by kernel_rfl))⟩
  f57 := ⟨Tryz.f166.name, by decide, Tryz.func166.trans (congrArg some (by kernel_rfl))⟩
  t0 := Tryz.underlying0
  a0 := Tryz.isAgg0
  z0 := Tryz.sizeOf0
  v0 := Tryz.zeroValue0
  t3 := Tryz.underlying3
  a3 := Tryz.isAgg3
  z3 := Tryz.sizeOf3
  v3 := Tryz.zeroValue3
  t4 := Tryz.underlying4
  a4 := Tryz.isAgg4
  z4 := Tryz.sizeOf4
  v4 := Tryz.zeroValue4
  t5 := Tryz.underlying5
  a5 := Tryz.isAgg5
  z5 := Tryz.sizeOf5
  v5 := Tryz.zeroValue5
  t9 := Tryz.underlying9
  a9 := Tryz.isAgg9
  z9 := Tryz.sizeOf9
  v9 := Tryz.zeroValue9
  t22 := Tryz.underlying26
  a22 := Tryz.isAgg26
  z22 := Tryz.sizeOf26
  v22 := Tryz.zeroValue26
  t25 := Tryz.underlying145
  a25 := Tryz.isAgg145
  z25 := Tryz.sizeOf145
  v25 := Tryz.zeroValue145
  t39 := Tryz.underlying142
  a39 := Tryz.isAgg142
  z39 := Tryz.sizeOf142
  v39 := Tryz.zeroValue142
  t45 := Tryz.underlying156
  a45 := Tryz.isAgg156
  z45 := Tryz.sizeOf156
  v45 := Tryz.zeroValue156
  t46 := Tryz.underlying157
  a46 := Tryz.isAgg157
  z46 := Tryz.sizeOf157
  v46 := Tryz.zeroValue157
  t50 := Tryz.underlying51
  a50 := Tryz.isAgg51
  z50 := Tryz.sizeOf51
  v50 := Tryz.zeroValue51
  t53 := Tryz.underlying163
  a53 := Tryz.isAgg163
  z53 := Tryz.sizeOf163
  v53 := Tryz.zeroValue163
  t55 := Tryz.underlying165
  a55 := Tryz.isAgg165
  z55 := Tryz.sizeOf165
  v55 := Tryz.zeroValue165
  t66 := Tryz.underlying171
  a66 := Tryz.isAgg171
  z66 := Tryz.sizeOf171
  v66 := Tryz.zeroValue171
  t70 := Tryz.underlying175
  a70 := Tryz.isAgg175
  z70 := Tryz.sizeOf175
  v70 := Tryz.zeroValue175
  t76 := Tryz.underlying179
  a76 := Tryz.isAgg179
  z76 := Tryz.sizeOf179
  v76 := Tryz.zeroValue179
  t77 := Tryz.underlying180
  a77 := Tryz.isAgg180
  z77 := Tryz.sizeOf180
  v77 := Tryz.zeroValue180 }
end Go.Proofs
namespace Go.Proofs.YtifndemkkaelaaaGreat
open Go.ChangeShapes Go.WideShapes Go.ChangeAt Go.RowKit
open Go.ChangeMaps (open_string shut_string)
set_option linter.unusedVariables false
set_option maxRecDepth 100000

def S0G (x y : Hd) (w Y : World) : Prop := S0 x y w Y ∧ ∃ q os, Y = Go.Sort.grow (w.drewN q) os
theorem S0G.drew {x y : Hd} {w Y : World} (h : S0G x y w Y) : S0G x y w Y.drew := by
  obtain ⟨h1, q, os, rfl⟩ := h
  exact ⟨h1.drew, q + 1, os, rfl⟩
theorem S0G.alloc {x y : Hd} {w Y : World} (h : S0G x y w Y) (o : Obj) : S0G x y w (Y.alloc o) := by
  obtain ⟨h1, q, os, rfl⟩ := h
  exact ⟨h1.alloc o, q, os ++ #[o], by rw [Go.Sort.alloc_eq_grow, Go.Sort.grow_grow]⟩
set_option maxHeartbeats 1000000 in
theorem cmpHG (x y : Hd) (w : World) :
    Calls Tryz.prog 124 #[.agg #[.int .i64 x.a, .int .i64 x.v, .int .i64 x.p, .int .i64 x.l], .agg #[.int .i64 y.a, .int .i64 y.v, .int .i64 y.p, .int .i64 y.l]] w fun e w' => e = .returned (.int .i64 (x.cmp y)) ∧ ∃ q os', w' = Go.Sort.grow (w.drewN q) os' := by
  go_enter Tryz.func124, Tryz.ntmps124
  go_wp2_with fail
  obtain ⟨w0, hw0⟩ : ∃ w0, w0 = (w.alloc (Obj.cells #[.int .i64 x.a, .int .i64 x.v, .int .i64 x.p, .int .i64 x.l] 97)).alloc (Obj.cells #[.int .i64 y.a, .int .i64 y.v, .int .i64 y.p, .int .i64 y.l] 97) := ⟨_, rfl⟩
  have hs0 : S0G x y w w0 := by
    rw [hw0]
    refine ⟨⟨?_, ?_, ?_, ?_⟩, 0, _, by rw [Go.Sort.alloc_eq_grow, Go.Sort.alloc_eq_grow, Go.Sort.grow_grow]; rfl⟩
    · refine ⟨?_, ?_, ?_, ?_⟩ <;> simp [go_sem]
    · refine ⟨?_, ?_, ?_, ?_⟩ <;> simp [go_sem]
    · exact ((Below.refl _ _).alloc (Nat.le_refl _) _).alloc (by simp) _
    · simp
  rw [← hw0]
  clear hw0
  refine wp_region_held (S := S0G x y w) (by kernel_rfl) ?_
  change wpAnyH _ _ _ _ _ _ _ _ (World.drew _)
  have hS0 : S0G x y w w0.drew := hs0.drew
  refine takeW 0 5 (.pointer (some ⟨w.heap.size, 1, none⟩)) rfl rfl (by kernel_rfl) (by kernel_rfl) (by kernel_rfl) (fun _ _ _ h => h) (by kernel_rfl) (by (intro w hSw; go_simp)) (by assumption) ?_
  simp only [List.set_cons_zero, List.set_cons_succ]
  refine takeW 1 6 (.int .i64 x.v) rfl rfl (by kernel_rfl) (by kernel_rfl) (by kernel_rfl) (fun _ _ _ h => h) (by kernel_rfl) (by (intro Y hSw; obtain ⟨⟨⟨X1, X2, X3, X4⟩, ⟨Y1, Y2, Y3, Y4⟩, _⟩, _⟩ := hSw; simp only [Nat.zero_add] at X1 X2 X3 X4 Y1 Y2 Y3 Y4; go_simp)) (by assumption) ?_
  simp only [List.set_cons_zero, List.set_cons_succ]
  refine takeW 2 7 (.pointer (some ⟨w.heap.size + 1, 1, none⟩)) rfl rfl (by kernel_rfl) (by kernel_rfl) (by kernel_rfl) (fun _ _ _ h => h) (by kernel_rfl) (by (intro w hSw; go_simp)) (by assumption) ?_
  simp only [List.set_cons_zero, List.set_cons_succ]
  refine takeW 3 8 (.int .i64 y.v) rfl rfl (by kernel_rfl) (by kernel_rfl) (by kernel_rfl) (fun _ _ _ h => h) (by kernel_rfl) (by (intro Y hSw; obtain ⟨⟨⟨X1, X2, X3, X4⟩, ⟨Y1, Y2, Y3, Y4⟩, _⟩, _⟩ := hSw; simp only [Nat.zero_add] at X1 X2 X3 X4 Y1 Y2 Y3 Y4; go_simp)) (by assumption) ?_
  simp only [List.set_cons_zero, List.set_cons_succ]
  refine takeW 5 10 (.pointer (some ⟨w.heap.size, 0, none⟩)) rfl rfl (by kernel_rfl) (by kernel_rfl) (by kernel_rfl) (fun _ _ _ h => h) (by kernel_rfl) (by (intro w hSw; go_simp)) (by assumption) ?_
  simp only [List.set_cons_zero, List.set_cons_succ]
  refine takeW 6 11 (.int .i64 x.a) rfl rfl (by kernel_rfl) (by kernel_rfl) (by kernel_rfl) (fun _ _ _ h => h) (by kernel_rfl) (by (intro Y hSw; obtain ⟨⟨⟨X1, X2, X3, X4⟩, ⟨Y1, Y2, Y3, Y4⟩, _⟩, _⟩ := hSw; simp only [Nat.zero_add] at X1 X2 X3 X4 Y1 Y2 Y3 Y4; go_simp)) (by assumption) ?_
  simp only [List.set_cons_zero, List.set_cons_succ]
  refine takeW 7 12 (.pointer (some ⟨w.heap.size + 1, 0, none⟩)) rfl rfl (by kernel_rfl) (by kernel_rfl) (by kernel_rfl) (fun _ _ _ h => h) (by kernel_rfl) (by (intro w hSw; go_simp)) (by assumption) ?_
  simp only [List.set_cons_zero, List.set_cons_succ]
  refine takeW 8 13 (.int .i64 y.a) rfl rfl (by kernel_rfl) (by kernel_rfl) (by kernel_rfl) (fun _ _ _ h => h) (by kernel_rfl) (by (intro Y hSw; obtain ⟨⟨⟨X1, X2, X3, X4⟩, ⟨Y1, Y2, Y3, Y4⟩, _⟩, _⟩ := hSw; simp only [Nat.zero_add] at X1 X2 X3 X4 Y1 Y2 Y3 Y4; go_simp)) (by assumption) ?_
  simp only [List.set_cons_zero, List.set_cons_succ]
  refine wpAnyH_all (rs := [4]) (by kernel_rfl) (by simp) ?_
  intro i hi; obtain rfl : i = 4 := by simpa using hi
  refine wpOp_step rfl (fun K hK => ?_)
  rw [if_pos (by kernel_rfl)]
  go_simp
  go_at_call 135
  refine (cmpI x.v y.v _).mono ?_
  rintro e y1 ⟨rfl, hy1⟩
  subst hy1
  refine hK _ _ ⟨hS0, ?_⟩
  clear hK K hi
  refine wpAnyH_all (rs := [9]) (by kernel_rfl) (by simp) ?_
  intro i hi; obtain rfl : i = 9 := by simpa using hi
  refine wpOp_step rfl (fun K hK => ?_)
  rw [if_pos (by kernel_rfl)]
  go_simp
  go_at_call 135
  refine (cmpI x.a y.a _).mono ?_
  rintro e y1 ⟨rfl, hy1⟩
  subst hy1
  refine hK _ _ ⟨hS0, ?_⟩
  clear hK K hi
  refine wpAnyH_all (rs := [10]) (by kernel_rfl) (by simp) ?_
  intro i hi; obtain rfl : i = 10 := by simpa using hi
  refine wpOp_step rfl (fun K hK => ?_)
  rw [if_pos (by kernel_rfl)]
  go_simp
  have hS1 : S0G x y w (w0.drew.alloc (Obj.cells #[.int .i64 (cmp3 x.v y.v), .int .i64 (cmp3 x.a y.a)] 3)) := hS0.alloc _
  refine hK _ _ ⟨hS1, ?_⟩
  clear hK K hi
  refine wpAnyH_all (rs := [11]) (by kernel_rfl) (by simp) ?_
  intro i hi; obtain rfl : i = 11 := by simpa using hi
  refine wpOp_step rfl (fun K hK => ?_)
  rw [if_pos (by kernel_rfl)]
  go_simp
  go_at_call 134
  refine (orI _ (cmp3 x.v y.v) (cmp3 x.a y.a) _ ?q0 ?q1).mono ?_
  case q0 => simp [go_sem]
  case q1 => simp [go_sem]
  rintro e y1 ⟨rfl, hy1⟩
  subst hy1
  refine hK _ _ ⟨hS1, ?_⟩
  clear hK K hi
  refine takeW 12 4 (.int .i64 (or2 (cmp3 x.v y.v) (cmp3 x.a y.a))) rfl rfl (by kernel_rfl) (by kernel_rfl) (by kernel_rfl) (fun _ _ _ h => h) (by kernel_rfl) (by (intro w hSw; go_simp)) (by assumption) ?_
  simp only [List.set_cons_zero, List.set_cons_succ]
  refine wpAnyH_done (by kernel_rfl) ?_ _
  go_wp2
  go_ret
  exact ⟨rfl, hS1.2⟩
def encH (h : Hd) : List Value := [.int .i64 h.a, .int .i64 h.v, .int .i64 h.p, .int .i64 h.l]
theorem cmp_lt (x y : Hd) : decide (x.cmp y < 0) = x.bef y := by
  unfold Hd.cmp or2 Hd.bef cmp3
  rw [decide_eq_decide]
  (repeat' split) <;> omega
theorem cmp_zero (x y : Hd) : decide (x.cmp y = 0) = x.same y := by
  unfold Hd.cmp or2 Hd.same cmp3
  rw [decide_eq_decide]
  (repeat' split) <;> omega
theorem swoH : Go.Sort.SWO (ltOf Hd.cmp) where
  irrefl x := by show decide _ = false; rw [cmp_lt]; exact bef_irr x
  trans x y z h1 h2 := by
    have h1 : decide _ = true := h1
    have h2 : decide _ = true := h2
    show decide _ = true
    rw [cmp_lt] at *
    exact bef_tr h1 h2
  ntrans x y z h1 h2 := by
    have h1 : decide _ = false := h1
    have h2 : decide _ = false := h2
    show decide _ = false
    rw [cmp_lt] at *
    unfold Hd.bef at *
    simp only [decide_eq_false_iff_not] at *
    omega
theorem hcells_get (L : List Hd) (t : Nat) (h : t < L.length * 4) : (hcells L)[t]? = (encH (L.getD (t / 4) Hd.nil))[t % 4]? := by
  obtain ⟨c1, c2, c3, c4⟩ := hcells_at (L := L) (i := t / 4) (by omega)
  rcases (by omega : t = t / 4 * 4 ∨ t = t / 4 * 4 + 1 ∨ t = t / 4 * 4 + 2 ∨ t = t / 4 * 4 + 3) with e | e | e | e
  · rw [show t % 4 = 0 by omega]; conv => lhs; rw [e]
    exact c1
  · rw [show t % 4 = 1 by omega]; conv => lhs; rw [e]
    exact c2
  · rw [show t % 4 = 2 by omega]; conv => lhs; rw [e]
    exact c3
  · rw [show t % 4 = 3 by omega]; conv => lhs; rw [e]
    exact c4
theorem flat_hcells [Inhabited Hd] (d : Array Hd) : Go.Sort.flatK encH 4 d = (hcells d.toList).toArray := by
  refine Go.Sort.ext_get! (by simp [hcells_len]) fun t ht => ?_
  rw [Go.Sort.size_flatK] at ht
  rw [Go.Sort.get_flatK _ _ _ _ ht]
  have h1 := hcells_get d.toList t (by simpa using ht)
  have h2 : d.toList.getD (t / 4) Hd.nil = d[t / 4]! := by
    have : t / 4 < d.size := by omega
    simp [List.getD, this]
  rw [h2] at h1
  have h3 : t % 4 < (encH d[t / 4]!).length := by simp [encH]; omega
  rw [List.getElem?_eq_getElem h3] at h1
  have h4 : (hcells d.toList).toArray[t]! = (encH d[t / 4]!)[t % 4] := by
    rw [Array.getElem!_eq_getD, Array.getD_eq_getD_getElem?]
    simp [h1]
  rw [h4]
  simp [h3]
set_option maxHeartbeats 1000000 in
theorem sortF (base : Nat) (v : Value) (M : List Hd) (w : World) (hown : HOwn w base v M) (hp : 0 < M.length) (hl : M.length ≤ 1048576) :
    Calls Tryz.prog 125 #[v, .func (Fn.func 124) #[] #[]] w fun e w' => e = .returned (.tuple #[]) ∧ ∃ N, HOwn w' base v N ∧ M.Perm N ∧ N.Pairwise (fun x y => y.bef x = false) ∧ w.grownBy w' v.ownBlock := by
  haveI : Inhabited Hd := ⟨Hd.nil⟩
  have hown' : w.ownsRow base 97 4 v M.length (hcells M) := hown
  rcases hown'.2 with ⟨_, h0⟩ | ⟨g, cap, cur, rfl, hb, hh, hnc, hcm, hcs, htk⟩
  · omega
  have hg : g < w.heap.size := (Array.getElem?_eq_some_iff.1 hh).1
  have hH : Go.Sort.HoldsK encH 4 w g 0 M.toArray := by
    intro j hj
    rw [flat_hcells] at hj ⊢
    have hj' : j < (hcells M).length := by simpa using hj
    refine ⟨?_, hown'.frozenAt _⟩
    rw [Nat.zero_add, hown'.cellAt j (by rw [hcells_len] at hj'; exact hj')]
    simp [hj']
  have eg : ∀ args w, (callFunc 124 args).run Tryz.prog w = .ok (.enter 124 args) w := enters_of Tryz.func124 (by kernel_rfl) rfl
  have hcon := AnyQ.slices_SortFunc Tryz.sortHd 4 Tryz.isAgg97 Tryz.sizeOf97 encH (fun _ => rfl) (fun x u hu => by simp [encH] at hu; rcases hu with rfl | rfl | rfl | rfl <;> rfl) Hd.cmp swoH 124 #[] g 0 cap M.toArray w eg (fun _ _ _ _ x y => cmpHG x y _) hH hg (by simp; omega)
  have hsz : M.toArray.size = M.length := by simp
  rw [hsz] at hcon
  change Calls Tryz.prog 125 _ _ _ at hcon
  refine hcon.mono ?_
  rintro e w' ⟨rfl, d', n, os, hperm, hsort, rfl⟩
  obtain ⟨hds, _, hpm⟩ := hperm
  have hds : d'.size = M.length := by simpa using hds
  have e1 : (d'.extract 0 M.length).toList = d'.toList := by rw [← hds]; simp
  have e2 : (M.toArray.extract 0 M.length).toList = M := by simp
  rw [e1, e2] at hpm
  have hNl : d'.toList.length = M.length := by simpa using hds
  refine ⟨rfl, d'.toList, ?_, hpm.symm, ?_, ?_⟩
  · show World.ownsRow _ base 97 4 (.slice (some ⟨g, 0, none⟩) M.length cap) d'.toList.length (hcells d'.toList)
    rw [hNl]
    refine ⟨by rw [hcells_len, hNl], .inr ⟨g, cap, Go.Sort.putCells id 0 (hcells d'.toList).toArray cur, rfl, hb, ?_, hnc, hcm, by simp [Go.Sort.putCells, hcs], ?_⟩⟩
    · unfold sortWorldK Go.Sort.putRowK
      rw [flat_hcells, Go.Sort.heap_grow_old _ _ (by simpa using hg)]
      simp [Go.Sort.putRow, Go.Sort.mapBlock, Go.Sort.ahead, Array.getElem?_modify, hh, Go.Sort.onCells]
    · apply List.ext_getElem?
      intro j
      by_cases hj : j < M.length * 4
      · rw [List.getElem?_take_of_lt hj, Array.getElem?_toList]
        have hj2 : j < (hcells d'.toList).length := by rw [hcells_len, hNl]; exact hj
        have hj3 : j < cur.size := by rw [hcs]; omega
        simp [Go.Sort.putCells, hj2, hj3]
      · rw [List.getElem?_take_eq_none (by omega), List.getElem?_eq_none (by rw [hcells_len, hNl]; omega)]
  · rw [List.pairwise_iff_getElem]
    intro i j hi hj hij
    have := hsort i j (Nat.zero_le _) hij (by rw [← hNl]; exact hj)
    have this : decide _ = false := this
    rw [cmp_lt] at this
    have hi' : i < d'.size := by simpa using hi
    have hj' : j < d'.size := by simpa using hj
    simpa [hi', hj'] using this
  · show w.grownBy _ (some g)
    unfold sortWorldK Go.Sort.putRowK
    refine ⟨rfl, rfl, rfl, by simp, fun k hk hne => ?_⟩
    rw [Go.Sort.heap_grow_old _ _ (by simpa using hk)]
    have : g ≠ k := fun e => hne (by rw [e])
    simp [Go.Sort.putRow, Go.Sort.mapBlock, Go.Sort.ahead, Array.getElem?_modify, this]

end Go.Proofs.YtifndemkkaelaaaGreat
