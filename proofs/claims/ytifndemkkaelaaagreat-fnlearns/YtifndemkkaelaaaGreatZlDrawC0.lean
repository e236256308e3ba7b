/- Cards that are being drawn. -/
import Derived.Test.YtifndemkkaelaaaGreatRows
import Derived.WalkKit
import Derived.ProofKit
import Derived.OpenShut
import Derived.ShutString
import Derived.ChangeOld
import Derived.Below
import Derived.Deep.QuietTactic
import Derived.BigQuiet
import Derived.WalkSmall
import Derived.Laws.OwnMore
import Derived.WalkSpells
import Derived.WalkLawsBesides
import Derived.Laws.AppendOwnNone
import Derived.Laws.CopyOwn
import Derived.Test.YtifndemkkaelaaaGreatZl13
import Derived.Test.YtifndemkkaelaaaGreatZlDrawM
namespace Go.Proofs.YtifndemkkaelaaaGreat
open Go.ChangeShapes Go.WideShapes Go.ChangeAt Go.RowKit
open Go.ChangeMaps (open_string shut_string)
set_option linter.unusedVariables false
set_option maxRecDepth 100000

theorem MC.push2 {base : Nat} {w w1 w2 : World} {v v' : Value} {Ns : List Mb} {m : Mb} (h : MC base w v Ns) (k1 : ∀ j, base ≤ j → j < w.heap.size → w1.heap[j]? = w.heap[j]?) (hs : w.heap.size ≤ w1.heap.size) (hv : MbL w1 m) (hr : Room w1 m.ad m.L.length) (hn : m.ad = none → m.cap = 0) (hm : ∀ x, m.ad = some x → 0 < m.L.length → w.heap.size ≤ x.block ∧ x.block < w1.heap.size) (hb : base ≤ w.heap.size)
    (own : w2.ownsRow base 50 2 v' (Ns.length + 1) (mcells Ns ++ [.int .i64 m.o, .slice m.ad m.L.length m.cap])) (g : w1.grownBy w2 v.ownBlock) (hv' : v'.ownBlock = v.ownBlock ∨ v'.ownBlock = some w1.heap.size) : MC base w2 v' (Ns ++ [m]) := by
  have h1 := h.same k1 hs
  have hvl : ∀ j, v.ownBlock = some j → j < w.heap.size := fun j e => (own_lt h.own j e).2
  have e1 : ∀ i, i < Ns.length → ∀ x, (Ns.getD i Mb.nil).ad = some x → 0 < (Ns.getD i Mb.nil).L.length → w2.heap[x.block]? = w1.heap[x.block]? := fun i hi x q p => g.block _ (h1.inn i hi x q p).2 (fun e => h.apart i hi x q p e.symm)
  have e2 : ∀ x, m.ad = some x → 0 < m.L.length → w2.heap[x.block]? = w1.heap[x.block]? := fun x q p => g.block _ (hm x q p).2 (fun e => by have := hvl _ e.symm; have := (hm x q p).1; omega)
  have hl : (Ns ++ [m]).length = Ns.length + 1 := by simp
  have hg : ∀ i, i < (Ns ++ [m]).length → (i < Ns.length ∧ (Ns ++ [m]).getD i Mb.nil = Ns.getD i Mb.nil) ∨ (i = Ns.length ∧ (Ns ++ [m]).getD i Mb.nil = m) := fun i hi => by
    rw [hl] at hi
    rcases Nat.lt_or_ge i Ns.length with q | q
    · exact .inl ⟨q, getD_app_lt q⟩
    · obtain rfl : i = Ns.length := by omega
      exact .inr ⟨rfl, getD_app_len⟩
  refine ⟨by rw [hl, mcells_app]; exact own, fun i hi => ?_, fun i hi => ?_, fun i hi => ?_, fun i hi x => ?_, fun i hi x => ?_, fun i j hij hj x y => ?_⟩
  · rcases hg i hi with ⟨q, e⟩ | ⟨q, e⟩ <;> rw [e]
    · exact ViewI.carry (h1.nest i q) (e1 i q)
    · exact ViewI.carry hv e2
  · rcases hg i hi with ⟨q, e⟩ | ⟨q, e⟩ <;> rw [e]
    · exact h1.nil0 i q
    · exact hn
  · rcases hg i hi with ⟨q, e⟩ | ⟨q, e⟩ <;> rw [e]
    · exact (h1.rooms i q).carry (e1 i q)
    · exact hr.carry e2
  · have gs := g.size
    rcases hg i hi with ⟨q, e⟩ | ⟨q, e⟩ <;> rw [e]
    · intro a p; have := h1.inn i q x a p; omega
    · intro a p; have := hm x a p; omega
  · rcases hg i hi with ⟨q, e⟩ | ⟨q, e⟩ <;> rw [e]
    · intro a p
      have u := h.inn i q x a p
      rcases hv' with r | r <;> rw [r]
      · exact h.apart i q x a p
      · intro c; simp at c; omega
    · intro a p
      have u := hm x a p
      rcases hv' with r | r <;> rw [r]
      · intro c; have := hvl _ c; omega
      · intro c; simp at c; omega
  · rcases hg j hj with ⟨q, e⟩ | ⟨q, e⟩ <;> rw [e]
    · rw [getD_app_lt (by omega)]; exact h.aparts i j hij q x y
    · rw [getD_app_lt (by omega)]
      intro a b p r
      have := h.inn i (by omega) x a p
      have := hm y b r
      omega
structure DC (x0 : World) (cb : Nat) (ad : Option Addr) (len cap : Nat) (f : Nat → Int) (N : Nat) (qO : Option Addr) (nO cO : Nat) (qM : Option Addr) (nM cM : Nat) (vb : Value) (O : List Bool) (vm : Value) (Ns : List Mb) (y : World) : Prop where
  src : Src y cb ad len cap f
  kp : KeptF [cb, N] x0 y
  lt : cb < x0.heap.size ∧ N < x0.heap.size ∧ cb ≠ N ∧ ∀ x, ad = some x → 0 < len → x.block < x0.heap.size ∧ x.block ≠ N
  at9 : CdAt y N qO nO cO qM nM cM none 0 0
  fz : ∀ i, y.frozen? ⟨N, i, none⟩ = false
  ob : y.ownsRow x0.heap.size 4 1 vb O.length (O.map Value.bool)
  mc : MC x0.heap.size y vm Ns
  om : ∀ j, vb.ownBlock = some j → vm.ownBlock ≠ some j
  on : ∀ i, i < Ns.length → ∀ j z, vb.ownBlock = some j → (Ns.getD i Mb.nil).ad = some z → 0 < (Ns.getD i Mb.nil).L.length → j ≠ z.block
section
variable {x0 : World} {cb : Nat} {ad : Option Addr} {len cap : Nat} {f : Nat → Int} {N : Nat} {qO : Option Addr} {nO cO : Nat} {qM : Option Addr} {nM cM : Nat} {vb : Value} {O : List Bool} {vm : Value} {Ns : List Mb} {y z : World}
theorem DC.keep (h : DC x0 cb ad len cap f N qO nO cO qM nM cM vb O vm Ns y) {vb' : Value} {O' : List Bool} {vm' : Value} {Ns' : List Mb} (src : Src z cb ad len cap f) (os : z.os = y.os) (tape : z.tape = y.tape) (output : z.output = y.output) (size : y.heap.size ≤ z.heap.size) (e : ∀ j, j < x0.heap.size → j ≠ cb → z.heap[j]? = y.heap[j]?)
    (ob : z.ownsRow x0.heap.size 4 1 vb' O'.length (O'.map Value.bool)) (mc : MC x0.heap.size z vm' Ns') (om : ∀ j, vb'.ownBlock = some j → vm'.ownBlock ≠ some j) (on : ∀ i, i < Ns'.length → ∀ j z, vb'.ownBlock = some j → (Ns'.getD i Mb.nil).ad = some z → 0 < (Ns'.getD i Mb.nil).L.length → j ≠ z.block) : DC x0 cb ad len cap f N qO nO cO qM nM cM vb' O' vm' Ns' z := by
  have hl := h.lt
  have hN := e N hl.2.1 (fun q => hl.2.2.1 q.symm)
  exact ⟨src, ⟨os.trans h.kp.os, tape.trans h.kp.tape, output.trans h.kp.output, Nat.le_trans h.kp.size size, fun k hk hn => (e k hk (fun q => hn (by simp [q]))).trans (h.kp.block k hk hn)⟩, hl, h.at9.same hN, fun i => (World.frozen?_of_block (a := ⟨N, i, none⟩) hN).trans (h.fz i), ob, mc, om, on⟩
theorem DC.grow (h : DC x0 cb ad len cap f N qO nO cO qM nM cM vb O vm Ns y) (hs : Src z cb ad len cap f) (g : y.grownBy z (some cb)) : DC x0 cb ad len cap f N qO nO cO qM nM cM vb O vm Ns z := by
  have e : ∀ j, j < y.heap.size → j ≠ cb → z.heap[j]? = y.heap[j]? := fun j hj hn => g.block j hj (fun q => hn (by simpa using q))
  have hl := h.lt
  have hy := h.kp.size
  exact h.keep hs g.os g.tape g.output g.size (fun j hj hn => e j (by omega) hn) (own_same h.ob (fun j q => e j (own_lt h.ob j q).2 (by have := (own_lt h.ob j q).1; omega))) (h.mc.same (fun j h1 h2 => e j h2 (by omega)) g.size) h.om h.on
theorem DC.later (h : DC x0 cb ad len cap f N qO nO cO qM nM cM vb O vm Ns y) (k : Below y.heap.size y z) : DC x0 cb ad len cap f N qO nO cO qM nM cM vb O vm Ns z := by
  have hy := h.kp.size
  exact h.keep (h.src.later k) k.os k.tape k.output k.size (fun j hj _ => k.block _ (by omega)) (own_below2 h.ob k (Nat.le_refl _)) (h.mc.later k (Nat.le_refl _)) h.om h.on
theorem DC.flag (h : DC x0 cb ad len cap f N qO nO cO qM nM cM vb O vm Ns y) {vb' : Value} {O' : List Bool} (o : z.ownsRow x0.heap.size 4 1 vb' O'.length (O'.map Value.bool)) (g : y.grownBy z vb.ownBlock) (e : vb'.ownBlock = vb.ownBlock ∨ vb'.ownBlock = some y.heap.size) : DC x0 cb ad len cap f N qO nO cO qM nM cM vb' O' vm Ns z := by
  have hl := h.lt
  have hy := h.kp.size
  have hg := own_lt h.ob
  have e1 : ∀ j, j < y.heap.size → vb.ownBlock ≠ some j → z.heap[j]? = y.heap[j]? := fun j hj hn => g.block j hj (fun q => hn q.symm)
  have e2 : ∀ j, j < x0.heap.size → z.heap[j]? = y.heap[j]? := fun j hj => e1 j (by omega) (fun q => by have := (hg j q).1; omega)
  have hm := own_lt h.mc.own
  have en : ∀ i, i < Ns.length → ∀ x, (Ns.getD i Mb.nil).ad = some x → 0 < (Ns.getD i Mb.nil).L.length → z.heap[x.block]? = y.heap[x.block]? := fun i hi x q p => e1 _ (h.mc.inn i hi x q p).2 (fun c => h.on i hi _ x c q p rfl)
  refine h.keep (h.src.move (e2 _ hl.1) (fun x q p => e2 _ (hl.2.2.2 x q p).1)) g.os g.tape g.output g.size (fun j hj _ => e2 j hj) o ⟨own_same h.mc.own (fun j q => e1 j (hm j q).2 (fun c => h.om j c q)), fun i hi => ViewI.carry (h.mc.nest i hi) (en i hi), h.mc.nil0, fun i hi => (h.mc.rooms i hi).carry (en i hi), fun i hi x q p => ⟨(h.mc.inn i hi x q p).1, Nat.lt_of_lt_of_le (h.mc.inn i hi x q p).2 g.size⟩, h.mc.apart, h.mc.aparts⟩ (fun j q c => ?_) (fun i hi j x q q2 p c => ?_)
  · rcases e with e | e
    · exact h.om j (e ▸ q) c
    · rw [e] at q; simp at q; have := (hm j c).2; omega
  · rcases e with e | e
    · exact h.on i hi j x (e ▸ q) q2 p c
    · rw [e] at q; simp at q; have := (h.mc.inn i hi x q2 p).2; omega
theorem DC.memb (h : DC x0 cb ad len cap f N qO nO cO qM nM cM vb O vm Ns y) {y1 : World} {vm' : Value} {m : Mb} (hs : Src y1 cb ad len cap f) (g1 : y.grownBy y1 (some cb)) (hv : MbL y1 m) (hr : Room y1 m.ad m.L.length) (hn : m.ad = none → m.cap = 0) (hm : ∀ x, m.ad = some x → 0 < m.L.length → y.heap.size ≤ x.block ∧ x.block < y1.heap.size)
    (own : z.ownsRow x0.heap.size 50 2 vm' (Ns.length + 1) (mcells Ns ++ [.int .i64 m.o, .slice m.ad m.L.length m.cap])) (g : y1.grownBy z vm.ownBlock) (hv' : vm'.ownBlock = vm.ownBlock ∨ vm'.ownBlock = some y1.heap.size) : DC x0 cb ad len cap f N qO nO cO qM nM cM vb O vm' (Ns ++ [m]) z := by
  have h1 := h.grow hs g1
  have hl := h.lt
  have hy := h.kp.size
  have hy1 := h1.kp.size
  have hz1 := g1.size
  have hg := own_lt h1.mc.own
  have hgb := own_lt h1.ob
  have hgb0 := own_lt h.ob
  have e1 : ∀ j, j < y1.heap.size → vm.ownBlock ≠ some j → z.heap[j]? = y1.heap[j]? := fun j hj hn => g.block j hj (fun q => hn q.symm)
  have e2 : ∀ j, j < x0.heap.size → z.heap[j]? = y1.heap[j]? := fun j hj => e1 j (by omega) (fun q => by have := (hg j q).1; omega)
  refine h1.keep (h1.src.move (e2 _ hl.1) (fun x q p => e2 _ (hl.2.2.2 x q p).1)) g.os g.tape g.output g.size (fun j hj _ => e2 j hj) (own_same h1.ob (fun j q => e1 j (hgb j q).2 (h.om j q))) (h.mc.push2 (fun j a b => g1.block j b (fun q => by have q2 : j = cb := (by simpa using q); omega)) g1.size hv hr hn hm hy own g hv') (fun j q c => ?_) (fun i hi j x q => ?_)
  · rcases hv' with e | e
    · exact h.om j q (e ▸ c)
    · rw [e] at c; simp at c; have := (hgb j q).2; omega
  · have hll : (Ns ++ [m]).length = Ns.length + 1 := by simp
    rcases Nat.lt_or_ge i Ns.length with r | r
    · rw [getD_app_lt r]; exact h.on i r j x q
    · obtain rfl : i = Ns.length := by omega
      rw [getD_app_len]
      intro a p c
      have := (hm x a p).1
      have := (hgb0 j q).2
      omega
theorem DC.setO (h : DC x0 cb ad len cap f N qO nO cO qM nM cM vb O vm Ns y) (a : Option Addr) (n c : Nat) : DC x0 cb ad len cap f N a n c qM nM cM vb O vm Ns (y.setCell ⟨N, 0, none⟩ (.slice a n c)) := by
  have e : ∀ j, j ≠ N → (y.setCell ⟨N, 0, none⟩ (.slice a n c)).heap[j]? = y.heap[j]? := fun j hj => Below.heap_setCell _ _ _ _ hj
  have hl := h.lt
  obtain ⟨c1, c2, c3⟩ := h.at9
  exact ⟨h.src.move (e _ hl.2.2.1) (fun x q p => e _ (hl.2.2.2 x q p).2), h.kp.set (by simp) _, hl, ⟨cell_set_same ⟨_, c1⟩, (cell_set_ne (by omega)).trans c2, (cell_set_ne (by omega)).trans c3⟩, fun i => by simpa using h.fz i, own_same h.ob (fun j q => e j (by have := (own_lt h.ob j q).1; omega)), h.mc.same (fun j h1 h2 => e j (by omega)) (by simp), h.om, h.on⟩
theorem DC.setM (h : DC x0 cb ad len cap f N qO nO cO qM nM cM vb O vm Ns y) (a : Option Addr) (n c : Nat) : DC x0 cb ad len cap f N qO nO cO a n c vb O vm Ns (y.setCell ⟨N, 1, none⟩ (.slice a n c)) := by
  have e : ∀ j, j ≠ N → (y.setCell ⟨N, 1, none⟩ (.slice a n c)).heap[j]? = y.heap[j]? := fun j hj => Below.heap_setCell _ _ _ _ hj
  have hl := h.lt
  obtain ⟨c1, c2, c3⟩ := h.at9
  exact ⟨h.src.move (e _ hl.2.2.1) (fun x q p => e _ (hl.2.2.2 x q p).2), h.kp.set (by simp) _, hl, ⟨(cell_set_ne (by omega)).trans c1, cell_set_same ⟨_, c2⟩, (cell_set_ne (by omega)).trans c3⟩, fun i => by simpa using h.fz i, own_same h.ob (fun j q => e j (by have := (own_lt h.ob j q).1; omega)), h.mc.same (fun j h1 h2 => e j (by omega)) (by simp), h.om, h.on⟩
structure CW (base : Nat) (y : World) (aO : Option Addr) (O : List Bool) (kO : Nat) (aM : Option Addr) (Ns : List Mb) (kM : Nat) (aT : Option Addr) (T : List Hd) (kT : Nat) : Prop where
  ob : y.ownsRow base 4 1 (.slice aO O.length kO) O.length (O.map Value.bool)
  mc : MC base y (.slice aM Ns.length kM) Ns
  ht : y.ownsRow base 97 4 (.slice aT T.length kT) T.length (hcells T)
  om : ∀ j, (Value.slice aO O.length kO).ownBlock = some j → (Value.slice aM Ns.length kM).ownBlock ≠ some j
  on : ∀ i, i < Ns.length → ∀ j z, (Value.slice aO O.length kO).ownBlock = some j → (Ns.getD i Mb.nil).ad = some z → 0 < (Ns.getD i Mb.nil).L.length → j ≠ z.block
  ot : ∀ j, (Value.slice aO O.length kO).ownBlock = some j → (Value.slice aT T.length kT).ownBlock ≠ some j
  mt : ∀ j, (Value.slice aM Ns.length kM).ownBlock = some j → (Value.slice aT T.length kT).ownBlock ≠ some j
theorem CW.view {base : Nat} {y : World} {aO : Option Addr} {O : List Bool} {kO : Nat} {aM : Option Addr} {Ns : List Mb} {kM : Nat} {aT : Option Addr} {T : List Hd} {kT : Nat} (h : CW base y aO O kO aM Ns kM aT T kT) : CdV y base y.heap.size aO O aM (Ns.map Mb.d) aT T := by
  obtain ⟨_, a1, c1, e, v1, _, b1⟩ := own_viewB h.ob
  cases e
  obtain ⟨a2, c2, fp, e, m2, f2⟩ := h.mc.done
  cases e
  obtain ⟨a3, c3, e, v3, _, b3⟩ := hown_view (show HOwn y base (.slice aT T.length kT) T from h.ht)
  cases e
  exact ⟨v1, fun x q _ => ⟨(b1 x q).1, (b1 x q).2.1⟩, ⟨Ns, rfl, m2.view, fun x q p => f2 _ (m2.rowIn x q p), fun i hi x q p => f2 _ (m2.nestIn i hi x q p)⟩, v3, fun x q _ => ⟨(b3 x q).1, (b3 x q).2.1⟩⟩
end
theorem row_slice {w : World} {base E k n : Nat} {v : Value} {xs : List Value} (h : w.ownsRow base E k v n xs) : ∃ a c, v = .slice a n c := by
  rcases h.2 with ⟨rfl, h0⟩ | ⟨g, cap, cur, rfl, _⟩
  · exact ⟨none, 0, by rw [h0]⟩
  · exact ⟨_, _, rfl⟩
theorem cell1 (w : World) (a : Value) (t : TypeId) : ∀ j u, ([a] : List Value)[j]? = some u → (w.alloc (Obj.cells #[a] t)).cell? ((⟨w.heap.size, 0, none⟩ : Addr).add j) = some u := by
  intro j u h
  match j with
  | 0 => simp at h; subst h; simp [go_sem, Addr.add]
  | n + 1 => simp at h
theorem pushL {Ns : List Mb} {m : Mb} {c : Nat} (h : ∀ x ∈ Ns, x.L.length ≤ c) (hm : m.L.length ≤ c) : ∀ x ∈ Ns ++ [m], x.L.length ≤ c := fun x hx => by
  rcases List.mem_append.1 hx with q | q
  · exact h x q
  · rw [List.mem_singleton.1 q]; exact hm
def DrawnC (w : World) (cb : Nat) (ad : Option Addr) (len cap : Nat) (f : Nat → Int) (e : Ending) (w' : World) : Prop :=
  ∃ (aO : Option Addr) (O : List Bool) (kO : Nat) (aM : Option Addr) (Ns : List Mb) (kM : Nat) (aT : Option Addr) (T : List Hd) (kT : Nat), e = .returned (.agg #[.slice aO O.length kO, .slice aM Ns.length kM, .slice aT T.length kT]) ∧ CW w.heap.size w' aO O kO aM Ns kM aT T kT ∧ Src w' cb ad len cap f ∧ w.grownBy w' (some cb) ∧ O.length ≤ 4 ∧ 1 ≤ Ns.length ∧ Ns.length ≤ 4 ∧ (∀ m ∈ Ns, m.L.length ≤ 5) ∧ T.length ≤ 10
theorem MC.base {base base' : Nat} {w : World} {v : Value} {Ns : List Mb} (h : MC base w v Ns) (hb : base' ≤ base) : MC base' w v Ns :=
  ⟨own_base' h.own hb, h.nest, h.nil0, h.rooms, fun i hi x q p => ⟨Nat.le_trans hb (h.inn i hi x q p).1, (h.inn i hi x q p).2⟩, h.apart, h.aparts⟩

end Go.Proofs.YtifndemkkaelaaaGreat
