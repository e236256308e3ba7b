/- What any card that is drawn is. -/
import Derived.Test.YtifndemkkaelaaaGreatRows
import Derived.WalkKit
import Derived.ProofKit
import Derived.OpenShut
import Derived.ShutString
import Derived.ChangeOld
import Derived.Below
import Derived.Deep.QuietTactic
import Derived.BigQuiet
import Derived.WalkSmall
import Derived.Laws.OwnMore
import Derived.WalkSpells
import Derived.WalkLawsBesides
import Derived.Laws.AppendOwnNone
import Derived.Laws.CopyOwn
import Derived.Test.YtifndemkkaelaaaGreatZlDrawC
namespace Go.Proofs.YtifndemkkaelaaaGreat
open Go.ChangeShapes Go.WideShapes Go.ChangeAt Go.RowKit
open Go.ChangeMaps (open_string shut_string)
set_option linter.unusedVariables false
set_option maxRecDepth 100000

theorem CW.keep {base : Nat} {y : World} {aO : Option Addr} {O : List Bool} {kO : Nat} {aM : Option Addr} {Ns : List Mb} {kM : Nat} {aT : Option Addr} {T : List Hd} {kT : Nat} {z : World} (h : CW base y aO O kO aM Ns kM aT T kT) (k : ∀ j, base ≤ j → j < y.heap.size → z.heap[j]? = y.heap[j]?) (hs : y.heap.size ≤ z.heap.size) : CW base z aO O kO aM Ns kM aT T kT :=
  ⟨own_same h.ob (fun j q => k j (own_lt h.ob j q).1 (own_lt h.ob j q).2), h.mc.same k hs, own_same h.ht (fun j q => k j (own_lt h.ht j q).1 (own_lt h.ht j q).2), h.om, h.on, h.ot, h.mt⟩
theorem CW.flag {base : Nat} {y : World} {aO : Option Addr} {O : List Bool} {kO : Nat} {aM : Option Addr} {Ns : List Mb} {kM : Nat} {aT : Option Addr} {T : List Hd} {kT : Nat} {z : World} {vb : Value} {O2 : List Bool} (h : CW base y aO O kO aM Ns kM aT T kT) (o : z.ownsRow base 4 1 vb O2.length (O2.map Value.bool)) (g : y.grownBy z (Value.slice aO O.length kO).ownBlock) (e : vb.ownBlock = (Value.slice aO O.length kO).ownBlock ∨ vb.ownBlock = some y.heap.size) : ∃ a2 k2, vb = .slice a2 O2.length k2 ∧ CW base z a2 O2 k2 aM Ns kM aT T kT := by
  obtain ⟨a2, k2, rfl⟩ := row_slice o
  have hm := own_lt h.mc.own
  have ht := own_lt h.ht
  have e1 : ∀ j, j < y.heap.size → (Value.slice aO O.length kO).ownBlock ≠ some j → z.heap[j]? = y.heap[j]? := fun j hj hn => g.block j hj (fun q => hn q.symm)
  have en : ∀ i, i < Ns.length → ∀ x, (Ns.getD i Mb.nil).ad = some x → 0 < (Ns.getD i Mb.nil).L.length → z.heap[x.block]? = y.heap[x.block]? := fun i hi x q p => e1 _ (h.mc.inn i hi x q p).2 (fun c => h.on i hi _ x c q p rfl)
  refine ⟨a2, k2, rfl, o, ⟨own_same h.mc.own (fun j q => e1 j (hm j q).2 (fun c => h.om j c q)), fun i hi => ViewI.carry (h.mc.nest i hi) (en i hi), h.mc.nil0, fun i hi => (h.mc.rooms i hi).carry (en i hi), fun i hi x q p => ⟨(h.mc.inn i hi x q p).1, Nat.lt_of_lt_of_le (h.mc.inn i hi x q p).2 g.size⟩, h.mc.apart, h.mc.aparts⟩, own_same h.ht (fun j q => e1 j (ht j q).2 (fun c => h.ot j c q)), fun j q c => ?_, fun i hi j x q q2 p c => ?_, fun j q c => ?_, h.mt⟩
  · rcases e with e | e
    · exact h.om j (e ▸ q) c
    · rw [e] at q; simp at q; have := (hm j c).2; omega
  · rcases e with e | e
    · exact h.on i hi j x (e ▸ q) q2 p c
    · rw [e] at q; simp at q; have := (h.mc.inn i hi x q2 p).2; omega
  · rcases e with e | e
    · exact h.ot j (e ▸ q) c
    · rw [e] at q; simp at q; have := (ht j c).2; omega
theorem CW.off {base : Nat} {y : World} {aO : Option Addr} {O : List Bool} {kO : Nat} {aM : Option Addr} {Ns : List Mb} {kM : Nat} {aT : Option Addr} {T : List Hd} {kT : Nat} {z : World} {N : Nat} (h : CW base y aO O kO aM Ns kM aT T kT) (k : ∀ j, j ≠ N → z.heap[j]? = y.heap[j]?) (hs : y.heap.size ≤ z.heap.size) (nO : (Value.slice aO O.length kO).ownBlock ≠ some N) (nM : (Value.slice aM Ns.length kM).ownBlock ≠ some N) (nn : ∀ i, i < Ns.length → ∀ x, (Ns.getD i Mb.nil).ad = some x → 0 < (Ns.getD i Mb.nil).L.length → x.block ≠ N) (nT : (Value.slice aT T.length kT).ownBlock ≠ some N) : CW base z aO O kO aM Ns kM aT T kT :=
  ⟨own_same h.ob (fun j q => k j (fun c => nO (c ▸ q))), ⟨own_same h.mc.own (fun j q => k j (fun c => nM (c ▸ q))), fun i hi => ViewI.carry (h.mc.nest i hi) (fun x q p => k _ (nn i hi x q p)), h.mc.nil0, fun i hi => (h.mc.rooms i hi).carry (fun x q p => k _ (nn i hi x q p)), fun i hi x q p => ⟨(h.mc.inn i hi x q p).1, Nat.lt_of_lt_of_le (h.mc.inn i hi x q p).2 hs⟩, h.mc.apart, h.mc.aparts⟩, own_same h.ht (fun j q => k j (fun c => nT (c ▸ q))), h.om, h.on, h.ot, h.mt⟩
theorem grown_ext {x y z : World} {cb : Nat} (g : x.grownBy y (some cb)) (os : z.os = y.os) (tape : z.tape = y.tape) (output : z.output = y.output) (size : y.heap.size ≤ z.heap.size) (e : ∀ j, j < x.heap.size → j ≠ cb → z.heap[j]? = y.heap[j]?) : x.grownBy z (some cb) :=
  ⟨os.trans g.os, tape.trans g.tape, output.trans g.output, Nat.le_trans g.size size, fun j hj hn => (e j hj (fun q => hn (by rw [q]))).trans (g.block j hj hn)⟩
theorem tot_le {c : Nat} : ∀ (Ns : List Mb), (∀ m ∈ Ns, m.L.length ≤ c) → totD (Ns.map Mb.d) ≤ Ns.length * (c + 1)
  | [], _ => by simp [totD]
  | m :: Ns, h => by
    have h1 : m.L.length ≤ c := h m (by simp)
    have h2 := tot_le Ns (fun x hx => h x (by simp [hx]))
    show 1 + m.L.length + totD (Ns.map Mb.d) ≤ (Ns.length + 1) * (c + 1)
    rw [Nat.add_mul]
    omega
theorem oblk {w : World} {base E k n m c : Nat} {a : Option Addr} {xs : List Value} {x : Addr} (h : w.ownsRow base E k (.slice a n c) n xs) (e : a = some x) (_ : 0 < m) : (Value.slice a n c).ownBlock = some x.block := by
  subst e; rfl
theorem tblk {w : World} {base E k n m c : Nat} {a : Option Addr} {xs : List Value} {x : Addr} (h : w.ownsRow base E k (.slice a n c) n xs) (e : a = some x) (_ : 0 < m) : (Value.slice a n c).ownBlock = some x.block := by
  subst e; rfl
def DrawnV (w : World) (cb : Nat) (ad : Option Addr) (len cap : Nat) (f : Nat → Int) (e : Ending) (w' : World) : Prop :=
  ∃ (aO : Option Addr) (O : List Bool) (kO : Nat) (aM : Option Addr) (D : DL) (kM : Nat) (aT : Option Addr) (T : List Hd) (kT : Nat), e = .returned (.agg #[.slice aO O.length kO, .slice aM (List.length D) kM, .slice aT T.length kT]) ∧ CdV w' w.heap.size w'.heap.size aO O aM D aT T ∧ Src w' cb ad len cap f ∧ w.grownBy w' (some cb) ∧ O.length ≤ 5 ∧ totD D ≤ 24 ∧ T.length ≤ 20 ∧ (aO = none → kO = 0) ∧ (aT = none → kT = 0)
theorem own_nil3 {w : World} {base E k n : Nat} {a : Option Addr} {c : Nat} {xs : List Value} (h : w.ownsRow base E k (.slice a n c) n xs) : a = none → c = 0 := fun e => by
  subst e
  rcases h.2 with ⟨q, _⟩ | ⟨g, cap, cur, q, _⟩
  · cases q; rfl
  · cases q
theorem draw_end {w x0 y : World} {cb : Nat} {ad : Option Addr} {len cap : Nat} {f : Nat → Int} {R : Nat} {aO : Option Addr} {O : List Bool} {kO : Nat} {aM : Option Addr} {D : DL} {kM : Nat} {aT : Option Addr} {T : List Hd} {kT : Nat} (B0 : Below w.heap.size w x0) (hR : w.heap.size ≤ R ∧ R < x0.heap.size) (hcb : cb < w.heap.size) (had : ∀ x, ad = some x → 0 < len → x.block < w.heap.size) (V : CdV y x0.heap.size y.heap.size aO O aM D aT T) (hs : Src y cb ad len cap f) (g : x0.grownBy y (some cb)) (hO : O.length ≤ 5) (hD : totD D ≤ 24) (hT : T.length ≤ 20) (zO : aO = none → kO = 0) (zT : aT = none → kT = 0) (C : CdAt y R none 0 0 none 0 0 none 0 0) :
    ∃ z : World, z = ((y.setCell ⟨R, 0, none⟩ (.slice aO O.length kO)).setCell ⟨R, 1, none⟩ (.slice aM D.length kM)).setCell ⟨R, 2, none⟩ (.slice aT T.length kT) ∧ z.cell? ⟨R, 0, none⟩ = some (.slice aO O.length kO) ∧ z.cell? ⟨R, 1, none⟩ = some (.slice aM D.length kM) ∧ z.cell? ⟨R, 2, none⟩ = some (.slice aT T.length kT) ∧ DrawnV w cb ad len cap f (.returned (.agg #[.slice aO O.length kO, .slice aM D.length kM, .slice aT T.length kT])) z := by
  obtain ⟨r1, r2, r3⟩ := C
  have gs := g.size
  have bs := B0.size
  have h3 : ∀ j, j ≠ R → (((y.setCell ⟨R, 0, none⟩ (.slice aO O.length kO)).setCell ⟨R, 1, none⟩ (.slice aM D.length kM)).setCell ⟨R, 2, none⟩ (.slice aT T.length kT)).heap[j]? = y.heap[j]? := fun j hj => heap_set3 hj
  refine ⟨_, rfl, ?_, ?_, ?_, aO, O, kO, aM, D, kM, aT, T, kT, rfl, ?_, hs.move (h3 _ (by omega)) (fun x e p => h3 _ (by have := had x e p; omega)), ?_, hO, hD, hT, zO, zT⟩
  · rw [cell_set_ne (by omega), cell_set_ne (by omega)]; exact cell_set_same ⟨_, r1⟩
  · rw [cell_set_ne (by omega)]; exact cell_set_same ⟨_, (cell_set_ne (by omega)).trans r2⟩
  · exact cell_set_same ⟨_, (cell_set_ne (by omega)).trans ((cell_set_ne (by omega)).trans r3)⟩
  · refine (V.keep (fun j h1 h2 => h3 j (by omega))).wide (by omega) ?_
    simp
  · refine ⟨g.os.trans B0.os, g.tape.trans B0.tape, g.output.trans B0.output, by simp; omega, fun j hj hn => ?_⟩
    rw [h3 j (by omega), g.block j (by omega) hn, B0.block j hj]

end Go.Proofs.YtifndemkkaelaaaGreat
