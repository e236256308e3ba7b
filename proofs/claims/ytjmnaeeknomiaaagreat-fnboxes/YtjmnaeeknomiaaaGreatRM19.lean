import Derived.Test.YtjmnaeeknomiaaaGreatRM10
import Derived.Test.YtjmnaeeknomiaaaGreatRM11
namespace Go.Proofs.YtjmnaeeknomiaaaGreat
open Go.ChangeShapes Go.WideShapes Go.ChangeAt Go.RowKit
open Go.ChangeMaps (open_string shut_string)
set_option linter.unusedVariables false
set_option maxRecDepth 100000
set_option maxHeartbeats 32000000
set_option linter.unusedSimpArgs false
open Go.Proofs.Tryz
attribute [local go_sem] ji ja bc
theorem Ep : (prog.info? 75).map (fun i => (i.zero, i.size, i.bytes)) = some (some (.agg #[ji 0, .bool false, ji 0, ji 0, ji 0, ji 0, ji 0, ji 0, ji 0, ji 0, ji 0, .bool false]), 12, 96) := by kernel_rfl
def LS {X : Type} (enc : X → List Value) (n : Nat) (T : TypeId) (base : Nat) (W : World) (b a : Bool) (v v' : Value) (L : List X) : Prop :=
 (b = false ∧ a = false ∧ v = undef ∧ v' = undef) ∨ (b = true ∧ a = false ∧ v' = undef ∧ AB enc n T base W v ([] : List X)) ∨ (b = true ∧ a = true ∧ AB enc n T base W v' L)
theorem LS.keep {X : Type} {enc : X → List Value} {n : Nat} {T : TypeId} {base : Nat} {W W' : World} {b a : Bool} {v v' : Value} {L : List X} (h : LS enc n T base W b a v v' L) (k : ∀ (u : Value) (M : List X), AB enc n T base W u M → ∀ g, u.ownBlock = some g → W'.heap[g]? = W.heap[g]?) : LS enc n T base W' b a v v' L := by
 rcases h with h | ⟨h1, h2, h3, h4⟩ | ⟨h1, h2, h3⟩
 ·
  exact .inl h
 ·
  exact .inr (.inl ⟨h1, h2, h3, h4.keep (k _ _ h4)⟩)
 exact .inr (.inr ⟨h1, h2, h3.keep (k _ _ h3)⟩)
theorem LS.alloc {X : Type} {enc : X → List Value} {n : Nat} {T : TypeId} {base : Nat} {W : World} {b a : Bool} {v v' : Value} {L : List X} (h : LS enc n T base W b a v v' L) (ob : Obj) : LS enc n T base (W.alloc ob) b a v v' L :=
 h.keep (fun u M ho g e => Below.heap_alloc W ob g (ho.lt g e).2)
def Av (W : World) (q : Nat) : Prop := W.heap[q]? = some (Obj.cells #[ji 0, ji 0, ji 0, ji 0, ji 0, .slice none 0 0, .slice none 0 0, .slice none 0 0, .slice none 0 0, .slice none 0 0] 34)
def Ku (b1 a1 b2 a2 b3 a3 b4 a4 al c : Bool) : Array Bool := #[true, true, true, true, true, true, b1, true, true, a1, b2, true, true, a2, b3, true, true, a3, b4, true, true, a4, c, al, false]
def DM (b1 a1 b2 a2 b3 a3 b4 a4 al c : Bool) : Nat := (!b1).toNat + (!a1).toNat + (!b2).toNat + (!a2).toNat + (!b3).toNat + (!a3).toNat + (!b4).toNat + (!a4).toNat + (!al).toNat + (!c).toNat
def Gk (b1 a1 b2 a2 b3 a3 b4 a4 al c : Bool) : List Nat := (if b1 then [] else [6]) ++ (if b1 && !a1 then [9] else []) ++ (if b2 then [] else [10]) ++ (if b2 && a1 && !a2 then [13] else []) ++ (if b3 then [] else [14]) ++ (if b3 && a2 && !a3 then [17] else []) ++ (if b4 then [] else [18]) ++ (if b4 && a3 && !a4 then [21] else []) ++ (if a4 && !c then [22] else []) ++ (if al then [] else [23])
def Cw (x : AG) (B : Nat) (v3 v11 v14 v15 v18 v19 v22 v23 v26 v27 : Value) : List Value := [.agg (bc x), .pointer (some (ja B 0)), .pointer (some ⟨(B + 1), 0, none⟩), v3, undef, .pointer (some (ja B 0)), ji x.id, .pointer (some (ja B 1)), ji x.po, .pointer (some (ja B 2)), .agg #[ji x.rg.ep, ji x.rg.ow, ji x.rg.pa], v11, .pointer (some (ja B 6)), .slice x.aN x.net.length x.cN, v14, v15, .pointer (some (ja B 7)), .slice x.aG x.ga.length x.cG, v18, v19, .pointer (some (ja B 8)), .slice x.aL x.ln.length x.cL, v22, v23, .pointer (some (ja B 9)), .slice x.aS x.sd.length x.cS, v26, v27, undef, undef, undef, undef, undef, undef, undef, undef, undef, undef, undef, undef, undef, undef, undef, undef, undef, undef, undef]
def FL (x : AG) (v14 v18 v22 v26 : Value) : Value := .agg #[ji x.id, ji x.po, ji x.rg.ep, ji x.rg.ow, ji x.rg.pa, .slice none 0 0, v14, v18, v22, v26]
structure Kv (x : AG) (base : Nat) (y : World) (b1 a1 b2 a2 b3 a3 b4 a4 al c : Bool) (v3 v11 v14 v15 v18 v19 v22 v23 v26 v27 : Value) (W : World) : Prop where
 bel : Below base y W
 h1 : LS At 12 75 base W b1 a1 v11 v14 x.net
 h2 : LS Az 1 4 base W b2 a2 v15 v18 x.ga
 h3 : LS AO 8 64 base W b3 a3 v19 v22 x.ln
 h4 : LS Ag 8 77 base W b4 a4 v23 v26 x.sd
 k2 : a2 = true → a1 = true
 k3 : a3 = true → a2 = true
 k4 : a4 = true → a3 = true
 k5 : c = true → a4 = true
 ha : (al = false ∧ v3 = undef) ∨ (al = true ∧ ∃ q, v3 = .pointer (some (ja q 0)) ∧ Av W q ∧ base ≤ q)
 hc : (c = false ∧ v27 = undef) ∨ (c = true ∧ v27 = FL x v14 v18 v22 v26)
def Kw (x : AG) (B base : Nat) (y : World) (n : Nat) (listed : Array Bool) (l : List Value) (W : World) : Prop :=
 ∃ (b1 a1 b2 a2 b3 a3 b4 a4 al c : Bool) (v3 v11 v14 v15 v18 v19 v22 v23 v26 v27 : Value), n = DM b1 a1 b2 a2 b3 a3 b4 a4 al c ∧ listed = Ku b1 a1 b2 a2 b3 a3 b4 a4 al c ∧ l = Cw x B v3 v11 v14 v15 v18 v19 v22 v23 v26 v27 ∧ Kv x base y b1 a1 b2 a2 b3 a3 b4 a4 al c v3 v11 v14 v15 v18 v19 v22 v23 v26 v27 W
theorem LS.flag {X : Type} {enc : X → List Value} {n : Nat} {T : TypeId} {base : Nat} {W : World} {b a : Bool} {v v' : Value} {L : List X} (h : LS enc n T base W b a v v' L) : a = true → b = true := by
 rcases h with h | h | h
 ·
  intro e; rw [h.2.1] at e; cases e
 ·
  intro e; rw [h.2.1] at e; cases e
 intro _; exact h.1
end Go.Proofs.YtjmnaeeknomiaaaGreat
namespace Go.Proofs.YtjmnaeeknomiaaaGreat
open Go.ChangeShapes Go.WideShapes Go.ChangeAt Go.RowKit
open Go.ChangeMaps (open_string shut_string)
set_option linter.unusedVariables false
set_option maxRecDepth 100000
set_option maxHeartbeats 32000000
set_option linter.unusedSimpArgs false
open Go.Proofs.Tryz
theorem AB.notZ {X : Type} {enc : X → List Value} {n : Nat} {T : TypeId} {base : Nat} {w : World} {v : Value} {L : List X} (h : AB enc n T base w v L) {q : Nat} (hz : Av w q) (hT : T ≠ 34) : v.ownBlock ≠ some q := by
 intro e;rcases h.2 with ⟨q1, _⟩ | ⟨g1, c1, u1, q1, _, o1, _⟩
 ·
  rw [q1] at e; cases e
 rw [q1] at e;cases e
 unfold Av at hz;rw [hz] at o1;simp only [Option.some.injEq, Obj.cells.injEq] at o1;exact hT o1.2.1.symm
theorem Ip : ∀ (b1 a1 b2 a2 b3 a3 b4 a4 al c : Bool), DM b1 a1 b2 a2 b3 a3 b4 a4 al c = 0 → b1 = true ∧ a1 = true ∧ b2 = true ∧ a2 = true ∧ b3 = true ∧ a3 = true ∧ b4 = true ∧ a4 = true ∧ al = true ∧ c = true := by
 intro b1 a1 b2 a2 b3 a3 b4 a4 al c h;unfold DM at h;cases b1 <;> cases a1 <;> cases b2 <;> cases a2 <;> cases b3 <;> cases a3 <;> cases b4 <;> cases a4 <;> cases al <;> cases c <;> first | (cases h; done) | exact ⟨rfl, rfl, rfl, rfl, rfl, rfl, rfl, rfl, rfl, rfl⟩
theorem Jo : ∀ (b1 a1 b2 a2 b3 a3 b4 a4 al c : Bool), (a2 = true → a1 = true) → (a3 = true → a2 = true) → (a4 = true → a3 = true) → (c = true → a4 = true) → DM b1 a1 b2 a2 b3 a3 b4 a4 al c ≠ 0 → Gk b1 a1 b2 a2 b3 a3 b4 a4 al c ≠ [] := of_decide_eq_true (by kernel_rfl)
end Go.Proofs.YtjmnaeeknomiaaaGreat
