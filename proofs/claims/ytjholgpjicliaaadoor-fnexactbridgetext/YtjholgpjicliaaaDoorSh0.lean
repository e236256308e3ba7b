/- Parts of what is shown. -/
import Derived.Test.YtjholgpjicliaaaDoorRows
import Derived.WalkKit
import Derived.ProofKit
import Derived.OpenShut
import Derived.ShutString
import Derived.ChangeOld
import Derived.Below
import Derived.Deep.QuietTactic
import Derived.BigQuiet
import Derived.WalkSmall
import Derived.Laws.OwnMore
import Derived.WalkSpells
import Derived.WalkLawsBesides
import Derived.Deep.Cut
import Derived.Maps.AppendAt
import Derived.Lib.AppendStr
import Derived.Test.YtjholgpjicliaaaDoorVec3
import Derived.Test.YtjholgpjicliaaaDoorFlatApp
namespace Go.Proofs.YtjholgpjicliaaaDoor
open Go.ChangeShapes Go.WideShapes Go.ChangeAt Go.RowKit
open Go.ChangeMaps (open_string shut_string)
set_option linter.unusedVariables false
set_option maxRecDepth 100000

/-- A part of what is shown: a word, a number, or the end of a line. -/
abbrev Prt := ByteArray ⊕ Option Int
def pV (x : Prt) : Value :=
  match x with
  | .inl s => .iface 80 (.string s)
  | .inr (some n) => .iface 69 (.int .i64 n)
  | .inr none => .iface 71 (.agg #[])
def pT (x : Prt) : ByteArray :=
  match x with
  | .inl s => s
  | .inr (some n) => dig n
  | .inr none => ⟨#[10]⟩
def pE (x : Prt) : Bool :=
  match x with
  | .inl _ => false
  | .inr (some _) => false
  | .inr none => true
/-- What is known of a part: its number fits, its word is not long. -/
def pW (x : Prt) : Prop :=
  match x with
  | .inl s => s.size ≤ 100
  | .inr (some n) => I64 n
  | .inr none => True
def prEnc (x : Prt) : List Value := [pV x]
theorem prEnc_len (x : Prt) : (prEnc x).length = 1 := rfl
theorem pV_one (x : Prt) : (pV x).oneCell' = true := by
  match x with
  | .inl s => rfl
  | .inr (some n) => rfl
  | .inr none => rfl
theorem prEnc_ones (L : List Prt) : ∀ u ∈ fcells prEnc L, u.oneCell' = true := by
  induction L with
  | nil => intro u h; cases h
  | cons x L ih =>
    intro u h
    simp only [fcells, prEnc, List.mem_append, List.mem_cons, List.not_mem_nil, or_false] at h
    rcases h with rfl | h
    · exact pV_one x
    · exact ih u h
theorem pT_size {x : Prt} (h : pW x) : (pT x).size ≤ 100 := by
  match x, h with
  | .inl s, h => exact h
  | .inr (some n), h =>
    have := dig_size (n := n) h.1 h.2
    show (dig n).size ≤ 100
    omega
  | .inr none, _ => show (⟨#[10]⟩ : ByteArray).size ≤ 100; decide
/-- Bytes as cells. -/
def uEnc (x : UInt8) : List Value := [.int .u8 x.toNat]
theorem uEnc_len (x : UInt8) : (uEnc x).length = 1 := rfl
theorem uEnc_ones (L : List UInt8) : ∀ u ∈ fcells uEnc L, u.oneCell' = true := by
  induction L with
  | nil => intro u h; cases h
  | cons x L ih =>
    intro u h
    simp only [fcells, uEnc, List.mem_append, List.mem_cons, List.not_mem_nil, or_false] at h
    rcases h with rfl | h
    · rfl
    · exact ih u h
theorem uCells (L : List UInt8) : fcells uEnc L = L.map (fun b => Value.int .u8 b.toNat) := by
  induction L with
  | nil => rfl
  | cons x L ih => simp only [fcells, uEnc, List.map_cons, ih, List.cons_append, List.nil_append]
theorem strCells_u (s : ByteArray) : Lib.strCells s = fcells uEnc s.data.toList := by rw [uCells]; rfl
/-- One step of what is shown: what stands so far, and whether a line has begun. -/
def shS (s : List UInt8 × Bool) (x : Prt) : List UInt8 × Bool := (s.1 ++ (if s.2 && !pE x then [32] else []) ++ (pT x).data.toList, !pE x)
def shF (L : List Prt) : List UInt8 × Bool := L.foldl shS ([], false)
/-- What is shown of a list of parts. -/
def shT (L : List Prt) : ByteArray := ⟨(shF L).1.toArray⟩
theorem shF_next {L : List Prt} {k : Nat} (hk : k < L.length) : shS (shF (L.take k)) (L.getD k (.inr none)) = shF (L.take (k + 1)) := by
  have e : L.getD k (.inr none) = L[k] := by simp [List.getD, List.getElem?_eq_getElem hk]
  rw [e, List.take_add_one, List.getElem?_eq_getElem hk, shF, shF, List.foldl_append]
  rfl
theorem shF_len (L : List Prt) (h : ∀ x ∈ L, pW x) : ∀ s : List UInt8 × Bool, (L.foldl shS s).1.length ≤ s.1.length + 101 * L.length := by
  induction L with
  | nil => intro s; simp
  | cons x L ih =>
    intro s
    have h1 := ih (fun y hy => h y (List.mem_cons_of_mem _ hy)) (shS s x)
    have h2 := pT_size (h x List.mem_cons_self)
    have h3 : (shS s x).1.length ≤ s.1.length + 101 := by
      have h4 : (pT x).data.toList.length = (pT x).size := Array.length_toList
      unfold shS
      simp only [List.length_append]
      split <;> simp <;> omega
    simp only [List.foldl_cons, List.length_cons]
    omega
theorem shF_len_take (L : List Prt) (h : ∀ x ∈ L, pW x) (k : Nat) : (shF (L.take k)).1.length ≤ 101 * k := by
  have h1 := shF_len (L.take k) (fun x hx => h x (List.mem_of_mem_take hx)) ([], false)
  have h2 : (L.take k).length ≤ k := by simp; omega
  unfold shF
  simp only [List.length_nil] at h1
  omega
/-- Elements put behind a list that the call owns, however long. -/
theorem fappB {P : Program} {X : Type} {enc : X → List Value} {n : Nat} (hn : ∀ x, (enc x).length = n) (h1 : ∀ L, ∀ u ∈ fcells enc L, u.oneCell' = true) {w : World} {o : Oper} {a : Act} {K : Act → World → Prop} {Q : Exit → Act → World → Prop} (s x : Operand) (t : TypeId) (ho : o.op = .call { callee := .builtin .append, args := #[s, x], argTypes := #[t, t] })
    (base : Nat) (e : TypeId) (i : TypeInfo) (z : Value) (bytes : Nat) (ht : P.underlying t = some (.slice e)) (hi : P.info? e = some i) (hz : i.zero = some z)
    (hsize : i.size = n) (hby : i.bytes = bytes) (hzs : z.cells.size = n) (hsz : 0 < n)
    (v : Value) (M : List X) (hs : a.eval s = v) (hown : FOwn enc n e base w v M)
    (ad : Option Addr) (cap : Nat) (L : List X) (hx : a.eval x = .slice ad L.length cap) (hc : ad = none → cap = 0) (hv : FView enc w ad L)
    (hlen : M.length + L.length ≤ 1000000000) (hb2 : bytes ≤ 100) (hbase : base ≤ w.heap.size)
    (h : ∀ v' w', FOwn enc n e base w' v' (M ++ L) → w.grownBy w' v.ownBlock → (v'.ownBlock = v.ownBlock ∨ v'.ownBlock = some w.heap.size) → K (a.put o.dst v') w') : o.wp P a w K Q := by
  cases ad with
  | none =>
    obtain rfl := hv.none_nil
    obtain rfl := hc rfl
    exact app_none s x t ho base e i n ht hi v M.length (fcells enc M) hs hown hx (h v w (by simpa using hown) ⟨rfl, rfl, rfl, Nat.le_refl _, fun _ _ _ => rfl⟩ (.inl rfl))
  | some q =>
    have hmul : (M.length + L.length) * bytes ≤ 1000000000 * 100 := Nat.mul_le_mul hlen hb2
    refine app_at s x t ho base e i z n bytes ht hi hz hsize hby hzs hsz v M.length (fcells enc M) hs hown q L.length cap (fcells enc L) hx (fcells_len hn L) hv.news (h1 L) (by unfold maxLen; omega) (by omega) hbase ?_
    intro v' w' o' g' e'
    exact h v' w' (FOwn.app o' rfl) g' e'
theorem fappBL {P : Program} {X : Type} {enc : X → List Value} {n : Nat} (hn : ∀ x, (enc x).length = n) (h1 : ∀ L, ∀ u ∈ fcells enc L, u.oneCell' = true) {w : World} {ops : Array Oper} {rest : List Oper} {o : Oper} {a : Act} {Q : Exit → Act → World → Prop} (hgd : o.guard = none) (s x : Operand) (t : TypeId) (ho : o.op = .call { callee := .builtin .append, args := #[s, x], argTypes := #[t, t] })
    (base : Nat) (e : TypeId) (i : TypeInfo) (z : Value) (bytes : Nat) (ht : P.underlying t = some (.slice e)) (hi : P.info? e = some i) (hz : i.zero = some z)
    (hsize : i.size = n) (hby : i.bytes = bytes) (hzs : z.cells.size = n) (hsz : 0 < n)
    (v : Value) (M : List X) (hs : a.eval s = v) (hown : FOwn enc n e base w v M)
    (ad : Option Addr) (cap : Nat) (L : List X) (hx : a.eval x = .slice ad L.length cap) (hc : ad = none → cap = 0) (hv : FView enc w ad L)
    (hlen : M.length + L.length ≤ 1000000000) (hb2 : bytes ≤ 100) (hbase : base ≤ w.heap.size)
    (h : ∀ v' w', FOwn enc n e base w' v' (M ++ L) → w.grownBy w' v.ownBlock → (v'.ownBlock = v.ownBlock ∨ v'.ownBlock = some w.heap.size) → wpList P ops Q rest (a.put o.dst v') w') : wpList P ops Q (o :: rest) a w := by
  refine wpList_plain hgd fun K hK => ?_
  exact fappB hn h1 s x t ho base e i z bytes ht hi hz hsize hby hzs hsz v M hs hown ad cap L hx hc hv hlen hb2 hbase (fun v' w' a b c => hK _ _ (h v' w' a b c))
theorem uInfo : (Tryd.prog.info? 5).map (fun i => (i.zero, i.size, i.bytes)) = some (some (.int .u8 0), 1, 1) := by kernel_rfl
theorem prInfo : (Tryd.prog.info? 77).map (fun i => (i.zero, i.size, i.bytes)) = some (some .nilIface, 1, 16) := by kernel_rfl
/-- A text put behind bytes that the call owns. -/
theorem strBL {w : World} {ops : Array Oper} {rest : List Oper} {o : Oper} {a : Act} {Q : Exit → Act → World → Prop} (hgd : o.guard = none) (sl x : Operand)
    (ho : o.op = .call { callee := .builtin .append, args := #[sl, x], argTypes := #[73, 9] }) (base : Nat) (v : Value) (M : List UInt8) (hs : a.eval sl = v) (hown : FOwn uEnc 1 5 base w v M) (s : ByteArray) (hx : a.eval x = .string s)
    (hlen : M.length + s.size ≤ 1000000000) (hbase : base ≤ w.heap.size)
    (h : ∀ v' w', FOwn uEnc 1 5 base w' v' (M ++ s.data.toList) → w.grownBy w' v.ownBlock → wpList Tryd.prog ops Q rest (a.put o.dst v') w') : wpList Tryd.prog ops Q (o :: rest) a w := by
  obtain ⟨i0, hi, hz0, hz1, hz2⟩ := info_parts uInfo
  refine Lib.wpList_append_own_string w hgd sl x 73 9 ho base 5 i0 Tryd.underlying73 Tryd.underlying9 hi hz0 hz1 hz2 v M.length (fcells uEnc M) hs hown s hx (by unfold maxLen; omega) (by omega) hbase ?_
  intro v' w' o' g' _
  rw [strCells_u] at o'
  exact h v' w' (FOwn.app o' (by rw [Array.length_toList]; rfl)) g'

end Go.Proofs.YtjholgpjicliaaaDoor
