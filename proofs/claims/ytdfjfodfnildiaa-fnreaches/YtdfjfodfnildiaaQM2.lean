/- Cells that are read and written. How a claim comes in. Elements put behind a list. Bits. Contracts of the cursor by which values are drawn. Who can be come to, in plain lists. Marks of five, in memory. -/
import Derived.Test.YtdfjfodfnildiaaRows
import Derived.WalkKit
import Derived.ProofKit
import Derived.OpenShut
import Derived.ShutString
import Derived.ChangeOld
import Derived.Below
import Derived.Deep.QuietTactic
import Derived.BigQuiet
import Derived.WalkSmall
import Derived.Laws.OwnMore
import Derived.WalkSpells
import Derived.WalkLawsBesides
import Derived.Lib.SmallJoins
import Derived.Test.YtdfjfodfnildiaaQKVec1
import Derived.Maps.AppendAt
import Derived.Laws.AppendOwnNone
import Derived.Test.YtdfjfodfnildiaaQM1
import Derived.Deep.Cut
namespace Go.Proofs.Ytdfjfodfnildiaa
open Go.ChangeShapes Go.WideShapes Go.ChangeAt Go.RowKit
open Go.ChangeMaps (open_string shut_string)
set_option linter.unusedVariables false
set_option maxRecDepth 100000

def View (w : World) (ad : Option Addr) (len : Nat) (f : Nat → Int) : Prop :=
  0 < len → ∃ b off, ad = some ⟨b, off, none⟩ ∧ ∀ i, i < len → w.cell? ⟨b, off + i, none⟩ = some (.int .u8 (f i))
theorem View.carry {w w' : World} {ad : Option Addr} {len : Nat} {f : Nat → Int} (h : View w ad len f) (hb : ∀ a, ad = some a → 0 < len → w'.heap[a.block]? = w.heap[a.block]?) : View w' ad len f :=
  fun hp => by
    obtain ⟨b, off, e, hc⟩ := h hp
    exact ⟨b, off, e, fun i hi => (World.cell?_of_block (a := ⟨b, off + i, none⟩) (hb ⟨b, off, none⟩ e hp)).trans (hc i hi)⟩
theorem cell_set_same {w : World} {b j : Nat} {v : Value} (h : ∃ u, w.cell? ⟨b, j, none⟩ = some u) : (w.setCell ⟨b, j, none⟩ v).cell? ⟨b, j, none⟩ = some v := by
  obtain ⟨u, hu⟩ := h
  exact World.cell?_setCell_same _ _ _ hu
theorem cell_set_ne {w : World} {b j i : Nat} {v : Value} (h : i ≠ j) : (w.setCell ⟨b, j, none⟩ v).cell? ⟨b, i, none⟩ = w.cell? ⟨b, i, none⟩ :=
  World.cell?_setCell_other _ _ _ _ (fun e => h (by injection e with _ e2; exact e2.symm))
end Go.Proofs.Ytdfjfodfnildiaa
namespace Go.Proofs.Ytdfjfodfnildiaa
open Go.ChangeShapes Go.WideShapes Go.ChangeAt Go.RowKit
open Go.ChangeMaps (open_string shut_string)
set_option linter.unusedVariables false
set_option maxRecDepth 100000

def VecAt (w : World) (q : Nat) (r c b p : Int) : Prop :=
  w.cell? ⟨q, 0, none⟩ = some (.int .i64 r) ∧ w.cell? ⟨q, 1, none⟩ = some (.int .i64 c) ∧ w.cell? ⟨q, 2, none⟩ = some (.int .i64 b) ∧ w.cell? ⟨q, 3, none⟩ = some (.int .i64 p)
theorem VecAt.below {w w' : World} {q n : Nat} {r c b p : Int} (h : VecAt w q r c b p) (k : Below n w w') (hq : q < n) : VecAt w' q r c b p :=
  ⟨(k.cell (p := ⟨q, 0, none⟩) hq).trans h.1, (k.cell (p := ⟨q, 1, none⟩) hq).trans h.2.1, (k.cell (p := ⟨q, 2, none⟩) hq).trans h.2.2.1, (k.cell (p := ⟨q, 3, none⟩) hq).trans h.2.2.2⟩
theorem vecAt_box (w : World) (t : TypeId) (r c b p : Int) : VecAt (w.alloc (Obj.cells #[.int .i64 r, .int .i64 c, .int .i64 b, .int .i64 p] t)) w.heap.size r c b p := by
  refine ⟨?_, ?_, ?_, ?_⟩ <;> simp [go_sem]

end Go.Proofs.Ytdfjfodfnildiaa
namespace Go.Proofs.Ytdfjfodfnildiaa
open Go.ChangeShapes Go.WideShapes Go.ChangeAt Go.RowKit
open Go.ChangeMaps (open_string shut_string)
set_option linter.unusedVariables false
set_option maxRecDepth 100000

theorem app_at {P : Program} {w : World} {o : Oper} {a : Act} {K : Act → World → Prop} {Q : Exit → Act → World → Prop} (s x : Operand) (t : TypeId) (ho : o.op = .call { callee := .builtin .append, args := #[s, x], argTypes := #[t, t] })
    (base : Nat) (e : TypeId) (i : TypeInfo) (z : Value) (size bytes : Nat) (ht : P.underlying t = some (.slice e)) (hi : P.info? e = some i) (hz : i.zero = some z)
    (hsize : i.size = size) (hby : i.bytes = bytes) (hzs : z.cells.size = size) (hsz : 0 < size)
    (v : Value) (n : Nat) (xs : List Value) (hs : a.eval s = v) (hown : w.ownsRow base e size v n xs)
    (ad : Addr) (m c : Nat) (news : List Value) (hx : a.eval x = .slice (some ad) m c) (hl : news.length = m * size) (hnews : ∀ j u, news[j]? = some u → w.cell? (ad.add j) = some u) (h1 : ∀ u ∈ news, u.oneCell' = true)
    (h63 : n + m ≤ maxLen) (hbytes : (n + m) * bytes ≤ 140737488355328) (hbase : base ≤ w.heap.size)
    (h : ∀ v' w', w'.ownsRow base e size v' (n + m) (xs ++ news) → w.grownBy w' v.ownBlock → (v'.ownBlock = v.ownBlock ∨ v'.ownBlock = some w.heap.size) → K (a.put o.dst v') w') : o.wp P a w K Q := by
  obtain ⟨v', w', hr, h2, h3, h4, h5⟩ := run_append_own_at (P := P) w base t o.type e i z size bytes ht hi hz hsize hby hzs hsz v n xs hown ad m c news hl hnews h1 h63 hbytes hbase
  unfold Oper.wp execOp
  simp only [ho, resolve, invoke, builtin, Sem.run_bind, Sem.run_pure, Result.andThen_ok, List.map_toArray, List.map_cons, List.map_nil, hs, hx, hr]
  exact h v' w' h2 h3 h5
theorem app_none {P : Program} {w : World} {o : Oper} {a : Act} {K : Act → World → Prop} {Q : Exit → Act → World → Prop} (s x : Operand) (t : TypeId) (ho : o.op = .call { callee := .builtin .append, args := #[s, x], argTypes := #[t, t] })
    (base : Nat) (e : TypeId) (i : TypeInfo) (size : Nat) (ht : P.underlying t = some (.slice e)) (hi : P.info? e = some i)
    (v : Value) (n : Nat) (xs : List Value) (hs : a.eval s = v) (hown : w.ownsRow base e size v n xs) (hx : a.eval x = .slice none 0 0)
    (h : K (a.put o.dst v) w) : o.wp P a w K Q := by
  have hrun := run_append_owned_none (P := P) (w := w) base t o.type e i size ht hi v n xs hown
  unfold Oper.wp
  simp [execOp, ho, resolve, invoke, builtin, hs, hx, hrun, Result.andThen]
  exact h
theorem FView.news {X : Type} {enc : X → List Value} {w : World} {a : Addr} {L : List X} (h : FView enc w (some a) L) : ∀ j u, (fcells enc L)[j]? = some u → w.cell? (a.add j) = some u := by
  intro j u hu
  have hp : 0 < L.length := by
    cases L with
    | nil => simp [fcells] at hu
    | cons x r => simp
  obtain ⟨b, off, e, hc⟩ := h hp
  obtain rfl : a = ⟨b, off, none⟩ := by simpa using e
  rw [add_plain]
  exact hc j u hu
theorem FView.none_nil {X : Type} {enc : X → List Value} {w : World} {L : List X} (h : FView enc w none L) : L = [] := by
  cases L with
  | nil => rfl
  | cons a r => obtain ⟨b, off, e, _⟩ := h (by simp); cases e
theorem FOwn.capn {X : Type} {enc : X → List Value} {n : Nat} {T : TypeId} {base : Nat} {w : World} {ad : Option Addr} {len cap : Nat} {L : List X} (h : FOwn enc n T base w (.slice ad len cap) L) : ad = none → cap = 0 := by
  intro e
  rcases h.2 with ⟨q, _⟩ | ⟨g, c, cur, q, _⟩
  · cases q; rfl
  · cases e; simp at q
theorem FOwn.open_ {X : Type} {enc : X → List Value} {n : Nat} {T : TypeId} {base : Nat} {w : World} {v : Value} {L : List X} (h : FOwn enc n T base w v L) : ∃ ad cap, v = .slice ad L.length cap := by
  rcases h.2 with ⟨q, e⟩ | ⟨g, c, cur, q, _⟩
  · exact ⟨none, 0, by rw [q, e]⟩
  · exact ⟨_, _, q⟩
theorem fappO {P : Program} {X : Type} {enc : X → List Value} {n : Nat} (hn : ∀ x, (enc x).length = n) (h1 : ∀ L, ∀ u ∈ fcells enc L, u.oneCell' = true) {w : World} {o : Oper} {a : Act} {K : Act → World → Prop} {Q : Exit → Act → World → Prop} (s x : Operand) (t : TypeId) (ho : o.op = .call { callee := .builtin .append, args := #[s, x], argTypes := #[t, t] })
    (base : Nat) (e : TypeId) (i : TypeInfo) (z : Value) (bytes : Nat) (ht : P.underlying t = some (.slice e)) (hi : P.info? e = some i) (hz : i.zero = some z)
    (hsize : i.size = n) (hby : i.bytes = bytes) (hzs : z.cells.size = n) (hsz : 0 < n) (hb2 : bytes ≤ 1000)
    (v : Value) (M : List X) (hs : a.eval s = v) (hown : FOwn enc n e base w v M)
    (ad : Option Addr) (cap : Nat) (L : List X) (hx : a.eval x = .slice ad L.length cap) (hc : ad = none → cap = 0) (hv : FView enc w ad L)
    (hlen : M.length + L.length ≤ 3000000) (hbase : base ≤ w.heap.size)
    (h : ∀ v' w', FOwn enc n e base w' v' (M ++ L) → w.grownBy w' v.ownBlock → (v'.ownBlock = v.ownBlock ∨ v'.ownBlock = some w.heap.size) → K (a.put o.dst v') w') : o.wp P a w K Q := by
  cases ad with
  | none =>
    obtain rfl := hv.none_nil
    obtain rfl := hc rfl
    exact app_none s x t ho base e i n ht hi v M.length (fcells enc M) hs hown hx (h v w (by simpa using hown) ⟨rfl, rfl, rfl, Nat.le_refl _, fun _ _ _ => rfl⟩ (.inl rfl))
  | some q =>
    have hmul : (M.length + L.length) * bytes ≤ 3000000 * 1000 := Nat.mul_le_mul hlen hb2
    refine app_at s x t ho base e i z n bytes ht hi hz hsize hby hzs hsz v M.length (fcells enc M) hs hown q L.length cap (fcells enc L) hx (fcells_len hn L) hv.news (h1 L) (by unfold maxLen; omega) (by omega) hbase ?_
    intro v' w' o' g' e'
    exact h v' w' (FOwn.app o' rfl) g' e'
theorem fapp {P : Program} {X : Type} {enc : X → List Value} {n : Nat} (hn : ∀ x, (enc x).length = n) (h1 : ∀ L, ∀ u ∈ fcells enc L, u.oneCell' = true) {w : World} {o : Oper} {l : List Value} {ds : List Deferred} {K : Act → World → Prop} {Q : Exit → Act → World → Prop} (dd : Nat) (s x : Operand) (t : TypeId) (hd : o.dst = some dd) (ho : o.op = .call { callee := .builtin .append, args := #[s, x], argTypes := #[t, t] })
    (base : Nat) (e : TypeId) (i : TypeInfo) (z : Value) (bytes : Nat) (ht : P.underlying t = some (.slice e)) (hi : P.info? e = some i) (hz : i.zero = some z)
    (hsize : i.size = n) (hby : i.bytes = bytes) (hzs : z.cells.size = n) (hsz : 0 < n) (hb2 : bytes ≤ 1000)
    (v : Value) (M : List X) (hs : (Act.mk l.toArray ds).eval s = v) (hown : FOwn enc n e base w v M)
    (ad : Option Addr) (cap : Nat) (L : List X) (hx : (Act.mk l.toArray ds).eval x = .slice ad L.length cap) (hc : ad = none → cap = 0) (hv : FView enc w ad L)
    (hlen : M.length + L.length ≤ 3000000) (hbase : base ≤ w.heap.size)
    (h : ∀ v' w', FOwn enc n e base w' v' (M ++ L) → w.grownBy w' v.ownBlock → (v'.ownBlock = v.ownBlock ∨ v'.ownBlock = some w.heap.size) → K ⟨(l.set dd v').toArray, ds⟩ w') : o.wp P ⟨l.toArray, ds⟩ w K Q := by
  have hput : ∀ v', (Act.mk l.toArray ds).put o.dst v' = ⟨(l.set dd v').toArray, ds⟩ := fun v' => by rw [hd]; simp [Act.put]
  exact fappO hn h1 s x t ho base e i z bytes ht hi hz hsize hby hzs hsz hb2 v M hs hown ad cap L hx hc hv hlen hbase (fun v' w' a b c => by rw [hput]; exact h v' w' a b c)
theorem fappL {P : Program} {X : Type} {enc : X → List Value} {n : Nat} (hn : ∀ x, (enc x).length = n) (h1 : ∀ L, ∀ u ∈ fcells enc L, u.oneCell' = true) {w : World} {ops : Array Oper} {rest : List Oper} {o : Oper} {a : Act} {Q : Exit → Act → World → Prop} (hgd : o.guard = none) (s x : Operand) (t : TypeId) (ho : o.op = .call { callee := .builtin .append, args := #[s, x], argTypes := #[t, t] })
    (base : Nat) (e : TypeId) (i : TypeInfo) (z : Value) (bytes : Nat) (ht : P.underlying t = some (.slice e)) (hi : P.info? e = some i) (hz : i.zero = some z)
    (hsize : i.size = n) (hby : i.bytes = bytes) (hzs : z.cells.size = n) (hsz : 0 < n) (hb2 : bytes ≤ 1000)
    (v : Value) (M : List X) (hs : a.eval s = v) (hown : FOwn enc n e base w v M)
    (ad : Option Addr) (cap : Nat) (L : List X) (hx : a.eval x = .slice ad L.length cap) (hc : ad = none → cap = 0) (hv : FView enc w ad L)
    (hlen : M.length + L.length ≤ 3000000) (hbase : base ≤ w.heap.size)
    (h : ∀ v' w', FOwn enc n e base w' v' (M ++ L) → w.grownBy w' v.ownBlock → (v'.ownBlock = v.ownBlock ∨ v'.ownBlock = some w.heap.size) → wpList P ops Q rest (a.put o.dst v') w') : wpList P ops Q (o :: rest) a w := by
  refine wpList_plain hgd fun K hK => ?_
  exact fappO hn h1 s x t ho base e i z bytes ht hi hz hsize hby hzs hsz hb2 v M hs hown ad cap L hx hc hv hlen hbase (fun v' w' a b c => hK _ _ (h v' w' a b c))
theorem heap_newF (w : World) (o : Obj) : (w.alloc o).heap[w.heap.size]? = some o := by
  show (w.heap.push o)[w.heap.size]? = some o
  simp
theorem FOwn.empty {X : Type} {enc : X → List Value} {n : Nat} {T : TypeId} (w : World) : FOwn enc n T w.heap.size (w.alloc (Obj.cells #[] T)) (.slice (some ⟨w.heap.size, 0, none⟩) 0 0) ([] : List X) :=
  ⟨by simp [fcells], .inr ⟨w.heap.size, 0, #[], rfl, Nat.le_refl _, heap_newF w _, Nat.le_refl _, Nat.zero_le _, by simp, by simp [fcells]⟩⟩

end Go.Proofs.Ytdfjfodfnildiaa
namespace Go.Proofs.Ytdfjfodfnildiaa
open Go.ChangeShapes Go.WideShapes Go.ChangeAt Go.RowKit
open Go.ChangeMaps (open_string shut_string)
set_option linter.unusedVariables false
set_option maxRecDepth 100000

theorem oneIfI (o : Bool) (m : Int) (hm : (if o = true then (1 : Int) else 0) = m) (w : World) : Calls Try.prog 79 #[.bool o] w fun e w' => e = .returned (.int .i64 m) ∧ w' = w := by
  cases o <;> (simp at hm; subst hm)
  · go_enter Try.func79, Try.ntmps79
    go_wp2
    go_ret
    exact ⟨rfl, rfl⟩
  · go_enter Try.func79, Try.ntmps79
    go_wp2
    go_ret
    exact ⟨rfl, rfl⟩
theorem l1BitS (o : Bool) (m : Int) (hm : (if o = true then (1 : Int) else 0) = m) (w : World) : Calls Try.prog 68 #[.bool o] w fun e w' => e = .returned (.int .i64 m) ∧ w' = w := by
  cases o <;> (simp at hm; subst hm)
  · go_enter Try.func68, Try.ntmps68
    go_wp2
    go_ret
    exact ⟨rfl, rfl⟩
  · go_enter Try.func68, Try.ntmps68
    go_wp2
    go_ret
    exact ⟨rfl, rfl⟩

end Go.Proofs.Ytdfjfodfnildiaa
namespace Go.Proofs.Ytdfjfodfnildiaa
open Go.ChangeShapes Go.WideShapes Go.ChangeAt Go.RowKit
open Go.ChangeMaps (open_string shut_string)
set_option linter.unusedVariables false
set_option maxRecDepth 100000

theorem and255 (n : Int) : bits .and .i64 n 255 = n % 256 := by
  have h255 : (BitVec.ofInt 64 255).toNat = 2 ^ 8 - 1 := by decide
  have key : (BitVec.ofInt 64 n &&& BitVec.ofInt 64 255).toNat = (n % ((2 ^ 64 : Nat) : Int)).toNat % 2 ^ 8 := by
    rw [BitVec.toNat_and, BitVec.toNat_ofInt, h255, Nat.and_two_pow_sub_one_eq_mod]
  show IntKind.i64.wrap ((BitVec.ofInt 64 n &&& BitVec.ofInt 64 255).toNat : Nat) = n % 256
  rw [key, IntKind.wrap_i64]
  omega

def Cur (w : World) (cb : Nat) (ad : Option Addr) (len cap : Nat) : Prop :=
  ∃ i h : Int, 0 ≤ i ∧ i ≤ len ∧ w.heap[cb]? = some (.cells #[.slice ad len cap, .int .i64 i, .int .i64 h] 85 (0, 0))
theorem Cur.carry {w w' : World} {cb : Nat} {ad : Option Addr} {len cap : Nat} (h : Cur w cb ad len cap) (e : w'.heap[cb]? = w.heap[cb]?) : Cur w' cb ad len cap := by
  obtain ⟨i, h, a, b, c⟩ := h
  exact ⟨i, h, a, b, e.trans c⟩
theorem Cur.lt {w : World} {cb : Nat} {ad : Option Addr} {len cap : Nat} (h : Cur w cb ad len cap) : cb < w.heap.size := by
  obtain ⟨_, _, _, _, c⟩ := h
  exact (Array.getElem?_eq_some_iff.1 c).1
theorem cu_trans {a b c : World} {r : Option Nat} (h : a.grownBy b r) (k : b.grownBy c r) : a.grownBy c r :=
  ⟨k.os.trans h.os, k.tape.trans h.tape, k.output.trans h.output, Nat.le_trans h.size k.size, fun j hj hne => (k.block j (Nat.lt_of_lt_of_le hj h.size) hne).trans (h.block j hj hne)⟩
theorem grown_refl (a : World) (r : Option Nat) : a.grownBy a r := ⟨rfl, rfl, rfl, Nat.le_refl _, fun _ _ _ => rfl⟩
theorem grown_drewN {a b : World} {r : Option Nat} (h : a.grownBy b r) (n : Nat) : a.grownBy (b.drewN n) r := ⟨h.os, h.tape, h.output, h.size, h.block⟩
theorem cu_set {a b : World} {g : Nat} (h : a.grownBy b (some g)) (o : Nat) (v : Value) : a.grownBy (b.setCell ⟨g, o, none⟩ v) (some g) :=
  ⟨h.os, h.tape, h.output, by simpa using h.size, fun j hj hne => (Below.heap_setCell _ _ _ _ (fun e => hne (by rw [e]))).trans (h.block j hj hne)⟩

set_option maxHeartbeats 2000000 in
theorem drawByte (cb : Nat) (ad : Option Addr) (len cap : Nat) (f : Nat → Int) (w : World) (hc : Cur w cb ad len cap) (hv : View w ad len f) (hne : ∀ a, ad = some a → 0 < len → a.block ≠ cb) (hl : len ≤ 1048576) (hf : ∀ i, 0 ≤ f i ∧ f i ≤ 255) :
    Calls Try.prog 64 #[.pointer (some ⟨cb, 0, none⟩)] w fun e w' => ∃ x, e = .returned (.int .i64 x) ∧ 0 ≤ x ∧ x ≤ 255 ∧ Cur w' cb ad len cap ∧ w.grownBy w' (some cb) := by
  obtain ⟨i, h, hi0, hi1, hh⟩ := hc
  have hcell := fun j => cell_of_row w cb j _ _ _ hh
  have c0 : w.cell? ⟨cb, 0, none⟩ = some (.slice ad len cap) := by rw [hcell 0]; rfl
  have c1 : w.cell? ⟨cb, 1, none⟩ = some (.int .i64 i) := by rw [hcell 1]; rfl
  have c2 : w.cell? ⟨cb, 2, none⟩ = some (.int .i64 h) := by rw [hcell 2]; rfl
  have z1 : w.frozen? ⟨cb, 1, none⟩ = false := frozen_of_row w cb 1 _ _ hh
  have z2 : w.frozen? ⟨cb, 2, none⟩ = false := frozen_of_row w cb 2 _ _ hh
  clear hcell
  have h255 : ∀ n : Int, bits BinOp.and IntKind.i64 n 255 = n % 256 := and255
  by_cases hlt : i < len
  · obtain ⟨b, off, rfl, hcv⟩ := hv (by omega)
    have hbn : b ≠ cb := hne _ rfl (by omega)
    obtain ⟨k, rfl⟩ : ∃ k : Nat, i = k := ⟨i.toNat, by omega⟩
    have hck := hcv k (by omega)
    have hfk := hf k
    have hdl : decide ((k : Int) < (len : Int)) = true := by simp; omega
    go_enter Try.func64, Try.ntmps64
    go_wp2
    generalize wrap64 (wrap64 (h * 6364136223846793005) + 1442695040888963407) = h'
    have hh1 : (w.setCell ⟨cb, 2, none⟩ (.int .i64 h')).heap[cb]? = some (.cells #[.slice (some ⟨b, off, none⟩) len cap, .int .i64 k, .int .i64 h'] 85 (0, 0)) := heap_setCell_same w cb 2 _ _ _ hh
    have hg1 : w.grownBy (w.setCell ⟨cb, 2, none⟩ (.int .i64 h')) (some cb) := cu_set (grown_refl w _) 2 _
    have hk1 : (w.setCell ⟨cb, 2, none⟩ (.int .i64 h')).cell? ⟨b, off + k, none⟩ = some (.int .u8 (f k)) := by
      rw [World.cell?_setCell_other _ _ _ _ (fun e => hbn (by injection e with e1; exact e1.symm))]
      exact hck
    generalize w.setCell ⟨cb, 2, none⟩ (.int .i64 h') = w1 at *
    have d0 : w1.cell? ⟨cb, 0, none⟩ = some (.slice (some ⟨b, off, none⟩) len cap) := by rw [cell_of_row w1 cb 0 _ _ _ hh1]; rfl
    have d1 : w1.cell? ⟨cb, 1, none⟩ = some (.int .i64 k) := by rw [cell_of_row w1 cb 1 _ _ _ hh1]; rfl
    have d2 : w1.cell? ⟨cb, 2, none⟩ = some (.int .i64 h') := by rw [cell_of_row w1 cb 2 _ _ _ hh1]; rfl
    have y1 : w1.frozen? ⟨cb, 1, none⟩ = false := frozen_of_row w1 cb 1 _ _ hh1
    clear c0 c1 c2 z1 z2 hh hck hcv
    go_quiet (fail)
    go_wp2
    go_quiet (fail)
    go_wp2
    go_quiet (fail)
    go_wp2
    go_ret
    exact ⟨_, rfl, by omega, by omega, ⟨(k : Int) + 1, h', by omega, by omega, heap_setCell_same w1 cb 1 _ _ _ hh1⟩, grown_drewN (cu_set hg1 1 _) _⟩
  · have hdl : decide (i < (len : Int)) = false := by simp; omega
    go_enter Try.func64, Try.ntmps64
    go_wp2
    generalize wrap64 (wrap64 (h * 6364136223846793005) + 1442695040888963407) = h'
    have hh1 : (w.setCell ⟨cb, 2, none⟩ (.int .i64 h')).heap[cb]? = some (.cells #[.slice ad len cap, .int .i64 i, .int .i64 h'] 85 (0, 0)) := heap_setCell_same w cb 2 _ _ _ hh
    have hg1 : w.grownBy (w.setCell ⟨cb, 2, none⟩ (.int .i64 h')) (some cb) := cu_set (grown_refl w _) 2 _
    generalize w.setCell ⟨cb, 2, none⟩ (.int .i64 h') = w1 at *
    have d0 : w1.cell? ⟨cb, 0, none⟩ = some (.slice ad len cap) := by rw [cell_of_row w1 cb 0 _ _ _ hh1]; rfl
    have d1 : w1.cell? ⟨cb, 1, none⟩ = some (.int .i64 i) := by rw [cell_of_row w1 cb 1 _ _ _ hh1]; rfl
    have d2 : w1.cell? ⟨cb, 2, none⟩ = some (.int .i64 h') := by rw [cell_of_row w1 cb 2 _ _ _ hh1]; rfl
    clear c0 c1 c2 z1 z2 hh hv hne
    go_quiet (fail)
    go_wp2
    go_quiet (fail)
    go_wp2
    go_ret
    exact ⟨_, rfl, by omega, by omega, ⟨i, h', by omega, by omega, hh1⟩, grown_drewN (grown_drewN hg1 _) _⟩

structure Src (w : World) (cb : Nat) (ad : Option Addr) (len cap : Nat) (f : Nat → Int) : Prop where
  cur : Cur w cb ad len cap
  view : View w ad len f
  ne : ∀ a, ad = some a → 0 < len → a.block ≠ cb
  small : len ≤ 1048576
  bytes : ∀ i, 0 ≤ f i ∧ f i ≤ 255
theorem Src.grown {w w' : World} {cb : Nat} {ad : Option Addr} {len cap : Nat} {f : Nat → Int} (h : Src w cb ad len cap f) (hc : Cur w' cb ad len cap) (hg : w.grownBy w' (some cb)) : Src w' cb ad len cap f :=
  ⟨hc, h.view.carry (fun a e hp => hg.block _ (by obtain ⟨b, off, e2, hcv⟩ := h.view hp; have := World.block_lt_of_cell? w _ (hcv 0 hp); rw [e2] at e; cases e; exact this) (by have := h.ne a e hp; simpa using this)), h.ne, h.small, h.bytes⟩
theorem Src.later {w w' : World} {cb : Nat} {ad : Option Addr} {len cap : Nat} {f : Nat → Int} (h : Src w cb ad len cap f) (hb : Below w.heap.size w w') : Src w' cb ad len cap f :=
  ⟨h.cur.carry (hb.block _ h.cur.lt), h.view.carry (fun a e hp => hb.block _ (by obtain ⟨b, off, e2, hcv⟩ := h.view hp; have := World.block_lt_of_cell? w _ (hcv 0 hp); rw [e2] at e; cases e; exact this)), h.ne, h.small, h.bytes⟩

theorem drawByte' {cb : Nat} {ad : Option Addr} {len cap : Nat} {f : Nat → Int} {w : World} (hs : Src w cb ad len cap f) :
    Calls Try.prog 64 #[.pointer (some ⟨cb, 0, none⟩)] w fun e w' => ∃ x, e = .returned (.int .i64 x) ∧ 0 ≤ x ∧ x ≤ 255 ∧ Src w' cb ad len cap f ∧ w.grownBy w' (some cb) := by
  refine (drawByte cb ad len cap f w hs.cur hs.view hs.ne hs.small hs.bytes).mono ?_
  rintro e w' ⟨x, rfl, h0, h1, hc, hg⟩
  exact ⟨x, rfl, h0, h1, hs.grown hc hg, hg⟩

set_option maxHeartbeats 1000000 in
theorem drawBelow {cb : Nat} {ad : Option Addr} {len cap : Nat} {f : Nat → Int} {w : World} (hs : Src w cb ad len cap f) (n : Int) (h0 : 0 < n) (h1 : n ≤ 256) :
    Calls Try.prog 38 #[.pointer (some ⟨cb, 0, none⟩), .int .i64 n] w fun e w' => ∃ x, e = .returned (.int .i64 x) ∧ 0 ≤ x ∧ x < n ∧ Src w' cb ad len cap f ∧ w.grownBy w' (some cb) := by
  have hd0 : decide (n ≤ 0) = false := by simp; omega
  have hd1 : decide (n ≤ 256) = true := by simp; omega
  go_enter Try.func38, Try.ntmps38
  go_wp2_with fail
  go_at_call 64
  refine (drawByte' hs).mono ?_
  rintro e w' ⟨x, rfl, hx0, hx1, hs', hg⟩
  have hne : (n == 0) = false := by rw [beq_eq_false_iff_ne]; omega
  have hm0 := Int.emod_nonneg x (by omega : n ≠ 0)
  have hm1 := Int.emod_lt_of_pos x h0
  have htm : x.tmod n = x % n := Int.tmod_eq_emod_of_nonneg hx0
  go_wp2
  go_ret
  exact ⟨_, rfl, hm0, hm1, hs', hg⟩

theorem Cur.new {w : World} {ad : Option Addr} {len cap : Nat} {h : Int} : Cur (w.alloc (.cells #[.slice ad len cap, .int .i64 0, .int .i64 h] 85)) w.heap.size ad len cap :=
  ⟨0, h, by omega, by omega, heap_alloc_new w _⟩

set_option maxHeartbeats 1000000 in
theorem drawNew (ad : Option Addr) (len cap : Nat) (f : Nat → Int) (w : World) (hv : View w ad len f) (hB : ∀ a, ad = some a → 0 < len → a.block < w.heap.size) (hl : len ≤ 1048576) (hf : ∀ i, 0 ≤ f i ∧ f i ≤ 255) :
    Calls Try.prog 36 #[.slice ad len cap] w fun e w' => e = .returned (.pointer (some ⟨w.heap.size, 0, none⟩)) ∧ Src w' w.heap.size ad len cap f ∧ Below w.heap.size w w' ∧ w'.heap.size = w.heap.size + 1 := by
  go_enter Try.func36, Try.ntmps36
  go_wp2
  go_loop [3, 4] (fun x i => ∃ (k : Nat) (h : Int), k ≤ len ∧ i = .int .i64 k ∧ x = .int .i64 h) (fun _ i => len - (intOf i).toNat)
  case atStart => exact ⟨0, _, Nat.zero_le _, rfl, rfl⟩
  case round =>
    obtain ⟨k, h, hk, rfl, rfl⟩ := hrel
    by_cases hlt : k < len ∧ k < 4000
    · obtain ⟨b, off, rfl, hc⟩ := hv (by omega)
      have hck := hc k hlt.1
      have hfk := hf k
      have hd0 : decide ((k : Int) < (len : Int)) = true := by simp; omega
      have hd1 : decide ((k : Int) < 4000) = true := by simp; omega
      have hk1 : k < len := hlt.1
      clear hlt
      go_wp2
      go_round
      case rel => exact ⟨k + 1, _, by omega, by go_num, rfl⟩
      case measure => simp [intOf]; omega
    · have fin : ∀ h : Int, Src (w.alloc (.cells #[.slice ad len cap, .int .i64 0, .int .i64 h] 85)) w.heap.size ad len cap f := fun h =>
        ⟨Cur.new, hv.carry (fun a e hp => ((Below.refl w.heap.size w).alloc (Nat.le_refl _) _).block _ (hB a e hp)), fun a e hp => Nat.ne_of_lt (hB a e hp), hl, hf⟩
      by_cases hk2 : k < len
      · have hd0 : decide ((k : Int) < (len : Int)) = true := by simp; omega
        have hd1 : decide ((k : Int) < 4000) = false := by simp; omega
        clear hlt
        go_wp2
        go_ret
        exact ⟨rfl, fin h, (Below.refl _ _).alloc (Nat.le_refl _) _, by simp⟩
      · have hd0 : decide ((k : Int) < (len : Int)) = false := by simp; omega
        clear hlt
        go_wp2
        go_ret
        exact ⟨rfl, fin h, (Below.refl _ _).alloc (Nat.le_refl _) _, by simp⟩

set_option maxHeartbeats 1000000 in
theorem pickInt {cb : Nat} {ad : Option Addr} {len cap : Nat} {f : Nat → Int} {w : World} (hs : Src w cb ad len cap f) (b n c : Nat) (g : Nat → Int) (hb : b ≠ cb) (h0 : 0 < n) (h1 : n ≤ 256) (hg : ∀ i, i < n → w.cell? ⟨b, i, none⟩ = some (.int .i64 (g i))) :
    Calls Try.prog 90 #[.pointer (some ⟨cb, 0, none⟩), .slice (some ⟨b, 0, none⟩) n c] w fun e w' => ∃ i, i < n ∧ e = .returned (.int .i64 (g i)) ∧ Src w' cb ad len cap f ∧ w.grownBy w' (some cb) := by
  go_enter Try.func90, Try.ntmps90
  go_wp2_with fail
  go_at_call 38
  refine (drawBelow hs n (by omega) (by omega)).mono ?_
  rintro e w' ⟨x, rfl, hx0, hx1, hs', hgr⟩
  obtain ⟨i, rfl⟩ : ∃ i : Nat, x = i := ⟨x.toNat, by omega⟩
  have hi : i < n := by omega
  have hci : w'.cell? ⟨b, i, none⟩ = some (.int .i64 (g i)) := (World.cell?_of_block (a := ⟨b, i, none⟩) (hgr.block b (World.block_lt_of_cell? w _ (hg i hi)) (by simpa using hb))).trans (hg i hi)
  clear hg
  go_wp2
  go_ret
  exact ⟨i, hi, rfl, hs', hgr⟩


open Classical in
theorem pickIntP {cb : Nat} {ad : Option Addr} {len cap : Nat} {f : Nat → Int} {w : World} (hs : Src w cb ad len cap f) (P : Int → Prop) (b n c : Nat) (hb : b ≠ cb) (h0 : 0 < n) (h1 : n ≤ 256) (hg : ∀ i, i < n → ∃ y, w.cell? ⟨b, i, none⟩ = some (.int .i64 y) ∧ P y) :
    Calls Try.prog 90 #[.pointer (some ⟨cb, 0, none⟩), .slice (some ⟨b, 0, none⟩) n c] w fun e w' => ∃ y, e = .returned (.int .i64 y) ∧ P y ∧ Src w' cb ad len cap f ∧ w.grownBy w' (some cb) := by
  refine (pickInt hs b n c (fun i => if h : i < n then (hg i h).choose else 0) hb h0 h1 (fun i hi => by simp only [dif_pos hi]; exact (hg i hi).choose_spec.1)).mono ?_
  rintro e w' ⟨i, hi, rfl, hs', hgr⟩
  exact ⟨_, rfl, by simp only [dif_pos hi]; exact (hg i hi).choose_spec.2, hs', hgr⟩
theorem lit_at (w : World) (a : Array Value) (E i : Nat) {v : Value} (h : a[i]? = some v) : (w.alloc (.cells a E)).cell? ⟨w.heap.size, i, none⟩ = some v :=
  (cell_of_row _ w.heap.size i _ _ _ (heap_alloc_new w _)).trans h
structure Code0 (w : World) (ad : Option Addr) (len : Nat) (f : Nat → Int) : Prop where
  view : View w ad len f
  lt : ∀ a, ad = some a → 0 < len → a.block < w.heap.size
  small : len ≤ 1048576
  bytes : ∀ i, 0 ≤ f i ∧ f i ≤ 255
theorem Code0.later {w w' : World} {ad : Option Addr} {len : Nat} {f : Nat → Int} (h : Code0 w ad len f) {B : Nat} (hb : Below B w w') (hB : w.heap.size ≤ B) : Code0 w' ad len f :=
  ⟨h.view.carry (fun a e hp => hb.block _ (Nat.lt_of_lt_of_le (h.lt a e hp) hB)), fun a e hp => Nat.lt_of_lt_of_le (h.lt a e hp) hb.size, h.small, h.bytes⟩

theorem drawOnce {cb : Nat} {ad : Option Addr} {len cap : Nat} {f : Nat → Int} {w : World} (hs : Src w cb ad len cap f) (n : Int) (h0 : 0 < n) (h1 : n ≤ 256) :
    Calls Try.prog 39 #[.pointer (some ⟨cb, 0, none⟩), .int .i64 n] w fun e w' => ∃ b : Bool, e = .returned (.bool b) ∧ Src w' cb ad len cap f ∧ w.grownBy w' (some cb) := by
  go_enter Try.func39, Try.ntmps39
  go_wp2_with fail
  go_at_call 38
  refine (drawBelow hs n h0 h1).mono ?_
  rintro e w' ⟨x, rfl, hx0, hx1, hs', hg⟩
  go_wp2
  go_ret
  exact ⟨_, rfl, hs', hg⟩


end Go.Proofs.Ytdfjfodfnildiaa
namespace Go.Proofs.Ytdfjfodfnildiaa
open Go.ChangeShapes Go.WideShapes Go.ChangeAt Go.RowKit
open Go.ChangeMaps (open_string shut_string)
set_option linter.unusedVariables false
set_option maxRecDepth 100000

def Con (K : List Lk) (a b : Int) : Prop := ∀ S : Int → Prop, (∀ l, l ∈ K → (S l.a ↔ S l.b)) → S a → S b
theorem Con.refl (K : List Lk) (a : Int) : Con K a a := fun _ _ h => h
theorem Con.trans {K : List Lk} {a b c : Int} (h : Con K a b) (k : Con K b c) : Con K a c := fun S hS hs => k S hS (h S hS hs)
theorem Con.symm {K : List Lk} {a b : Int} (h : Con K a b) : Con K b a := by
  intro S hS hb
  by_cases ha : S a
  · exact ha
  · exact absurd hb (h (fun x => ¬ S x) (fun l hl => not_congr (hS l hl)) ha)
theorem Con.link {K : List Lk} {l : Lk} (h : l ∈ K) : Con K l.a l.b := fun _ hS hs => (hS l h).1 hs
theorem Con.sub {K M : List Lk} {a b : Int} (h : ∀ l, l ∈ K → l ∈ M) (k : Con K a b) : Con M a b := fun S hS hs => k S (fun l hl => hS l (h l hl)) hs
def InN (K : List Lk) (n : Nat) : Prop := ∀ l, l ∈ K → (0 ≤ l.a ∧ l.a < (n : Int)) ∧ (0 ≤ l.b ∧ l.b < (n : Int))
theorem InN.sub {K M : List Lk} {n : Nat} (h : InN M n) (k : ∀ l, l ∈ K → l ∈ M) : InN K n := fun l hl => h l (k l hl)
theorem Con.within {K : List Lk} {n : Nat} {a b : Int} (hK : InN K n) (h : Con K a b) (ha : 0 ≤ a ∧ a < (n : Int)) : 0 ≤ b ∧ b < (n : Int) :=
  h (fun x => 0 ≤ x ∧ x < (n : Int)) (fun l hl => ⟨fun _ => (hK l hl).2, fun _ => (hK l hl).1⟩) ha
def idx : Nat → List Bool → List Int
  | _, [] => []
  | k, b :: M => if b = true then (k : Int) :: idx (k + 1) M else idx (k + 1) M
theorem idx_snoc (M : List Bool) (b : Bool) : ∀ k, idx k (M ++ [b]) = idx k M ++ (if b = true then [((k + M.length : Nat) : Int)] else []) := by
  induction M with
  | nil => intro k; cases b <;> simp [idx]
  | cons x M ih =>
    intro k
    simp only [List.cons_append, idx, ih, List.length_cons]
    have e : k + 1 + M.length = k + (M.length + 1) := by omega
    rw [e]
    cases x <;> simp
theorem take_oneB (K : List Bool) {j : Nat} (h : j < K.length) : K.take (j + 1) = K.take j ++ [K.getD j false] := by
  rw [List.take_add_one, List.getElem?_eq_getElem h]
  simp [List.getD, h]
theorem idx_take (M : List Bool) {i : Nat} (h : i < M.length) : idx 0 (M.take (i + 1)) = idx 0 (M.take i) ++ (if M.getD i false = true then [(i : Int)] else []) := by
  rw [take_oneB M h, idx_snoc, List.length_take, Nat.min_eq_left (Nat.le_of_lt h), Nat.zero_add]
theorem idx_len (M : List Bool) : ∀ k, (idx k M).length ≤ M.length := by
  induction M with
  | nil => intro k; simp [idx]
  | cons x M ih => intro k; have := ih (k + 1); simp only [idx]; split <;> simp <;> omega
theorem idx_none (M : List Bool) (h : ∀ j, M.getD j false = false) : ∀ k, idx k M = [] := by
  induction M with
  | nil => intro k; rfl
  | cons x M ih =>
    intro k
    have h0 : x = false := h 0
    simp only [idx, h0]
    exact ih (fun j => h (j + 1)) (k + 1)
theorem idx_app (M N : List Bool) : ∀ k, idx k (M ++ N) = idx k M ++ idx (k + M.length) N := by
  induction M with
  | nil => intro k; simp [idx]
  | cons x M ih =>
    intro k
    have e : k + 1 + M.length = k + (M.length + 1) := by omega
    simp only [List.cons_append, idx, ih, List.length_cons, e]
    cases x <;> simp
theorem idx_mem (M : List Bool) (x : Int) : ∀ k : Nat, x ∈ idx k M ↔ ∃ j : Nat, j < M.length ∧ M.getD j false = true ∧ x = ((k + j : Nat) : Int) := by
  induction M with
  | nil => intro k; simp [idx]
  | cons y M ih =>
    intro k
    constructor
    · intro h
      have hh : (y = true ∧ x = (k : Int)) ∨ x ∈ idx (k + 1) M := by
        cases y
        · exact .inr (by simpa [idx] using h)
        · rcases (by simpa [idx] using h : x = (k : Int) ∨ x ∈ idx (k + 1) M) with q | q
          · exact .inl ⟨rfl, q⟩
          · exact .inr q
      rcases hh with ⟨hy, rfl⟩ | q
      · exact ⟨0, by simp, by simp [hy], by simp⟩
      · obtain ⟨j, h1, h2, h3⟩ := (ih (k + 1)).1 q
        exact ⟨j + 1, by simpa using h1, by simpa using h2, by rw [h3]; congr 1; omega⟩
    · rintro ⟨j, h1, h2, h3⟩
      cases j with
      | zero =>
        have : y = true := by simpa using h2
        simp [idx, this, h3]
      | succ j =>
        have q : x ∈ idx (k + 1) M := (ih (k + 1)).2 ⟨j, by simpa using h1, by simpa using h2, by rw [h3]; congr 1; omega⟩
        cases y <;> simp [idx, q]
theorem eq_of_getD {M N : List Bool} (hl : M.length = N.length) (h : ∀ j, j < M.length → M.getD j false = N.getD j false) : M = N := by
  refine List.ext_getElem hl (fun j h1 h2 => ?_)
  have := h j h1
  simpa [List.getD, h1, h2] using this
structure Marks (K : List Lk) (n : Nat) (a : Int) (M : List Bool) : Prop where
  len : M.length = n
  is : ∀ j : Nat, j < n → (M.getD j false = true ↔ Con K a (j : Int))
theorem Marks.unique {K : List Lk} {n : Nat} {a : Int} {M N : List Bool} (h : Marks K n a M) (k : Marks K n a N) : M = N := by
  refine eq_of_getD (by rw [h.len, k.len]) (fun j hj => ?_)
  rw [h.len] at hj
  exact Bool.eq_iff_iff.2 ((h.is j hj).trans (k.is j hj).symm)
theorem Marks.cut {K : List Lk} {n : Nat} {a : Int} {M : List Bool} (hK : InN K n) (ha : 0 ≤ a ∧ a < (n : Int)) (hn : n ≤ 5) (h : Marks K 5 a M) : Marks K n a (M.take n) ∧ idx 0 M = idx 0 (M.take n) := by
  refine ⟨⟨by rw [List.length_take, h.len]; omega, fun j hj => ?_⟩, ?_⟩
  · rw [← h.is j (by omega)]
    simp [List.getD, hj]
  · have e := idx_app (M.take n) (M.drop n) 0
    rw [List.take_append_drop] at e
    rw [e, idx_none (M.drop n), List.append_nil]
    intro j
    have : (M.drop n).getD j false = M.getD (n + j) false := by simp [List.getD, List.getElem?_drop]
    rw [this]
    by_cases hj : n + j < 5
    · cases q : M.getD (n + j) false
      · rfl
      · have := ((h.is (n + j) hj).1 q).within hK ha
        omega
    · simp [List.getD, List.getElem?_eq_none (show M.length ≤ n + j by rw [h.len]; omega)]
def markL (S : List Bool) (l : Lk) : List Bool := if S.getD l.a.toNat false = true ∨ S.getD l.b.toNat false = true then (S.set l.a.toNat true).set l.b.toNat true else S
theorem markL_len (S : List Bool) (l : Lk) : (markL S l).length = S.length := by unfold markL; split <;> simp
theorem foldM_len (K : List Lk) : ∀ S : List Bool, (K.foldl markL S).length = S.length := by
  induction K with
  | nil => intro S; rfl
  | cons l K ih => intro S; rw [List.foldl_cons, ih, markL_len]
theorem getD_set {S : List Bool} {i j : Nat} (hi : i < S.length) : (S.set i true).getD j false = if i = j then true else S.getD j false := by
  simp only [List.getD, List.getElem?_set]
  by_cases e : i = j
  · subst e; simp [hi]
  · simp [e]
theorem set_true {S : List Bool} {i : Nat} (h : S.getD i false = true) : S.set i true = S := by
  refine List.ext_getElem (by simp) (fun j h1 h2 => ?_)
  rw [List.getElem_set]
  split
  · rename_i e; subst e
    have : S[i]? = some S[i] := List.getElem?_eq_getElem h2
    simp [List.getD, this] at h
    exact h.symm
  · rfl
theorem cnt_set (S : List Bool) : ∀ i, i < S.length → (S.getD i false = true → (S.set i true).count true = S.count true) ∧ (S.getD i false = false → (S.set i true).count true = S.count true + 1) := by
  induction S with
  | nil => intro i h; simp at h
  | cons x S ih =>
    intro i hi
    cases i with
    | zero =>
      cases x
      · simp
      · simp
    | succ i =>
      have := ih i (by simpa using hi)
      simp only [List.set_cons_succ, List.count_cons, List.getD_cons_succ]
      refine ⟨fun h => by rw [this.1 h], fun h => by rw [this.2 h]; omega⟩
theorem cnt_set_le {S : List Bool} {i : Nat} (hi : i < S.length) : S.count true ≤ (S.set i true).count true := by
  cases q : S.getD i false
  · rw [(cnt_set S i hi).2 q]; omega
  · rw [(cnt_set S i hi).1 q]; omega
theorem cnt_set_eq {S : List Bool} {i : Nat} (hi : i < S.length) (h : (S.set i true).count true = S.count true) : S.getD i false = true := by
  cases q : S.getD i false
  · rw [(cnt_set S i hi).2 q] at h; omega
  · rfl
def Clo (S : List Bool) (l : Lk) : Prop := S.getD l.a.toNat false = S.getD l.b.toNat false
theorem toNat_lt' {x : Int} {n : Nat} (h : 0 ≤ x ∧ x < (n : Int)) : x.toNat < n := by omega
theorem mark_cnt {S : List Bool} {l : Lk} (ha : l.a.toNat < S.length) (hb : l.b.toNat < S.length) : S.count true ≤ (markL S l).count true ∧ ((markL S l).count true = S.count true → markL S l = S ∧ Clo S l) := by
  unfold markL
  split
  · rename_i h
    have h1 := cnt_set_le ha
    have h2 := cnt_set_le (S := S.set l.a.toNat true) (i := l.b.toNat) (by simpa using hb)
    refine ⟨by omega, fun e => ?_⟩
    have e1 : (S.set l.a.toNat true).count true = S.count true := by omega
    have q1 := cnt_set_eq ha e1
    have q2 := cnt_set_eq (S := S.set l.a.toNat true) (i := l.b.toNat) (by simpa using hb) (by omega)
    rw [set_true q1] at q2 ⊢
    rw [set_true q2]
    exact ⟨rfl, q1.trans q2.symm⟩
  · rename_i h
    refine ⟨Nat.le_refl _, fun _ => ⟨rfl, ?_⟩⟩
    unfold Clo
    cases q1 : S.getD l.a.toNat false
    · cases q2 : S.getD l.b.toNat false
      · rfl
      · exact absurd (.inr q2) h
    · exact absurd (.inl q1) h
theorem mark_clo {S : List Bool} {l : Lk} (h : Clo S l) : markL S l = S := by
  unfold markL
  split
  · rename_i q
    have q1 : S.getD l.a.toNat false = true := by rcases q with q | q; exact q; exact h.trans q
    have q2 : S.getD l.b.toNat false = true := h.symm.trans q1
    rw [set_true q1, set_true q2]
  · rfl
theorem round_cnt (K : List Lk) : ∀ S : List Bool, InN K S.length → S.count true ≤ (K.foldl markL S).count true ∧ ((K.foldl markL S).count true = S.count true → ∀ l, l ∈ K → Clo S l) := by
  induction K with
  | nil => intro S _; exact ⟨Nat.le_refl _, fun _ l hl => by cases hl⟩
  | cons x K ih =>
    intro S hS
    have hx := hS x (List.mem_cons_self ..)
    have m := mark_cnt (S := S) (l := x) (toNat_lt' hx.1) (toNat_lt' hx.2)
    have r := ih (markL S x) (fun l hl => by rw [markL_len]; exact hS l (List.mem_cons_of_mem _ hl))
    rw [List.foldl_cons]
    refine ⟨by omega, fun e l hl => ?_⟩
    have e1 : (markL S x).count true = S.count true := by omega
    obtain ⟨q1, q2⟩ := m.2 e1
    rcases List.mem_cons.1 hl with rfl | hl
    · exact q2
    · have := r.2 (by omega) l hl
      rwa [q1] at this
theorem round_clo (K : List Lk) : ∀ S : List Bool, (∀ l, l ∈ K → Clo S l) → K.foldl markL S = S := by
  induction K with
  | nil => intro S _; rfl
  | cons x K ih =>
    intro S hS
    rw [List.foldl_cons, mark_clo (hS x (List.mem_cons_self ..))]
    exact ih S (fun l hl => hS l (List.mem_cons_of_mem _ hl))
structure Sound (K : List Lk) (a : Nat) (S : List Bool) : Prop where
  at_ : S.getD a false = true
  con : ∀ j : Nat, S.getD j false = true → Con K (a : Int) (j : Int)
theorem getD_lt {S : List Bool} {i : Nat} (h : S.getD i false = true) : i < S.length := by
  by_cases hi : i < S.length
  · exact hi
  · simp [List.getD, List.getElem?_eq_none (Nat.le_of_not_lt hi)] at h
theorem Sound.set {K : List Lk} {a i : Nat} {S : List Bool} (h : Sound K a S) (hi : i < S.length) (hc : Con K (a : Int) (i : Int)) : Sound K a (S.set i true) := by
  refine ⟨?_, fun j hj => ?_⟩
  · rw [getD_set hi, h.at_]; split <;> rfl
  · rw [getD_set hi] at hj
    by_cases e : i = j
    · rw [← e]; exact hc
    · rw [if_neg e] at hj; exact h.con j hj
theorem Sound.ends {K : List Lk} {a : Nat} {S : List Bool} (h : Sound K a S) {l : Lk} (hl : l ∈ K) (h1 : 0 ≤ l.a) (h2 : 0 ≤ l.b) (hs : S.getD l.a.toNat false = true ∨ S.getD l.b.toNat false = true) : Con K (a : Int) l.a ∧ Con K (a : Int) l.b := by
  rcases hs with q | q
  · have := h.con _ q
    rw [Int.toNat_of_nonneg h1] at this
    exact ⟨this, this.trans (Con.link hl)⟩
  · have := h.con _ q
    rw [Int.toNat_of_nonneg h2] at this
    exact ⟨this.trans (Con.link hl).symm, this⟩
theorem Sound.mark {K : List Lk} {a : Nat} {S : List Bool} (h : Sound K a S) {l : Lk} (hl : l ∈ K) (hN : InN K S.length) : Sound K a (markL S l) := by
  obtain ⟨ha, hb⟩ := hN l hl
  unfold markL
  split
  · rename_i q
    obtain ⟨c1, c2⟩ := h.ends hl ha.1 hb.1 q
    refine (h.set (toNat_lt' ha) ?_).set (by simpa using toNat_lt' hb) ?_
    · rw [Int.toNat_of_nonneg ha.1]; exact c1
    · rw [Int.toNat_of_nonneg hb.1]; exact c2
  · exact h
theorem Sound.round {K : List Lk} {a : Nat} (M : List Lk) : ∀ S : List Bool, Sound K a S → (∀ l, l ∈ M → l ∈ K) → InN K S.length → Sound K a (M.foldl markL S) := by
  induction M with
  | nil => intro S h _ _; exact h
  | cons x M ih =>
    intro S h hM hN
    rw [List.foldl_cons]
    exact ih _ (h.mark (hM x (List.mem_cons_self ..)) hN) (fun l hl => hM l (List.mem_cons_of_mem _ hl)) (by rw [markL_len]; exact hN)
theorem Sound.start {K : List Lk} {a n : Nat} (h : a < n) : Sound K a ((List.replicate n false).set a true) := by
  refine ⟨by rw [getD_set (by simpa using h)]; simp, fun j hj => ?_⟩
  rw [getD_set (by simpa using h)] at hj
  by_cases e : a = j
  · subst e; exact Con.refl _ _
  · rw [if_neg e] at hj
    simp [List.getD, List.getElem?_replicate] at hj
    split at hj <;> simp at hj
theorem Sound.marks {K : List Lk} {a n : Nat} {S : List Bool} (h : Sound K a S) (hl : S.length = n) (hN : InN K n) (hc : ∀ l, l ∈ K → Clo S l) : Marks K n (a : Int) S := by
  refine ⟨hl, fun j hj => ⟨h.con j, fun q => ?_⟩⟩
  have := q (fun x => 0 ≤ x ∧ S.getD x.toNat false = true) (fun l hl => by
    have e := hc l hl
    unfold Clo at e
    have := hN l hl
    rw [e]
    constructor
    · exact fun h => ⟨this.2.1, h.2⟩
    · exact fun h => ⟨this.1.1, h.2⟩) ⟨by omega, by simpa using h.at_⟩
  simpa using this.2
def Far (K : List Lk) (i : Nat) (S : List Bool) : Prop := (∀ l, l ∈ K → Clo S l) ∨ i + 1 ≤ S.count true
theorem Far.step {K : List Lk} {i : Nat} {S : List Bool} (h : Far K i S) (hN : InN K S.length) : Far K (i + 1) (K.foldl markL S) := by
  by_cases c : ∀ l, l ∈ K → Clo S l
  · rw [round_clo K S c]; exact .inl c
  · have r := round_cnt K S hN
    rcases h with h | h
    · exact absurd h c
    · refine .inr ?_
      have : (K.foldl markL S).count true ≠ S.count true := fun e => c (r.2 e)
      omega
theorem Far.end_ {K : List Lk} {n : Nat} {S : List Bool} (h : Far K n S) (hl : S.length = n) : ∀ l, l ∈ K → Clo S l := by
  rcases h with h | h
  · exact h
  · have : S.count true ≤ S.length := List.count_le_length
    omega
theorem Far.start {K : List Lk} {a n : Nat} (h : a < n) : Far K 0 ((List.replicate n false).set a true) := by
  refine .inr ?_
  have : (List.replicate n false).getD a false = false := by simp [List.getD, h]
  rw [(cnt_set _ a (by simpa using h)).2 this]
  omega
def selL (f : Nat → Lk → Bool) : Nat → List Lk → List Lk
  | _, [] => []
  | i, l :: K => if f i l = true then l :: selL f (i + 1) K else selL f (i + 1) K
theorem selL_snoc (f : Nat → Lk → Bool) (K : List Lk) (x : Lk) : ∀ i, selL f i (K ++ [x]) = selL f i K ++ (if f (i + K.length) x = true then [x] else []) := by
  induction K with
  | nil => intro i; simp only [List.nil_append, selL, List.length_nil, Nat.add_zero]
  | cons l K ih =>
    intro i
    have e : i + 1 + K.length = i + (K.length + 1) := by omega
    simp only [List.cons_append, selL, ih, List.length_cons, e]
    split <;> simp
theorem take_oneK (K : List Lk) {j : Nat} (h : j < K.length) : K.take (j + 1) = K.take j ++ [K.getD j Lk.nil] := by
  rw [List.take_add_one, List.getElem?_eq_getElem h]
  simp [List.getD, h]
theorem selL_take (f : Nat → Lk → Bool) (K : List Lk) {k : Nat} (h : k < K.length) : selL f 0 (K.take (k + 1)) = selL f 0 (K.take k) ++ (if f k (K.getD k Lk.nil) = true then [K.getD k Lk.nil] else []) := by
  rw [take_oneK K h, selL_snoc, List.length_take, Nat.min_eq_left (Nat.le_of_lt h), Nat.zero_add]
theorem fold_take (f : Nat → Lk → Bool) (K : List Lk) (S : List Bool) {k : Nat} (h : k < K.length) : (selL f 0 (K.take (k + 1))).foldl markL S = if f k (K.getD k Lk.nil) = true then markL ((selL f 0 (K.take k)).foldl markL S) (K.getD k Lk.nil) else (selL f 0 (K.take k)).foldl markL S := by
  rw [selL_take f K h, List.foldl_append]
  split <;> simp
theorem selL_all (f : Nat → Lk → Bool) (K : List Lk) (h : ∀ i l, f i l = true) : ∀ i, selL f i K = K := by
  induction K with
  | nil => intro i; rfl
  | cons l K ih => intro i; simp only [selL, h, if_true, ih]
theorem selL_filter (f : Nat → Lk → Bool) (p : Lk → Bool) (K : List Lk) : ∀ i, (∀ j l, i ≤ j → j < i + K.length → f j l = p l) → selL f i K = K.filter p := by
  induction K with
  | nil => intro i _; rfl
  | cons l K ih =>
    intro i h
    have e := ih (i + 1) (fun j l h1 h2 => h j l (by omega) (by simp only [List.length_cons]; omega))
    simp only [selL, e, h i l (Nat.le_refl _) (by simp), List.filter_cons]
theorem selL_app (f : Nat → Lk → Bool) (K M : List Lk) : ∀ i, selL f i (K ++ M) = selL f i K ++ selL f (i + K.length) M := by
  induction K with
  | nil => intro i; simp [selL]
  | cons l K ih =>
    intro i
    have e : i + 1 + K.length = i + (K.length + 1) := by omega
    simp only [List.cons_append, selL, ih, List.length_cons, e]
    split <;> simp
theorem selL_mem (f : Nat → Lk → Bool) (K : List Lk) : ∀ i l, l ∈ selL f i K → l ∈ K := by
  induction K with
  | nil => intro i l h; exact h
  | cons x K ih =>
    intro i l h
    simp only [selL] at h
    split at h
    · rcases List.mem_cons.1 h with rfl | h
      · exact List.mem_cons_self ..
      · exact List.mem_cons_of_mem _ (ih _ _ h)
    · exact List.mem_cons_of_mem _ (ih _ _ h)

end Go.Proofs.Ytdfjfodfnildiaa
namespace Go.Proofs.Ytdfjfodfnildiaa
open Go.ChangeShapes Go.WideShapes Go.ChangeAt Go.RowKit
open Go.ChangeMaps (open_string shut_string)
set_option linter.unusedVariables false
set_option maxRecDepth 100000

structure B5 (w : World) (q : Nat) (M : List Bool) : Prop where
  at_ : ∀ i, i < 5 → w.cell? ⟨q, i, none⟩ = some (.bool (M.getD i false))
  fr : ∀ i, w.frozen? ⟨q, i, none⟩ = false
theorem B5.keep {w w' : World} {q : Nat} {M : List Bool} (h : B5 w q M) (k : w'.heap[q]? = w.heap[q]?) : B5 w' q M := ⟨fun i hi => (World.cell?_of_block (a := ⟨q, i, none⟩) k).trans (h.at_ i hi), fun i => (World.frozen?_of_block (a := ⟨q, i, none⟩) k).trans (h.fr i)⟩
theorem B5.below {w w' : World} {q n : Nat} {M : List Bool} (h : B5 w q M) (k : Below n w w') (hq : q < n) : B5 w' q M := h.keep (k.block q hq)
theorem B5.lt {w : World} {q : Nat} {M : List Bool} (h : B5 w q M) : q < w.heap.size := World.block_lt_of_cell? w _ (h.at_ 0 (by omega))
theorem B5.set {w : World} {q x : Nat} {M : List Bool} (h : B5 w q M) (hx : x < 5) (hl : M.length = 5) : B5 (w.setCell ⟨q, x, none⟩ (.bool true)) q (M.set x true) := by
  refine ⟨fun i hi => ?_, fun i => by rw [World.frozen?_setCell]; exact h.fr i⟩
  rw [getD_set (by omega)]
  by_cases e : x = i
  · subst e
    rw [World.cell?_setCell_same _ _ _ (h.at_ x hx), if_pos rfl]
  · rw [World.cell?_setCell_other _ _ _ _ (by intro q; simp only [Addr.mk.injEq] at q; omega), h.at_ i hi, if_neg e]
theorem B5.other {w : World} {q r x : Nat} {M : List Bool} {v : Value} (h : B5 w q M) (hr : r ≠ q) : B5 (w.setCell ⟨r, x, none⟩ v) q M := ⟨fun i hi => by
  rw [World.cell?_setCell_other _ _ _ _ (by intro q; simp only [Addr.mk.injEq] at q; omega), h.at_ i hi], fun i => by rw [World.frozen?_setCell]; exact h.fr i⟩
theorem B5.new5 (w : World) (t : TypeId) : B5 (w.alloc (Obj.cells #[.bool false, .bool false, .bool false, .bool false, .bool false] t)) w.heap.size (List.replicate 5 false) := by
  refine ⟨fun i hi => ?_, fun i => by simp [go_sem]⟩
  rcases (by omega : i = 0 ∨ i = 1 ∨ i = 2 ∨ i = 3 ∨ i = 4) with rfl | rfl | rfl | rfl | rfl <;> simp [go_sem]
def tst : Option Value → Bool
  | some (.bool b) => b
  | _ => false
def cntAt (w : World) (q : Nat) : Nat := ([tst (w.cell? ⟨q, 0, none⟩), tst (w.cell? ⟨q, 1, none⟩), tst (w.cell? ⟨q, 2, none⟩), tst (w.cell? ⟨q, 3, none⟩), tst (w.cell? ⟨q, 4, none⟩)] : List Bool).count true
theorem list5 {M : List Bool} (hl : M.length = 5) : M = [M.getD 0 false, M.getD 1 false, M.getD 2 false, M.getD 3 false, M.getD 4 false] := by
  obtain ⟨a, b, c, d, e, rfl⟩ : ∃ a b c d e, M = [a, b, c, d, e] := by
    match M, hl with
    | [a, b, c, d, e], _ => exact ⟨a, b, c, d, e, rfl⟩
  rfl
theorem cnt_at {w : World} {q : Nat} {M : List Bool} (h : B5 w q M) (hl : M.length = 5) : cntAt w q = M.count true := by
  unfold cntAt
  rw [h.at_ 0 (by omega), h.at_ 1 (by omega), h.at_ 2 (by omega), h.at_ 3 (by omega), h.at_ 4 (by omega)]
  simp only [tst]
  rw [← list5 hl]
theorem cnt5 (M : List Bool) (hl : M.length = 5) : M.count true ≤ 5 := by
  have : M.count true ≤ M.length := List.count_le_length
  omega
set_option maxHeartbeats 1000000 in
theorem markC (q x : Nat) (M : List Bool) (w : World) (h : B5 w q M) (hx : x < 5) :
    Calls Try.prog 65 #[.int .i64 (x : Int), .pointer (some ⟨q, 0, none⟩)] w fun e w' => e = .returned (.bool (!M.getD x false)) ∧ w' = w.setCell ⟨q, x, none⟩ (.bool true) := by
  have c := h.at_ x hx
  have ff := h.fr x
  obtain ⟨o, ho⟩ : ∃ o, M.getD x false = o := ⟨_, rfl⟩
  rw [ho] at c ⊢
  have b1 : (x : Int) < 5 := by omega
  have b2 : (0 : Int) ≤ (x : Int) := by omega
  clear h ho
  go_enter Try.func65, Try.ntmps65
  go_wp2
  go_ret
  exact ⟨rfl, rfl⟩

end Go.Proofs.Ytdfjfodfnildiaa
