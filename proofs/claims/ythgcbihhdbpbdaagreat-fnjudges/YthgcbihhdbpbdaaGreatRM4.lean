import Derived.Test.YthgcbihhdbpbdaaGreatRKWPort5
import Derived.Test.YthgcbihhdbpbdaaGreatRKWPort6
import Derived.Deep.Slices
namespace Go.Proofs.YthgcbihhdbpbdaaGreat
open Go.ChangeShapes Go.WideShapes Go.ChangeAt Go.RowKit
open Go.ChangeMaps (open_string shut_string)
set_option linter.unusedVariables false
set_option maxRecDepth 100000
set_option maxHeartbeats 32000000
set_option linter.unusedSimpArgs false
open Go.Proofs.Tryz
def Pt.nil : Pt := ⟨false, false, 0, 0, 0, 0, 0, 0, 0, 0, false⟩
theorem H3 : Ai Pt.nil = true := by decide
def Bp (id : Int) (L : List Pt) : Bool := decide (1 ≤ id ∧ id ≤ 9) && (decide (1 ≤ L.length ∧ L.length ≤ 4) && L.all Ai)
theorem CQ {id : Int} {L : List Pt} (h : Bp id L = true) : (1 ≤ id ∧ id ≤ 9) ∧ (1 ≤ L.length ∧ L.length ≤ 4) ∧ ∀ i, Ai (L.getD i Pt.nil) = true := by
 simp only [Bp, Bool.and_eq_true, decide_eq_true_eq, List.all_eq_true] at h;refine ⟨h.1, h.2.1, fun i => ?_⟩;by_cases hi : i < L.length
 ·
  have : L.getD i Pt.nil = L[i] := by simp [List.getD, hi]
  rw [this];exact h.2.2 _ (List.getElem_mem hi)
 have : L.getD i Pt.nil = Pt.nil := by simp [List.getD, List.getElem?_eq_none (by omega : L.length ≤ i)]
 rw [this];exact H3
def BO (id : Int) (x : Pt) : Bool := x.has && (!(x.b == id) && (decide (x.r < id) && (decide (x.c < 20) && decide (x.h < 8))))
def Fr (x y : Pt) : Bool := CD x.r x.c x.b x.p y.r y.c y.b y.p
def CR (id : Int) (L : List Pt) : Nat → Option Nat
 | 0 => none
 | n + 1 => match CR id L n with
  | none => if BO id (L.getD n Pt.nil) then some n else none
  | some k => if BO id (L.getD n Pt.nil) && Fr (L.getD n Pt.nil) (L.getD k Pt.nil) then some n else some k
theorem GI {id : Int} {L : List Pt} {n k : Nat} (h : CR id L n = some k) : k < n ∧ BO id (L.getD k Pt.nil) = true := by
 induction n generalizing k with
 | zero => cases h
 | succ n ih =>
  simp only [CR] at h;cases hb : CR id L n with
  | none =>
   rw [hb] at h;simp only [] at h;cases hc : BO id (L.getD n Pt.nil) with
   | false => rw [hc] at h; cases h
   | true =>
    rw [hc] at h;cases h
    exact ⟨by omega, hc⟩
  | some m =>
   rw [hb] at h;simp only [] at h;split at h
   ·
    rename_i q
    cases h
    simp only [Bool.and_eq_true] at q;exact ⟨by omega, q.1⟩
   cases h
   obtain ⟨a, b⟩ := ih hb;exact ⟨by omega, b⟩
def CE (id : Int) (L : List Pt) : Option Nat := if Bp id L then CR id L L.length else none
theorem FF {id : Int} {L : List Pt} {k : Nat} (h : CE id L = some k) : Bp id L = true ∧ k < L.length ∧ BO id (L.getD k Pt.nil) = true := by
 unfold CE at h;cases hb : Bp id L with
 | false => simp [hb] at h
 | true =>
  simp only [hb, if_true] at h;exact ⟨rfl, GI h⟩
def Bm (id : Int) (L : List Pt) (port : Int) : Int × Int × Int × Int :=
 if Bp id L && decide (0 ≤ port ∧ port < (L.length : Int)) then (match CE id L with
  | none => (id, 0, id, port)
  | some k => ((L.getD k Pt.nil).r, (L.getD k Pt.nil).c + 1, id, port)) else (0, 0, 0, 0)
def EF (id : Int) (L : List Pt) : Int := match CE id L with
 | none => 0
 | some k => (L.getD k Pt.nil).h + 1
def Cm (id : Int) (L : List Pt) (i : Nat) : Int :=
 if CE id L = some i then 1 else if (L.getD i Pt.nil).has && CD (L.getD i Pt.nil).r (L.getD i Pt.nil).c (L.getD i Pt.nil).b (L.getD i Pt.nil).p (Bm id L i).1 (Bm id L i).2.1 (Bm id L i).2.2.1 (Bm id L i).2.2.2 then 3 else 2
def Dx (x : Pt) (role : Int) : Pt := if x.up then CA x role else x
def Ar (id : Int) (L : List Pt) : List Pt := if Bp id L then (List.range L.length).map fun i => Dx (L.getD i Pt.nil) (Cm id L i) else L
theorem GG (id : Int) (L : List Pt) : (Ar id L).length = L.length := by unfold Ar; split <;> simp
def Dy (x : Pt) : Int := if (x.ro = 1 ∨ x.ro = 2) ∧ 0 < x.wa then x.wa - 1 else x.wa
def BG (x : Pt) : Pt := ⟨(Az x).up, (Az x).has, (Az x).r, (Az x).c, (Az x).b, (Az x).p, (Az x).h, (Az x).l, (Az x).ro, Dy (Az x), BC (Az x).ro (Dy (Az x))⟩
theorem GF (x : Pt) : (Az x).up = x.up ∧ (Az x).ro = x.ro ∧ (Az x).wa = x.wa ∧ (Az x).op = x.op := by
 unfold Az;split
 ·
  split
  ·
   exact ⟨rfl, rfl, rfl, rfl⟩
  exact ⟨rfl, rfl, rfl, rfl⟩
 exact ⟨rfl, rfl, rfl, rfl⟩
theorem GS {x : Pt} : Ai x = true ↔ ((0 ≤ x.ro ∧ x.ro ≤ 3) ∧ x.up = Cb x.ro ∧ x.op = BC x.ro x.wa ∧ (0 ≤ x.wa ∧ x.wa ≤ 4) ∧ Ca x = true) := by
 simp [Ai, Cv]
attribute [local go_sem] ji ja
def AJ (x : Pt) : List Value := [.bool x.up, .bool x.has, ji x.r, ji x.c, ji x.b, ji x.p, ji x.h, ji x.l, ji x.ro, ji x.wa, .bool x.op]
theorem AK (x : Pt) : (AJ x).length = 11 := rfl
theorem GK (L : List Pt) : ∀ u ∈ Ac AJ L, u.oneCell' = true := by
 induction L with
 | nil => intro u h; cases h
 | cons x L ih =>
  intro u h;simp only [Ac, AJ, List.mem_append, List.mem_cons, List.not_mem_nil, or_false] at h;rcases h with (rfl | rfl | rfl | rfl | rfl | rfl | rfl | rfl | rfl | rfl | rfl) | h
  ·
   rfl
  ·
   rfl
  ·
   rfl
  ·
   rfl
  ·
   rfl
  ·
   rfl
  ·
   rfl
  ·
   rfl
  ·
   rfl
  ·
   rfl
  ·
   rfl
  exact ih u h
structure BL (w : World) (b o : Nat) (x : Pt) : Prop where
 c0 : w.cell? (ja b o) = some (.bool x.up)
 c1 : w.cell? ⟨b, o + 1, none⟩ = some (.bool x.has)
 c2 : w.cell? ⟨b, o + 2, none⟩ = some (ji x.r)
 c3 : w.cell? ⟨b, o + 3, none⟩ = some (ji x.c)
 c4 : w.cell? ⟨b, o + 4, none⟩ = some (ji x.b)
 c5 : w.cell? ⟨b, o + 5, none⟩ = some (ji x.p)
 c6 : w.cell? ⟨b, o + 6, none⟩ = some (ji x.h)
 c7 : w.cell? ⟨b, o + 7, none⟩ = some (ji x.l)
 c8 : w.cell? ⟨b, o + 8, none⟩ = some (ji x.ro)
 c9 : w.cell? ⟨b, o + 9, none⟩ = some (ji x.wa)
 c10 : w.cell? ⟨b, o + 10, none⟩ = some (.bool x.op)
theorem BL.all {w : World} {b o : Nat} {x : Pt} (h : BL w b o x) : w.cell? (ja b o) = some (.bool x.up) ∧ w.cell? ⟨b, o + 1, none⟩ = some (.bool x.has) ∧ w.cell? ⟨b, o + 2, none⟩ = some (ji x.r) ∧ w.cell? ⟨b, o + 3, none⟩ = some (ji x.c) ∧ w.cell? ⟨b, o + 4, none⟩ = some (ji x.b) ∧ w.cell? ⟨b, o + 5, none⟩ = some (ji x.p) ∧ w.cell? ⟨b, o + 6, none⟩ = some (ji x.h) ∧ w.cell? ⟨b, o + 7, none⟩ = some (ji x.l) ∧ w.cell? ⟨b, o + 8, none⟩ = some (ji x.ro) ∧ w.cell? ⟨b, o + 9, none⟩ = some (ji x.wa) ∧ w.cell? ⟨b, o + 10, none⟩ = some (.bool x.op) := ⟨h.c0, h.c1, h.c2, h.c3, h.c4, h.c5, h.c6, h.c7, h.c8, h.c9, h.c10⟩
theorem BV {w : World} {b o : Nat} {x : Pt} (h : ∀ j v, (AJ x)[j]? = some v → w.cell? ⟨b, o + j, none⟩ = some v) : BL w b o x := ⟨h 0 _ rfl, h 1 _ rfl, h 2 _ rfl, h 3 _ rfl, h 4 _ rfl, h 5 _ rfl, h 6 _ rfl, h 7 _ rfl, h 8 _ rfl, h 9 _ rfl, h 10 _ rfl⟩
theorem CB (w : World) (g o : Nat) (x : Pt) : CN w g o (AJ x) = (((((((((((w.setCell (ja g o) (.bool x.up)).setCell ⟨g, o + 1, none⟩ (.bool x.has)).setCell ⟨g, o + 2, none⟩ (ji x.r)).setCell ⟨g, o + 3, none⟩ (ji x.c)).setCell ⟨g, o + 4, none⟩ (ji x.b)).setCell ⟨g, o + 5, none⟩ (ji x.p)).setCell ⟨g, o + 6, none⟩ (ji x.h)).setCell ⟨g, o + 7, none⟩ (ji x.l)).setCell ⟨g, o + 8, none⟩ (ji x.ro)).setCell ⟨g, o + 9, none⟩ (ji x.wa)).setCell ⟨g, o + 10, none⟩ (.bool x.op)) := rfl
theorem FW : (prog.info? 70).map (fun i => (i.zero, i.size, i.bytes)) = some (some (.agg #[.bool false, .bool false, ji 0, ji 0, ji 0, ji 0, ji 0, ji 0, ji 0, ji 0, .bool false]), 11, 80) := by kernel_rfl
structure Ab (w : World) (q : Nat) (id : Int) (v : Value) : Prop where
 c0 : w.cell? (ja q 0) = some (ji id)
 c1 : w.cell? (ja q 1) = some v
theorem Ab.keep {w w' : World} {q : Nat} {id : Int} {v : Value} (h : Ab w q id v) (k : w'.heap[q]? = w.heap[q]?) : Ab w' q id v :=
 ⟨(World.cell?_of_block (a := (ja q 0)) k).trans h.c0, (World.cell?_of_block (a := (ja q 1)) k).trans h.c1⟩
theorem Ab.below {w w' : World} {q n : Nat} {id : Int} {v : Value} (h : Ab w q id v) (k : Below n w w') (hq : q < n) : Ab w' q id v := h.keep (k.block q hq)
theorem Ab.lt {w : World} {q : Nat} {id : Int} {v : Value} (h : Ab w q id v) : q < w.heap.size := World.block_lt_of_cell? w _ h.c0
theorem Ab.new (w : World) (t : TypeId) (id : Int) (v : Value) : Ab (w.alloc (Obj.cells #[ji id, v] t)) w.heap.size id v := by
 refine ⟨?_, ?_⟩ <;> simp [go_sem]
theorem Ab.alloc {w : World} {q : Nat} {id : Int} {v : Value} (h : Ab w q id v) (o : Obj) : Ab (w.alloc o) q id v := h.keep (Below.heap_alloc w o q h.lt)
theorem Al {w : World} (o : Obj) : Bw w (w.alloc o) := (Below.refl _ _).alloc (Nat.le_refl _) _
structure AP (w : World) (q : Nat) (id : Int) (v : Value) : Prop where
 at_ : Ab w q id v
 fr : ∀ i, w.frozen? (ja q i) = false
theorem AP.keep {w w' : World} {q : Nat} {id : Int} {v : Value} (h : AP w q id v) (k : w'.heap[q]? = w.heap[q]?) : AP w' q id v :=
 ⟨h.at_.keep k, fun i => (World.frozen?_of_block (a := (ja q i)) k).trans (h.fr i)⟩
theorem AP.lt {w : World} {q : Nat} {id : Int} {v : Value} (h : AP w q id v) : q < w.heap.size := h.at_.lt
theorem AP.below {w w' : World} {q n : Nat} {id : Int} {v : Value} (h : AP w q id v) (k : Below n w w') (hq : q < n) : AP w' q id v := h.keep (k.block q hq)
theorem AP.new (w : World) (t : TypeId) (id : Int) (v : Value) : AP (w.alloc (Obj.cells #[ji id, v] t)) w.heap.size id v := ⟨Ab.new w t id v, fun i => by simp [go_sem]⟩
theorem AP.put {w : World} {q : Nat} {id : Int} {v : Value} (h : AP w q id v) (id' : Int) (v' : Value) : AP ((w.setCell (ja q 0) (ji id')).setCell (ja q 1) v') q id' v' := by
 have e1 : (w.setCell (ja q 0) (ji id')).cell? (ja q 1) = some v := (AC (by decide)).trans h.at_.c1;refine ⟨⟨(AC (by decide)).trans (Aj h.at_.c0), Aj e1⟩, fun i => ?_⟩;rw [World.frozen?_setCell, World.frozen?_setCell]; exact h.fr i
end Go.Proofs.YthgcbihhdbpbdaaGreat
