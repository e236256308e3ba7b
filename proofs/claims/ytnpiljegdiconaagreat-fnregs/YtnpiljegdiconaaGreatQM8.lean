import Derived.Test.YtnpiljegdiconaaGreatQKWBr5
namespace Go.Proofs.YtnpiljegdiconaaGreat
open Go.ChangeShapes Go.WideShapes Go.ChangeAt Go.RowKit
open Go.ChangeMaps (open_string shut_string)
set_option linter.unusedVariables false
set_option maxRecDepth 100000
structure VBox (w : World) (q : Nat) (r c b p : Int) : Prop where
 at_ : VecAt w q r c b p
 fr : ∀ i, w.frozen? ⟨q, i, none⟩ = false
theorem VBox.lt {w : World} {q : Nat} {r c b p : Int} (h : VBox w q r c b p) : q < w.heap.size := World.block_lt_of_cell? w _ h.at_.1
theorem VBox.below {w w' : World} {q n : Nat} {r c b p : Int} (h : VBox w q r c b p) (k : Below n w w') (hq : q < n) : VBox w' q r c b p :=
 ⟨h.at_.below k hq, fun i => (World.frozen?_of_block (a := ⟨q, i, none⟩) (k.block q hq)).trans (h.fr i)⟩
structure Ou where
 k : Int
 pt : Int
 r : Int
 c : Int
 b : Int
 p : Int
 h : Int
 on : Bool
def Ou.nil : Ou := ⟨0, 0, 0, 0, 0, 0, 0, false⟩
def ouEnc (x : Ou) : List Value := [.int .i64 x.k, .int .i64 x.pt, .int .i64 x.r, .int .i64 x.c, .int .i64 x.b, .int .i64 x.p, .int .i64 x.h, .bool x.on]
theorem ouEnc_len (x : Ou) : (ouEnc x).length = 8 := rfl
theorem ouEnc_ones (L : List Ou) : ∀ u ∈ fcells ouEnc L, u.oneCell' = true := by
 induction L with
 | nil => intro u h; cases h
 | cons x L ih =>
  intro u h;simp only [fcells, ouEnc, List.mem_append, List.mem_cons, List.not_mem_nil, or_false] at h;rcases h with (rfl | rfl | rfl | rfl | rfl | rfl | rfl | rfl) | h
  ·
   rfl
  ·
   rfl
  ·
   rfl
  ·
   rfl
  ·
   rfl
  ·
   rfl
  ·
   rfl
  ·
   rfl
  exact ih u h
structure OuAtO (w : World) (b o : Nat) (x : Ou) : Prop where
 c0 : w.cell? ⟨b, o, none⟩ = some (.int .i64 x.k)
 c1 : w.cell? ⟨b, o + 1, none⟩ = some (.int .i64 x.pt)
 c2 : w.cell? ⟨b, o + 2, none⟩ = some (.int .i64 x.r)
 c3 : w.cell? ⟨b, o + 3, none⟩ = some (.int .i64 x.c)
 c4 : w.cell? ⟨b, o + 4, none⟩ = some (.int .i64 x.b)
 c5 : w.cell? ⟨b, o + 5, none⟩ = some (.int .i64 x.p)
 c6 : w.cell? ⟨b, o + 6, none⟩ = some (.int .i64 x.h)
 c7 : w.cell? ⟨b, o + 7, none⟩ = some (.bool x.on)
theorem ouAtO_of {w : World} {b o : Nat} {x : Ou} (h : ∀ j v, (ouEnc x)[j]? = some v → w.cell? ⟨b, o + j, none⟩ = some v) : OuAtO w b o x := ⟨h 0 _ rfl, h 1 _ rfl, h 2 _ rfl, h 3 _ rfl, h 4 _ rfl, h 5 _ rfl, h 6 _ rfl, h 7 _ rfl⟩
theorem ouInfo : (Tryz.prog.info? 114).map (fun i => (i.zero, i.size, i.bytes)) = some (some (.agg #[.int .i64 0, .int .i64 0, .int .i64 0, .int .i64 0, .int .i64 0, .int .i64 0, .int .i64 0, .bool false]), 8, 64) := by kernel_rfl
theorem FView.oneO (w : World) (t : TypeId) (x : Ou) : FView ouEnc (w.alloc (Obj.cells #[.int .i64 x.k, .int .i64 x.pt, .int .i64 x.r, .int .i64 x.c, .int .i64 x.b, .int .i64 x.p, .int .i64 x.h, .bool x.on] t)) (some ⟨w.heap.size, 0, none⟩) [x] := by
 intro _;refine ⟨w.heap.size, 0, rfl, fun j v hv => ?_⟩;have hj : j < 8 := by
  have := (List.getElem?_eq_some_iff.1 hv).1;simpa [fcells, ouEnc] using this
 rcases (by omega : j = 0 ∨ j = 1 ∨ j = 2 ∨ j = 3 ∨ j = 4 ∨ j = 5 ∨ j = 6 ∨ j = 7) with rfl | rfl | rfl | rfl | rfl | rfl | rfl | rfl
 ·
  cases hv; simp [go_sem]
 ·
  cases hv; simp [go_sem]
 ·
  cases hv; simp [go_sem]
 ·
  cases hv; simp [go_sem]
 ·
  cases hv; simp [go_sem]
 ·
  cases hv; simp [go_sem]
 ·
  cases hv; simp [go_sem]
 cases hv; simp [go_sem]
def gateO (i : Nat) (on : Bool) : Ou := ⟨2, i, 0, 0, 0, 0, 0, on⟩
def gatesTo (L M : List Pt) : Nat → List Ou
 | 0 => []
 | n + 1 => gatesTo L M n ++ if (M.getD n Pt.nil).op = (L.getD n Pt.nil).op then [] else [gateO n (M.getD n Pt.nil).op]
def toldO (id : Int) (M : List Pt) (i : Nat) : Ou := ⟨1, i, (ownR id M i).1, (ownR id M i).2.1, (ownR id M i).2.2.1, (ownR id M i).2.2.2, hopsR id M, false⟩
def toldTo (id : Int) (M : List Pt) : Nat → List Ou
 | 0 => []
 | n + 1 => toldTo id M n ++ if (M.getD n Pt.nil).ro = 2 then [toldO id M n] else []
theorem gates_len (L M : List Pt) (n : Nat) : (gatesTo L M n).length ≤ n := by
 induction n with
 | zero => simp [gatesTo]
 | succ n ih => simp only [gatesTo, List.length_append]; split <;> simp <;> omega
theorem told_len (id : Int) (M : List Pt) (n : Nat) : (toldTo id M n).length ≤ n := by
 induction n with
 | zero => simp [toldTo]
 | succ n ih => simp only [toldTo, List.length_append]; split <;> simp <;> omega
theorem gates_yes {L M : List Pt} {n : Nat} {h g : Pt} (hh : M.getD n Pt.nil = h) (hg : L.getD n Pt.nil = g) (e : h.op = g.op) : gatesTo L M (n + 1) = gatesTo L M n := by
 simp only [gatesTo, hh, hg]; rw [if_pos e, List.append_nil]
theorem gates_no {L M : List Pt} {n : Nat} {h g : Pt} (hh : M.getD n Pt.nil = h) (hg : L.getD n Pt.nil = g) (e : h.op ≠ g.op) : gatesTo L M (n + 1) = gatesTo L M n ++ [gateO n h.op] := by
 simp only [gatesTo, hh, hg]; rw [if_neg e]
theorem told_yes {id : Int} {M : List Pt} {n : Nat} {h : Pt} (hh : M.getD n Pt.nil = h) (e : h.ro = 2) : toldTo id M (n + 1) = toldTo id M n ++ [toldO id M n] := by
 simp only [toldTo, hh]; rw [if_pos e]
theorem told_no {id : Int} {M : List Pt} {n : Nat} {h : Pt} (hh : M.getD n Pt.nil = h) (e : h.ro ≠ 2) : toldTo id M (n + 1) = toldTo id M n := by
 simp only [toldTo, hh]; rw [if_neg e, List.append_nil]
end Go.Proofs.YtnpiljegdiconaaGreat
