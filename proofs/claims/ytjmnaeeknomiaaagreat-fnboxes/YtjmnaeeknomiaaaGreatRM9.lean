import Derived.Test.YtjmnaeeknomiaaaGreatRKWBr6
namespace Go.Proofs.YtjmnaeeknomiaaaGreat
open Go.ChangeShapes Go.WideShapes Go.ChangeAt Go.RowKit
open Go.ChangeMaps (open_string shut_string)
set_option linter.unusedVariables false
set_option maxRecDepth 100000
set_option maxHeartbeats 32000000
set_option linter.unusedSimpArgs false
open Go.Proofs.Tryz
structure Ou where
 k : Int
 pt : Int
 r : Int
 c : Int
 b : Int
 p : Int
 h : Int
 on : Bool
def Ou.nil : Ou := ⟨0, 0, 0, 0, 0, 0, 0, false⟩
def Ag (x : Ou) : List Value := [ji x.k, ji x.pt, ji x.r, ji x.c, ji x.b, ji x.p, ji x.h, .bool x.on]
theorem BN (x : Ou) : (Ag x).length = 8 := rfl
theorem Dz (L : List Ou) : ∀ u ∈ Aa Ag L, u.oneCell' = true := by
 induction L with
 | nil => intro u h; cases h
 | cons x L ih =>
  intro u h;simp only [Aa, Ag, List.mem_append, List.mem_cons, List.not_mem_nil, or_false] at h;rcases h with (rfl | rfl | rfl | rfl | rfl | rfl | rfl | rfl) | h
  ·
   rfl
  ·
   rfl
  ·
   rfl
  ·
   rfl
  ·
   rfl
  ·
   rfl
  ·
   rfl
  ·
   rfl
  exact ih u h
structure Cj (w : World) (b o : Nat) (x : Ou) : Prop where
 c0 : w.cell? (ja b o) = some (ji x.k)
 c1 : w.cell? ⟨b, o + 1, none⟩ = some (ji x.pt)
 c2 : w.cell? ⟨b, o + 2, none⟩ = some (ji x.r)
 c3 : w.cell? ⟨b, o + 3, none⟩ = some (ji x.c)
 c4 : w.cell? ⟨b, o + 4, none⟩ = some (ji x.b)
 c5 : w.cell? ⟨b, o + 5, none⟩ = some (ji x.p)
 c6 : w.cell? ⟨b, o + 6, none⟩ = some (ji x.h)
 c7 : w.cell? ⟨b, o + 7, none⟩ = some (.bool x.on)
theorem Cj.all {w : World} {b o : Nat} {x : Ou} (h : Cj w b o x) : w.cell? (ja b o) = some (ji x.k) ∧ w.cell? ⟨b, o + 1, none⟩ = some (ji x.pt) ∧ w.cell? ⟨b, o + 2, none⟩ = some (ji x.r) ∧ w.cell? ⟨b, o + 3, none⟩ = some (ji x.c) ∧ w.cell? ⟨b, o + 4, none⟩ = some (ji x.b) ∧ w.cell? ⟨b, o + 5, none⟩ = some (ji x.p) ∧ w.cell? ⟨b, o + 6, none⟩ = some (ji x.h) ∧ w.cell? ⟨b, o + 7, none⟩ = some (.bool x.on) := ⟨h.c0, h.c1, h.c2, h.c3, h.c4, h.c5, h.c6, h.c7⟩
theorem E8 {w : World} {b o : Nat} {x : Ou} (h : ∀ j v, (Ag x)[j]? = some v → w.cell? ⟨b, o + j, none⟩ = some v) : Cj w b o x := ⟨h 0 _ rfl, h 1 _ rfl, h 2 _ rfl, h 3 _ rfl, h 4 _ rfl, h 5 _ rfl, h 6 _ rfl, h 7 _ rfl⟩
theorem Es : (prog.info? 77).map (fun i => (i.zero, i.size, i.bytes)) = some (some (.agg #[ji 0, ji 0, ji 0, ji 0, ji 0, ji 0, ji 0, .bool false]), 8, 64) := by kernel_rfl
theorem AH.oneO (w : World) (t : TypeId) (x : Ou) : AH Ag (w.alloc (Obj.cells #[ji x.k, ji x.pt, ji x.r, ji x.c, ji x.b, ji x.p, ji x.h, .bool x.on] t)) (some (ja w.heap.size 0)) [x] := by
 intro _;refine ⟨w.heap.size, 0, rfl, fun j v hv => ?_⟩;have hj : j < 8 := by
  have := (List.getElem?_eq_some_iff.1 hv).1;simpa [Aa, Ag] using this
 rcases (by omega : j = 0 ∨ j = 1 ∨ j = 2 ∨ j = 3 ∨ j = 4 ∨ j = 5 ∨ j = 6 ∨ j = 7) with rfl | rfl | rfl | rfl | rfl | rfl | rfl | rfl
 ·
  cases hv; simp [go_sem]
 ·
  cases hv; simp [go_sem]
 ·
  cases hv; simp [go_sem]
 ·
  cases hv; simp [go_sem]
 ·
  cases hv; simp [go_sem]
 ·
  cases hv; simp [go_sem]
 ·
  cases hv; simp [go_sem]
 cases hv; simp [go_sem]
def Dd (i : Nat) (on : Bool) : Ou := ⟨2, i, 0, 0, 0, 0, 0, on⟩
def Cz (L M : List Pt) : Nat → List Ou
 | 0 => []
 | n + 1 => Cz L M n ++ if (M.getD n Pt.nil).op = (L.getD n Pt.nil).op then [] else [Dd n (M.getD n Pt.nil).op]
def GY (id : Int) (M : List Pt) (i : Nat) : Ou := ⟨1, i, (CZ id M i).1, (CZ id M i).2.1, (CZ id M i).2.2.1, (CZ id M i).2.2.2, Ev id M, false⟩
def Cf (id : Int) (M : List Pt) : Nat → List Ou
 | 0 => []
 | n + 1 => Cf id M n ++ if (M.getD n Pt.nil).ro = 2 then [GY id M n] else []
theorem F1 (L M : List Pt) (n : Nat) : (Cz L M n).length ≤ n := by
 induction n with
 | zero => simp [Cz]
 | succ n ih => simp only [Cz, List.length_append]; split <;> simp <;> omega
theorem HD (id : Int) (M : List Pt) (n : Nat) : (Cf id M n).length ≤ n := by
 induction n with
 | zero => simp [Cf]
 | succ n ih => simp only [Cf, List.length_append]; split <;> simp <;> omega
theorem IN {L M : List Pt} {n : Nat} {h g : Pt} (hh : M.getD n Pt.nil = h) (hg : L.getD n Pt.nil = g) (e : h.op = g.op) : Cz L M (n + 1) = Cz L M n := by
 simp only [Cz, hh, hg]; rw [if_pos e, List.append_nil]
theorem Ij {L M : List Pt} {n : Nat} {h g : Pt} (hh : M.getD n Pt.nil = h) (hg : L.getD n Pt.nil = g) (e : h.op ≠ g.op) : Cz L M (n + 1) = Cz L M n ++ [Dd n h.op] := by
 simp only [Cz, hh, hg]; rw [if_neg e]
theorem IZ {id : Int} {M : List Pt} {n : Nat} {h : Pt} (hh : M.getD n Pt.nil = h) (e : h.ro = 2) : Cf id M (n + 1) = Cf id M n ++ [GY id M n] := by
 simp only [Cf, hh]; rw [if_pos e]
theorem Ix {id : Int} {M : List Pt} {n : Nat} {h : Pt} (hh : M.getD n Pt.nil = h) (e : h.ro ≠ 2) : Cf id M (n + 1) = Cf id M n := by
 simp only [Cf, hh]; rw [if_neg e, List.append_nil]
end Go.Proofs.YtjmnaeeknomiaaaGreat
