import Derived.Lib.SliceRun
import Derived.Test.YtjmnaeeknomiaaaGreatDoorRKWBr5
namespace Go.Proofs.YtjmnaeeknomiaaaGreatDoor
open Go.ChangeShapes Go.WideShapes Go.ChangeAt Go.RowKit
open Go.ChangeMaps (open_string shut_string)
set_option linter.unusedVariables false
set_option maxRecDepth 100000
set_option maxHeartbeats 32000000
set_option linter.unusedSimpArgs false
open Go.Proofs.Tryz
attribute [local go_sem] ji ja
theorem Fg (id : Int) (ad : Option Addr) (cap : Nat) (L : List Pt) (w : World) (hv : AI AK w ad L) (hl : L.length ≤ 1048576) (hn : ad = none → cap = 0) :
  Calls prog 92 #[.agg #[ji id, .slice ad L.length cap]] w fun e w' => ∃ ad' cap', e = .returned (.agg #[ji id, .slice ad' L.length cap']) ∧ AA AK 11 47 w.heap.size w' (.slice ad' L.length cap') L ∧ Bw w w' := by
 have hB := hv.lt AV (by omega);obtain ⟨y, hy⟩ := AC ((w.alloc (Obj.cells #[ji id, .slice ad L.length cap] 51)).alloc (Obj.cells #[ji 0, .slice none 0 0] 51));have B0 : Bw w y := by rw [hy]; exact ((Below.refl _ _).alloc (Nat.le_refl _) _).alloc (by simp) _
 have A0 : Ap y w.heap.size id (.slice ad L.length cap) := by rw [hy]; constructor <;> simp [go_sem]
 have A1 : AR y (w.heap.size + 1) 0 (.slice none 0 0) := by rw [hy]; refine ⟨?_, fun i => ?_⟩; constructor <;> simp [go_sem]; simp [go_sem]
 have S0 := A1.lt;have hv1 := hv.below B0 hB;obtain ⟨i1, hj, hy0, hy1, hy2⟩ := info_parts Gs;go_enter func92, ntmps92
 go_wp2
 rw [← hy];clear hy;refine wp_region_held (S := fun Y => Below (w.heap.size + 1) y Y) (by kernel_rfl) ?_;change wpAnyH _ _ _ _ _ _ _ _ (World.drew _);have hb0 : Bw y y.drew := (Below.refl _ _).drew;obtain ⟨u0, hy0'⟩ : ∃ y_, y_ = y.drew := ⟨_, rfl⟩;rw [← hy0'] at hb0 ⊢;clear hy0';have hc0 : Below (w.heap.size + 1) y u0 := hb0.mono (by omega);refine tw 0 3 (.pointer (some (ja w.heap.size 0))) ?_;refine tw 1 4 (ji id) ?_ (hy := by intro Y hSw; obtain ⟨X0, X1⟩ := A0.below hSw (by omega); go_simp);refine tw 3 6 (.pointer (some (ja w.heap.size 1))) ?_;refine tw 4 7 (.slice ad L.length cap) ?_ (hy := by intro Y hSw; obtain ⟨X0, X1⟩ := A0.below hSw (by omega); go_simp);refine wpAnyH_all (rs := [2]) (by kernel_rfl) (by simp) ?_;intro i hi; obtain rfl : i = 2 := by simpa using hi
 refine wpOp_step rfl (fun K hK => ?_);rw [if_pos (by kernel_rfl)];go_simp
 obtain ⟨u1, hu1, kq⟩ := AM u0 (Obj.cells #[] 47);have oE : AA AK 11 47 u0.heap.size u1 (.slice (some (ja u0.heap.size 0)) 0 0) ([] : List Pt) := by rw [hu1]; exact AA.empty u0
 have z0 := hb0.size;have hb1 := AG hb0 kq;have hc1 : Below (w.heap.size + 1) y u1 := hb1.mono (by omega);have z1 := kq.size;rw [← hu1];clear hu1;generalize u0.heap.size = E at oE kq z0 z1 ⊢
 refine hK _ _ ⟨hc1, ?_⟩;clear hK K hi;refine wpAnyH_all (rs := [5]) (by kernel_rfl) (by simp) ?_;intro i hi; obtain rfl : i = 5 := by simpa using hi
 refine wpOp_step rfl (fun K hK => ?_);rw [if_pos (by kernel_rfl)];refine CC AV Ga 8 _ _ 49 rfl rfl E 47 i1 (.agg #[.bool false, .bool false, ji 0, ji 0, ji 0, ji 0, ji 0, ji 0, ji 0, ji 0, .bool false]) 80 underlying49 hj hy0 hy1 hy2 rfl (by decide) (by decide) (.slice (some (ja E 0)) 0 0) ([] : List Pt) rfl oE ad cap L rfl hn (hv1.below hb1 (hv1.lt AV (by omega))) (by simp; omega) z1 ?_;intro vN u2 oN gN _;replace oN : AA AK 11 47 E u2 vN L := oN;have hb2 : Bw y u2 := hb1.grown gN hb1.size (fun j e => Nat.le_trans z0 (oE.lt j e).1);have hc2 : Below (w.heap.size + 1) y u2 := hb2.mono (by omega);obtain ⟨adN, capN, rfl⟩ := oN.open_;clear gN;simp only [List.set_cons_zero, List.set_cons_succ];refine hK _ _ ⟨hc2, ?_⟩;clear hK K hi;refine tw 6 9 (.agg #[ji id, .slice adN L.length capN]) ?_;refine wpAnyH_all (rs := [7]) (by kernel_rfl) (by simp) ?_;intro i hi; obtain rfl : i = 7 := by simpa using hi
 refine wpOp_step rfl (fun K hK => ?_);rw [if_pos (by kernel_rfl)];have A2 := A1.below hb2 S0;have A3 := A2;obtain ⟨⟨t0, t1⟩, tf⟩ := A2;go_simp
 clear t0 t1 tf;obtain ⟨uf, hu⟩ := AC ((u2.setCell ⟨w.heap.size + 1, 0, none⟩ (ji id)).setCell ⟨w.heap.size + 1, 1, none⟩ (.slice adN L.length capN));have A4 : AR uf (w.heap.size + 1) id (.slice adN L.length capN) := by rw [hu]; exact A3.put _ _
 have OF : AA AK 11 47 w.heap.size uf (.slice adN L.length capN) L := (oN.base (by omega)).keep fun g e => by
  have := oN.lt g e;rw [hu, AE (by show g ≠ w.heap.size + 1; omega), AE (by show g ≠ w.heap.size + 1; omega)]
 have BF : Bw w uf := by rw [hu]; exact ((AG B0 hb2).setCell (by show _ ≤ w.heap.size + 1; omega) _).setCell (by show _ ≤ w.heap.size + 1; omega) _
 have hbf : Below (w.heap.size + 1) y uf := by rw [hu]; exact (hc2.setCell (Nat.le_refl (w.heap.size + 1)) _).setCell (Nat.le_refl (w.heap.size + 1)) _
 rw [← hu];clear hu;refine hK _ _ ⟨hbf, ?_⟩;clear hK K hi;refine Ag ?_;obtain ⟨t0, t1⟩ := A4.at_;go_wp2
 refine bodyPost_ret (v := .agg #[ji id, .slice adN L.length capN]) (by simp [results, results92, go_sem, *]) rfl ⟨_, _, rfl, OF, BF⟩
def Au (id n : Int) : Bool := decide (1 ≤ id ∧ id ≤ 9) && decide (1 ≤ n ∧ n ≤ 4)
theorem IA {id : Int} {k : Nat} : Az id (List.replicate k Pt.nil) = Au id k := by
 unfold Az Au;have e : (List.replicate k Pt.nil).all Ae = true := by
  rw [List.all_eq_true]; intro x hx; rw [List.eq_of_mem_replicate hx]; exact H4
 rw [e, List.length_replicate, Bool.and_true];congr 1
 exact decide_eq_decide.2 (by omega)
def Bp (id n : Int) : Int := if Au id n then id else 0
def Ao (id n : Int) : List Pt := if Au id n then List.replicate n.toNat Pt.nil else []
theorem AI.one (w : World) (t : TypeId) (x : Pt) : AI AK (w.alloc (Obj.cells #[.bool x.up, .bool x.has, ji x.r, ji x.c, ji x.b, ji x.p, ji x.h, ji x.l, ji x.ro, ji x.wa, .bool x.op] t)) (some (ja w.heap.size 0)) [x] := by
 intro _;refine ⟨w.heap.size, 0, rfl, fun j v hv => ?_⟩;have hj : j < 11 := by
  have := (List.getElem?_eq_some_iff.1 hv).1;simpa [AT, AK] using this
 rcases (by omega : j = 0 ∨ j = 1 ∨ j = 2 ∨ j = 3 ∨ j = 4 ∨ j = 5 ∨ j = 6 ∨ j = 7 ∨ j = 8 ∨ j = 9 ∨ j = 10) with rfl | rfl | rfl | rfl | rfl | rfl | rfl | rfl | rfl | rfl | rfl
 rotate_left;rotate_left;rotate_left;rotate_left;rotate_left;rotate_left;rotate_left;rotate_left;rotate_left;rotate_left;rotate_left;all_goals
  cases hv; simp [go_sem]
theorem GR (a b : Int) (w : World) : Calls prog 117 #[ji a, ji b] w fun e w' => e = .returned (ji (if a < b then a else b)) ∧ w' = w := by
 by_cases h : a < b
 ·
  rw [if_pos h];have d : decide (a < b) = true := decide_eq_true h;clear h;go_enter func117, ntmps117
  go_wp2
  go_ret
  exact ⟨rfl, rfl⟩
 rw [if_neg h];have d : decide (a < b) = false := decide_eq_false h;clear h;go_enter func117, ntmps117
 go_wp2
 go_ret
 exact ⟨rfl, rfl⟩
structure FK (w : World) (q : Nat) (r c b p : Int) : Prop where
 at_ : DC w q r c b p
 fr : ∀ i, w.frozen? (ja q i) = false
theorem FK.lt {w : World} {q : Nat} {r c b p : Int} (h : FK w q r c b p) : q < w.heap.size := World.block_lt_of_cell? w _ h.at_.1
theorem FK.below {w w' : World} {q n : Nat} {r c b p : Int} (h : FK w q r c b p) (k : Below n w w') (hq : q < n) : FK w' q r c b p :=
 ⟨h.at_.below k hq, fun i => (World.frozen?_of_block (a := (ja q i)) (k.block q hq)).trans (h.fr i)⟩
end Go.Proofs.YtjmnaeeknomiaaaGreatDoor
namespace Go.Proofs.YtjmnaeeknomiaaaGreatDoor
open Go.ChangeShapes Go.WideShapes Go.ChangeAt Go.RowKit
open Go.ChangeMaps (open_string shut_string)
set_option linter.unusedVariables false
set_option maxRecDepth 100000
set_option maxHeartbeats 32000000
set_option linter.unusedSimpArgs false
open Go.Proofs.Tryz
structure Ou where
 k : Int
 pt : Int
 r : Int
 c : Int
 b : Int
 p : Int
 h : Int
 on : Bool
def Ou.nil : Ou := ⟨0, 0, 0, 0, 0, 0, 0, false⟩
def Aw (x : Ou) : List Value := [ji x.k, ji x.pt, ji x.r, ji x.c, ji x.b, ji x.p, ji x.h, .bool x.on]
theorem DS (x : Ou) : (Aw x).length = 8 := rfl
theorem FA (L : List Ou) : ∀ u ∈ AT Aw L, u.oneCell' = true := by
 induction L with
 | nil => intro u h; cases h
 | cons x L ih =>
  intro u h;simp only [AT, Aw, List.mem_append, List.mem_cons, List.not_mem_nil, or_false] at h;rcases h with (rfl | rfl | rfl | rfl | rfl | rfl | rfl | rfl) | h
  ·
   rfl
  ·
   rfl
  ·
   rfl
  ·
   rfl
  ·
   rfl
  ·
   rfl
  ·
   rfl
  ·
   rfl
  exact ih u h
structure DY (w : World) (b o : Nat) (x : Ou) : Prop where
 c0 : w.cell? (ja b o) = some (ji x.k)
 c1 : w.cell? ⟨b, o + 1, none⟩ = some (ji x.pt)
 c2 : w.cell? ⟨b, o + 2, none⟩ = some (ji x.r)
 c3 : w.cell? ⟨b, o + 3, none⟩ = some (ji x.c)
 c4 : w.cell? ⟨b, o + 4, none⟩ = some (ji x.b)
 c5 : w.cell? ⟨b, o + 5, none⟩ = some (ji x.p)
 c6 : w.cell? ⟨b, o + 6, none⟩ = some (ji x.h)
 c7 : w.cell? ⟨b, o + 7, none⟩ = some (.bool x.on)
theorem DY.all {w : World} {b o : Nat} {x : Ou} (h : DY w b o x) : w.cell? (ja b o) = some (ji x.k) ∧ w.cell? ⟨b, o + 1, none⟩ = some (ji x.pt) ∧ w.cell? ⟨b, o + 2, none⟩ = some (ji x.r) ∧ w.cell? ⟨b, o + 3, none⟩ = some (ji x.c) ∧ w.cell? ⟨b, o + 4, none⟩ = some (ji x.b) ∧ w.cell? ⟨b, o + 5, none⟩ = some (ji x.p) ∧ w.cell? ⟨b, o + 6, none⟩ = some (ji x.h) ∧ w.cell? ⟨b, o + 7, none⟩ = some (.bool x.on) := ⟨h.c0, h.c1, h.c2, h.c3, h.c4, h.c5, h.c6, h.c7⟩
theorem Jo {w : World} {b o : Nat} {x : Ou} (h : ∀ j v, (Aw x)[j]? = some v → w.cell? ⟨b, o + j, none⟩ = some v) : DY w b o x := ⟨h 0 _ rfl, h 1 _ rfl, h 2 _ rfl, h 3 _ rfl, h 4 _ rfl, h 5 _ rfl, h 6 _ rfl, h 7 _ rfl⟩
theorem Gt : (prog.info? 41).map (fun i => (i.zero, i.size, i.bytes)) = some (some (.agg #[ji 0, ji 0, ji 0, ji 0, ji 0, ji 0, ji 0, .bool false]), 8, 64) := by kernel_rfl
theorem AI.oneO (w : World) (t : TypeId) (x : Ou) : AI Aw (w.alloc (Obj.cells #[ji x.k, ji x.pt, ji x.r, ji x.c, ji x.b, ji x.p, ji x.h, .bool x.on] t)) (some (ja w.heap.size 0)) [x] := by
 intro _;refine ⟨w.heap.size, 0, rfl, fun j v hv => ?_⟩;have hj : j < 8 := by
  have := (List.getElem?_eq_some_iff.1 hv).1;simpa [AT, Aw] using this
 rcases (by omega : j = 0 ∨ j = 1 ∨ j = 2 ∨ j = 3 ∨ j = 4 ∨ j = 5 ∨ j = 6 ∨ j = 7) with rfl | rfl | rfl | rfl | rfl | rfl | rfl | rfl
 ·
  cases hv; simp [go_sem]
 ·
  cases hv; simp [go_sem]
 ·
  cases hv; simp [go_sem]
 ·
  cases hv; simp [go_sem]
 ·
  cases hv; simp [go_sem]
 ·
  cases hv; simp [go_sem]
 ·
  cases hv; simp [go_sem]
 cases hv; simp [go_sem]
def Dv (i : Nat) (on : Bool) : Ou := ⟨2, i, 0, 0, 0, 0, 0, on⟩
def DI (L M : List Pt) : Nat → List Ou
 | 0 => []
 | n + 1 => DI L M n ++ if (M.getD n Pt.nil).op = (L.getD n Pt.nil).op then [] else [Dv n (M.getD n Pt.nil).op]
def G0 (id : Int) (M : List Pt) (i : Nat) : Ou := ⟨1, i, (Cc id M i).1, (Cc id M i).2.1, (Cc id M i).2.2.1, (Cc id M i).2.2.2, Fe id M, false⟩
def Cm (id : Int) (M : List Pt) : Nat → List Ou
 | 0 => []
 | n + 1 => Cm id M n ++ if (M.getD n Pt.nil).ro = 2 then [G0 id M n] else []
theorem Gh (L M : List Pt) (n : Nat) : (DI L M n).length ≤ n := by
 induction n with
 | zero => simp [DI]
 | succ n ih => simp only [DI, List.length_append]; split <;> simp <;> omega
theorem Hk (id : Int) (M : List Pt) (n : Nat) : (Cm id M n).length ≤ n := by
 induction n with
 | zero => simp [Cm]
 | succ n ih => simp only [Cm, List.length_append]; split <;> simp <;> omega
theorem JP {L M : List Pt} {n : Nat} {h g : Pt} (hh : M.getD n Pt.nil = h) (hg : L.getD n Pt.nil = g) (e : h.op = g.op) : DI L M (n + 1) = DI L M n := by
 simp only [DI, hh, hg]; rw [if_pos e, List.append_nil]
theorem Jw {L M : List Pt} {n : Nat} {h g : Pt} (hh : M.getD n Pt.nil = h) (hg : L.getD n Pt.nil = g) (e : h.op ≠ g.op) : DI L M (n + 1) = DI L M n ++ [Dv n h.op] := by
 simp only [DI, hh, hg]; rw [if_neg e]
theorem Jc {id : Int} {M : List Pt} {n : Nat} {h : Pt} (hh : M.getD n Pt.nil = h) (e : h.ro = 2) : Cm id M (n + 1) = Cm id M n ++ [G0 id M n] := by
 simp only [Cm, hh]; rw [if_pos e]
theorem KJ {id : Int} {M : List Pt} {n : Nat} {h : Pt} (hh : M.getD n Pt.nil = h) (e : h.ro ≠ 2) : Cm id M (n + 1) = Cm id M n := by
 simp only [Cm, hh]; rw [if_neg e, List.append_nil]
end Go.Proofs.YtjmnaeeknomiaaaGreatDoor
