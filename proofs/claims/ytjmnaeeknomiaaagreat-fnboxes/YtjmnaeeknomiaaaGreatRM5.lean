import Derived.Test.YtjmnaeeknomiaaaGreatRKWPort5
import Derived.Test.YtjmnaeeknomiaaaGreatRKWPort6
import Derived.Deep.Slices
import Derived.Test.YtjmnaeeknomiaaaGreatRM3
namespace Go.Proofs.YtjmnaeeknomiaaaGreat
open Go.ChangeShapes Go.WideShapes Go.ChangeAt Go.RowKit
open Go.ChangeMaps (open_string shut_string)
set_option linter.unusedVariables false
set_option maxRecDepth 100000
set_option maxHeartbeats 32000000
set_option linter.unusedSimpArgs false
open Go.Proofs.Tryz
def Pt.nil : Pt := ⟨false, false, 0, 0, 0, 0, 0, 0, 0, 0, false⟩
theorem HM : Ax Pt.nil = true := by decide
def Bl (id : Int) (L : List Pt) : Bool := decide (1 ≤ id ∧ id ≤ 9) && (decide (1 ≤ L.length ∧ L.length ≤ 4) && L.all Ax)
theorem DX {id : Int} {L : List Pt} (h : Bl id L = true) : (1 ≤ id ∧ id ≤ 9) ∧ (1 ≤ L.length ∧ L.length ≤ 4) ∧ ∀ i, Ax (L.getD i Pt.nil) = true := by
 simp only [Bl, Bool.and_eq_true, decide_eq_true_eq, List.all_eq_true] at h;refine ⟨h.1, h.2.1, fun i => ?_⟩;by_cases hi : i < L.length
 ·
  have : L.getD i Pt.nil = L[i] := by simp [List.getD, hi]
  rw [this];exact h.2.2 _ (List.getElem_mem hi)
 have : L.getD i Pt.nil = Pt.nil := by simp [List.getD, List.getElem?_eq_none (by omega : L.length ≤ i)]
 rw [this];exact HM
def Bu (id : Int) (x : Pt) : Bool := x.has && (!(x.b == id) && (decide (x.r < id) && (decide (x.c < 20) && decide (x.h < 8))))
def GD (x y : Pt) : Bool := Cv x.r x.c x.b x.p y.r y.c y.b y.p
def Ch (id : Int) (L : List Pt) : Nat → Option Nat
 | 0 => none
 | n + 1 => match Ch id L n with
  | none => if Bu id (L.getD n Pt.nil) then some n else none
  | some k => if Bu id (L.getD n Pt.nil) && GD (L.getD n Pt.nil) (L.getD k Pt.nil) then some n else some k
theorem Gs {id : Int} {L : List Pt} {n k : Nat} (h : Ch id L n = some k) : k < n ∧ Bu id (L.getD k Pt.nil) = true := by
 induction n generalizing k with
 | zero => cases h
 | succ n ih =>
  simp only [Ch] at h;cases hb : Ch id L n with
  | none =>
   rw [hb] at h;simp only [] at h;cases hc : Bu id (L.getD n Pt.nil) with
   | false => rw [hc] at h; cases h
   | true =>
    rw [hc] at h;cases h
    exact ⟨by omega, hc⟩
  | some m =>
   rw [hb] at h;simp only [] at h;split at h
   ·
    rename_i q
    cases h
    simp only [Bool.and_eq_true] at q;exact ⟨by omega, q.1⟩
   cases h
   obtain ⟨a, b⟩ := ih hb;exact ⟨by omega, b⟩
def Cs (id : Int) (L : List Pt) : Option Nat := if Bl id L then Ch id L L.length else none
theorem Fu {id : Int} {L : List Pt} {k : Nat} (h : Cs id L = some k) : Bl id L = true ∧ k < L.length ∧ Bu id (L.getD k Pt.nil) = true := by
 unfold Cs at h;cases hb : Bl id L with
 | false => simp [hb] at h
 | true =>
  simp only [hb, if_true] at h;exact ⟨rfl, Gs h⟩
def CZ (id : Int) (L : List Pt) (port : Int) : Int × Int × Int × Int :=
 if Bl id L && decide (0 ≤ port ∧ port < (L.length : Int)) then (match Cs id L with
  | none => (id, 0, id, port)
  | some k => ((L.getD k Pt.nil).r, (L.getD k Pt.nil).c + 1, id, port)) else (0, 0, 0, 0)
def Ev (id : Int) (L : List Pt) : Int := match Cs id L with
 | none => 0
 | some k => (L.getD k Pt.nil).h + 1
def Da (id : Int) (L : List Pt) (i : Nat) : Int :=
 if Cs id L = some i then 1 else if (L.getD i Pt.nil).has && Cv (L.getD i Pt.nil).r (L.getD i Pt.nil).c (L.getD i Pt.nil).b (L.getD i Pt.nil).p (CZ id L i).1 (CZ id L i).2.1 (CZ id L i).2.2.1 (CZ id L i).2.2.2 then 3 else 2
def ET (x : Pt) (role : Int) : Pt := if x.up then Ci x role else x
def Bg (id : Int) (L : List Pt) : List Pt := if Bl id L then (List.range L.length).map fun i => ET (L.getD i Pt.nil) (Da id L i) else L
theorem Fr (id : Int) (L : List Pt) : (Bg id L).length = L.length := by unfold Bg; split <;> simp
def EB (x : Pt) : Int := if (x.ro = 1 ∨ x.ro = 2) ∧ 0 < x.wa then x.wa - 1 else x.wa
def CK (x : Pt) : Pt := ⟨(BQ x).up, (BQ x).has, (BQ x).r, (BQ x).c, (BQ x).b, (BQ x).p, (BQ x).h, (BQ x).l, (BQ x).ro, EB (BQ x), BG (BQ x).ro (EB (BQ x))⟩
theorem Gq (x : Pt) : (BQ x).up = x.up ∧ (BQ x).ro = x.ro ∧ (BQ x).wa = x.wa ∧ (BQ x).op = x.op := by
 unfold BQ;split
 ·
  split
  ·
   exact ⟨rfl, rfl, rfl, rfl⟩
  exact ⟨rfl, rfl, rfl, rfl⟩
 exact ⟨rfl, rfl, rfl, rfl⟩
theorem G8 {x : Pt} : Ax x = true ↔ ((0 ≤ x.ro ∧ x.ro ≤ 3) ∧ x.up = CY x.ro ∧ x.op = BG x.ro x.wa ∧ (0 ≤ x.wa ∧ x.wa ≤ 4) ∧ CN x = true) := by
 simp [Ax, Cm]
attribute [local go_sem] ji ja
def AL (x : Pt) : List Value := [.bool x.up, .bool x.has, ji x.r, ji x.c, ji x.b, ji x.p, ji x.h, ji x.l, ji x.ro, ji x.wa, .bool x.op]
theorem AZ (x : Pt) : (AL x).length = 11 := rfl
theorem Gv (L : List Pt) : ∀ u ∈ Aa AL L, u.oneCell' = true := by
 induction L with
 | nil => intro u h; cases h
 | cons x L ih =>
  intro u h;simp only [Aa, AL, List.mem_append, List.mem_cons, List.not_mem_nil, or_false] at h;rcases h with (rfl | rfl | rfl | rfl | rfl | rfl | rfl | rfl | rfl | rfl | rfl) | h
  ·
   rfl
  ·
   rfl
  ·
   rfl
  ·
   rfl
  ·
   rfl
  ·
   rfl
  ·
   rfl
  ·
   rfl
  ·
   rfl
  ·
   rfl
  ·
   rfl
  exact ih u h
structure Bt (w : World) (b o : Nat) (x : Pt) : Prop where
 c0 : w.cell? (ja b o) = some (.bool x.up)
 c1 : w.cell? ⟨b, o + 1, none⟩ = some (.bool x.has)
 c2 : w.cell? ⟨b, o + 2, none⟩ = some (ji x.r)
 c3 : w.cell? ⟨b, o + 3, none⟩ = some (ji x.c)
 c4 : w.cell? ⟨b, o + 4, none⟩ = some (ji x.b)
 c5 : w.cell? ⟨b, o + 5, none⟩ = some (ji x.p)
 c6 : w.cell? ⟨b, o + 6, none⟩ = some (ji x.h)
 c7 : w.cell? ⟨b, o + 7, none⟩ = some (ji x.l)
 c8 : w.cell? ⟨b, o + 8, none⟩ = some (ji x.ro)
 c9 : w.cell? ⟨b, o + 9, none⟩ = some (ji x.wa)
 c10 : w.cell? ⟨b, o + 10, none⟩ = some (.bool x.op)
theorem Bt.all {w : World} {b o : Nat} {x : Pt} (h : Bt w b o x) : w.cell? (ja b o) = some (.bool x.up) ∧ w.cell? ⟨b, o + 1, none⟩ = some (.bool x.has) ∧ w.cell? ⟨b, o + 2, none⟩ = some (ji x.r) ∧ w.cell? ⟨b, o + 3, none⟩ = some (ji x.c) ∧ w.cell? ⟨b, o + 4, none⟩ = some (ji x.b) ∧ w.cell? ⟨b, o + 5, none⟩ = some (ji x.p) ∧ w.cell? ⟨b, o + 6, none⟩ = some (ji x.h) ∧ w.cell? ⟨b, o + 7, none⟩ = some (ji x.l) ∧ w.cell? ⟨b, o + 8, none⟩ = some (ji x.ro) ∧ w.cell? ⟨b, o + 9, none⟩ = some (ji x.wa) ∧ w.cell? ⟨b, o + 10, none⟩ = some (.bool x.op) := ⟨h.c0, h.c1, h.c2, h.c3, h.c4, h.c5, h.c6, h.c7, h.c8, h.c9, h.c10⟩
theorem CJ {w : World} {b o : Nat} {x : Pt} (h : ∀ j v, (AL x)[j]? = some v → w.cell? ⟨b, o + j, none⟩ = some v) : Bt w b o x := ⟨h 0 _ rfl, h 1 _ rfl, h 2 _ rfl, h 3 _ rfl, h 4 _ rfl, h 5 _ rfl, h 6 _ rfl, h 7 _ rfl, h 8 _ rfl, h 9 _ rfl, h 10 _ rfl⟩
theorem Cc (w : World) (g o : Nat) (x : Pt) : CB w g o (AL x) = (((((((((((w.setCell (ja g o) (.bool x.up)).setCell ⟨g, o + 1, none⟩ (.bool x.has)).setCell ⟨g, o + 2, none⟩ (ji x.r)).setCell ⟨g, o + 3, none⟩ (ji x.c)).setCell ⟨g, o + 4, none⟩ (ji x.b)).setCell ⟨g, o + 5, none⟩ (ji x.p)).setCell ⟨g, o + 6, none⟩ (ji x.h)).setCell ⟨g, o + 7, none⟩ (ji x.l)).setCell ⟨g, o + 8, none⟩ (ji x.ro)).setCell ⟨g, o + 9, none⟩ (ji x.wa)).setCell ⟨g, o + 10, none⟩ (.bool x.op)) := rfl
theorem GJ : (prog.info? 70).map (fun i => (i.zero, i.size, i.bytes)) = some (some (.agg #[.bool false, .bool false, ji 0, ji 0, ji 0, ji 0, ji 0, ji 0, ji 0, ji 0, .bool false]), 11, 80) := by kernel_rfl
structure As (w : World) (q : Nat) (id : Int) (v : Value) : Prop where
 c0 : w.cell? (ja q 0) = some (ji id)
 c1 : w.cell? (ja q 1) = some v
theorem As.keep {w w' : World} {q : Nat} {id : Int} {v : Value} (h : As w q id v) (k : w'.heap[q]? = w.heap[q]?) : As w' q id v :=
 ⟨(World.cell?_of_block (a := (ja q 0)) k).trans h.c0, (World.cell?_of_block (a := (ja q 1)) k).trans h.c1⟩
theorem As.below {w w' : World} {q n : Nat} {id : Int} {v : Value} (h : As w q id v) (k : Below n w w') (hq : q < n) : As w' q id v := h.keep (k.block q hq)
theorem As.lt {w : World} {q : Nat} {id : Int} {v : Value} (h : As w q id v) : q < w.heap.size := World.block_lt_of_cell? w _ h.c0
theorem As.new (w : World) (t : TypeId) (id : Int) (v : Value) : As (w.alloc (Obj.cells #[ji id, v] t)) w.heap.size id v := by
 refine ⟨?_, ?_⟩ <;> simp [go_sem]
theorem As.alloc {w : World} {q : Nat} {id : Int} {v : Value} (h : As w q id v) (o : Obj) : As (w.alloc o) q id v := h.keep (Below.heap_alloc w o q h.lt)
theorem Ae {w : World} (o : Obj) : Bw w (w.alloc o) := (Below.refl _ _).alloc (Nat.le_refl _) _
structure AU (w : World) (q : Nat) (id : Int) (v : Value) : Prop where
 at_ : As w q id v
 fr : ∀ i, w.frozen? (ja q i) = false
theorem AU.keep {w w' : World} {q : Nat} {id : Int} {v : Value} (h : AU w q id v) (k : w'.heap[q]? = w.heap[q]?) : AU w' q id v :=
 ⟨h.at_.keep k, fun i => (World.frozen?_of_block (a := (ja q i)) k).trans (h.fr i)⟩
theorem AU.lt {w : World} {q : Nat} {id : Int} {v : Value} (h : AU w q id v) : q < w.heap.size := h.at_.lt
theorem AU.below {w w' : World} {q n : Nat} {id : Int} {v : Value} (h : AU w q id v) (k : Below n w w') (hq : q < n) : AU w' q id v := h.keep (k.block q hq)
theorem AU.new (w : World) (t : TypeId) (id : Int) (v : Value) : AU (w.alloc (Obj.cells #[ji id, v] t)) w.heap.size id v := ⟨As.new w t id v, fun i => by simp [go_sem]⟩
theorem AU.put {w : World} {q : Nat} {id : Int} {v : Value} (h : AU w q id v) (id' : Int) (v' : Value) : AU ((w.setCell (ja q 0) (ji id')).setCell (ja q 1) v') q id' v' := by
 have e1 : (w.setCell (ja q 0) (ji id')).cell? (ja q 1) = some v := (AA (by decide)).trans h.at_.c1;refine ⟨⟨(AA (by decide)).trans (Aj h.at_.c0), Aj e1⟩, fun i => ?_⟩;rw [World.frozen?_setCell, World.frozen?_setCell]; exact h.fr i
end Go.Proofs.YtjmnaeeknomiaaaGreat
namespace Go.Proofs.YtjmnaeeknomiaaaGreat
open Go.ChangeShapes Go.WideShapes Go.ChangeAt Go.RowKit
open Go.ChangeMaps (open_string shut_string)
set_option linter.unusedVariables false
set_option maxRecDepth 100000
set_option maxHeartbeats 32000000
set_option linter.unusedSimpArgs false
open Go.Proofs.Tryz
theorem HL {L : List Pt} {k : Nat} (h : k < L.length) (hq : Ax (L.getD k Pt.nil) = false) : L.all Ax = false := by
 rw [List.all_eq_false];exact ⟨L[k], List.getElem_mem h, by rw [show L.getD k Pt.nil = L[k] by simp [List.getD, h]] at hq; simp [hq]⟩
theorem HE {L : List Pt} (h : ∀ j, j < L.length → Ax (L.getD j Pt.nil) = true) : L.all Ax = true := by
 rw [List.all_eq_true];intro x hx;obtain ⟨i, hi, rfl⟩ := List.getElem_of_mem hx;have := h i hi;rwa [show L.getD i Pt.nil = L[i] by simp [List.getD, hi]] at this
theorem I8 (x : Pt) (w : World) : Calls prog 90 #[.agg #[.bool x.up, .bool x.has, ji x.r, ji x.c, ji x.b, ji x.p, ji x.h, ji x.l, ji x.ro, ji x.wa, .bool x.op]] w fun e w' => e = .returned (.bool (!Ax x)) ∧ Bw w w' := by
 obtain ⟨y, hy, B0⟩ := AI w (Obj.cells (pc x) 70);obtain ⟨o, ho⟩ := AC (Ax x);rw [← ho];replace ho : Hid _ := ho;go_enter func90, ntmps90
 go_wp2_with fail
 go_at_call 130
 rw [← hy];clear hy;refine (Kl x y).mono ?_;rintro e w1 ⟨rfl, k1⟩;have B1 := AE B0 k1;rw [← ho.out];go_wp2
 go_ret
 exact ⟨rfl, B1⟩
theorem Kr (ad : Option Addr) (cap : Nat) (L : List Pt) (w : World) (hv : AH AL w ad L) (hl : L.length ≤ 1048576) :
  Calls prog 129 #[.slice ad L.length cap, .func (Fn.func 90) #[] #[]] w fun e w' => (∃ r : Int, e = .returned (ji r) ∧ (decide (0 ≤ r) = !L.all Ax) ∧ r ≤ 1048576 ∧ -1 ≤ r) ∧ Bw w w' := by
 have hB := hv.lt AZ (by omega);go_enter func129, ntmps129
 go_wp2
 go_loopw [8] (fun i wr => ∃ k : Nat, i = .int .i64 (k : Int) ∧ k ≤ L.length ∧ Hid (∀ j, j < k → Ax (L.getD j Pt.nil) = true) ∧ Below w.heap.size w wr) (fun i _ => L.length - (intOf i).toNat)
 case atStart => exact ⟨0, rfl, Nat.zero_le _, fun j hj => absurd hj (by omega), Below.refl _ _⟩
 case round =>
  obtain ⟨k, rfl, hk, hF, hb⟩ := hrel;by_cases hlt : k < L.length
  ·
   obtain ⟨b, off, rfl, _⟩ := hv (by omega);obtain ⟨h, hh⟩ : ∃ h, L.getD k Pt.nil = h := ⟨_, rfl⟩;have hck : Bt wr b (off + k * 11) h := by
    rw [← hh];exact CJ ((hv.below hb hB).at_ AZ Pt.nil hlt)
   replace hck := hck.all;replace hh : Hid _ := hh;clear hB hv;go_wp2_with fail
   go_at_call 90
   refine (I8 h wr).mono ?_;rintro e w3 ⟨rfl, k3⟩;have b3 := AE hb k3;by_cases hq : Ax h = true
   ·
    rw [hq];go_wp2
    go_roundw
    case rel =>
     refine ⟨k + 1, by go_num, by omega, fun j hj => ?_, b3⟩;by_cases e : j = k
     ·
      rw [e, hh.out]; exact hq
     exact hF.out j (by omega)
    case measure => simp [intOf]; omega
   have hq' : Ax h = false := by simpa using hq
   rw [hq'];go_wp2
   go_ret
   refine ⟨⟨k, rfl, ?_, by omega, by omega⟩, b3⟩;rw [HL hlt (by rw [hh.out]; exact hq')];simp
  obtain rfl : k = L.length := by omega
  go_wp2
  go_ret
  refine ⟨⟨-1, rfl, ?_, by omega, by omega⟩, hb⟩;rw [HE hF.out];rfl
theorem Kc (ad : Option Addr) (cap : Nat) (L : List Pt) (w : World) (hv : AH AL w ad L) (hl : L.length ≤ 1048576) :
  Calls prog 89 #[.slice ad L.length cap, .func (Fn.func 90) #[] #[]] w fun e w' => e = .returned (.bool (!L.all Ax)) ∧ Bw w w' := by
 have hI := Kr ad cap L w hv hl;generalize (!L.all Ax) = B at *
 go_enter func89, ntmps89
 go_wp2_with fail
 go_at_call 129
 refine hI.mono ?_;rintro e w1 ⟨⟨r, rfl, hr, r1, r2⟩, k1⟩;go_wp2
 go_ret
 exact ⟨rfl, k1⟩
theorem Kt (id : Int) (ad : Option Addr) (cap : Nat) (L : List Pt) (w : World) (hv : AH AL w ad L) (hl : L.length ≤ 1048576) :
  Calls prog 42 #[.agg #[ji id, .slice ad L.length cap]] w fun e w' => e = .returned (.bool (Bl id L)) ∧ Bw w w' := by
 have hB := hv.lt AZ (by omega);obtain ⟨R, hR⟩ := AC (Bl id L);rw [← hR];by_cases h1 : 1 ≤ id
 rotate_left
 ·
  have hC : R = false := by rw [hR]; simp only [Bl, decide_eq_false (show ¬ (1 ≤ id ∧ id ≤ 9) by omega)]; simp
  rw [hC];clear hC hR;have d1 : decide (1 ≤ id) = false := decide_eq_false h1;clear h1;go_enter func42, ntmps42
  go_wp2
  go_ret
  exact ⟨rfl, Ae _⟩
 have d1 : decide (1 ≤ id) = true := decide_eq_true h1;by_cases h2 : id ≤ 9
 rotate_left
 ·
  have hC : R = false := by rw [hR]; simp only [Bl, decide_eq_false (show ¬ (1 ≤ id ∧ id ≤ 9) by omega)]; simp
  rw [hC];clear hC hR;have d2 : decide (id ≤ 9) = false := decide_eq_false h2;clear h1 h2;go_enter func42, ntmps42
  go_wp2
  go_ret
  exact ⟨rfl, Ae _⟩
 have d2 : decide (id ≤ 9) = true := decide_eq_true h2;by_cases h3 : 1 ≤ L.length
 rotate_left
 ·
  have hC : R = false := by rw [hR]; simp only [Bl, decide_eq_false (show ¬ (1 ≤ L.length ∧ L.length ≤ 4) by omega)]; simp
  rw [hC];clear hC hR;have d3 : decide (1 ≤ (L.length : Int)) = false := decide_eq_false (by omega);clear h3;go_enter func42, ntmps42
  go_wp2
  go_ret
  exact ⟨rfl, Ae _⟩
 have d3 : decide (1 ≤ (L.length : Int)) = true := decide_eq_true (by omega);by_cases h4 : L.length ≤ 4
 rotate_left
 ·
  have hC : R = false := by rw [hR]; simp only [Bl, decide_eq_false (show ¬ (1 ≤ L.length ∧ L.length ≤ 4) by omega)]; simp
  rw [hC];clear hC hR;have d4 : decide ((L.length : Int) ≤ 4) = false := decide_eq_false (by omega);clear h4;go_enter func42, ntmps42
  go_wp2
  go_ret
  exact ⟨rfl, Ae _⟩
 have d4 : decide ((L.length : Int) ≤ 4) = true := decide_eq_true (by omega);have hC : R = L.all Ax := by rw [hR]; simp only [Bl, decide_eq_true (show 1 ≤ id ∧ id ≤ 9 from ⟨h1, h2⟩), decide_eq_true (show 1 ≤ L.length ∧ L.length ≤ 4 from ⟨h3, h4⟩)]; simp
 clear hR;obtain ⟨y, hy, B0⟩ := AI w (Obj.cells #[ji id, .slice ad L.length cap] 42);go_enter func42, ntmps42
 go_wp2_with fail
 go_at_call 89
 rw [← hy];clear hy;refine (Kc ad cap L y (hv.below B0 hB) hl).mono ?_;rintro e w1 ⟨rfl, k1⟩;have B1 := AE B0 k1;rw [← hC];clear hC;cases R
 ·
  go_wp2
  go_ret
  exact ⟨rfl, B1⟩
 go_wp2
 go_ret
 exact ⟨rfl, B1⟩
theorem Ex (id : Int) (ad : Option Addr) (cap : Nat) (L : List Pt) (w : World) (hv : AH AL w ad L) (hl : L.length ≤ 1048576) :
  Calls prog 44 #[.agg #[ji id, .slice ad L.length cap]] w fun e w' => e = .returned (.bool (Bl id L)) ∧ Bw w w' := by
 have hB := hv.lt AZ (by omega);obtain ⟨y, hy, B0⟩ := AI w (Obj.cells #[ji id, .slice ad L.length cap] 42);have A0 : As y w.heap.size id (.slice ad L.length cap) := by rw [hy]; exact As.new w _ _ _
 have S0 := A0.lt;have hv := hv.below B0 hB;have hB := hv.lt AZ (by omega);obtain ⟨R, hR⟩ := AC (Bl id L);rw [← hR];replace hR : Hid _ := hR;go_enter func44, ntmps44
 go_wp2
 rw [← hy];clear hy;go_loopw [3] (fun i wr => ∃ k : Nat, i = .int .i64 (k : Int) ∧ k ≤ L.length ∧ Hid (∀ j, j < k → Ax (L.getD j Pt.nil) = true) ∧ Below y.heap.size y wr) (fun i _ => L.length - (intOf i).toNat)
 case atStart => exact ⟨0, rfl, Nat.zero_le _, fun j hj => absurd hj (by omega), Below.refl _ _⟩
 case round =>
  obtain ⟨k, rfl, hk, hF, hb⟩ := hrel;obtain ⟨a0, a1⟩ := A0.below hb S0;by_cases hlt : k < L.length
  ·
   obtain ⟨b, off, rfl, _⟩ := hv (by omega);obtain ⟨h, hh⟩ : ∃ h, L.getD k Pt.nil = h := ⟨_, rfl⟩;have hck : Bt wr b (off + k * 11) h := by
    rw [← hh];exact CJ ((hv.below hb hB).at_ AZ Pt.nil hlt)
   replace hck := hck.all;replace hh : Hid _ := hh;clear hB hv;go_wp2_with fail
   go_at_call 91
   refine (Fk h wr).mono ?_;rintro e w3 ⟨rfl, k3⟩;have b3 := AE hb k3;by_cases hq : Ax h = true
   ·
    rw [hq];go_wp2
    go_roundw
    case rel =>
     refine ⟨k + 1, by go_num, by omega, fun j hj => ?_, b3⟩;by_cases e : j = k
     ·
      rw [e, hh.out]; exact hq
     exact hF.out j (by omega)
    case measure => simp [intOf]; omega
   have hq' : Ax h = false := by simpa using hq
   rw [hq'];have hC : Hid (R = false) := by
    unfold Hid; rw [hR.out, Bl, HL hlt (by rw [hh.out]; exact hq')]; simp
   clear hR;go_wp2
   go_ret
   exact ⟨by rw [hC.out]; rfl, AE B0 b3⟩
  obtain rfl : k = L.length := by omega
  have hP := HE hF.out;have B1 := AE B0 hb;by_cases h1 : 1 ≤ id ∧ id ≤ 9
  ·
   have d1 : decide (1 ≤ id ∧ id ≤ 9) = true := decide_eq_true h1;have hC : Hid (R = decide (1 ≤ (L.length : Int) ∧ (L.length : Int) ≤ 4)) := by
    unfold Hid; rw [hR.out, Bl, hP, d1, Bool.true_and, Bool.and_true]; exact decide_eq_decide.2 (by omega)
   clear hR hP h1;go_wp2_with fail
   go_at_call 65
   refine (BK id 1 9 wr).mono ?_;rintro e w4 ⟨rfl, rfl⟩;rw [d1];go_wp2_with fail
   go_at_call 65
   refine (BK L.length 1 4 w4).mono ?_;rintro e w5 ⟨rfl, rfl⟩;rw [← hC.out];go_wp2
   go_ret
   exact ⟨rfl, B1⟩
  have d1 : decide (1 ≤ id ∧ id ≤ 9) = false := decide_eq_false h1;have hC : Hid (R = false) := by
   unfold Hid; rw [hR.out, Bl, d1]; simp
  clear hR hP h1;go_wp2_with fail
  go_at_call 65
  refine (BK id 1 9 wr).mono ?_;rintro e w4 ⟨rfl, rfl⟩;rw [d1];go_wp2
  go_ret
  exact ⟨by rw [hC.out]; rfl, B1⟩
theorem JH {id : Int} {x : Pt} (h : Ax x = true) : (x.up && Bu id x) = Bu id x := by
 cases hh : x.has
 ·
  simp [Bu, hh]
 rw [(FA h hh).1]; rfl
end Go.Proofs.YtjmnaeeknomiaaaGreat
