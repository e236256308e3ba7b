import Derived.Test.YtjmnaeeknomiaaaGreatDoorRKWBxd18
import Derived.Test.YtjmnaeeknomiaaaGreatDoorRKWBo4
import Derived.Test.YtjmnaeeknomiaaaGreatDoorRM23
namespace Go.Proofs.YtjmnaeeknomiaaaGreatDoor
open Go.ChangeShapes Go.WideShapes Go.ChangeAt Go.RowKit
open Go.ChangeMaps (open_string shut_string)
set_option linter.unusedVariables false
set_option maxRecDepth 100000
set_option maxHeartbeats 32000000
set_option linter.unusedSimpArgs false
open Go.Proofs.Tryz
attribute [local go_sem] ji ja bc mc ic
theorem AL.turnT {base : Nat} {w w' : World} {x : AF} (h : AL base w x) {g k : Nat} (hat : x.aT = some (ja g 0)) (d : AD) (ht : AA BG 7 54 base w' (.slice x.aT (x.two.set k d).length x.cT) (x.two.set k d)) (kp : ∀ k_, k_ ≠ g → w'.heap[k_]? = w.heap[k_]?) (hd : AA AW 8 27 base w (.slice d.ad d.m.lg.length d.cap) d.m.lg) (hap : ∀ g_, (Value.slice d.ad d.m.lg.length d.cap).ownBlock = some g_ → (Value.slice x.aL x.ln.length x.cL).ownBlock ≠ some g_) :
  AL base w' (x.setT k d) := by
 refine ⟨ht, ?_, (h.n.keep (fun g_ e => kp _ (fun e2 => h.t.apart h.n (by decide) (BP hat e2) e))), (h.g.keep (fun g_ e => kp _ (fun e2 => h.t.apart h.g (by decide) (BP hat e2) e))), (h.i.keep (fun g_ e => kp _ (fun e2 => h.t.apart h.i (by decide) (BP hat e2) e))), (h.s.keep (fun g_ e => kp _ (fun e2 => h.t.apart h.s (by decide) (BP hat e2) e))), ?_⟩
 ·
  exact EZ x.two k d (fun z => AA AW 8 27 base w' (.slice z.ad z.m.lg.length z.cap) z.m.lg) (fun j hj => (h.l j hj).keep (fun g_ e => kp _ (fun e2 => h.t.apart (h.l j hj) (by decide) (BP hat e2) e))) (hd.keep (fun g_ e => kp _ (fun e2 => h.t.apart hd (by decide) (BP hat e2) e)))
 exact EZ x.two k d (fun z => ∀ g_, (Value.slice z.ad z.m.lg.length z.cap).ownBlock = some g_ → (Value.slice x.aL x.ln.length x.cL).ownBlock ≠ some g_) (fun j hj => h.ap j hj) hap
theorem Aa.turnT {base q z : Nat} {w W W' : World} {x : AF} (h : Aa base q z w W x) {g k : Nat} (hat : x.aT = some (ja g 0)) (d : AD) (ht : AA BG 7 54 base W' (.slice x.aT (x.two.set k d).length x.cT) (x.two.set k d)) (kp : ∀ k_, k_ ≠ g → W'.heap[k_]? = W.heap[k_]?) (hB : Below base w W') (hd : AA AW 8 27 base W (.slice d.ad d.m.lg.length d.cap) d.m.lg) (hap : ∀ g_, (Value.slice d.ad d.m.lg.length d.cap).ownBlock = some g_ → (Value.slice x.aL x.ln.length x.cL).ownBlock ≠ some g_) (hnq : ∀ g_, (Value.slice d.ad d.m.lg.length d.cap).ownBlock = some g_ → g_ ≠ q ∧ g_ ≠ z) :
  Aa base q z w W' (x.setT k d) := by
 have gq : g ≠ q := h.NA.t g (BP hat rfl);have gz : g ≠ z := h.NZ.t g (BP hat rfl);have A := h.A.keep (kp _ (fun e => gq e.symm));have hl : (x.setT k d).two.length = x.two.length := by unfold AF.setT; simp
 have NE : ∀ {q' : Nat}, Ai q' x → (∀ g_, (Value.slice d.ad d.m.lg.length d.cap).ownBlock = some g_ → g_ ≠ q') → Ai q' (x.setT k d) := fun hN hd' => ⟨by rw [hl]; exact hN.t, hN.n, hN.g, hN.i, hN.s, EZ x.two k d (fun y => ∀ b, (Value.slice y.ad y.m.lg.length y.cap).ownBlock = some b → b ≠ _) hN.l hd'⟩
 exact ⟨h.O.turnT hat d ht kp hd hap, ⟨⟨A.at_.c0, A.at_.c1, A.at_.c2, A.at_.c3, A.at_.c4, by rw [hl]; exact A.at_.c5, A.at_.c6, A.at_.c7, A.at_.c8, A.at_.c9⟩, A.fr⟩, NE h.NA (fun g_ e => (hnq g_ e).1), h.Z.keep (kp _ (fun e => gz e.symm)), NE h.NZ (fun g_ e => (hnq g_ e).2), hB, h.b0, h.bz, h.ne⟩
def CU (d : AD) (z : Int) : AD := ⟨⟨d.m.up, d.m.li, d.m.ep, d.m.lg, z, d.m.ac, d.m.al⟩, d.ad, d.cap⟩
theorem FS {L : List Value} {i : Nat} {v : Value} (h : L[i]? = some v) : L.set i v = L := by
 apply List.ext_getElem?
 intro j;by_cases q : j = i
 ·
  subst q;rw [List.getElem?_set_self (List.getElem?_eq_some_iff.1 h).1, h]
 rw [List.getElem?_set_ne (Ne.symm q)]
theorem AA.setSd {lo g cap n : Nat} {w : World} {Ms : List AD} (hn : n < Ms.length) (h : AA BG 7 54 lo w (.slice (some (ja g 0)) Ms.length cap) Ms) {d : AD} (hd : Ms.getD n AD.nil = d) (z : Int) : AA BG 7 54 lo (w.setCell ⟨g, n * 7 + 4, none⟩ (ji z)) (.slice (some (ja g 0)) (Ms.set n (CU d z)).length cap) (Ms.set n (CU d z)) := by
 have s := (World.ownsRow.stored (show w.ownsRow lo 54 7 _ Ms.length (AT BG Ms) from h) (n * 7 + 4) (ji z)).1;have hc : ∀ j, j < 7 → ∀ v, (BG d)[j]? = some v → (AT BG Ms)[n * 7 + j]? = some v := fun j hj v hv => by rw [F6 BC AD.nil Ms n j hn hj, hd]; exact hv
 have e : (AT BG Ms).set (n * 7 + 4) (ji z) = AT BG (Ms.set n (CU d z)) := by
  rw [← HH BC (by omega) AD.nil Ms n hn (CU d z)];show _ = ((((((((AT BG Ms).set (n * 7) (.bool d.m.up)).set (n * 7 + 1) (ji d.m.li)).set (n * 7 + 2) (ji d.m.ep)).set (n * 7 + 3) (.slice d.ad d.m.lg.length d.cap)).set (n * 7 + 4) (ji z)).set (n * 7 + 5) (ji d.m.ac)).set (n * 7 + 6) (ji d.m.al));rw [FS (i := n * 7) (by have := hc 0 (by omega) _ rfl; simpa using this), FS (hc 1 (by omega) _ rfl), FS (hc 2 (by omega) _ rfl), FS (hc 3 (by omega) _ rfl), FS (v := ji d.m.ac) (by rw [List.getElem?_set_ne (by omega)]; exact hc 5 (by omega) _ rfl), FS (v := ji d.m.al) (by rw [List.getElem?_set_ne (by omega)]; exact hc 6 (by omega) _ rfl)]
 rw [e] at s;unfold AA;rw [List.length_set];exact s
theorem Aa.addL {base q z : Nat} {w W W2 : World} {x : AF} (h : Aa base q z w W x) (N : List Ik) (v : Value) (oN : AA AW 8 27 base W2 v N) (gN : W.grownBy W2 (Value.slice x.aL x.ln.length x.cL).ownBlock) (hob : v.ownBlock = (Value.slice x.aL x.ln.length x.cL).ownBlock ∨ v.ownBlock = some W.heap.size) :
  ∃ a c, v = .slice a N.length c ∧ AS W2 q x ∧ Aa base q z w (W2.setCell (ja q 8) (.slice a N.length c)) { x with ln := N, aL := a, cL := c } := by
 obtain ⟨a, c, rfl⟩ := oN.open_;have hk : ∀ g, g < W.heap.size → (Value.slice x.aL x.ln.length x.cL).ownBlock ≠ some g → W2.heap[g]? = W.heap[g]? := fun g h1 h2 => gN.block g h1 (fun e => h2 e.symm)
 have hq : ∀ n, n < W.heap.size → Ai n x → ∀ b, (Value.slice a N.length c).ownBlock = some b → b ≠ n := fun n hn hN b e => hob.elim (fun e2 => by rw [e2] at e; exact hN.i b e) (fun e2 => by rw [e2] at e; have := Option.some.inj e; omega)
 have A := h.A.keep (hk _ h.A.lt (fun e => h.NA.i _ e rfl));have Z := h.Z.keep (hk _ (BR h.Z) (fun e => h.NZ.i _ e rfl));have kp : ∀ g, g ≠ q → (W2.setCell (ja q 8) (.slice a N.length c)).heap[g]? = W2.heap[g]? := fun g hg => AE hg
 have NE3 : Ai q { x with ln := N, aL := a, cL := c } := ⟨h.NA.t, h.NA.n, h.NA.g, hq q h.A.lt h.NA, h.NA.s, h.NA.l⟩;have O := (h.O.setL N a c oN (hob.elim (fun e => .inl e) (fun e => .inr (fun g e2 => by rw [e] at e2; have := Option.some.inj e2; omega))) hk).keepQ NE3 kp;exact ⟨a, c, rfl, A, O, A.sL N a N.length c rfl, NE3, Z.keep (kp _ h.ne), ⟨h.NZ.t, h.NZ.n, h.NZ.g, hq z (BR h.Z) h.NZ, h.NZ.s, h.NZ.l⟩, (h.B.grown gN h.sz (fun k e => (h.O.i.lt k e).1)).setCell (p := (ja q 8)) h.b0 _, h.b0, h.bz, h.ne⟩
theorem BL.lt2_ {w : World} {q o : Nat} {x : AD} (h : BL w q o x) : q < w.heap.size := World.block_lt_of_cell? w _ h.c0
theorem Ki (x : AF) (w : World) (base : Nat) (hO : AL base w x) (hbw : base ≤ w.heap.size) (hb : BA x.p = true) :
  Calls prog 143 #[.agg (bc x)] w fun e w' => ∃ x2 : AF, ∃ c : Int, e = .returned (.tuple #[.agg (bc x2), ji c]) ∧ (x2.p, c) = Ef x.p ∧ AL base w' x2 ∧ Below base w w' ∧ PZ w w' := by
 obtain ⟨y, hy⟩ := AC ((w.alloc (Obj.cells (bc x) 63)).alloc (Obj.cells #[ji 0, ji 0, ji 0, ji 0, ji 0, .slice none 0 0, .slice none 0 0, .slice none 0 0, .slice none 0 0, .slice none 0 0] 63));obtain ⟨S, B0⟩ := HJ x w y hO hbw hy;have PZ_ := PZ.of B0;obtain ⟨hl2, hmi, hnl, _, hll, hsl⟩ := EL hb;have V := S.O.okV hb;clear hb hO;obtain ⟨R, hR⟩ := AC (Ef x.p);rw [← hR];replace hR : Hid _ := hR;replace hl2 : Hid _ := hl2;obtain ⟨i3, hi3, hz30, hz31, hz32⟩ := info_parts FZ;go_enter func143, ntmps143
 go_upto_region 1 with fail
 rw [← hy];clear hy;have a0 := S.A.at_.all;go_wp2_with fail
 go_at_call 156
 clear a0;refine (Il x y V).mono ?_;rintro e u1 ⟨rfl, kq⟩;have S := S.later kq;have PZ_ := PZ_.later kq;have V := V.later kq;clear kq;obtain ⟨s, hs⟩ := AC (CV x.p);rw [← hs];have hsb : s < 0 ∨ s = 0 ∨ s = 1 := by rw [hs]; unfold CV; split; omega; split <;> omega
 replace hs : Hid _ := hs;by_cases hn : s < 0
 focus
  have dn : decide (s < 0) = true := decide_eq_true hn;go_upto_region 2 with fail
  refine An (fun Y => Bw u1 Y) fun u2 hb0 => ?_
  refine tw 0 9 (ji s) ?_;refine tw 1 10 (.bool true) ?_;refine tw 2 11 (.bool true) ?_;refine ts 3 12 ?_;refine ts 4 13 ?_;refine ts 5 14 ?_;refine ts 6 15 ?_;refine ts 7 16 ?_;refine ts 8 17 ?_;refine ts 9 18 ?_;refine ts 10 19 ?_;refine ts 11 20 ?_;refine ts 12 21 ?_;refine tw 13 22 (.bool true) ?_;refine Ag ?_;have S := S.later hb0;have PZ_ := PZ_.later hb0;have E_ : ((x).p, (3 : Int)) = R := by rw [hR.out]; unfold Ef; rw [← hs.out, if_pos (Or.inl hn)]
  clear hb0 dn
 rotate_left;focus
  have dn : decide (s < 0) = false := decide_eq_false hn;obtain ⟨k, rfl⟩ : ∃ k : Nat, s = (k : Int) := ⟨s.toNat, by omega⟩;have hk2 : k < 2 := by omega
  have hkl : k < x.two.length := by have := hl2.out; omega
  obtain ⟨g, hat, _, gl⟩ := S.O.t.blk (by omega);obtain ⟨m, hm⟩ : ∃ m, x.two.getD k AD.nil = m := ⟨_, rfl⟩;have M0 : BL u1 g (k * 7) m := by have h1 := S.O.t.view.2; rw [hat] at h1; have := CZ (h1.at_ BC AD.nil hkl); rw [hm] at this; simpa using this
  have hmo : AZ x.p (k : Int) = m.m := by rw [Ch]; simp only [Int.toNat_natCast]; rw [hm]
  have hok : BM m.m = true := by have := hmi k hk2; rw [hm] at this; exact this
  obtain ⟨_, _, _, _, hsd, _, _⟩ := FT.1 hok;have hlg := Ei hok;have hct := V.ct;have hL := S.O.l k hkl;rw [hm] at hL;replace hat : Hid _ := hat;replace hm : Hid _ := hm;replace hmo : Hid _ := hmo;replace hok : Hid _ := hok;clear hmi hsb;go_upto_region 2 with fail
  refine An (fun Y => Bw u1 Y) fun u2 hb0 => ?_
  refine tw 0 9 (ji (k : Int)) ?_;refine tw 1 10 (.bool false) ?_;refine tw 2 11 (.bool false) ?_;refine tw 3 12 (.pointer (some (ja w.heap.size 5))) ?_;refine tw 4 13 (.slice (some (ja g 0)) x.two.length x.cT) ?_ (hy := by intro Y hSw; have X := (S.A.at_.below hSw S.A.lt).all; rw [hat.out] at X; go_simp);refine tw 5 14 (ji (k : Int)) ?_;refine tw 6 15 (.pointer (some ⟨g, k * 7, none⟩)) ?_ (hy := by intro Y hSw; go_simp; try omega);refine tw 7 16 (.agg (mc m.m m.ad m.cap)) ?_ (hy := by intro Y hSw; have X := (M0.below hSw gl).all; go_simp);refine tw 8 17 (.pointer (some (ja w.heap.size 2))) ?_;refine tw 9 18 (.pointer (some (ja w.heap.size 4))) ?_;refine tw 10 19 (ji x.rg.pa) ?_ (hy := by intro Y hSw; have X := (S.A.at_.below hSw S.A.lt).all; go_simp);refine w1 11 fun Kz hKz => ?_
  go_simp
  go_at_call 158
  refine (Kk m.m m.ad m.cap x.rg.pa u2 (by unfold maxLen; omega)).mono ?_;rintro e u3 ⟨rfl, kq⟩;have hb1 := AG hb0 kq;clear kq;refine hKz _ _ ⟨hb1, ?_⟩;clear hKz Kz;obtain ⟨rb, hrb⟩ := AC (Dr m.m x.rg.pa);rw [← hrb];replace hrb : Hid _ := hrb;refine tw 12 21 (.bool (!rb)) ?_;refine tw 13 22 (.bool (!rb)) ?_;refine Ag ?_;clear hb0;have gu := gl;have S := S.later hb1;have PZ_ := PZ_.later hb1;have M0 := M0.below hb1 gl;have V := V.later hb1;have hL := hL.later hb1;have z13 := hb1.size;clear hb1 dn;cases rb
  focus
   have E_ : ((x).p, (3 : Int)) = R := by rw [hR.out]; unfold Ef; rw [← hs.out, if_pos (Or.inr (by rw [hmo.out]; exact hrb.out.symm))]
  rotate_left
  ·
   have hri := Jk hrb.out.symm;obtain ⟨hlt, _⟩ := hri;obtain ⟨n, hn2⟩ : ∃ n : Nat, m.m.sd = (n : Int) := ⟨m.m.sd.toNat, by omega⟩;have hnl2 : n < m.m.lg.length := by omega
   have hwr : IntKind.i64.wrap ((n : Int) + 1) = (n : Int) + 1 := by rw [IntKind.wrap_i64]; omega
   obtain ⟨a0, a1, a2, a3, a4, a5, a6, a7, a8, a9⟩ := S.A.at_;rw [hat.out] at a5;have c4 := M0.c4;rw [hn2] at c4;go_upto_region 5 with fail
   clear a0 a1 a2 a3 a4 a5 a6 a7 a8 a9 c4 hlt;replace hn2 : Hid _ := hn2;refine An (fun Y => Bw u3 Y) fun u4 hb0 => ?_
   refine tw 0 30 (.agg (bc x)) ?_ (hy := by intro Y hSw; have X := (S.A.at_.below hSw S.A.lt).all; go_simp);refine tw 1 31 (ji (k : Int)) ?_;refine tw 2 32 (.pointer (some (ja w.heap.size 0))) ?_;refine tw 3 33 (ji x.id) ?_ (hy := by intro Y hSw; have X := (S.A.at_.below hSw S.A.lt).all; go_simp);refine tw 4 34 (.pointer (some (ja w.heap.size 1))) ?_;refine tw 5 35 (ji x.po) ?_ (hy := by intro Y hSw; have X := (S.A.at_.below hSw S.A.lt).all; go_simp);refine tw 6 36 (.pointer (some (ja w.heap.size 5))) ?_;refine tw 7 37 (.slice (some (ja g 0)) x.two.length x.cT) ?_ (hy := by intro Y hSw; have X := (S.A.at_.below hSw S.A.lt).all; rw [hat.out] at X; go_simp);refine tw 8 38 (ji (k : Int)) ?_;refine tw 9 39 (.pointer (some ⟨g, k * 7, none⟩)) ?_ (hy := by intro Y hSw; go_simp; try omega);refine tw 10 40 (.pointer (some ⟨g, k * 7 + 3, none⟩)) ?_;refine tw 11 41 (.slice m.ad m.m.lg.length m.cap) ?_ (hy := by intro Y hSw; have X3 := (M0.below hSw (by omega)).c3; go_simp);refine tw 12 42 (ji (n : Int)) ?_;obtain ⟨Ls, hLs⟩ := AC (ET x.id x.po m.m.lg (n : Int));have hLl : Ls.length ≤ 8 := by rw [hLs]; exact Ji _ _ _ _
   replace hLs : Hid _ := hLs;have hc0 := hb0;clear hb0;refine wpAnyH_all (rs := [13, 15]) (by kernel_rfl) (by simp) ?_;intro i hi; rcases (by simpa using hi : i = 13 ∨ i = 15) with rfl | rfl
   ·
    refine Ac rfl fun Kz hKz => ?_
    go_simp
    go_at_call 160
    refine (Im x.id x.po m.ad m.cap m.m.lg (n : Int) u4 (hL.later hc0).view.2 (by omega) hL.capM).mono ?_;rintro e q0w ⟨a5, c5, rfl, O5, kq⟩;rw [← hLs.out] at O5 ⊢;have hc1 := AG hc0 kq;clear kq;refine hKz _ _ ⟨hc1, ?_⟩;clear hKz Kz hi;refine wpAnyH_all (rs := [14, 15]) (by kernel_rfl) (by simp) ?_;intro i hi; rcases (by simpa using hi : i = 14 ∨ i = 15) with rfl | rfl
    focus
     refine Ac rfl fun Kz hKz => ?_
     go_simp
     go_at_call 159
     refine (Gp x (k : Int) a5 c5 Ls q0w (V.later hc1) S.O.n.capn S.O.g.capn S.O.i.capn S.O.s.capn (fun i hi => (S.O.l i hi).capn) O5.view.2 (by omega)).mono ?_;rintro e q1w ⟨x3, rfl, p3, O3, kq⟩;have lo3 : u3.heap.size ≤ q0w.heap.size := hc1.size;have O3 := O3.base lo3;have hc2 := AG hc1 kq;clear kq;refine hKz _ _ ⟨hc2, ?_⟩;clear hKz Kz hi;refine w1 15 fun Kz hKz => ?_
     go_simp
     obtain ⟨q2w, hU, kq⟩ := AM q1w (Obj.cells #[ji 0, ji 0, ji 0, ji 0, ji 0, .slice none 0 0, .slice none 0 0, .slice none 0 0, .slice none 0 0, .slice none 0 0] 63);have Z6 : Aj q2w q1w.heap.size := by rw [hU]; exact Cl q1w _
     rw [← hU];clear hU;obtain ⟨q6, hq6⟩ := AC q1w.heap.size;rw [← hq6] at Z6 ⊢;have q6l : u3.heap.size ≤ q6 := by have := hc2.size; omega
     have N6 : Ai q6 x3 := O3.ne (by omega);have O3 := O3.later kq;clear hq6
    rotate_left;focus
     refine Ac rfl fun Kz hKz => ?_
     go_simp
     obtain ⟨q1w, hU, kq⟩ := AM q0w (Obj.cells #[ji 0, ji 0, ji 0, ji 0, ji 0, .slice none 0 0, .slice none 0 0, .slice none 0 0, .slice none 0 0, .slice none 0 0] 63);have Z6 : Aj q1w q0w.heap.size := by rw [hU]; exact Cl q0w _
     rw [← hU];clear hU;obtain ⟨q6, hq6⟩ := AC q0w.heap.size;rw [← hq6] at Z6 ⊢;have q6l : u3.heap.size ≤ q6 := by have := hc1.size; omega
     have O5 := O5.later kq;clear hq6;have hc2 := AG hc1 kq;clear kq;refine hKz _ _ ⟨hc2, ?_⟩;clear hKz Kz hi;refine w1 14 fun Kz hKz => ?_
     go_simp
     go_at_call 159
     refine (Gp x (k : Int) a5 c5 Ls q1w (V.later hc2) S.O.n.capn S.O.g.capn S.O.i.capn S.O.s.capn (fun i hi => (S.O.l i hi).capn) O5.view.2 (by omega)).mono ?_;rintro e q2w ⟨x3, rfl, p3, O3, kq⟩;have lo3 : u3.heap.size ≤ q1w.heap.size := hc2.size;have O3b := O3;have N6x : (∀ g, q1w.heap.size ≤ g → q6 < g) ∧ True := ⟨fun g h => by have := BR Z6; omega, trivial⟩;have O3 := O3.base lo3;have N6 : Ai q6 x3 := ⟨fun b e => by have := N6x.1 _ (O3b.t.lt b e).1; omega, fun b e => by have := N6x.1 _ (O3b.n.lt b e).1; omega, fun b e => by have := N6x.1 _ (O3b.g.lt b e).1; omega, fun b e => by have := N6x.1 _ (O3b.i.lt b e).1; omega, fun b e => by have := N6x.1 _ (O3b.s.lt b e).1; omega, fun j hj b e => by have := N6x.1 _ ((O3b.l j hj).lt b e).1; omega⟩;have Z6 := Z6.keep (kq.block _ (BR Z6))
    rotate_left;all_goals
     have hc3 := AG hc2 kq;clear kq;refine hKz _ _ ⟨hc3, ?_⟩;clear hKz Kz;refine w1 16 fun Kz hKz => ?_
     have ZB := Z6.box;obtain ⟨r0, r1, r2, r3, r4, r5, r6, r7, r8, r9, g0, g1, g2, g3, g4, g5, g6, g7, g8, g9⟩ := Ad ZB;go_simp
     clear r0 r1 r2 r3 r4 r5 r6 r7 r8 r9 g0 g1 g2 g3 g4 g5 g6 g7 g8 g9;obtain ⟨e1, he1⟩ := AC ((((((((((q2w.setCell (ja q6 0) (ji x3.id)).setCell (ja q6 1) (ji x3.po)).setCell (ja q6 2) (ji x3.rg.ep)).setCell (ja q6 3) (ji x3.rg.ow)).setCell (ja q6 4) (ji x3.rg.pa)).setCell (ja q6 5) (.slice x3.aT x3.two.length x3.cT)).setCell (ja q6 6) (.slice x3.aN x3.net.length x3.cN)).setCell (ja q6 7) (.slice x3.aG x3.ga.length x3.cG)).setCell (ja q6 8) (.slice x3.aL x3.ln.length x3.cL)).setCell (ja q6 9) (.slice x3.aS x3.sd.length x3.cS));have A6 : AS e1 q6 x3 := by rw [he1]; exact Z6.box.put x3
     have kp : ∀ g_, g_ ≠ q6 → e1.heap[g_]? = q2w.heap[g_]? := fun g_ hg => by rw [he1]; exact Ak q2w q6 g_ x3 hg
     have hd : Bw u3 e1 := by rw [he1]; exact CO (q := q6) x3 hc3 q6l
     have O3 := O3.keepQ N6 kp;rw [← he1];clear he1 kp;refine hKz _ _ ⟨hd, ?_⟩;clear hKz Kz;refine Ag ?_;have PZ_ := PZ_.later hd;have zq := S.A.lt;have zz := BR S.Z;have gu3 := M0.lt2_;have sz3 := S.sz;have A := S.A.at_.below hd S.A.lt;have M0 := M0.below hd gu3;have bl := hL.lt;have hL := hL.later hd;have p3 : x3.p = Cd x.p (k : Int) Ls := p3;have h2x : x3.p.two = x.p.two := by rw [p3]; unfold Cd; split <;> rfl
     have hlnx : x3.ln = x.ln := by have h := congrArg Bx.ln p3; have h5 : (Cd x.p (k : Int) Ls).ln = x.p.ln := by { unfold Cd; split <;> rfl }; exact h.trans h5
     have h2l : x3.two.length = x.two.length := by have h := congrArg List.length h2x; unfold AF.p at h; simpa using h
     have h3k : (x3.two.getD k AD.nil).m = m.m := by have h := Ch x3 (k : Int); simp only [Int.toNat_natCast] at h; rw [← h]; unfold AZ; rw [h2x]; exact hmo.out
     have T : Aa base q6 (w.heap.size + 1) w e1 x3 := ⟨O3.base (by omega), A6, N6, (hd.block _ zz).trans S.Z, ⟨fun b e => by have := (O3.t.lt b e).1; omega, fun b e => by have := (O3.n.lt b e).1; omega, fun b e => by have := (O3.g.lt b e).1; omega, fun b e => by have := (O3.i.lt b e).1; omega, fun b e => by have := (O3.s.lt b e).1; omega, fun j hj b e => by have := ((O3.l j hj).lt b e).1; omega⟩, S.B.trans (hd.mono (by omega)), by omega, by omega, by omega⟩;have li3 := O3.i.lt;replace p3 : Hid _ := p3;replace h3k : Hid _ := h3k;replace hlnx : Hid _ := hlnx;have hl3 : x3.ln.length ≤ 60 := by rw [hlnx.out]; exact hll
     clear S V N6 Z6 A6 O3 h2x O5 hLl;have eL : Hid (Ls = EI (Bp x.p.id x.p.po) (Ao x.p.id x.p.po) m.m.lg Ar (n : Int)) := by unfold Hid; rw [hLs.out]; rfl
     clear hLs;by_cases hle : (x3.ln.length : Int) ≤ (n : Int)
     ·
      have d6 : decide ((x3.ln.length : Int) ≤ (n : Int)) = true := decide_eq_true hle;have d6' : decide (x3.ln.length ≤ n) = true := decide_eq_true (by omega);obtain ⟨b0, b1, b2, b3, b4, b5, b6, b7, b8, b9⟩ := T.A.at_;go_upto_region 7 with fail
      clear b0 b1 b2 b3 b4 b5 b6 b7 b8 b9 d6 d6';obtain ⟨bl_, hab, _, hbl⟩ := hL.blk (by omega);obtain ⟨e, he⟩ : ∃ e, m.m.lg.getD n Ar = e := ⟨_, rfl⟩;have E : CJ e1 bl_ (n * 8) e := by have h1 := hL.view.2; rw [hab] at h1; have := FU (h1.at_ Av Ar hnl2); rw [he] at this; simpa using this
      have hcl := hL.capM;have C5 : BH e1 w.heap.size 5 (.slice (some (ja g 0)) x.two.length x.cT) := ⟨by have := A.c5; rw [hat.out] at this; exact this⟩;have C3 : BH e1 g (k * 7 + 3) (.slice (some (ja bl_ 0)) m.m.lg.length m.cap) := ⟨by have := M0.c3; rw [hab] at this; exact this⟩;have blx : bl_ < u3.heap.size := (bl bl_ (by rw [hab]; rfl)).2;replace he : Hid _ := he;clear A M0;refine An (fun Y => BH Y w.heap.size 5 (.slice (some (ja g 0)) x.two.length x.cT) ∧ BH Y g (k * 7 + 3) (.slice (some (ja bl_ 0)) m.m.lg.length m.cap) ∧ CJ Y bl_ (n * 8) e) fun e2 kd => ?_
      have T := T.later kd;have PZ_ := PZ_.later kd;have C5 := C5.below kd C5.lt;have C3 := C3.below kd C3.lt;have E := E.below kd E.lt;clear kd;have hs0 : BH e2 w.heap.size 5 (.slice (some (ja g 0)) x.two.length x.cT) ∧ BH e2 g (k * 7 + 3) (.slice (some (ja bl_ 0)) m.m.lg.length m.cap) ∧ CJ e2 bl_ (n * 8) e := ⟨C5, C3, E⟩;refine tw 0 50 (.pointer (some (ja q6 8))) ?_;refine tw 2 52 (.pointer (some (ja w.heap.size 5))) ?_;refine tw 3 53 (.slice (some (ja g 0)) x.two.length x.cT) ?_ (hy := by intro Y hSw; obtain ⟨⟨X5⟩, _, _⟩ := hSw; go_simp);refine tw 4 54 (ji (k : Int)) ?_;refine tw 5 55 (.pointer (some ⟨g, k * 7, none⟩)) ?_ (hy := by intro Y hSw; go_simp; try omega);refine tw 6 56 (.pointer (some ⟨g, k * 7 + 3, none⟩)) ?_;refine tw 7 57 (.slice (some (ja bl_ 0)) m.m.lg.length m.cap) ?_ (hy := by intro Y hSw; obtain ⟨_, ⟨X3⟩, _⟩ := hSw; go_simp);refine tw 8 58 (ji (n : Int)) ?_;refine tw 9 59 (.pointer (some ⟨bl_, n * 8, none⟩)) ?_ (hy := by intro Y hSw; go_simp; try omega);refine tw 10 60 (.agg (ic e)) ?_ (hy := by intro Y hSw; obtain ⟨_, _, X0, X1, X2, X3, X4, X5, X6, X7⟩ := hSw; go_simp);clear hs0;refine wpAnyH_all (rs := [1, 11]) (by kernel_rfl) (by simp) ?_;intro i hi; rcases (by simpa using hi : i = 1 ∨ i = 11) with rfl | rfl
      focus
       refine Ac rfl fun Kz hKz => ?_
       have b0 := T.A.at_.all;go_simp
       clear b0;refine hKz _ _ ⟨⟨C5, C3, E⟩, ?_⟩;clear hKz Kz hi;refine w1 11 fun Kz hKz => ?_
       go_simp
       obtain ⟨v1, hv1, k1⟩ := AM e2 (Obj.cells (ic e) 27);have V1 : AI AW v1 (some (ja e2.heap.size 0)) [e] := by rw [hv1]; exact AI.oneJ e2 _ e
       have T := T.later k1;have PZ_ := PZ_.later k1;have C5 := C5.below k1 C5.lt;have C3 := C3.below k1 C3.lt;have E := E.below k1 E.lt;rw [← hv1];clear hv1 k1
      rotate_left;focus
       refine Ac rfl fun Kz hKz => ?_
       go_simp
       obtain ⟨v1, hv1, k1⟩ := AM e2 (Obj.cells (ic e) 27);have V1 : AI AW v1 (some (ja e2.heap.size 0)) [e] := by rw [hv1]; exact AI.oneJ e2 _ e
       have T := T.later k1;have PZ_ := PZ_.later k1;have C5 := C5.below k1 C5.lt;have C3 := C3.below k1 C3.lt;have E := E.below k1 E.lt;rw [← hv1];clear hv1 k1;refine hKz _ _ ⟨⟨C5, C3, E⟩, ?_⟩;clear hKz Kz hi;refine w1 1 fun Kz hKz => ?_
       have b0 := T.A.at_.all;go_simp
       clear b0
      rotate_left;all_goals
       refine hKz _ _ ⟨⟨C5, C3, E⟩, ?_⟩;clear hKz Kz;refine w1 12 fun Kz hKz => ?_
       have sz := T.sz;refine CC Av FB 62 _ _ 34 rfl rfl base 27 i3 (.agg #[ji 0, ji 0, ji 0, ji 0, ji 0, ji 0, ji 0, .bool false]) 64 underlying34 hi3 hz30 hz31 hz32 rfl (by decide) (by decide) (.slice x3.aL x3.ln.length x3.cL) x3.ln rfl T.O.i (some (ja e2.heap.size 0)) 1 [e] rfl (fun e => by cases e) V1 (by simp; omega) sz ?_;intro vN v2 oN gN hob;replace oN : AA AW 8 27 base v2 vN (x3.ln ++ [e]) := oN;obtain ⟨N_, hN_⟩ := AC (x3.ln ++ [e]);rw [← hN_] at oN;replace hN_ : Hid _ := hN_;have C5 := C5.keep (gN.block _ C5.lt (fun e => by have := (li3 _ e.symm).1; omega));have C3 := C3.keep (gN.block _ C3.lt (fun e => by have := (li3 _ e.symm).1; omega));have E := E.keep (gN.block _ E.lt (fun e => by have := (li3 _ e.symm).1; omega));have PZ_ := PZ_.grown T.O.i (by decide) gN;obtain ⟨aN, cN, rfl, A2, S2⟩ := T.addL N_ vN oN gN hob;clear gN hob V1 sz T oN;simp only [List.set_cons_zero, List.set_cons_succ];refine hKz _ _ ⟨⟨C5, C3, E⟩, ?_⟩;clear hKz Kz;have hsA : BH v2 w.heap.size 5 (.slice (some (ja g 0)) x.two.length x.cT) ∧ BH v2 g (k * 7 + 3) (.slice (some (ja bl_ 0)) m.m.lg.length m.cap) ∧ CJ v2 bl_ (n * 8) e := ⟨C5, C3, E⟩;refine tw 13 63 (.pointer (some (ja q6 8))) ?_;refine w1 14 fun Kz hKz => ?_
       obtain ⟨⟨b0, b1, b2, b3, b4, b5, b6, b7, b8, b9⟩, qf⟩ := id A2;have f8 := qf 8;go_simp
       clear b0 b1 b2 b3 b4 b5 b6 b7 b8 b9 qf f8 A2 hsA;obtain ⟨wn, hv3⟩ := AC (v2.setCell (ja q6 8) (.slice aN N_.length cN));rw [← hv3] at S2 ⊢;have PZ_ := PZ_.keep (n := q6) (W2 := wn) (by have := PZ_.1; omega) (fun g_ hg => by rw [hv3]; exact AE hg) (by rw [hv3]; simp);have C5 := C5.keep (w' := wn) (by rw [hv3]; exact AE (by show w.heap.size ≠ q6; omega));have C3 := C3.keep (w' := wn) (by rw [hv3]; exact AE (by show g ≠ q6; omega));have E := E.keep (w' := wn) (by rw [hv3]; exact AE (by show bl_ ≠ q6; omega));refine hKz _ _ ⟨⟨C5, C3, E⟩, ?_⟩;clear hKz Kz hv3 C5 C3 E;refine Ag ?_;obtain ⟨x4, hx4⟩ : ∃ z : AF, z = { x3 with ln := N_, aL := aN, cL := cN } := ⟨_, rfl⟩;rw [← hx4] at S2;have htn : Hid (x4.two.length = x.two.length) := by unfold Hid; rw [hx4]; exact h2l
       have htn2 : Hid (x4.two.getD k AD.nil = x3.two.getD k AD.nil) := by unfold Hid; rw [hx4]
       have T := S2;clear S2;have hX : Hid (ER (Cd x.p (k : Int) (EI (Bp x.p.id x.p.po) (Ao x.p.id x.p.po) m.m.lg Ar (n : Int))) (n : Int) (m.m.lg.getD (n : Int).toNat Ar) = x4.p) := by unfold Hid ER; rw [← eL.out, ← p3.out, hx4]; exact (if_pos (show (x3.ln.length : Int) ≤ (n : Int) from hle)).trans (by rw [Int.toNat_natCast, he.out]; show _ = AF.p { x3 with ln := N_, aL := aN, cL := cN }; rw [hN_.out]; rfl)
       replace hle : Hid ((x3.ln.length : Int) ≤ (n : Int)) := hle;clear hx4;obtain ⟨g3, hat3, _, _⟩ := T.O.t.blk (by rw [htn.out]; omega);obtain ⟨m3, hm3⟩ : ∃ m3, x4.two.getD k AD.nil = m3 := ⟨_, rfl⟩;have hmm : m3.m = m.m := by rw [← hm3, htn2.out]; exact h3k.out
       have hjl3 : k < x4.two.length := by rw [htn.out]; omega
       have ot := T.O.t;rw [hat3] at ot;have f4 := ot.frozen (k * 7 + 4);have c4 : wn.cell? ⟨g3, k * 7 + 4, none⟩ = some (ji m3.m.sd) := by have h1 := ot.view.2; have h2 := CZ (h1.at_ BC AD.nil hjl3); rw [hm3] at h2; simpa using h2.c4
       have hct3 := ot.capM;have cA := T.A.at_.c5;rw [hat3] at cA;have hT2 := ot.setSd hjl3 hm3 ((n : Int) + 1);have lg3 := T.O.l k hjl3;rw [hm3] at lg3;have ap3 := T.O.ap k hjl3;rw [hm3] at ap3;have na3 := T.NA.l k hjl3;have nz3 := T.NZ.l k hjl3;rw [hm3] at na3 nz3;clear ot;go_upto_region 9 with fail
       clear f4 c4 cA;obtain ⟨e9, he9⟩ := AC (wn.setCell ⟨g3, k * 7 + 4, none⟩ (ji ((n : Int) + 1)));rw [← he9];have PZ_ := PZ_.row (W2 := e9) T.O.t (by decide) (BP hat3 rfl) (fun k_ hk_ => by rw [he9]; exact AE hk_) (by rw [he9]; simp);have U : Aa base q6 (w.heap.size + 1) w e9 (x4.setT k (CU m3 ((n : Int) + 1))) := by rw [he9]; exact T.turnT hat3 (CU m3 ((n : Int) + 1)) (by rw [hat3]; exact hT2) (fun k_ hk_ => AE hk_) (T.B.setCell (p := ⟨g3, k * 7 + 4, none⟩) (by show base ≤ g3; exact (T.O.t.lt g3 (BP hat3 rfl)).1) _) lg3 ap3 (fun g_ e => ⟨na3 g_ e, nz3 g_ e⟩)
       obtain ⟨z, hz⟩ : ∃ z : AF, z = x4.setT k (CU m3 ((n : Int) + 1)) := ⟨_, rfl⟩;rw [← hz] at U;have hP : Hid ((z.p, (0 : Int)) = R) := by
        unfold Hid;have hm9 : (CU m3 ((n : Int) + 1)).m = El m.m := by unfold CU El; rw [← hmm, show m3.m.sd = (n : Int) by rw [hmm]; exact hn2.out]
        rw [hz, AF.setT_p, hR.out, hm9];unfold Ef;rw [← hs.out, hmo.out, if_neg (by rintro (h | h); omega; rw [show x.p.rg.pa = x.rg.pa from rfl, ← hrb.out] at h; cases h), hn2.out];rw [hX.out]
       clear hz hm3 hmm hT2 lg3 ap3 na3 nz3 T he9;have S := U;clear U;obtain ⟨O9, B9⟩ := S.ret;have P9 := S.pz PZ_ (by omega);have ZB := S.Z.box;have a0 := S.A.at_.all;obtain ⟨r0, r1, r2, r3, r4, r5, r6, r7, r8, r9, g0, g1, g2, g3, g4, g5, g6, g7, g8, g9⟩ := Ad ZB;clear S;go_wp2
       refine bodyPost_ret (v := .tuple #[AJ z, ji 0]) (by simp [AJ, results, results143, go_sem, *]) rfl ⟨z, 0, rfl, by exact hP.out, O9, B9, P9⟩
     ·
      have d6 : decide ((x3.ln.length : Int) ≤ (n : Int)) = false := decide_eq_false hle;have d6' : decide (x3.ln.length ≤ n) = false := decide_eq_false (by omega);obtain ⟨b0, b1, b2, b3, b4, b5, b6, b7, b8, b9⟩ := T.A.at_;go_upto_region 8 with fail
      clear b0 b1 b2 b3 b4 b5 b6 b7 b8 b9 d6 d6';have htn : Hid (x3.two.length = x.two.length) := h2l;have htn2 : Hid (x3.two.getD k AD.nil = x3.two.getD k AD.nil) := rfl;obtain ⟨wn, hwn⟩ := AC e1;rw [← hwn] at PZ_;rw [← hwn] at T ⊢;clear hwn;have hX : Hid (ER (Cd x.p (k : Int) (EI (Bp x.p.id x.p.po) (Ao x.p.id x.p.po) m.m.lg Ar (n : Int))) (n : Int) (m.m.lg.getD (n : Int).toNat Ar) = x3.p) := by unfold Hid ER; rw [← eL.out, ← p3.out]; exact if_neg (by show ¬ (x3.ln.length : Int) ≤ (n : Int); exact hle)
      replace hle : Hid (¬ (x3.ln.length : Int) ≤ (n : Int)) := hle;obtain ⟨g3, hat3, _, _⟩ := T.O.t.blk (by rw [htn.out]; omega);obtain ⟨m3, hm3⟩ : ∃ m3, x3.two.getD k AD.nil = m3 := ⟨_, rfl⟩;have hmm : m3.m = m.m := by rw [← hm3, htn2.out]; exact h3k.out
      have hjl3 : k < x3.two.length := by rw [htn.out]; omega
      have ot := T.O.t;rw [hat3] at ot;have f4 := ot.frozen (k * 7 + 4);have c4 : wn.cell? ⟨g3, k * 7 + 4, none⟩ = some (ji m3.m.sd) := by have h1 := ot.view.2; have h2 := CZ (h1.at_ BC AD.nil hjl3); rw [hm3] at h2; simpa using h2.c4
      have hct3 := ot.capM;have cA := T.A.at_.c5;rw [hat3] at cA;have hT2 := ot.setSd hjl3 hm3 ((n : Int) + 1);have lg3 := T.O.l k hjl3;rw [hm3] at lg3;have ap3 := T.O.ap k hjl3;rw [hm3] at ap3;have na3 := T.NA.l k hjl3;have nz3 := T.NZ.l k hjl3;rw [hm3] at na3 nz3;clear ot;go_upto_region 9 with fail
      clear f4 c4 cA;obtain ⟨e9, he9⟩ := AC (wn.setCell ⟨g3, k * 7 + 4, none⟩ (ji ((n : Int) + 1)));rw [← he9];have PZ_ := PZ_.row (W2 := e9) T.O.t (by decide) (BP hat3 rfl) (fun k_ hk_ => by rw [he9]; exact AE hk_) (by rw [he9]; simp);have U : Aa base q6 (w.heap.size + 1) w e9 (x3.setT k (CU m3 ((n : Int) + 1))) := by rw [he9]; exact T.turnT hat3 (CU m3 ((n : Int) + 1)) (by rw [hat3]; exact hT2) (fun k_ hk_ => AE hk_) (T.B.setCell (p := ⟨g3, k * 7 + 4, none⟩) (by show base ≤ g3; exact (T.O.t.lt g3 (BP hat3 rfl)).1) _) lg3 ap3 (fun g_ e => ⟨na3 g_ e, nz3 g_ e⟩)
      obtain ⟨z, hz⟩ : ∃ z : AF, z = x3.setT k (CU m3 ((n : Int) + 1)) := ⟨_, rfl⟩;rw [← hz] at U;have hP : Hid ((z.p, (0 : Int)) = R) := by
       unfold Hid;have hm9 : (CU m3 ((n : Int) + 1)).m = El m.m := by unfold CU El; rw [← hmm, show m3.m.sd = (n : Int) by rw [hmm]; exact hn2.out]
       rw [hz, AF.setT_p, hR.out, hm9];unfold Ef;rw [← hs.out, hmo.out, if_neg (by rintro (h | h); omega; rw [show x.p.rg.pa = x.rg.pa from rfl, ← hrb.out] at h; cases h), hn2.out];rw [hX.out]
      clear hz hm3 hmm hT2 lg3 ap3 na3 nz3 T he9;have S := U;clear U;obtain ⟨O9, B9⟩ := S.ret;have P9 := S.pz PZ_ (by omega);have ZB := S.Z.box;obtain ⟨a0, a1, a2, a3, a4, a5, a6, a7, a8, a9⟩ := S.A.at_;have r0 := Ad ZB;clear S;go_wp2
      refine bodyPost_ret (v := .tuple #[AJ z, ji 0]) (by simp [AJ, results, results143, go_sem, *]) rfl ⟨z, 0, rfl, by exact hP.out, O9, B9, P9⟩
   ·
    refine Ac rfl fun Kz hKz => ?_
    go_simp
    obtain ⟨q0w, hU, kq⟩ := AM u4 (Obj.cells #[ji 0, ji 0, ji 0, ji 0, ji 0, .slice none 0 0, .slice none 0 0, .slice none 0 0, .slice none 0 0, .slice none 0 0] 63);have Z6 : Aj q0w u4.heap.size := by rw [hU]; exact Cl u4 _
    rw [← hU];clear hU;obtain ⟨q6, hq6⟩ := AC u4.heap.size;rw [← hq6] at Z6 ⊢;have q6l : u3.heap.size ≤ q6 := by have := hc0.size; omega
    clear hq6;have hc1 := AG hc0 kq;clear kq;refine hKz _ _ ⟨hc1, ?_⟩;clear hKz Kz hi;refine w1 13 fun Kz hKz => ?_
    go_simp
    go_at_call 160
    refine (Im x.id x.po m.ad m.cap m.m.lg (n : Int) q0w (hL.later hc1).view.2 (by omega) hL.capM).mono ?_;rintro e q1w ⟨a5, c5, rfl, O5, kq⟩;rw [← hLs.out] at O5 ⊢;have Z6 := Z6.keep (kq.block _ (BR Z6));have hc2 := AG hc1 kq;clear kq;refine hKz _ _ ⟨hc2, ?_⟩;clear hKz Kz;refine w1 14 fun Kz hKz => ?_
    go_simp
    go_at_call 159
    refine (Gp x (k : Int) a5 c5 Ls q1w (V.later hc2) S.O.n.capn S.O.g.capn S.O.i.capn S.O.s.capn (fun i hi => (S.O.l i hi).capn) O5.view.2 (by omega)).mono ?_;rintro e q2w ⟨x3, rfl, p3, O3, kq⟩;have lo3 : u3.heap.size ≤ q1w.heap.size := hc2.size;have O3b := O3;have N6x : (∀ g, q1w.heap.size ≤ g → q6 < g) ∧ True := ⟨fun g h => by have := BR Z6; omega, trivial⟩;have O3 := O3.base lo3;have N6 : Ai q6 x3 := ⟨fun b e => by have := N6x.1 _ (O3b.t.lt b e).1; omega, fun b e => by have := N6x.1 _ (O3b.n.lt b e).1; omega, fun b e => by have := N6x.1 _ (O3b.g.lt b e).1; omega, fun b e => by have := N6x.1 _ (O3b.i.lt b e).1; omega, fun b e => by have := N6x.1 _ (O3b.s.lt b e).1; omega, fun j hj b e => by have := N6x.1 _ ((O3b.l j hj).lt b e).1; omega⟩;have Z6 := Z6.keep (kq.block _ (BR Z6));have hc3 := AG hc2 kq;clear kq;refine hKz _ _ ⟨hc3, ?_⟩;clear hKz Kz;refine w1 16 fun Kz hKz => ?_
    have ZB := Z6.box;obtain ⟨r0, r1, r2, r3, r4, r5, r6, r7, r8, r9, g0, g1, g2, g3, g4, g5, g6, g7, g8, g9⟩ := Ad ZB;go_simp
    clear r0 r1 r2 r3 r4 r5 r6 r7 r8 r9 g0 g1 g2 g3 g4 g5 g6 g7 g8 g9;obtain ⟨e1, he1⟩ := AC ((((((((((q2w.setCell (ja q6 0) (ji x3.id)).setCell (ja q6 1) (ji x3.po)).setCell (ja q6 2) (ji x3.rg.ep)).setCell (ja q6 3) (ji x3.rg.ow)).setCell (ja q6 4) (ji x3.rg.pa)).setCell (ja q6 5) (.slice x3.aT x3.two.length x3.cT)).setCell (ja q6 6) (.slice x3.aN x3.net.length x3.cN)).setCell (ja q6 7) (.slice x3.aG x3.ga.length x3.cG)).setCell (ja q6 8) (.slice x3.aL x3.ln.length x3.cL)).setCell (ja q6 9) (.slice x3.aS x3.sd.length x3.cS));have A6 : AS e1 q6 x3 := by rw [he1]; exact Z6.box.put x3
    have kp : ∀ g_, g_ ≠ q6 → e1.heap[g_]? = q2w.heap[g_]? := fun g_ hg => by rw [he1]; exact Ak q2w q6 g_ x3 hg
    have hd : Bw u3 e1 := by rw [he1]; exact CO (q := q6) x3 hc3 q6l
    have O3 := O3.keepQ N6 kp;rw [← he1];clear he1 kp;refine hKz _ _ ⟨hd, ?_⟩;clear hKz Kz;refine Ag ?_;have PZ_ := PZ_.later hd;have zq := S.A.lt;have zz := BR S.Z;have gu3 := M0.lt2_;have sz3 := S.sz;have A := S.A.at_.below hd S.A.lt;have M0 := M0.below hd gu3;have bl := hL.lt;have hL := hL.later hd;have p3 : x3.p = Cd x.p (k : Int) Ls := p3;have h2x : x3.p.two = x.p.two := by rw [p3]; unfold Cd; split <;> rfl
    have hlnx : x3.ln = x.ln := by have h := congrArg Bx.ln p3; have h5 : (Cd x.p (k : Int) Ls).ln = x.p.ln := by { unfold Cd; split <;> rfl }; exact h.trans h5
    have h2l : x3.two.length = x.two.length := by have h := congrArg List.length h2x; unfold AF.p at h; simpa using h
    have h3k : (x3.two.getD k AD.nil).m = m.m := by have h := Ch x3 (k : Int); simp only [Int.toNat_natCast] at h; rw [← h]; unfold AZ; rw [h2x]; exact hmo.out
    have T : Aa base q6 (w.heap.size + 1) w e1 x3 := ⟨O3.base (by omega), A6, N6, (hd.block _ zz).trans S.Z, ⟨fun b e => by have := (O3.t.lt b e).1; omega, fun b e => by have := (O3.n.lt b e).1; omega, fun b e => by have := (O3.g.lt b e).1; omega, fun b e => by have := (O3.i.lt b e).1; omega, fun b e => by have := (O3.s.lt b e).1; omega, fun j hj b e => by have := ((O3.l j hj).lt b e).1; omega⟩, S.B.trans (hd.mono (by omega)), by omega, by omega, by omega⟩;have li3 := O3.i.lt;replace p3 : Hid _ := p3;replace h3k : Hid _ := h3k;replace hlnx : Hid _ := hlnx;have hl3 : x3.ln.length ≤ 60 := by rw [hlnx.out]; exact hll
    clear S V N6 Z6 A6 O3 h2x O5 hLl;have eL : Hid (Ls = EI (Bp x.p.id x.p.po) (Ao x.p.id x.p.po) m.m.lg Ar (n : Int)) := by unfold Hid; rw [hLs.out]; rfl
    clear hLs;by_cases hle : (x3.ln.length : Int) ≤ (n : Int)
    ·
     have d6 : decide ((x3.ln.length : Int) ≤ (n : Int)) = true := decide_eq_true hle;have d6' : decide (x3.ln.length ≤ n) = true := decide_eq_true (by omega);obtain ⟨b0, b1, b2, b3, b4, b5, b6, b7, b8, b9⟩ := T.A.at_;go_upto_region 7 with fail
     clear b0 b1 b2 b3 b4 b5 b6 b7 b8 b9 d6 d6';obtain ⟨bl_, hab, _, hbl⟩ := hL.blk (by omega);obtain ⟨e, he⟩ : ∃ e, m.m.lg.getD n Ar = e := ⟨_, rfl⟩;have E : CJ e1 bl_ (n * 8) e := by have h1 := hL.view.2; rw [hab] at h1; have := FU (h1.at_ Av Ar hnl2); rw [he] at this; simpa using this
     have hcl := hL.capM;have C5 : BH e1 w.heap.size 5 (.slice (some (ja g 0)) x.two.length x.cT) := ⟨by have := A.c5; rw [hat.out] at this; exact this⟩;have C3 : BH e1 g (k * 7 + 3) (.slice (some (ja bl_ 0)) m.m.lg.length m.cap) := ⟨by have := M0.c3; rw [hab] at this; exact this⟩;have blx : bl_ < u3.heap.size := (bl bl_ (by rw [hab]; rfl)).2;replace he : Hid _ := he;clear A M0;refine An (fun Y => BH Y w.heap.size 5 (.slice (some (ja g 0)) x.two.length x.cT) ∧ BH Y g (k * 7 + 3) (.slice (some (ja bl_ 0)) m.m.lg.length m.cap) ∧ CJ Y bl_ (n * 8) e) fun e2 kd => ?_
     have T := T.later kd;have PZ_ := PZ_.later kd;have C5 := C5.below kd C5.lt;have C3 := C3.below kd C3.lt;have E := E.below kd E.lt;clear kd;have hs0 : BH e2 w.heap.size 5 (.slice (some (ja g 0)) x.two.length x.cT) ∧ BH e2 g (k * 7 + 3) (.slice (some (ja bl_ 0)) m.m.lg.length m.cap) ∧ CJ e2 bl_ (n * 8) e := ⟨C5, C3, E⟩;refine tw 0 50 (.pointer (some (ja q6 8))) ?_;refine tw 2 52 (.pointer (some (ja w.heap.size 5))) ?_;refine tw 3 53 (.slice (some (ja g 0)) x.two.length x.cT) ?_ (hy := by intro Y hSw; obtain ⟨⟨X5⟩, _, _⟩ := hSw; go_simp);refine tw 4 54 (ji (k : Int)) ?_;refine tw 5 55 (.pointer (some ⟨g, k * 7, none⟩)) ?_ (hy := by intro Y hSw; go_simp; try omega);refine tw 6 56 (.pointer (some ⟨g, k * 7 + 3, none⟩)) ?_;refine tw 7 57 (.slice (some (ja bl_ 0)) m.m.lg.length m.cap) ?_ (hy := by intro Y hSw; obtain ⟨_, ⟨X3⟩, _⟩ := hSw; go_simp);refine tw 8 58 (ji (n : Int)) ?_;refine tw 9 59 (.pointer (some ⟨bl_, n * 8, none⟩)) ?_ (hy := by intro Y hSw; go_simp; try omega);refine tw 10 60 (.agg (ic e)) ?_ (hy := by intro Y hSw; obtain ⟨_, _, X0, X1, X2, X3, X4, X5, X6, X7⟩ := hSw; go_simp);clear hs0;refine wpAnyH_all (rs := [1, 11]) (by kernel_rfl) (by simp) ?_;intro i hi; rcases (by simpa using hi : i = 1 ∨ i = 11) with rfl | rfl
     focus
      refine Ac rfl fun Kz hKz => ?_
      have b0 := T.A.at_.all;go_simp
      clear b0;refine hKz _ _ ⟨⟨C5, C3, E⟩, ?_⟩;clear hKz Kz hi;refine w1 11 fun Kz hKz => ?_
      go_simp
      obtain ⟨v1, hv1, k1⟩ := AM e2 (Obj.cells (ic e) 27);have V1 : AI AW v1 (some (ja e2.heap.size 0)) [e] := by rw [hv1]; exact AI.oneJ e2 _ e
      have T := T.later k1;have PZ_ := PZ_.later k1;have C5 := C5.below k1 C5.lt;have C3 := C3.below k1 C3.lt;have E := E.below k1 E.lt;rw [← hv1];clear hv1 k1
     rotate_left;focus
      refine Ac rfl fun Kz hKz => ?_
      go_simp
      obtain ⟨v1, hv1, k1⟩ := AM e2 (Obj.cells (ic e) 27);have V1 : AI AW v1 (some (ja e2.heap.size 0)) [e] := by rw [hv1]; exact AI.oneJ e2 _ e
      have T := T.later k1;have PZ_ := PZ_.later k1;have C5 := C5.below k1 C5.lt;have C3 := C3.below k1 C3.lt;have E := E.below k1 E.lt;rw [← hv1];clear hv1 k1;refine hKz _ _ ⟨⟨C5, C3, E⟩, ?_⟩;clear hKz Kz hi;refine w1 1 fun Kz hKz => ?_
      have b0 := T.A.at_.all;go_simp
      clear b0
     rotate_left;all_goals
      refine hKz _ _ ⟨⟨C5, C3, E⟩, ?_⟩;clear hKz Kz;refine w1 12 fun Kz hKz => ?_
      have sz := T.sz;refine CC Av FB 62 _ _ 34 rfl rfl base 27 i3 (.agg #[ji 0, ji 0, ji 0, ji 0, ji 0, ji 0, ji 0, .bool false]) 64 underlying34 hi3 hz30 hz31 hz32 rfl (by decide) (by decide) (.slice x3.aL x3.ln.length x3.cL) x3.ln rfl T.O.i (some (ja e2.heap.size 0)) 1 [e] rfl (fun e => by cases e) V1 (by simp; omega) sz ?_;intro vN v2 oN gN hob;replace oN : AA AW 8 27 base v2 vN (x3.ln ++ [e]) := oN;obtain ⟨N_, hN_⟩ := AC (x3.ln ++ [e]);rw [← hN_] at oN;replace hN_ : Hid _ := hN_;have C5 := C5.keep (gN.block _ C5.lt (fun e => by have := (li3 _ e.symm).1; omega));have C3 := C3.keep (gN.block _ C3.lt (fun e => by have := (li3 _ e.symm).1; omega));have E := E.keep (gN.block _ E.lt (fun e => by have := (li3 _ e.symm).1; omega));have PZ_ := PZ_.grown T.O.i (by decide) gN;obtain ⟨aN, cN, rfl, A2, S2⟩ := T.addL N_ vN oN gN hob;clear gN hob V1 sz T oN;simp only [List.set_cons_zero, List.set_cons_succ];refine hKz _ _ ⟨⟨C5, C3, E⟩, ?_⟩;clear hKz Kz;have hsA : BH v2 w.heap.size 5 (.slice (some (ja g 0)) x.two.length x.cT) ∧ BH v2 g (k * 7 + 3) (.slice (some (ja bl_ 0)) m.m.lg.length m.cap) ∧ CJ v2 bl_ (n * 8) e := ⟨C5, C3, E⟩;refine tw 13 63 (.pointer (some (ja q6 8))) ?_;refine w1 14 fun Kz hKz => ?_
      obtain ⟨⟨b0, b1, b2, b3, b4, b5, b6, b7, b8, b9⟩, qf⟩ := id A2;have f8 := qf 8;go_simp
      clear b0 b1 b2 b3 b4 b5 b6 b7 b8 b9 qf f8 A2 hsA;obtain ⟨wn, hv3⟩ := AC (v2.setCell (ja q6 8) (.slice aN N_.length cN));rw [← hv3] at S2 ⊢;have PZ_ := PZ_.keep (n := q6) (W2 := wn) (by have := PZ_.1; omega) (fun g_ hg => by rw [hv3]; exact AE hg) (by rw [hv3]; simp);have C5 := C5.keep (w' := wn) (by rw [hv3]; exact AE (by show w.heap.size ≠ q6; omega));have C3 := C3.keep (w' := wn) (by rw [hv3]; exact AE (by show g ≠ q6; omega));have E := E.keep (w' := wn) (by rw [hv3]; exact AE (by show bl_ ≠ q6; omega));refine hKz _ _ ⟨⟨C5, C3, E⟩, ?_⟩;clear hKz Kz hv3 C5 C3 E;refine Ag ?_;obtain ⟨x4, hx4⟩ : ∃ z : AF, z = { x3 with ln := N_, aL := aN, cL := cN } := ⟨_, rfl⟩;rw [← hx4] at S2;have htn : Hid (x4.two.length = x.two.length) := by unfold Hid; rw [hx4]; exact h2l
      have htn2 : Hid (x4.two.getD k AD.nil = x3.two.getD k AD.nil) := by unfold Hid; rw [hx4]
      have T := S2;clear S2;have hX : Hid (ER (Cd x.p (k : Int) (EI (Bp x.p.id x.p.po) (Ao x.p.id x.p.po) m.m.lg Ar (n : Int))) (n : Int) (m.m.lg.getD (n : Int).toNat Ar) = x4.p) := by unfold Hid ER; rw [← eL.out, ← p3.out, hx4]; exact (if_pos (show (x3.ln.length : Int) ≤ (n : Int) from hle)).trans (by rw [Int.toNat_natCast, he.out]; show _ = AF.p { x3 with ln := N_, aL := aN, cL := cN }; rw [hN_.out]; rfl)
      replace hle : Hid ((x3.ln.length : Int) ≤ (n : Int)) := hle;clear hx4;obtain ⟨g3, hat3, _, _⟩ := T.O.t.blk (by rw [htn.out]; omega);obtain ⟨m3, hm3⟩ : ∃ m3, x4.two.getD k AD.nil = m3 := ⟨_, rfl⟩;have hmm : m3.m = m.m := by rw [← hm3, htn2.out]; exact h3k.out
      have hjl3 : k < x4.two.length := by rw [htn.out]; omega
      have ot := T.O.t;rw [hat3] at ot;have f4 := ot.frozen (k * 7 + 4);have c4 : wn.cell? ⟨g3, k * 7 + 4, none⟩ = some (ji m3.m.sd) := by have h1 := ot.view.2; have h2 := CZ (h1.at_ BC AD.nil hjl3); rw [hm3] at h2; simpa using h2.c4
      have hct3 := ot.capM;have cA := T.A.at_.c5;rw [hat3] at cA;have hT2 := ot.setSd hjl3 hm3 ((n : Int) + 1);have lg3 := T.O.l k hjl3;rw [hm3] at lg3;have ap3 := T.O.ap k hjl3;rw [hm3] at ap3;have na3 := T.NA.l k hjl3;have nz3 := T.NZ.l k hjl3;rw [hm3] at na3 nz3;clear ot;go_upto_region 9 with fail
      clear f4 c4 cA;obtain ⟨e9, he9⟩ := AC (wn.setCell ⟨g3, k * 7 + 4, none⟩ (ji ((n : Int) + 1)));rw [← he9];have PZ_ := PZ_.row (W2 := e9) T.O.t (by decide) (BP hat3 rfl) (fun k_ hk_ => by rw [he9]; exact AE hk_) (by rw [he9]; simp);have U : Aa base q6 (w.heap.size + 1) w e9 (x4.setT k (CU m3 ((n : Int) + 1))) := by rw [he9]; exact T.turnT hat3 (CU m3 ((n : Int) + 1)) (by rw [hat3]; exact hT2) (fun k_ hk_ => AE hk_) (T.B.setCell (p := ⟨g3, k * 7 + 4, none⟩) (by show base ≤ g3; exact (T.O.t.lt g3 (BP hat3 rfl)).1) _) lg3 ap3 (fun g_ e => ⟨na3 g_ e, nz3 g_ e⟩)
      obtain ⟨z, hz⟩ : ∃ z : AF, z = x4.setT k (CU m3 ((n : Int) + 1)) := ⟨_, rfl⟩;rw [← hz] at U;have hP : Hid ((z.p, (0 : Int)) = R) := by
       unfold Hid;have hm9 : (CU m3 ((n : Int) + 1)).m = El m.m := by unfold CU El; rw [← hmm, show m3.m.sd = (n : Int) by rw [hmm]; exact hn2.out]
       rw [hz, AF.setT_p, hR.out, hm9];unfold Ef;rw [← hs.out, hmo.out, if_neg (by rintro (h | h); omega; rw [show x.p.rg.pa = x.rg.pa from rfl, ← hrb.out] at h; cases h), hn2.out];rw [hX.out]
      clear hz hm3 hmm hT2 lg3 ap3 na3 nz3 T he9;have S := U;clear U;obtain ⟨O9, B9⟩ := S.ret;have P9 := S.pz PZ_ (by omega);have ZB := S.Z.box;have a0 := S.A.at_.all;obtain ⟨r0, r1, r2, r3, r4, r5, r6, r7, r8, r9, g0, g1, g2, g3, g4, g5, g6, g7, g8, g9⟩ := Ad ZB;clear S;go_wp2
      refine bodyPost_ret (v := .tuple #[AJ z, ji 0]) (by simp [AJ, results, results143, go_sem, *]) rfl ⟨z, 0, rfl, by exact hP.out, O9, B9, P9⟩
    ·
     have d6 : decide ((x3.ln.length : Int) ≤ (n : Int)) = false := decide_eq_false hle;have d6' : decide (x3.ln.length ≤ n) = false := decide_eq_false (by omega);obtain ⟨b0, b1, b2, b3, b4, b5, b6, b7, b8, b9⟩ := T.A.at_;go_upto_region 8 with fail
     clear b0 b1 b2 b3 b4 b5 b6 b7 b8 b9 d6 d6';have htn : Hid (x3.two.length = x.two.length) := h2l;have htn2 : Hid (x3.two.getD k AD.nil = x3.two.getD k AD.nil) := rfl;obtain ⟨wn, hwn⟩ := AC e1;rw [← hwn] at PZ_;rw [← hwn] at T ⊢;clear hwn;have hX : Hid (ER (Cd x.p (k : Int) (EI (Bp x.p.id x.p.po) (Ao x.p.id x.p.po) m.m.lg Ar (n : Int))) (n : Int) (m.m.lg.getD (n : Int).toNat Ar) = x3.p) := by unfold Hid ER; rw [← eL.out, ← p3.out]; exact if_neg (by show ¬ (x3.ln.length : Int) ≤ (n : Int); exact hle)
     replace hle : Hid (¬ (x3.ln.length : Int) ≤ (n : Int)) := hle;obtain ⟨g3, hat3, _, _⟩ := T.O.t.blk (by rw [htn.out]; omega);obtain ⟨m3, hm3⟩ : ∃ m3, x3.two.getD k AD.nil = m3 := ⟨_, rfl⟩;have hmm : m3.m = m.m := by rw [← hm3, htn2.out]; exact h3k.out
     have hjl3 : k < x3.two.length := by rw [htn.out]; omega
     have ot := T.O.t;rw [hat3] at ot;have f4 := ot.frozen (k * 7 + 4);have c4 : wn.cell? ⟨g3, k * 7 + 4, none⟩ = some (ji m3.m.sd) := by have h1 := ot.view.2; have h2 := CZ (h1.at_ BC AD.nil hjl3); rw [hm3] at h2; simpa using h2.c4
     have hct3 := ot.capM;have cA := T.A.at_.c5;rw [hat3] at cA;have hT2 := ot.setSd hjl3 hm3 ((n : Int) + 1);have lg3 := T.O.l k hjl3;rw [hm3] at lg3;have ap3 := T.O.ap k hjl3;rw [hm3] at ap3;have na3 := T.NA.l k hjl3;have nz3 := T.NZ.l k hjl3;rw [hm3] at na3 nz3;clear ot;go_upto_region 9 with fail
     clear f4 c4 cA;obtain ⟨e9, he9⟩ := AC (wn.setCell ⟨g3, k * 7 + 4, none⟩ (ji ((n : Int) + 1)));rw [← he9];have PZ_ := PZ_.row (W2 := e9) T.O.t (by decide) (BP hat3 rfl) (fun k_ hk_ => by rw [he9]; exact AE hk_) (by rw [he9]; simp);have U : Aa base q6 (w.heap.size + 1) w e9 (x3.setT k (CU m3 ((n : Int) + 1))) := by rw [he9]; exact T.turnT hat3 (CU m3 ((n : Int) + 1)) (by rw [hat3]; exact hT2) (fun k_ hk_ => AE hk_) (T.B.setCell (p := ⟨g3, k * 7 + 4, none⟩) (by show base ≤ g3; exact (T.O.t.lt g3 (BP hat3 rfl)).1) _) lg3 ap3 (fun g_ e => ⟨na3 g_ e, nz3 g_ e⟩)
     obtain ⟨z, hz⟩ : ∃ z : AF, z = x3.setT k (CU m3 ((n : Int) + 1)) := ⟨_, rfl⟩;rw [← hz] at U;have hP : Hid ((z.p, (0 : Int)) = R) := by
      unfold Hid;have hm9 : (CU m3 ((n : Int) + 1)).m = El m.m := by unfold CU El; rw [← hmm, show m3.m.sd = (n : Int) by rw [hmm]; exact hn2.out]
      rw [hz, AF.setT_p, hR.out, hm9];unfold Ef;rw [← hs.out, hmo.out, if_neg (by rintro (h | h); omega; rw [show x.p.rg.pa = x.rg.pa from rfl, ← hrb.out] at h; cases h), hn2.out];rw [hX.out]
     clear hz hm3 hmm hT2 lg3 ap3 na3 nz3 T he9;have S := U;clear U;obtain ⟨O9, B9⟩ := S.ret;have P9 := S.pz PZ_ (by omega);have ZB := S.Z.box;have a0 := S.A.at_.all;have r0 := Ad ZB;clear S;go_wp2
     refine bodyPost_ret (v := .tuple #[AJ z, ji 0]) (by simp [AJ, results, results143, go_sem, *]) rfl ⟨z, 0, rfl, by exact hP.out, O9, B9, P9⟩
 rotate_left;all_goals
  obtain ⟨O9, B9⟩ := S.ret;have P9 := S.pz PZ_ (by omega);have ZB := S.Z.box;have a0 := S.A.at_.all;have r0 := Ad ZB;clear S;go_wp2
  refine bodyPost_ret (v := .tuple #[AJ x, ji 3]) (by simp [AJ, results, results143, go_sem, *]) rfl ⟨x, 3, rfl, E_, O9, B9, P9⟩
end Go.Proofs.YtjmnaeeknomiaaaGreatDoor
