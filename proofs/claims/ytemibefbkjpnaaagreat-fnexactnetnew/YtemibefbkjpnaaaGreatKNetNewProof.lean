/- For every list of numbers and every list of links the call of FnExactNetNew returns true: impl.NetNew answers as spec.NetNew, every field, it writes into no argument, and its answer owns its memory. No condition. -/
import Derived.Test.YtemibefbkjpnaaaGreatRows
import Derived.Test.YtemibefbkjpnaaaGreatKNw5
import Derived.Test.YtemibefbkjpnaaaGreatM13
import Derived.Test.YtemibefbkjpnaaaGreatM11
import Derived.Deep.Cut
import Derived.Conc.Holds
import Derived.Leaving
import Derived.WalkKit
import Derived.Below
import Derived.ChangeOld
import Derived.WalkSmall
import Derived.ProofKit
import Derived.OpenShut
import Derived.ShutString
import Derived.BigQuiet
namespace Go.Proofs.YtemibefbkjpnaaaGreat.fnExactNetNew
open Go.ChangeShapes Go.WideShapes Go.ChangeAt Go.RowKit
set_option maxRecDepth 100000
set_option linter.unusedVariables false

theorem own : ownKnob Tryz.prog.godebug = none := by kernel_rfl
theorem laidOut : laidOutB Tryz.prog = true := by kernel_rfl

/-- What holds of a call that starts nobody holds of it as of one that may leave others leaving. -/
theorem leaving_of_handed {a : Assume} {C : Checked} {os : Os} {f : FuncId} {r : Reach} {Pre : World → Array Value → Prop} {Post : World → Array Value → Value → World → Prop} (h : ReturnsInHanded a C os f r Pre Post) : ReturnsInLeavingWide a C os f r Pre Post := fun enter => by
  obtain ⟨e1, e2, e3, e4, e5⟩ := h enter
  refine ⟨e1, e2, e3, e4, fun w tape i hf => ?_⟩
  obtain ⟨n, v, w', h1, h2, h3, h4, ⟨j, last, g1, g2, g3⟩, h5⟩ := e5 w tape i hf
  exact ⟨n, v, w', h1, h2, h3, h4, ⟨j, last, g1, g2, g3.2.1, onlyLeaving_of_quiet g3.1, g3.2.2⟩, h5⟩
set_option maxHeartbeats 16000000 in
theorem walk (adI0 : Option Addr) (cI0 : Nat) (ids0 : List Int) (adK1 : Option Addr) (cK1 : Nat) (K1 : List Lk) (w : World) (I0 : IntsIn w adI0 ids0) (I1 : LinksIn w adK1 cK1 K1) :
    Calls Tryz.prog 6 #[.slice adI0 ids0.length cI0, .slice adK1 K1.length cK1] w fun e w' => e = .returned (.bool true) ∧ Below w.heap.size w w' := by
  obtain ⟨lmI, vI, bI⟩ := I0
  obtain ⟨lmK, vK, nK⟩ := I1
  have bK := vK.lt lkEnc_len (by omega)
  unfold maxLen at lmI
  by_cases hl : (ids0.length : Int) ≤ 1048576
  rotate_left
  · have d1 : (1048576 : Int) < (ids0.length : Int) := by omega
    have d2 : decide ((1048576 : Int) < (ids0.length : Int)) = true := decide_eq_true d1
    go_enter Tryz.func6, Tryz.ntmps6
    go_wp2
    go_ret
    exact ⟨rfl, Below.refl _ _⟩
  have d1 : ¬ (1048576 : Int) < (ids0.length : Int) := by omega
  have d2 : decide ((1048576 : Int) < (ids0.length : Int)) = false := decide_eq_false d1
  have hl : ids0.length ≤ 1048576 := by omega
  go_enter Tryz.func6, Tryz.ntmps6
  go_wp2_with fail
  go_at_call 26
  refine (lkSz adK1 K1.length cK1 1048576 w (by decide) (by decide) lmK).mono ?_
  rintro e w_ ⟨rfl, rfl⟩
  by_cases hk : (K1.length : Int) ≤ 1048576
  rotate_left
  · rw [if_neg hk]
    go_wp2
    go_ret
    exact ⟨rfl, Below.refl _ _⟩
  rw [if_pos hk]
  have hk : K1.length ≤ 1048576 := by omega
  obtain ⟨lf, hlf⟩ : ∃ z, z = 1048576 - (K1.length : Int) := ⟨_, rfl⟩
  have lf0 : ¬ lf < 0 := by omega
  rw [← hlf]
  clear hlf d1 d2 lmI lmK
  have BW : Below w_.heap.size w_ w_ := Below.refl _ _
  have nx : ∀ X, Below w_.heap.size w_ X → ViewI X adI0 ids0.length (fun i => ids0.getD i 0) := fun X h => vI.carry (fun a e p => h.block _ (bI a e p))
  have nxb : ∀ X, Below w_.heap.size w_ X → ∀ a, adI0 = some a → 0 < ids0.length → a.block < X.heap.size := fun X h a e p => Nat.lt_of_lt_of_le (bI a e p) h.size
  have nk : ∀ X, Below w_.heap.size w_ X → FView lkEnc X adK1 K1 := fun X h => vK.below h bK
  go_wp2_with fail
  go_at_call 27
  refine (intTo adI0 cI0 ids0 w_ (nx _ BW) (nxb _ BW) hl).mono ?_
  rintro e x1 ⟨g1, rfl, J1, kq⟩
  have tg1 := J1.lt
  have sx1 := kq.size
  have BW := BW.trans (kq.mono BW.size)
  clear kq
  go_wp2_with fail
  go_at_call 28
  refine (lkToS adK1 cK1 K1 x1 (nk _ BW) hk).mono ?_
  rintro e x2 ⟨rfl, J2, kq⟩
  have g2l := J2.lt x1.heap.size rfl
  have sx2 := kq.size
  have J1 := J1.later kq
  have BW := BW.trans (kq.mono BW.size)
  clear kq
  obtain ⟨g2, hg2⟩ : ∃ g, g = x1.heap.size := ⟨_, rfl⟩
  rw [← hg2] at J2 g2l ⊢
  have g2e : x1.heap.size ≤ g2 := by omega
  have g2f : g2 ≤ x1.heap.size := by omega
  clear hg2
  go_wp2_with fail
  go_at_call 20
  refine (newNS (some ⟨g1, 0, none⟩) ids0.length ids0 (some ⟨g2, 0, none⟩) K1.length K1 x2 J1.v (fun a e _ => by cases e; exact J1.lt.2) J2.view.2 hl hk (fun e => by cases e)).mono ?_
  rintro e x3 ⟨aW, cW, CW, aLW, cLW, KW, okW, mW, rfl, OW, NW, kq⟩
  have zW := x3.heap.size
  obtain ⟨lW, hlW⟩ : ∃ l, l = x2.heap.size := ⟨_, rfl⟩
  obtain ⟨hW, hhW⟩ : ∃ l, l = x3.heap.size := ⟨_, rfl⟩
  rw [← hlW, ← hhW] at NW
  have lWe : x2.heap.size ≤ lW ∧ lW ≤ x2.heap.size := by omega
  have hWe : x3.heap.size ≤ hW ∧ hW ≤ x3.heap.size := by omega
  clear hlW hhW zW
  have sx3 := kq.size
  have J1 := J1.later kq
  have J2 := J2.later kq
  have BW := BW.trans (kq.mono BW.size)
  clear kq
  obtain ⟨saW, sbW, scW⟩ := OW.small
  have LW : ∀ i, i < CW.length → (CW.getD i Bd.nil).L.length ≤ 1048576 := fun i hi => Nat.le_trans (sbW i hi) (by decide)
  clear J1 J2
  obtain ⟨x4, hx4⟩ : ∃ y_, y_ = x3.alloc (Obj.cells #[.slice aW CW.length cW, .slice aLW KW.length cLW] 27) := ⟨_, rfl⟩
  have AW : NeAt x4 x3.heap.size (.slice aW CW.length cW) (.slice aLW KW.length cLW) := by rw [hx4]; exact NeAt.new x3 _
  have kq : Below x3.heap.size x3 x4 := by rw [hx4]; exact below_new _
  have sx4 := kq.size
  have NW := NW.later kq
  have BW := BW.trans (kq.mono BW.size)
  clear kq
  go_upto_region 8 with fail
  rw [← hx4]
  clear hx4
  obtain ⟨qAW, hqAW⟩ : ∃ q, q = x3.heap.size := ⟨_, rfl⟩
  rw [← hqAW] at AW ⊢
  have qAWe : x3.heap.size ≤ qAW ∧ qAW ≤ x3.heap.size := by omega
  clear hqAW
  have lAW := AW.lt
  go_wp2_with fail
  go_at_call 27
  refine (intTo adI0 cI0 ids0 x4 (nx _ BW) (nxb _ BW) hl).mono ?_
  rintro e x5 ⟨gx, rfl, JX, kq⟩
  have tgx := JX.lt
  have sx5 := kq.size
  have NW := NW.later kq
  have AW := AW.below kq AW.lt
  have BW := BW.trans (kq.mono BW.size)
  clear kq
  go_wp2_with fail
  go_at_call 28
  refine (lkToS adK1 cK1 K1 x5 (nk _ BW) hk).mono ?_
  rintro e x6 ⟨rfl, JY, kq⟩
  have gyl := JY.lt x5.heap.size rfl
  have sx6 := kq.size
  have NW := NW.later kq
  have AW := AW.below kq AW.lt
  have JX := JX.later kq
  have BW := BW.trans (kq.mono BW.size)
  clear kq
  obtain ⟨gy, hgy⟩ : ∃ g, g = x5.heap.size := ⟨_, rfl⟩
  rw [← hgy] at JY gyl ⊢
  have gye : x5.heap.size ≤ gy := by omega
  have gyf : gy ≤ x5.heap.size := by omega
  clear hgy
  go_wp2_with fail
  go_at_call 19
  refine (newNI (some ⟨gx, 0, none⟩) ids0.length ids0 (some ⟨gy, 0, none⟩) K1.length K1 x6 JX.v (fun a e _ => by cases e; exact JX.lt.2) JY.view.2 hl hk).mono ?_
  rintro e x7 ⟨aG, cG, CG, aLG, cLG, KG, okG, mG, rfl, OG, NG, kq⟩
  have zG := x7.heap.size
  obtain ⟨lG, hlG⟩ : ∃ l, l = x6.heap.size := ⟨_, rfl⟩
  obtain ⟨hG, hhG⟩ : ∃ l, l = x7.heap.size := ⟨_, rfl⟩
  rw [← hlG, ← hhG] at NG
  have lGe : x6.heap.size ≤ lG ∧ lG ≤ x6.heap.size := by omega
  have hGe : x7.heap.size ≤ hG ∧ hG ≤ x7.heap.size := by omega
  clear hlG hhG zG
  have sx7 := kq.size
  have NW := NW.later kq
  have AW := AW.below kq AW.lt
  have JX := JX.later kq
  have JY := JY.later kq
  have BW := BW.trans (kq.mono BW.size)
  clear kq
  obtain ⟨saG, sbG, scG⟩ := OG.small
  have LG : ∀ i, i < CG.length → (CG.getD i Bd.nil).L.length ≤ 1048576 := fun i hi => Nat.le_trans (sbG i hi) (by decide)
  obtain ⟨eok, ddG, ekk⟩ := OG.same OW
  subst eok
  subst ekk
  replace ddG : Hid _ := ddG
  have ddG : Hid (CW.map Bd.d = CG.map Bd.d) := ddG.out
  obtain ⟨x8, hx8⟩ : ∃ y_, y_ = x7.alloc (Obj.cells #[.slice aG CG.length cG, .slice aLG KW.length cLG] 27) := ⟨_, rfl⟩
  have AG : NeAt x8 x7.heap.size (.slice aG CG.length cG) (.slice aLG KW.length cLG) := by rw [hx8]; exact NeAt.new x7 _
  have kq : Below x7.heap.size x7 x8 := by rw [hx8]; exact below_new _
  have sx8 := kq.size
  have NW := NW.later kq
  have AW := AW.below kq AW.lt
  have JX := JX.later kq
  have JY := JY.later kq
  have NG := NG.later kq
  have BW := BW.trans (kq.mono BW.size)
  clear kq
  go_upto_region 11 with fail
  rw [← hx8]
  clear hx8
  obtain ⟨qAG, hqAG⟩ : ∃ q, q = x7.heap.size := ⟨_, rfl⟩
  rw [← hqAG] at AG ⊢
  have qAGe : x7.heap.size ≤ qAG ∧ qAG ≤ x7.heap.size := by omega
  clear hqAG
  have lAG := AG.lt
  have cc := AG
  obtain ⟨m0_0, m0_1⟩ := cc
  have cc := AW
  obtain ⟨m1_0, m1_1⟩ := cc
  go_wp2_with fail
  go_at_call 29
  clear m0_0 m0_1 m1_0 m1_1
  refine (netEq aG aW cG cW CG CW aLG aLW cLG cLW KW x8 (NG.nn (by omega) LG (by omega)) (NW.nn (by omega) LW (by omega)) ddG.out).mono ?_
  rintro e x9 ⟨rfl, kq⟩
  have sx9 := kq.size
  have NW := NW.later kq
  have AW := AW.below kq AW.lt
  have JX := JX.later kq
  have JY := JY.later kq
  have NG := NG.later kq
  have AG := AG.below kq AG.lt
  have BW := BW.trans (kq.mono BW.size)
  clear kq
  go_wp2_with fail
  go_at_call 27
  refine (intTo adI0 cI0 ids0 x9 (nx _ BW) (nxb _ BW) hl).mono ?_
  rintro e x10 ⟨gz, rfl, JZ, kq⟩
  have sx10 := kq.size
  have NW := NW.later kq
  have AW := AW.below kq AW.lt
  have JX := JX.later kq
  have JY := JY.later kq
  have NG := NG.later kq
  have AG := AG.below kq AG.lt
  have BW := BW.trans (kq.mono BW.size)
  clear kq
  go_wp2_with fail
  go_at_call 30
  refine (intEq (some ⟨gx, 0, none⟩) (some ⟨gz, 0, none⟩) ids0.length ids0.length ids0.length (fun i => ids0.getD i 0) x10 JX.v JZ.v hl).mono ?_
  rintro e x11 ⟨rfl, kq⟩
  have sx11 := kq.size
  have NW := NW.later kq
  have AW := AW.below kq AW.lt
  have JX := JX.later kq
  have JY := JY.later kq
  have NG := NG.later kq
  have AG := AG.below kq AG.lt
  have JZ := JZ.later kq
  have BW := BW.trans (kq.mono BW.size)
  clear kq
  clear JZ
  go_wp2_with fail
  go_at_call 28
  refine (lkToS adK1 cK1 K1 x11 (nk _ BW) hk).mono ?_
  rintro e x12 ⟨rfl, JV, kq⟩
  have gvl := JV.lt x11.heap.size rfl
  have sx12 := kq.size
  have NW := NW.later kq
  have AW := AW.below kq AW.lt
  have JX := JX.later kq
  have JY := JY.later kq
  have NG := NG.later kq
  have AG := AG.below kq AG.lt
  have BW := BW.trans (kq.mono BW.size)
  clear kq
  obtain ⟨gv, hgv⟩ : ∃ g, g = x11.heap.size := ⟨_, rfl⟩
  rw [← hgv] at JV gvl ⊢
  have gve : x11.heap.size ≤ gv := by omega
  have gvf : gv ≤ x11.heap.size := by omega
  clear hgv
  go_wp2_with fail
  go_at_call 31
  refine (lkEqS (some ⟨gy, 0, none⟩) (some ⟨gv, 0, none⟩) K1.length K1.length K1 x12 JY.view.2 JV.view.2 hk).mono ?_
  rintro e x13 ⟨rfl, kq⟩
  have sx13 := kq.size
  have NW := NW.later kq
  have AW := AW.below kq AW.lt
  have JX := JX.later kq
  have JY := JY.later kq
  have NG := NG.later kq
  have AG := AG.below kq AG.lt
  have JV := JV.later kq
  have BW := BW.trans (kq.mono BW.size)
  clear kq
  clear JV
  have jx := JX.lt
  have jy := JY.lt gy rfl
  go_wp2_with fail
  go_at_call 32
  refine (intMark gx ids0.length 1 _ ids0.length (fun i => ids0.getD i 0) x13 JX hl (by decide) (by decide)).mono ?_
  rintro e y1 ⟨rfl, kr⟩
  have sy1 := kr.size
  have AW := AW.keep (kr.block _ AW.lt (by omega))
  have AG := AG.keep (kr.block _ AG.lt (by omega))
  have NW := NW.keep (fun g h1 h2 => kr.block g (Nat.lt_of_lt_of_le h2 NW.hs) (by omega)) kr.size
  have NG := NG.keep (fun g h1 h2 => kr.block g (Nat.lt_of_lt_of_le h2 NG.hs) (by omega)) kr.size
  have JY := JY.keep (fun g e => kr.block g (JY.lt g e).2 (by simp only [Value.ownBlock, Option.some.injEq] at e; omega))
  have BW := BW.trans ((kr.below (by omega)).mono (by have := BW.size; omega))
  clear kr JX
  have n1 : 0 ≤ 1 + (ids0.length : Int) := by omega
  go_wp2_with fail
  go_at_call 33
  refine (lkMark (some ⟨gy, 0, none⟩) K1.length (1 + (ids0.length : Int)) _ K1 y1 JY hk (by omega) (by omega)).mono ?_
  rintro e y2 ⟨rfl, _, gr⟩
  have kr : KeptR gy (gy + 1) y1 y2 := KeptR.of_grown gr (fun k e => by simp only [Value.ownBlock, Option.some.injEq] at e; omega)
  clear gr
  have sy2 := kr.size
  have AW := AW.keep (kr.block _ AW.lt (by omega))
  have AG := AG.keep (kr.block _ AG.lt (by omega))
  have NW := NW.keep (fun g h1 h2 => kr.block g (Nat.lt_of_lt_of_le h2 NW.hs) (by omega)) kr.size
  have NG := NG.keep (fun g h1 h2 => kr.block g (Nat.lt_of_lt_of_le h2 NG.hs) (by omega)) kr.size
  have BW := BW.trans ((kr.below (by omega)).mono (by have := BW.size; omega))
  clear kr JY
  obtain ⟨kk, hkk⟩ : ∃ z, z = 1 + (ids0.length : Int) + 4 * (K1.length : Int) := ⟨_, rfl⟩
  have kk0 : ¬ kk < 0 := by omega
  rw [← hkk]
  clear hkk
  have cc := AG
  obtain ⟨m0_0, m0_1⟩ := cc
  have cc := AW
  obtain ⟨m1_0, m1_1⟩ := cc
  go_wp2_with fail
  go_at_call 29
  clear m0_0 m0_1 m1_0 m1_1
  refine (netEq aG aW cG cW CG CW aLG aLW cLG cLW KW y2 (NG.nn (by omega) LG (by omega)) (NW.nn (by omega) LW (by omega)) ddG.out).mono ?_
  rintro e y3 ⟨rfl, kq⟩
  have sy3 := kq.size
  have NW := NW.later kq
  have AW := AW.below kq AW.lt
  have NG := NG.later kq
  have AG := AG.below kq AG.lt
  have BW := BW.trans (kq.mono BW.size)
  clear kq
  have cc := AG
  obtain ⟨m0, m1⟩ := cc
  go_wp2_with fail
  go_at_call 34
  clear m0 m1
  refine (netMark aG cG CG aLG cLG KW 1 lG mG hG y3 NG (by omega) (fun i hi => Nat.le_trans (sbG i hi) (by decide)) (by omega) (by decide) (by decide)).mono ?_
  rintro e y4 ⟨rfl, NG', kr⟩
  have sy4 := kr.size
  have AW := AW.keep (kr.block _ AW.lt (by omega))
  have AG := AG.keep (kr.block _ AG.lt (by omega))
  have NW := NW.keep (fun g h1 h2 => kr.block g (Nat.lt_of_lt_of_le h2 NW.hs) (by omega)) kr.size
  have NG := NG'
  clear NG'
  have BW := BW.trans ((kr.below (by omega)).mono (by have := BW.size; omega))
  clear kr
  obtain ⟨mm, hmm⟩ : ∃ z, z = 1 + (kTo CG CG.length : Int) + 4 * (KW.length : Int) := ⟨_, rfl⟩
  have mm0 : ¬ mm < 0 := by omega
  rw [← hmm]
  replace hmm : Hid _ := hmm
  have hmln : (marksN CG 1 CG.length).length = CG.length := marksN_len _ _ _
  have cc := AG
  obtain ⟨m0, m1⟩ := cc
  go_wp2_with fail
  go_at_call 35
  clear m0 m1
  refine (netHeld aG cG CG aLG cLG KW.length 1 y4 NG.own.view.2 NG.own2.view.2 (by omega) (fun i hi => Nat.le_trans (sbG i hi) (by decide)) (by omega) (by decide) (by decide)).mono ?_
  rintro e y5 ⟨rfl, kq⟩
  have sy5 := kq.size
  have NW := NW.later kq
  have AW := AW.below kq AW.lt
  have NG := NG.later kq
  have AG := AG.below kq AG.lt
  have BW := BW.trans (kq.mono BW.size)
  clear kq
  rw [← hmm.out]
  go_wp2_with fail
  go_at_call 27
  refine (intTo adI0 cI0 ids0 y5 (nx _ BW) (nxb _ BW) hl).mono ?_
  rintro e y6 ⟨ga, rfl, JA, kq⟩
  have tga := JA.lt
  have sy6 := kq.size
  have NW := NW.later kq
  have AW := AW.below kq AW.lt
  have NG := NG.later kq
  have AG := AG.below kq AG.lt
  have BW := BW.trans (kq.mono BW.size)
  clear kq
  go_wp2_with fail
  go_at_call 28
  refine (lkToS adK1 cK1 K1 y6 (nk _ BW) hk).mono ?_
  rintro e y7 ⟨rfl, JB, kq⟩
  have gbl := JB.lt y6.heap.size rfl
  have sy7 := kq.size
  have NW := NW.later kq
  have AW := AW.below kq AW.lt
  have NG := NG.later kq
  have AG := AG.below kq AG.lt
  have JA := JA.later kq
  have BW := BW.trans (kq.mono BW.size)
  clear kq
  obtain ⟨gb, hgb⟩ : ∃ g, g = y6.heap.size := ⟨_, rfl⟩
  rw [← hgb] at JB gbl ⊢
  have gbe : y6.heap.size ≤ gb := by omega
  have gbf : gb ≤ y6.heap.size := by omega
  clear hgb
  go_wp2_with fail
  go_at_call 19
  refine (newNI (some ⟨ga, 0, none⟩) ids0.length ids0 (some ⟨gb, 0, none⟩) K1.length K1 y7 JA.v (fun a e _ => by cases e; exact JA.lt.2) JB.view.2 hl hk).mono ?_
  rintro e y8 ⟨aH, cH, CH, aLH, cLH, KH, okH, mH, rfl, OH, NH, kq⟩
  have zH := y8.heap.size
  obtain ⟨lH, hlH⟩ : ∃ l, l = y7.heap.size := ⟨_, rfl⟩
  obtain ⟨hH, hhH⟩ : ∃ l, l = y8.heap.size := ⟨_, rfl⟩
  rw [← hlH, ← hhH] at NH
  have lHe : y7.heap.size ≤ lH ∧ lH ≤ y7.heap.size := by omega
  have hHe : y8.heap.size ≤ hH ∧ hH ≤ y8.heap.size := by omega
  clear hlH hhH zH
  have sy8 := kq.size
  have NW := NW.later kq
  have AW := AW.below kq AW.lt
  have NG := NG.later kq
  have AG := AG.below kq AG.lt
  have JA := JA.later kq
  have JB := JB.later kq
  have BW := BW.trans (kq.mono BW.size)
  clear kq
  obtain ⟨saH, sbH, scH⟩ := OH.small
  have LH : ∀ i, i < CH.length → (CH.getD i Bd.nil).L.length ≤ 1048576 := fun i hi => Nat.le_trans (sbH i hi) (by decide)
  clear JA JB
  obtain ⟨eok, ddH, ekk⟩ := OH.same OW
  subst eok
  subst ekk
  replace ddH : Hid _ := ddH
  obtain ⟨y9, hy9⟩ : ∃ y_, y_ = y8.alloc (Obj.cells #[.slice aH CH.length cH, .slice aLH KW.length cLH] 27) := ⟨_, rfl⟩
  have AH : NeAt y9 y8.heap.size (.slice aH CH.length cH) (.slice aLH KW.length cLH) := by rw [hy9]; exact NeAt.new y8 _
  have kq : Below y8.heap.size y8 y9 := by rw [hy9]; exact below_new _
  have sy9 := kq.size
  have NW := NW.later kq
  have AW := AW.below kq AW.lt
  have NG := NG.later kq
  have AG := AG.below kq AG.lt
  have NH := NH.later kq
  have BW := BW.trans (kq.mono BW.size)
  clear kq
  go_upto_region 31 with fail
  rw [← hy9]
  clear hy9
  obtain ⟨qAH, hqAH⟩ : ∃ q, q = y8.heap.size := ⟨_, rfl⟩
  rw [← hqAH] at AH ⊢
  have qAHe : y8.heap.size ≤ qAH ∧ qAH ≤ y8.heap.size := by omega
  clear hqAH
  have lAH := AH.lt
  have cc := AH
  obtain ⟨m0_0, m0_1⟩ := cc
  have cc := AW
  obtain ⟨m1_0, m1_1⟩ := cc
  go_wp2_with fail
  go_at_call 29
  clear m0_0 m0_1 m1_0 m1_1
  refine (netEq aH aW cH cW CH CW aLH aLW cLH cLW KW y9 (NH.nn (by omega) LH (by omega)) (NW.nn (by omega) LW (by omega)) ddH.out).mono ?_
  rintro e y10 ⟨rfl, kq⟩
  have sy10 := kq.size
  have NW := NW.later kq
  have AW := AW.below kq AW.lt
  have NG := NG.later kq
  have AG := AG.below kq AG.lt
  have NH := NH.later kq
  have AH := AH.below kq AH.lt
  have BW := BW.trans (kq.mono BW.size)
  clear kq
  have cc := AG
  obtain ⟨m0, m1⟩ := cc
  go_wp2_with fail
  go_at_call 35
  clear m0 m1
  refine (netHeld aG cG CG aLG cLG KW.length 1 y10 NG.own.view.2 NG.own2.view.2 (by omega) (fun i hi => Nat.le_trans (sbG i hi) (by decide)) (by omega) (by decide) (by decide)).mono ?_
  rintro e y11 ⟨rfl, kq⟩
  have sy11 := kq.size
  have NW := NW.later kq
  have AW := AW.below kq AW.lt
  have NG := NG.later kq
  have AG := AG.below kq AG.lt
  have NH := NH.later kq
  have AH := AH.below kq AH.lt
  have BW := BW.trans (kq.mono BW.size)
  clear kq
  rw [← hmm.out]
  go_wp2
  go_ret
  exact ⟨rfl, BW⟩


set_option maxRecDepth 100000 in
theorem lifted (os : Os) (started : os.Started) (H : Type) (enc : TypeId × Value → H) :
    ReturnsInHanded {} Tryz.checked os 6 .any (Rows.fnExactNetNewSpec.pre6 enc Tryz.prog Tryz.f6 Rows.fnExactNetNewRow.domain false) (Rows.fnExactNetNewSpec.post enc Tryz.prog Tryz.f6 false true false false) := by
  refine returnsInHanded_of_change (C := Tryz.checked) own started (by kernel_rfl) Tryz.func6
    (ChangeSpec.witness6 (enc := enc) (C := Tryz.checked) false ⟨#[], #[.slice none 0 0, .slice none 0 0], []⟩ 8 (by kernel_rfl) (by kernel_rfl) (by kernel_rfl) (by kernel_rfl)) ?_
  intro W base args ds gs before hval0 hW hcnd _
  have hval : ∀ (j : Nat) t v, Tryz.f6.params[j]? = some t → args[j]? = some v → Value.okWide Tryz.prog W .any base t v := hval0
  have hW' := hW
  obtain ⟨p, q, hA0, hV, rfl, hfz, hnd⟩ := hW
  have hA : DataW.TrodAll enc Tryz.prog W 0 (fun _ => true) true Tryz.f6.params.toList args.toList ds p := hA0
  rw [Tryz.params6] at hA hval
  obtain ⟨v0, vs0, d0, ds0, p0, q0, hargs, rfl, rfl, h0, r0⟩ := trodAll_cons hA
  obtain ⟨v1, vs1, d1, ds1, p1, q1, rfl, rfl, rfl, h1, r1⟩ := trodAll_cons r0
  obtain ⟨rfl, rfl, rfl⟩ := trodAll_nil r1
  obtain rfl : args = #[v0, v1] := by cases args; simp_all
  obtain ⟨rfl, rfl⟩ := trodVars_none hV
  obtain ⟨adI0, cI0, ids0, rfl, I0⟩ := intsIn_open (hval 0 43 v0 rfl rfl) h0
  have lt0 : ∀ x ∈ p0, x.block < W.heap.size := by obtain ⟨m, hm⟩ := h0; exact DataW.trod_lt m _ _ _ hm
  obtain ⟨adK1, cK1, K1, rfl, I1⟩ := linksIn_open (hval 1 50 v1 rfl rfl) h1
  have lt1 : ∀ x ∈ p1, x.block < W.heap.size := by obtain ⟨m, hm⟩ := h1; exact DataW.trod_lt m _ _ _ hm
  clear hA0 hval0
  refine (walk adI0 cI0 ids0 adK1 cK1 K1 W I0 I1).mono fun e W' ⟨he, bel⟩ => ?_
  subst he
  exact ⟨_, rfl, _, _, _, [], _, [], hW', trodAll_mk1 (shut_bool Tryz.underlying4 _), (trodAll_cons_mk (Below.trod laidOut (by kernel_rfl) (of_decide_eq_true (by kernel_rfl)) h0 bel lt0) (trodAll_cons_mk (Below.trod laidOut (by kernel_rfl) (of_decide_eq_true (by kernel_rfl)) h1 bel lt1) trodAll_mk0)), rfl, bel.frame _, fun h => by cases h⟩

theorem over : Rows.fnExactNetNewRow.holds Tryz.pinned (OpenSpec.ofChange Rows.fnExactNetNewSpec) :=
  OpenClaim.holds_of_wide_leaving 6 Tryz.f6 rfl rfl rfl rfl rfl rfl rfl ⟨rfl, rfl, rfl, rfl, rfl⟩ rfl rfl rfl rfl rfl (by kernel_rfl) Tryz.func6 (by kernel_rfl)
    (of_decide_eq_true (by kernel_rfl)) (by unfold Func.isWrapper; first | (rw [if_pos (by decide +kernel)]; kernel_rfl) | (rw [if_neg (by decide +kernel)]; exact ⟨rfl, rfl⟩))
    (fun os started H enc _ => leaving_of_handed (lifted os started H enc))

theorem proved : Rows.FnExactNetNewSaid := over
end Go.Proofs.YtemibefbkjpnaaaGreat.fnExactNetNew
namespace Go.Proofs.YtemibefbkjpnaaaGreat
theorem netNew_holds : Rows.FnExactNetNewSaid := fnExactNetNew.proved
#print axioms netNew_holds
end Go.Proofs.YtemibefbkjpnaaaGreat
