/- laws.eqBox, walked. Boxes of one size; both Released, walked. Lists of In: held. Lists of minders: held. Lists of wires: held. laws.heldBox, walked. Boxes that are marked, of one size. A region by its states; rows of different things. impl.numFits, slices.Clone of In, journalOf, mindingOf, walked. spec.l12Copy, spec.Note, walked. spec.l14Copy: its first statement. spec.l14Copy: how far its first statement is. Boxes that may be written; boxes that a call owns. What is held while gates listen. spec.l14Copy, walked. spec.l14Minds, spec.l15Who, walked. spec.Accept, walked. The numbers under which this dump holds the lock's functions and types, and that it holds them; no condition. (*minding).fall, walked. The register at work: its number. The register at work: its owner and its pair. -/
import Derived.Test.YtijhpfccjaaalaaGreatZa1
import Derived.Test.YtijhpfccjaaalaaGreatRows
import Derived.WalkKit
import Derived.ProofKit
import Derived.OpenShut
import Derived.ShutString
import Derived.ChangeOld
import Derived.Below
import Derived.Deep.QuietTactic
import Derived.BigQuiet
import Derived.WalkSmall
import Derived.Laws.OwnMore
import Derived.WalkSpells
import Derived.WalkLawsBesides
import Derived.Deep.Cut
import Derived.Test.YtijhpfccjaaalaaGreatIs3
import Derived.Deep.RegionHeld
import Derived.Test.YtijhpfccjaaalaaGreatFlatApp
import Derived.Test.YtijhpfccjaaalaaGreatTakes
import Derived.Maps.AppendAt
import Derived.Test.YtijhpfccjaaalaaGreatMi1
import Derived.Test.YtijhpfccjaaalaaGreatIs2
import Derived.Test.YtijhpfccjaaalaaGreatBxd1
import Derived.Test.YtijhpfccjaaalaaGreatGa1
import Derived.Test.YtijhpfccjaaalaaGreatRe1
import Derived.Test.YtijhpfccjaaalaaGreatMd0
import Derived.Test.YtijhpfccjaaalaaGreatProg
import Derived.Conc.MuLone
import Derived.KernelRfl
import Derived.Lib.SliceRun
import Derived.Test.YtijhpfccjaaalaaGreatIs1
import Derived.Laws.LoneSync
namespace Go.Proofs.YtijhpfccjaaalaaGreat
open Go.ChangeShapes Go.WideShapes Go.ChangeAt Go.RowKit
open Go.ChangeMaps (open_string shut_string)
set_option linter.unusedVariables false
set_option maxRecDepth 100000

/-- A box's cells, of which some are another one's. -/
structure TenZ (w : World) (q : Nat) (x z : BxD) : Prop where
  c0 : w.cell? ⟨q, 0, none⟩ = some (.int .i64 x.id)
  c1 : w.cell? ⟨q, 1, none⟩ = some (.int .i64 x.po)
  c2 : w.cell? ⟨q, 2, none⟩ = some (.int .i64 x.rg.ep)
  c3 : w.cell? ⟨q, 3, none⟩ = some (.int .i64 x.rg.ow)
  c4 : w.cell? ⟨q, 4, none⟩ = some (.int .i64 x.rg.pa)
  c5 : w.cell? ⟨q, 5, none⟩ = some (.slice z.aT z.two.length z.cT)
  c6 : w.cell? ⟨q, 6, none⟩ = some (.slice z.aN x.net.length z.cN)
  c7 : w.cell? ⟨q, 7, none⟩ = some (.slice z.aG x.ga.length z.cG)
  c8 : w.cell? ⟨q, 8, none⟩ = some (.slice z.aL x.ln.length z.cL)
  c9 : w.cell? ⟨q, 9, none⟩ = some (.slice z.aS x.sd.length z.cS)
theorem TenZ.below {w w' : World} {q n : Nat} {x z : BxD} (h : TenZ w q x z) (k : Below n w w') (hq : q < n) : TenZ w' q x z :=
  ⟨(World.cell?_of_block (a := ⟨q, 0, none⟩) (k.block q hq)).trans h.c0, (World.cell?_of_block (a := ⟨q, 1, none⟩) (k.block q hq)).trans h.c1, (World.cell?_of_block (a := ⟨q, 2, none⟩) (k.block q hq)).trans h.c2, (World.cell?_of_block (a := ⟨q, 3, none⟩) (k.block q hq)).trans h.c3, (World.cell?_of_block (a := ⟨q, 4, none⟩) (k.block q hq)).trans h.c4, (World.cell?_of_block (a := ⟨q, 5, none⟩) (k.block q hq)).trans h.c5, (World.cell?_of_block (a := ⟨q, 6, none⟩) (k.block q hq)).trans h.c6, (World.cell?_of_block (a := ⟨q, 7, none⟩) (k.block q hq)).trans h.c7, (World.cell?_of_block (a := ⟨q, 8, none⟩) (k.block q hq)).trans h.c8, (World.cell?_of_block (a := ⟨q, 9, none⟩) (k.block q hq)).trans h.c9⟩
theorem TenZ.lt {w : World} {q : Nat} {x z : BxD} (h : TenZ w q x z) : q < w.heap.size := World.block_lt_of_cell? w _ h.c0
set_option maxHeartbeats 2000000 in
theorem bxEq0 (x z : BxD) (w : World) (I : BxIn w x) (J : BxIn w z) (K : BxSm x) (ht : z.two.map MiD.m = x.two.map MiD.m) (e3 : z.net = x.net) (e4 : z.ga = x.ga) (e5 : z.ln = x.ln) (e6 : z.sd = x.sd) :
    Calls Tryz.prog 25 #[.agg #[.int .i64 x.id, .int .i64 x.po, .int .i64 x.rg.ep, .int .i64 x.rg.ow, .int .i64 x.rg.pa, .slice x.aT x.two.length x.cT, .slice x.aN x.net.length x.cN, .slice x.aG x.ga.length x.cG, .slice x.aL x.ln.length x.cL, .slice x.aS x.sd.length x.cS], .agg #[.int .i64 x.id, .int .i64 x.po, .int .i64 x.rg.ep, .int .i64 x.rg.ow, .int .i64 x.rg.pa, .slice z.aT z.two.length z.cT, .slice z.aN x.net.length z.cN, .slice z.aG x.ga.length z.cG, .slice z.aL x.ln.length z.cL, .slice z.aS x.sd.length z.cS]] w fun e w' => e = .returned (.bool true) ∧ Below w.heap.size w w' := by
  have d0 : (x.id != x.id) = false := by simp
  have d1 : (x.po != x.po) = false := by simp
  obtain ⟨y, hy⟩ : ∃ y, y = (w.alloc (Obj.cells #[.int .i64 x.id, .int .i64 x.po, .int .i64 x.rg.ep, .int .i64 x.rg.ow, .int .i64 x.rg.pa, .slice x.aT x.two.length x.cT, .slice x.aN x.net.length x.cN, .slice x.aG x.ga.length x.cG, .slice x.aL x.ln.length x.cL, .slice x.aS x.sd.length x.cS] 55)).alloc (Obj.cells #[.int .i64 x.id, .int .i64 x.po, .int .i64 x.rg.ep, .int .i64 x.rg.ow, .int .i64 x.rg.pa, .slice z.aT z.two.length z.cT, .slice z.aN x.net.length z.cN, .slice z.aG x.ga.length z.cG, .slice z.aL x.ln.length z.cL, .slice z.aS x.sd.length z.cS] 55) := ⟨_, rfl⟩
  have B0 : Below w.heap.size w y := by rw [hy]; exact ((Below.refl _ _).alloc (Nat.le_refl _) _).alloc (by simp) _
  have A : BxAt y w.heap.size x := by rw [hy]; constructor <;> simp [go_sem]
  have C : TenZ y (w.heap.size + 1) x z := by rw [hy]; constructor <;> simp [go_sem]
  have I := I.below B0
  have Jn : FView wiEnc y z.aN x.net := by have := (J.below B0).n; rw [e3] at this; exact this
  have Jg : FView boEnc y z.aG x.ga := by have := (J.below B0).g; rw [e4] at this; exact this
  have Ji : FView ikEnc y z.aL x.ln := by have := (J.below B0).i; rw [e5] at this; exact this
  have Js : FView ouEnc y z.aS x.sd := by have := (J.below B0).s; rw [e6] at this; exact this
  have Jt := (J.below B0).t
  clear J e3 e4 e5 e6
  go_enter Tryz.func25, Tryz.ntmps25
  have cc := A
  obtain ⟨a0, a1, a2, a3, a4, a5, a6, a7, a8, a9⟩ := cc
  have cc := C
  obtain ⟨c0, c1, c2, c3, c4, c5, c6, c7, c8, c9⟩ := cc
  go_wp2_with fail
  go_at_call 67
  rw [← hy]
  clear a0 a1 a2 a3 a4 a5 a6 a7 a8 a9 c0 c1 c2 c3 c4 c5 c6 c7 c8 c9 hy
  refine (eqRg x.rg y).mono ?_
  rintro e u0 ⟨rfl, k0⟩
  have A := A.below k0 A.lt
  have C := C.below k0 C.lt
  have I := I.below k0
  have Jt := Jt.below k0 (Nat.le_refl _)
  have Jn := Jn.below k0 (Jn.lt wiEnc_len (by omega))
  have Jg := Jg.below k0 (Jg.lt boEnc_len (by omega))
  have Ji := Ji.below k0 (Ji.lt ikEnc_len (by omega))
  have Js := Js.below k0 (Js.lt ouEnc_len (by omega))
  have B0 := B0.trans (k0.mono B0.size)
  clear k0
  have cc := A
  obtain ⟨a0, a1, a2, a3, a4, a5, a6, a7, a8, a9⟩ := cc
  have cc := C
  obtain ⟨c0, c1, c2, c3, c4, c5, c6, c7, c8, c9⟩ := cc
  go_wp2_with fail
  go_at_call 68
  clear a0 a1 a2 a3 a4 a5 a6 a7 a8 a9 c0 c1 c2 c3 c4 c5 c6 c7 c8 c9
  refine (mdEq x.aT z.aT x.cT z.cT x.two z.two u0 I.t Jt ht K.t K.ls).mono ?_
  rintro e u1 ⟨rfl, k1⟩
  have A := A.below k1 A.lt
  have C := C.below k1 C.lt
  have I := I.below k1
  have Jt := Jt.below k1 (Nat.le_refl _)
  have Jn := Jn.below k1 (Jn.lt wiEnc_len (by omega))
  have Jg := Jg.below k1 (Jg.lt boEnc_len (by omega))
  have Ji := Ji.below k1 (Ji.lt ikEnc_len (by omega))
  have Js := Js.below k1 (Js.lt ouEnc_len (by omega))
  have B0 := B0.trans (k1.mono B0.size)
  clear k1
  have cc := A
  obtain ⟨a0, a1, a2, a3, a4, a5, a6, a7, a8, a9⟩ := cc
  have cc := C
  obtain ⟨c0, c1, c2, c3, c4, c5, c6, c7, c8, c9⟩ := cc
  go_wp2_with fail
  go_at_call 69
  clear a0 a1 a2 a3 a4 a5 a6 a7 a8 a9 c0 c1 c2 c3 c4 c5 c6 c7 c8 c9
  refine (wiEqS x.aN z.aN x.cN z.cN x.net u1 I.n Jn K.n).mono ?_
  rintro e u2 ⟨rfl, k2⟩
  have A := A.below k2 A.lt
  have C := C.below k2 C.lt
  have I := I.below k2
  have Jt := Jt.below k2 (Nat.le_refl _)
  have Jn := Jn.below k2 (Jn.lt wiEnc_len (by omega))
  have Jg := Jg.below k2 (Jg.lt boEnc_len (by omega))
  have Ji := Ji.below k2 (Ji.lt ikEnc_len (by omega))
  have Js := Js.below k2 (Js.lt ouEnc_len (by omega))
  have B0 := B0.trans (k2.mono B0.size)
  clear k2
  have cc := A
  obtain ⟨a0, a1, a2, a3, a4, a5, a6, a7, a8, a9⟩ := cc
  have cc := C
  obtain ⟨c0, c1, c2, c3, c4, c5, c6, c7, c8, c9⟩ := cc
  go_wp2_with fail
  go_at_call 70
  clear a0 a1 a2 a3 a4 a5 a6 a7 a8 a9 c0 c1 c2 c3 c4 c5 c6 c7 c8 c9
  refine (boEq x.aG z.aG x.cG z.cG x.ga u2 I.g Jg K.g).mono ?_
  rintro e u3 ⟨rfl, k3⟩
  have A := A.below k3 A.lt
  have C := C.below k3 C.lt
  have I := I.below k3
  have Jt := Jt.below k3 (Nat.le_refl _)
  have Jn := Jn.below k3 (Jn.lt wiEnc_len (by omega))
  have Jg := Jg.below k3 (Jg.lt boEnc_len (by omega))
  have Ji := Ji.below k3 (Ji.lt ikEnc_len (by omega))
  have Js := Js.below k3 (Js.lt ouEnc_len (by omega))
  have B0 := B0.trans (k3.mono B0.size)
  clear k3
  have cc := A
  obtain ⟨a0, a1, a2, a3, a4, a5, a6, a7, a8, a9⟩ := cc
  have cc := C
  obtain ⟨c0, c1, c2, c3, c4, c5, c6, c7, c8, c9⟩ := cc
  go_wp2_with fail
  go_at_call 71
  clear a0 a1 a2 a3 a4 a5 a6 a7 a8 a9 c0 c1 c2 c3 c4 c5 c6 c7 c8 c9
  refine (ikEqS x.aL z.aL x.cL z.cL x.ln u3 I.i Ji K.i).mono ?_
  rintro e u4 ⟨rfl, k4⟩
  have A := A.below k4 A.lt
  have C := C.below k4 C.lt
  have I := I.below k4
  have Jt := Jt.below k4 (Nat.le_refl _)
  have Jn := Jn.below k4 (Jn.lt wiEnc_len (by omega))
  have Jg := Jg.below k4 (Jg.lt boEnc_len (by omega))
  have Ji := Ji.below k4 (Ji.lt ikEnc_len (by omega))
  have Js := Js.below k4 (Js.lt ouEnc_len (by omega))
  have B0 := B0.trans (k4.mono B0.size)
  clear k4
  have cc := A
  obtain ⟨a0, a1, a2, a3, a4, a5, a6, a7, a8, a9⟩ := cc
  have cc := C
  obtain ⟨c0, c1, c2, c3, c4, c5, c6, c7, c8, c9⟩ := cc
  go_wp2_with fail
  go_at_call 26
  clear a0 a1 a2 a3 a4 a5 a6 a7 a8 a9 c0 c1 c2 c3 c4 c5 c6 c7 c8 c9
  refine (ouEqS x.aS z.aS x.cS z.cS x.sd u4 I.s Js K.s).mono ?_
  rintro e u5 ⟨rfl, k5⟩
  have A := A.below k5 A.lt
  have C := C.below k5 C.lt
  have I := I.below k5
  have Jt := Jt.below k5 (Nat.le_refl _)
  have Jn := Jn.below k5 (Jn.lt wiEnc_len (by omega))
  have Jg := Jg.below k5 (Jg.lt boEnc_len (by omega))
  have Ji := Ji.below k5 (Ji.lt ikEnc_len (by omega))
  have Js := Js.below k5 (Js.lt ouEnc_len (by omega))
  have B0 := B0.trans (k5.mono B0.size)
  clear k5
  go_wp2
  go_ret
  exact ⟨rfl, B0⟩
theorem bxEq (x z : BxD) (w : World) (I : BxIn w x) (J : BxIn w z) (K : BxSm x) (hp : z.p = x.p) :
    Calls Tryz.prog 25 #[.agg #[.int .i64 x.id, .int .i64 x.po, .int .i64 x.rg.ep, .int .i64 x.rg.ow, .int .i64 x.rg.pa, .slice x.aT x.two.length x.cT, .slice x.aN x.net.length x.cN, .slice x.aG x.ga.length x.cG, .slice x.aL x.ln.length x.cL, .slice x.aS x.sd.length x.cS], .agg #[.int .i64 z.id, .int .i64 z.po, .int .i64 z.rg.ep, .int .i64 z.rg.ow, .int .i64 z.rg.pa, .slice z.aT z.two.length z.cT, .slice z.aN z.net.length z.cN, .slice z.aG z.ga.length z.cG, .slice z.aL z.ln.length z.cL, .slice z.aS z.sd.length z.cS]] w fun e w' => e = .returned (.bool true) ∧ Below w.heap.size w w' := by
  obtain ⟨zid, zpo, zrg, ztwo, zaT, zcT, znet, zaN, zcN, zga, zaG, zcG, zln, zaL, zcL, zsd, zaS, zcS⟩ := z
  unfold BxD.p at hp
  simp only [Bx.mk.injEq] at hp
  obtain ⟨rfl, rfl, rfl, ht, rfl, rfl, rfl, rfl⟩ := hp
  exact bxEq0 x ⟨x.id, x.po, x.rg, ztwo, zaT, zcT, x.net, zaN, zcN, x.ga, zaG, zcG, x.ln, zaL, zcL, x.sd, zaS, zcS⟩ w I J K ht rfl rfl rfl rfl

end Go.Proofs.YtijhpfccjaaalaaGreat
namespace Go.Proofs.YtijhpfccjaaalaaGreat
open Go.ChangeShapes Go.WideShapes Go.ChangeAt Go.RowKit
open Go.ChangeMaps (open_string shut_string)
set_option linter.unusedVariables false
set_option maxRecDepth 100000

theorem lToM_congr {D E : List MiD} (h : E.map MiD.m = D.map MiD.m) : ∀ n, lToM E n = lToM D n
  | 0 => rfl
  | n + 1 => by
    have e : (E.getD n MiD.nil).m = (D.getD n MiD.nil).m := by
      have := congrArg (fun L => L.getD n Mi.nil) h
      simpa only [md_get] using this
    show lToM E n + _ = lToM D n + _
    rw [lToM_congr h n, e]
theorem BxSm.of {x z : BxD} (k : BxSm x) (h : z.p = x.p) : BxSm z := by
  unfold BxD.p at h
  simp only [Bx.mk.injEq] at h
  obtain ⟨_, _, _, ht, hn, hg, hl, hs⟩ := h
  have hlen : z.two.length = x.two.length := by have := congrArg List.length ht; simpa using this
  exact ⟨by rw [hlen]; exact k.t, by rw [hlen, lToM_congr ht]; exact k.l, by rw [hn]; exact k.n, by rw [hg]; exact k.g, by rw [hl]; exact k.i, by rw [hs]; exact k.s⟩
end Go.Proofs.YtijhpfccjaaalaaGreat
namespace Go.Proofs.YtijhpfccjaaalaaGreat
open Go.ChangeShapes Go.WideShapes Go.ChangeAt Go.RowKit
open Go.ChangeMaps (open_string shut_string)
set_option linter.unusedVariables false
set_option maxRecDepth 100000

set_option maxHeartbeats 4000000 in
theorem ikHeld (ad : Option Addr) (len cap : Nat) (s : Int) (w : World) (hv : FView ikEnc w ad ((List.range len).map (ikMk s))) (hl : len ≤ 1048576) (s0 : 0 ≤ s) (s1 : s ≤ 1000000000000) :
    Calls Tryz.prog 80 #[.slice ad len cap, .int .i64 s] w fun e w' => e = .returned (.int .i64 (s + 8 * (len : Int))) ∧ w' = w := by
  go_enter Tryz.func80, Tryz.ntmps80
  go_wp2
  go_loop [1, 5] (fun q i => ∃ k : Nat, k ≤ len ∧ i = .int .i64 k ∧ q = .int .i64 (s + 8 * (k : Int))) (fun _ i => len - (intOf i).toNat)
  case atStart => exact ⟨0, Nat.zero_le _, rfl, by simp⟩
  case round =>
    obtain ⟨k, hk, rfl, rfl⟩ := hrel
    by_cases hlt : k < len
    · obtain ⟨b, off, rfl, _⟩ := hv (by simpa using Nat.lt_of_le_of_lt (Nat.zero_le _) hlt)
      have hck : IkAtO w b (off + k * 8) (ikMk s k) := by
        have := ikAtO_of (hv.at_ ikEnc_len Ik.nil (i := k) (by simpa using hlt))
        rwa [show ((List.range len).map (ikMk s)).getD k Ik.nil = ikMk s k by simp [List.getD, hlt]] at this
      obtain ⟨c0, c1, c2, c3, c4, c5, c6, c7⟩ := hck
      unfold ikMk at c0 c1 c2 c3 c4 c5 c6 c7
      dsimp only at c0 c1 c2 c3 c4 c5 c6 c7
      generalize hK : s + 8 * (k : Int) = K at c0 c1 c2 c3 c4 c5 c6 c7 ⊢
      have K0 : 0 ≤ K := by omega
      have K1 : K ≤ 1100000000000 := by omega
      replace hK : Hid _ := hK
      have tq : ∀ x : Int, (!decide (x % 3 = 0) == (x % 3 == 0)) = false := fun x => by by_cases q : x % 3 = 0 <;> simp [q]
      go_wp2
      go_round
      case rel => exact ⟨k + 1, by omega, by go_num, by have := hK.out; go_num⟩
      case measure => simp [intOf]; omega
    · obtain rfl : k = len := by omega
      go_wp2
      go_ret
      exact ⟨rfl, rfl⟩

end Go.Proofs.YtijhpfccjaaalaaGreat
namespace Go.Proofs.YtijhpfccjaaalaaGreat
open Go.ChangeShapes Go.WideShapes Go.ChangeAt Go.RowKit
open Go.ChangeMaps (open_string shut_string)
set_option linter.unusedVariables false
set_option maxRecDepth 100000

set_option maxHeartbeats 4000000 in
theorem mdHeld (ad : Option Addr) (cap : Nat) (Bs : List MiD) (k0 : Int) (w : World) (hv : MV w ad (marksM Bs k0 Bs.length)) (hl : Bs.length ≤ 1048576) (hll : lToM Bs Bs.length ≤ 1048576) (hk0 : 0 ≤ k0) (hk1 : k0 ≤ 100000000) :
    Calls Tryz.prog 77 #[.slice ad Bs.length cap, .int .i64 k0] w fun e w' => e = .returned (.int .i64 (k0 + (kToM Bs Bs.length : Int))) ∧ w' = w := by
  have hkb := kToM_le Bs hl hll
  have hls : ∀ i, i < Bs.length → (Bs.getD i MiD.nil).m.lg.length ≤ 1048576 := fun i hi => Nat.le_trans (getLM_le Bs hi) hll
  go_enter Tryz.func77, Tryz.ntmps77
  go_wp2
  go_loop [1, 5] (fun q i => ∃ (k : Nat) (x : Int), k ≤ Bs.length ∧ i = .int .i64 k ∧ q = .int .i64 x ∧ Hid (x = k0 + (kToM Bs k : Int))) (fun _ i => Bs.length - (intOf i).toNat)
  case atStart => exact ⟨0, k0, Nat.zero_le _, rfl, rfl, by unfold Hid; simp [kToM]⟩
  case round =>
    obtain ⟨k, x, hk, rfl, rfl, hx⟩ := hrel
    by_cases hlt : k < Bs.length
    · have hx0 : 0 ≤ x := by have := hx.out; omega
      have hx1 : x ≤ 120000000 := by have := hx.out; have := hkb k (by omega); omega
      have hlk := hls k hlt
      have hb3 : Hid (kToM Bs (k + 1) = kToM Bs k + 6 + 8 * (Bs.getD k MiD.nil).m.lg.length) := rfl
      obtain ⟨b, off, rfl⟩ := hv.ad_ (by rw [marksM_len]; omega)
      have hck := hv.at_ (i := k) (by rw [marksM_len]; exact hlt)
      have hnk := hv.nest k (by rw [marksM_len]; exact hlt)
      rw [marksM_get Bs k0 Bs.length hlt, if_pos hlt] at hck hnk
      unfold mkm at hck hnk
      rw [← hx.out] at hck hnk
      unfold mkOne at hck hnk
      obtain ⟨⟨m, a1, c1⟩, hh⟩ : ∃ d, Bs.getD k MiD.nil = d := ⟨_, rfl⟩
      rw [hh] at hck hnk hlk hb3
      dsimp only at hnk hlk
      obtain ⟨c0, c1_, c2, c3, c4, c5, c6⟩ := hck
      dsimp only at c0 c1_ c2 c3 c4 c5 c6
      rw [List.length_map, List.length_range] at c3
      obtain ⟨Y, hY⟩ : ∃ Y, Y = x + 1 + 1 + 1 + 8 * (m.lg.length : Int) := ⟨_, rfl⟩
      rw [← hY] at c4 c5 c6
      have hY0 : 0 ≤ Y := by omega
      have hY1 : Y ≤ 200000000 := by omega
      have hneg : ¬ Y < 0 := by omega
      have tq : ((x % 3 == 0) != (x % 3 == 0)) = false := by simp
      clear hh hv
      go_wp2_with fail
      go_at_call 80
      refine (ikHeld a1 m.lg.length c1 (x + 1 + 1 + 1) w hnk (by omega) (by omega) (by omega)).mono ?_
      rintro e w2 ⟨rfl, rfl⟩
      rw [← hY]
      replace hY : Hid _ := hY
      go_wp2
      go_round
      case rel => exact ⟨k + 1, Y + 1 + 1 + 1, by omega, by go_num, rfl, by have := hx.out; have := hb3.out; have := hY.out; unfold Hid; omega⟩
      case measure => simp [intOf]; omega
    · obtain rfl : k = Bs.length := by omega
      go_wp2
      go_ret
      exact ⟨by rw [← hx.out]; rfl, rfl⟩

end Go.Proofs.YtijhpfccjaaalaaGreat
namespace Go.Proofs.YtijhpfccjaaalaaGreat
open Go.ChangeShapes Go.WideShapes Go.ChangeAt Go.RowKit
open Go.ChangeMaps (open_string shut_string)
set_option linter.unusedVariables false
set_option maxRecDepth 100000

set_option maxHeartbeats 4000000 in
theorem wiHeld (ad : Option Addr) (len cap : Nat) (s : Int) (w : World) (hv : FView wiEnc w ad ((List.range len).map (wiMk s))) (hl : len ≤ 1048576) (s0 : 0 ≤ s) (s1 : s ≤ 1000000000000) :
    Calls Tryz.prog 78 #[.slice ad len cap, .int .i64 s] w fun e w' => e = .returned (.int .i64 (s + 12 * (len : Int))) ∧ w' = w := by
  go_enter Tryz.func78, Tryz.ntmps78
  go_wp2
  go_loop [1, 5] (fun q i => ∃ k : Nat, k ≤ len ∧ i = .int .i64 k ∧ q = .int .i64 (s + 12 * (k : Int))) (fun _ i => len - (intOf i).toNat)
  case atStart => exact ⟨0, Nat.zero_le _, rfl, by simp⟩
  case round =>
    obtain ⟨k, hk, rfl, rfl⟩ := hrel
    by_cases hlt : k < len
    · obtain ⟨b, off, rfl, _⟩ := hv (by simpa using Nat.lt_of_le_of_lt (Nat.zero_le _) hlt)
      have hck : WiAtO w b (off + k * 12) (wiMk s k) := by
        have := wiAtO_of (hv.at_ wiEnc_len Wi.nil (i := k) (by simpa using hlt))
        rwa [show ((List.range len).map (wiMk s)).getD k Wi.nil = wiMk s k by simp [List.getD, hlt]] at this
      obtain ⟨c0, c1, c2, c3, c4, c5, c6, c7, c8, c9, c10, c11⟩ := hck
      unfold wiMk at c0 c1 c2 c3 c4 c5 c6 c7 c8 c9 c10 c11
      dsimp only at c0 c1 c2 c3 c4 c5 c6 c7 c8 c9 c10 c11
      generalize hK : s + 12 * (k : Int) = K at c0 c1 c2 c3 c4 c5 c6 c7 c8 c9 c10 c11 ⊢
      have K0 : 0 ≤ K := by omega
      have K1 : K ≤ 1100000000000 := by omega
      replace hK : Hid _ := hK
      have tq : ∀ x : Int, (!decide (x % 3 = 0) == (x % 3 == 0)) = false := fun x => by by_cases q : x % 3 = 0 <;> simp [q]
      go_wp2
      go_round
      case rel => exact ⟨k + 1, by omega, by go_num, by have := hK.out; go_num⟩
      case measure => simp [intOf]; omega
    · obtain rfl : k = len := by omega
      go_wp2
      go_ret
      exact ⟨rfl, rfl⟩

end Go.Proofs.YtijhpfccjaaalaaGreat
namespace Go.Proofs.YtijhpfccjaaalaaGreat
open Go.ChangeShapes Go.WideShapes Go.ChangeAt Go.RowKit
open Go.ChangeMaps (open_string shut_string)
set_option linter.unusedVariables false
set_option maxRecDepth 100000

set_option maxHeartbeats 2000000 in
theorem bxHeld (x : BxD) (w : World) (J : BxIn w (bxMk x)) (K : BxSm x) :
    Calls Tryz.prog 29 #[.agg #[.int .i64 x.id, .int .i64 x.po, .int .i64 x.rg.ep, .int .i64 x.rg.ow, .int .i64 x.rg.pa, .slice x.aT x.two.length x.cT, .slice x.aN x.net.length x.cN, .slice x.aG x.ga.length x.cG, .slice x.aL x.ln.length x.cL, .slice x.aS x.sd.length x.cS], .int .i64 1] w fun e w' => e = .returned (.int .i64 (kE x)) ∧ Below w.heap.size w w' := by
  obtain ⟨y, hy⟩ : ∃ y, y = w.alloc (Obj.cells #[.int .i64 x.id, .int .i64 x.po, .int .i64 x.rg.ep, .int .i64 x.rg.ow, .int .i64 x.rg.pa, .slice x.aT x.two.length x.cT, .slice x.aN x.net.length x.cN, .slice x.aG x.ga.length x.cG, .slice x.aL x.ln.length x.cL, .slice x.aS x.sd.length x.cS] 55) := ⟨_, rfl⟩
  have B0 : Below w.heap.size w y := by rw [hy]; exact below_new _
  have A : BxAt y w.heap.size x := by rw [hy]; exact BxAt.new w _ x
  have J := J.below B0
  have hkl := k_le K
  have hB : ViewB y x.aG x.ga.length (fun i => mkB (kG x + i)) := by
    have h1 := J.g.toB
    have hl : (bxMk x).ga.length = x.ga.length := by show ((List.range x.ga.length).map _).length = _; simp
    rw [hl] at h1
    refine ViewB.congr h1 (fun i hi => ?_)
    show ((List.range x.ga.length).map (boMk (kG x))).getD i false = _
    simp [List.getD, hi, boMk, mkB]
  go_enter Tryz.func29, Tryz.ntmps29
  have cc := A
  obtain ⟨a0, a1, a2, a3, a4, a5, a6, a7, a8, a9⟩ := cc
  go_wp2_with fail
  go_at_call 77
  rw [← hy]
  clear a0 a1 a2 a3 a4 a5 a6 a7 a8 a9 hy
  refine (mdHeld x.aT x.cT x.two 1 y J.t K.t K.l (by decide) (by decide)).mono ?_
  rintro e u0 ⟨rfl, hw_⟩
  rw [hw_]
  clear hw_
  rw [show (1 : Int) + (kToM x.two x.two.length : Int) = kN x from rfl]
  have n0 : ¬ kN x < 0 := by omega
  have cc := A
  obtain ⟨a0, a1, a2, a3, a4, a5, a6, a7, a8, a9⟩ := cc
  go_wp2_with fail
  go_at_call 78
  clear a0 a1 a2 a3 a4 a5 a6 a7 a8 a9
  refine (wiHeld x.aN x.net.length x.cN (kN x) y J.n K.n (by omega) (by omega)).mono ?_
  rintro e u1 ⟨rfl, hw_⟩
  rw [hw_]
  clear hw_
  rw [show kN x + 12 * (x.net.length : Int) = kG x from rfl]
  have n1 : ¬ kG x < 0 := by omega
  have cc := A
  obtain ⟨a0, a1, a2, a3, a4, a5, a6, a7, a8, a9⟩ := cc
  go_wp2_with fail
  go_at_call 79
  clear a0 a1 a2 a3 a4 a5 a6 a7 a8 a9
  refine (heldBools x.aG x.ga.length x.cG (kG x) y hB K.g (by omega) (by omega)).mono ?_
  rintro e u2 ⟨rfl, hw_⟩
  rw [hw_]
  clear hw_
  rw [show kG x + (x.ga.length : Int) = kI x from rfl]
  have n2 : ¬ kI x < 0 := by omega
  have cc := A
  obtain ⟨a0, a1, a2, a3, a4, a5, a6, a7, a8, a9⟩ := cc
  go_wp2_with fail
  go_at_call 80
  clear a0 a1 a2 a3 a4 a5 a6 a7 a8 a9
  refine (ikHeld x.aL x.ln.length x.cL (kI x) y J.i K.i (by omega) (by omega)).mono ?_
  rintro e u3 ⟨rfl, hw_⟩
  rw [hw_]
  clear hw_
  rw [show kI x + 8 * (x.ln.length : Int) = kS x from rfl]
  have n3 : ¬ kS x < 0 := by omega
  have cc := A
  obtain ⟨a0, a1, a2, a3, a4, a5, a6, a7, a8, a9⟩ := cc
  go_wp2_with fail
  go_at_call 81
  clear a0 a1 a2 a3 a4 a5 a6 a7 a8 a9
  refine (ouHeld x.aS x.sd.length x.cS (kS x) y J.s K.s (by omega) (by omega)).mono ?_
  rintro e u4 ⟨rfl, hw_⟩
  rw [hw_]
  clear hw_
  rw [show kS x + 8 * (x.sd.length : Int) = kE x from rfl]
  have n4 : ¬ kE x < 0 := by omega
  go_wp2
  go_ret
  exact ⟨rfl, B0⟩

end Go.Proofs.YtijhpfccjaaalaaGreat
namespace Go.Proofs.YtijhpfccjaaalaaGreat
open Go.ChangeShapes Go.WideShapes Go.ChangeAt Go.RowKit
open Go.ChangeMaps (open_string shut_string)
set_option linter.unusedVariables false
set_option maxRecDepth 100000

theorem lToM_marks (Bs : List MiD) (k0 : Int) (m : Nat) : ∀ n, n ≤ Bs.length → lToM (marksM Bs k0 m) n = lToM Bs n
  | 0, _ => rfl
  | n + 1, h => by
    show lToM (marksM Bs k0 m) n + _ = lToM Bs n + _
    rw [lToM_marks Bs k0 m n (by omega), marksM_get Bs k0 m (by omega : n < Bs.length)]
    split
    · unfold mkm mkOne
      simp
    · rfl
theorem BxSm.mk_ {x : BxD} (k : BxSm x) : BxSm (bxMk x) := by
  refine ⟨?_, ?_, ?_, ?_, ?_, ?_⟩
  · show (marksM x.two 1 x.two.length).length ≤ _; rw [marksM_len]; exact k.t
  · show lToM (marksM x.two 1 x.two.length) (marksM x.two 1 x.two.length).length ≤ _; rw [marksM_len, lToM_marks x.two 1 x.two.length _ (Nat.le_refl _)]; exact k.l
  · show ((List.range x.net.length).map _).length ≤ _; rw [List.length_map, List.length_range]; exact k.n
  · show ((List.range x.ga.length).map _).length ≤ _; rw [List.length_map, List.length_range]; exact k.g
  · show ((List.range x.ln.length).map _).length ≤ _; rw [List.length_map, List.length_range]; exact k.i
  · show ((List.range x.sd.length).map _).length ≤ _; rw [List.length_map, List.length_range]; exact k.s

end Go.Proofs.YtijhpfccjaaalaaGreat
namespace Go.Proofs.YtijhpfccjaaalaaGreat
open Go.ChangeShapes Go.WideShapes Go.ChangeAt Go.RowKit
open Go.ChangeMaps (open_string shut_string)
set_option linter.unusedVariables false
set_option maxRecDepth 100000

/-- A region by its states: whatever of those that may come up comes up. -/
theorem region_by {P : Program} {md : Region.Mode} {ops : Array Oper} {Q : Exit → Act → World → Prop} {S : World → Prop} {ds : List Deferred} {k : Nat} (I : Nat → Array Bool → List Value → World → Prop)
    (step : ∀ n listed l W, I (n + 1) listed l W → ∃ rs, Region.ready md ops listed = rs ∧ rs ≠ [] ∧ ∀ i, i ∈ rs → ∀ K : Act → World → Prop, (∀ l' W', S W' → I n (listed.setIfInBounds i true) l' W' → K ⟨l'.toArray, ds⟩ W') → wpOp P ops Q i K ⟨l.toArray, ds⟩ W)
    (fin : ∀ listed l W, I 0 listed l W → wpAnyH P md ops Q S k listed ⟨l.toArray, ds⟩ W) :
    ∀ n listed l W, I n listed l W → wpAnyH P md ops Q S (n + k) listed ⟨l.toArray, ds⟩ W
  | 0, listed, l, W, h => by rw [Nat.zero_add]; exact fin listed l W h
  | n + 1, listed, l, W, h => by
    obtain ⟨rs, hr, hne, hs⟩ := step n listed l W h
    rw [show n + 1 + k = (n + k) + 1 by omega]
    exact wpAnyH_all hr hne (fun i hi => hs i hi _ (fun l' W' hS hI => ⟨hS, region_by I step fin n _ l' W' hI⟩))
/-- Rows of different things lie in different blocks. -/
theorem FOwn.apart {X Y : Type} {e1 : X → List Value} {e2 : Y → List Value} {n1 n2 : Nat} {T1 T2 : TypeId} {b1 b2 : Nat} {w : World} {v1 v2 : Value} {L1 : List X} {L2 : List Y} (h1 : FOwn e1 n1 T1 b1 w v1 L1) (h2 : FOwn e2 n2 T2 b2 w v2 L2) (hT : T1 ≠ T2) {g : Nat} (e : v1.ownBlock = some g) : v2.ownBlock ≠ some g := by
  intro e2'
  rcases h1.2 with ⟨q, _⟩ | ⟨g1, c1, u1, q1, _, o1, _⟩
  · rw [q] at e; cases e
  · rcases h2.2 with ⟨q, _⟩ | ⟨g2, c2, u2, q2, _, o2, _⟩
    · rw [q] at e2'; cases e2'
    · rw [q1] at e
      rw [q2] at e2'
      cases e
      cases e2'
      rw [o1] at o2
      simp only [Option.some.injEq, Obj.cells.injEq] at o2
      exact hT o2.2.1

end Go.Proofs.YtijhpfccjaaalaaGreat
namespace Go.Proofs.YtijhpfccjaaalaaGreat
open Go.ChangeShapes Go.WideShapes Go.ChangeAt Go.RowKit
open Go.ChangeMaps (open_string shut_string)
set_option linter.unusedVariables false
set_option maxRecDepth 100000

theorem numFitsI (n : Int) (w : World) : Calls Tryz.prog 50 #[.int .i64 n] w fun e w' => e = .returned (.bool (numB n)) ∧ w' = w := by
  obtain ⟨R, hR⟩ : ∃ R, R = numB n := ⟨_, rfl⟩
  rw [← hR]
  replace hR : Hid _ := hR
  by_cases h1 : 0 ≤ n
  · have d1 : decide (0 ≤ n) = true := decide_eq_true h1
    have hN : Hid (R = decide (n ≤ 100000)) := by unfold Hid; rw [hR.out]; unfold numB; by_cases h2 : n ≤ 100000 <;> simp [h1, h2]
    clear hR
    go_enter Tryz.func50, Tryz.ntmps50
    go_wp2
    go_ret
    exact ⟨by rw [hN.out]; rfl, rfl⟩
  · have d1 : decide (0 ≤ n) = false := decide_eq_false h1
    have hN : Hid (R = false) := by unfold Hid; rw [hR.out]; unfold numB; simp [h1]
    clear hR
    go_enter Tryz.func50, Tryz.ntmps50
    go_wp2
    go_ret
    exact ⟨by rw [hN.out]; rfl, rfl⟩
set_option maxHeartbeats 1000000 in
theorem cloneK (ad : Option Addr) (cap : Nat) (L : List Ik) (w : World) (hv : FView ikEnc w ad L) (hl : L.length ≤ 1048577) :
    Calls Tryz.prog 101 #[.slice ad L.length cap] w fun e w' => ∃ ad' cap', e = .returned (.slice ad' L.length cap') ∧ FOwn ikEnc 8 138 w.heap.size w' (.slice ad' L.length cap') L ∧ Below w.heap.size w w' := by
  obtain ⟨i1, hj, hy0, hy1, hy2⟩ := info_parts ikInfo
  cases ad with
  | none =>
    obtain rfl := hv.none_nil
    have hEq : ∀ (y : World) (c : Nat), (binOp .eql 26 (.slice none 0 c) (.slice none 0 0)).run Tryz.prog y = .ok (.bool true) y := fun y c => Go.Lib.run_eql_slice_nil y 26 138 none 0 c 0 0 Tryz.underlying26
    simp only [List.length_nil]
    go_enter Tryz.func101, Tryz.ntmps101
    go_wp2
    go_ret
    exact ⟨_, _, rfl, FOwn.nil, Below.refl _ _⟩
  | some a =>
    have hB := hv.lt ikEnc_len (by omega)
    have B0 := below_new (w := w) (Obj.cells #[] 138)
    have hv1 : FView ikEnc (w.alloc (Obj.cells #[] 138)) (some a) L := hv.below B0 hB
    have hEq : ∀ (y : World), (binOp .eql 26 (.slice (some a) L.length cap) (.slice none 0 0)).run Tryz.prog y = .ok (.bool false) y := fun y => Go.Lib.run_eql_slice_nil y 26 138 (some a) L.length cap 0 0 Tryz.underlying26
    go_enter Tryz.func101, Tryz.ntmps101
    go_wp2_with (first | (at_builtin; refine fappL ikEnc_len ikEnc_ones rfl _ _ 26 rfl w.heap.size 138 i1 (.agg #[.int .i64 0, .int .i64 0, .int .i64 0, .int .i64 0, .int .i64 0, .int .i64 0, .int .i64 0, .bool false]) 64 Tryz.underlying26 hj hy0 hy1 hy2 rfl (by decide) (by decide) _ ([] : List Ik) rfl (FOwn.empty w) (some a) cap L rfl (fun e => by cases e) hv1 ?z0 ?z1 ?_) | go_in)
    case z0 => simp; omega
    case z1 => simp
    intro vZ wZ hownZ hgrowZ _
    have BZ : Below w.heap.size w wZ := B0.grown hgrowZ (by simp) (fun j e => ((FOwn.empty w : FOwn ikEnc 8 138 _ _ _ _).lt j e).1)
    replace hownZ : FOwn ikEnc 8 138 w.heap.size wZ vZ L := hownZ
    obtain ⟨adZ, capZ, rfl⟩ := hownZ.open_
    clear hgrowZ B0 hv1
    go_wp2
    go_ret
    exact ⟨_, _, rfl, hownZ, BZ⟩
set_option maxHeartbeats 1000000 in
theorem jourI (ad : Option Addr) (cap : Nat) (L : List Ik) (w : World) (hv : FView ikEnc w ad L) (hl : L.length ≤ 1048577) :
    Calls Tryz.prog 86 #[.slice ad L.length cap] w fun e w' => ∃ a c, e = .returned (.agg #[.slice a L.length c]) ∧ FOwn ikEnc 8 138 w.heap.size w' (.slice a L.length c) L ∧ Below w.heap.size w w' := by
  have hB := hv.lt ikEnc_len (by omega)
  obtain ⟨y, hy⟩ : ∃ y, y = w.alloc (Obj.cells #[.slice none 0 0] 135) := ⟨_, rfl⟩
  have B0 : Below w.heap.size w y := by rw [hy]; exact below_new _
  have c0 : y.cell? ⟨w.heap.size, 0, none⟩ = some (.slice none 0 0) := by rw [hy]; simp [go_sem]
  have f0 : y.frozen? ⟨w.heap.size, 0, none⟩ = false := by rw [hy]; simp [go_sem]
  have S0 := World.block_lt_of_cell? _ _ c0
  go_enter Tryz.func86, Tryz.ntmps86
  go_wp2_with fail
  go_at_call 101
  rw [← hy]
  clear hy
  refine (cloneK ad cap L y (hv.below B0 hB) hl).mono ?_
  rintro e w1 ⟨a1, c1, rfl, O1, k1⟩
  have B1 := B0.trans (k1.mono B0.size)
  have c0 := (World.cell?_of_block (a := ⟨w.heap.size, 0, none⟩) (k1.block _ S0)).trans c0
  have f0 := (World.frozen?_of_block (a := ⟨w.heap.size, 0, none⟩) (k1.block _ S0)).trans f0
  have hne : ∀ g, (Value.slice a1 L.length c1).ownBlock = some g → g ≠ w.heap.size := fun g e => by have := (O1.lt g e).1; omega
  have O2 : FOwn ikEnc 8 138 w.heap.size (w1.setCell ⟨w.heap.size, 0, none⟩ (.slice a1 L.length c1)) (.slice a1 L.length c1) L := (O1.base B0.size).keep fun g e => Below.heap_setCell _ _ _ _ (hne g e)
  have B2 := B1.setCell (p := ⟨w.heap.size, 0, none⟩) (Nat.le_refl _) (.slice a1 L.length c1)
  clear k1 B0 hv hB O1 B1 hne
  go_wp2
  refine bodyPost_ret (v := .agg #[.slice a1 L.length c1]) (by simp [results, Tryz.results86, go_sem, *]) rfl ⟨_, _, rfl, O2, B2⟩
set_option maxHeartbeats 2000000 in
theorem mindOf (m : Mi) (ad : Option Addr) (cap : Nat) (w : World) (hv : FView ikEnc w ad m.lg) (hl : m.lg.length ≤ 1048577) :
    Calls Tryz.prog 34 #[.agg #[.bool m.up, .int .i64 m.li, .int .i64 m.ep, .slice ad m.lg.length cap, .int .i64 m.sd, .int .i64 m.ac, .int .i64 m.al]] w fun e w' => ∃ q a c, e = .returned (.pointer (some ⟨q, 0, none⟩)) ∧ MgBox w' q m (.slice a m.lg.length c) ∧ FOwn ikEnc 8 138 w.heap.size w' (.slice a m.lg.length c) m.lg ∧ (∀ g, (Value.slice a m.lg.length c).ownBlock = some g → g < q) ∧ w.heap.size < q ∧ Below w.heap.size w w' := by
  have hB := hv.lt ikEnc_len (by omega)
  obtain ⟨y, hy⟩ : ∃ y, y = w.alloc (Obj.cells #[.bool m.up, .int .i64 m.li, .int .i64 m.ep, .slice ad m.lg.length cap, .int .i64 m.sd, .int .i64 m.ac, .int .i64 m.al] 28) := ⟨_, rfl⟩
  have B0 : Below w.heap.size w y := by rw [hy]; exact below_new _
  have A : MiAt y w.heap.size m (.slice ad m.lg.length cap) := by rw [hy]; exact MiAt.new w _ _ _
  have S0 := A.lt
  have hv1 := hv.below B0 hB
  go_enter Tryz.func34, Tryz.ntmps34
  go_upto_region 1 with fail
  rw [← hy]
  clear hy
  refine wp_region_held (S := fun Y => Below y.heap.size y Y) (by kernel_rfl) ?_
  change wpAnyH _ _ _ _ _ _ _ _ (World.drew _)
  have hb0 : Below y.heap.size y y.drew := (Below.refl _ _).drew
  obtain ⟨u0, hy0⟩ : ∃ y_, y_ = y.drew := ⟨_, rfl⟩
  rw [← hy0] at hb0 ⊢
  clear hy0
  refine takeW 0 3 (.pointer (some ⟨w.heap.size, 3, none⟩)) rfl rfl (by kernel_rfl) (by kernel_rfl) (by kernel_rfl) (fun _ _ _ h => h) (by kernel_rfl) (by (intro w hSw; go_simp)) (by assumption) ?_
  simp only [List.set_cons_zero, List.set_cons_succ]
  refine takeW 1 4 (.slice ad m.lg.length cap) rfl rfl (by kernel_rfl) (by kernel_rfl) (by kernel_rfl) (fun _ _ _ h => h) (by kernel_rfl) (by (intro Y hSw; obtain ⟨X0, X1, X2, X3, X4, X5, X6⟩ := A.below hSw (by omega); go_simp)) (by assumption) ?_
  simp only [List.set_cons_zero, List.set_cons_succ]
  refine takeW 3 6 (.pointer (some ⟨w.heap.size, 0, none⟩)) rfl rfl (by kernel_rfl) (by kernel_rfl) (by kernel_rfl) (fun _ _ _ h => h) (by kernel_rfl) (by (intro w hSw; go_simp)) (by assumption) ?_
  simp only [List.set_cons_zero, List.set_cons_succ]
  refine takeW 4 7 (.bool m.up) rfl rfl (by kernel_rfl) (by kernel_rfl) (by kernel_rfl) (fun _ _ _ h => h) (by kernel_rfl) (by (intro Y hSw; obtain ⟨X0, X1, X2, X3, X4, X5, X6⟩ := A.below hSw (by omega); go_simp)) (by assumption) ?_
  simp only [List.set_cons_zero, List.set_cons_succ]
  refine takeW 5 8 (.pointer (some ⟨w.heap.size, 1, none⟩)) rfl rfl (by kernel_rfl) (by kernel_rfl) (by kernel_rfl) (fun _ _ _ h => h) (by kernel_rfl) (by (intro w hSw; go_simp)) (by assumption) ?_
  simp only [List.set_cons_zero, List.set_cons_succ]
  refine takeW 6 9 (.int .i64 m.li) rfl rfl (by kernel_rfl) (by kernel_rfl) (by kernel_rfl) (fun _ _ _ h => h) (by kernel_rfl) (by (intro Y hSw; obtain ⟨X0, X1, X2, X3, X4, X5, X6⟩ := A.below hSw (by omega); go_simp)) (by assumption) ?_
  simp only [List.set_cons_zero, List.set_cons_succ]
  refine takeW 7 10 (.pointer (some ⟨w.heap.size, 2, none⟩)) rfl rfl (by kernel_rfl) (by kernel_rfl) (by kernel_rfl) (fun _ _ _ h => h) (by kernel_rfl) (by (intro w hSw; go_simp)) (by assumption) ?_
  simp only [List.set_cons_zero, List.set_cons_succ]
  refine takeW 8 11 (.int .i64 m.ep) rfl rfl (by kernel_rfl) (by kernel_rfl) (by kernel_rfl) (fun _ _ _ h => h) (by kernel_rfl) (by (intro Y hSw; obtain ⟨X0, X1, X2, X3, X4, X5, X6⟩ := A.below hSw (by omega); go_simp)) (by assumption) ?_
  simp only [List.set_cons_zero, List.set_cons_succ]
  refine takeW 9 12 (.pointer (some ⟨w.heap.size, 4, none⟩)) rfl rfl (by kernel_rfl) (by kernel_rfl) (by kernel_rfl) (fun _ _ _ h => h) (by kernel_rfl) (by (intro w hSw; go_simp)) (by assumption) ?_
  simp only [List.set_cons_zero, List.set_cons_succ]
  refine takeW 10 13 (.int .i64 m.sd) rfl rfl (by kernel_rfl) (by kernel_rfl) (by kernel_rfl) (fun _ _ _ h => h) (by kernel_rfl) (by (intro Y hSw; obtain ⟨X0, X1, X2, X3, X4, X5, X6⟩ := A.below hSw (by omega); go_simp)) (by assumption) ?_
  simp only [List.set_cons_zero, List.set_cons_succ]
  refine takeW 11 14 (.pointer (some ⟨w.heap.size, 5, none⟩)) rfl rfl (by kernel_rfl) (by kernel_rfl) (by kernel_rfl) (fun _ _ _ h => h) (by kernel_rfl) (by (intro w hSw; go_simp)) (by assumption) ?_
  simp only [List.set_cons_zero, List.set_cons_succ]
  refine takeW 12 15 (.int .i64 m.ac) rfl rfl (by kernel_rfl) (by kernel_rfl) (by kernel_rfl) (fun _ _ _ h => h) (by kernel_rfl) (by (intro Y hSw; obtain ⟨X0, X1, X2, X3, X4, X5, X6⟩ := A.below hSw (by omega); go_simp)) (by assumption) ?_
  simp only [List.set_cons_zero, List.set_cons_succ]
  refine takeW 13 16 (.pointer (some ⟨w.heap.size, 6, none⟩)) rfl rfl (by kernel_rfl) (by kernel_rfl) (by kernel_rfl) (fun _ _ _ h => h) (by kernel_rfl) (by (intro w hSw; go_simp)) (by assumption) ?_
  simp only [List.set_cons_zero, List.set_cons_succ]
  refine takeW 14 17 (.int .i64 m.al) rfl rfl (by kernel_rfl) (by kernel_rfl) (by kernel_rfl) (fun _ _ _ h => h) (by kernel_rfl) (by (intro Y hSw; obtain ⟨X0, X1, X2, X3, X4, X5, X6⟩ := A.below hSw (by omega); go_simp)) (by assumption) ?_
  simp only [List.set_cons_zero, List.set_cons_succ]
  refine takeW 15 18 (.agg #[.bool m.up, .int .i64 m.li, .int .i64 m.ep, .int .i64 m.sd, .int .i64 m.ac, .int .i64 m.al]) rfl rfl (by kernel_rfl) (by kernel_rfl) (by kernel_rfl) (fun _ _ _ h => h) (by kernel_rfl) (by (intro w hSw; go_simp)) (by assumption) ?_
  simp only [List.set_cons_zero, List.set_cons_succ]
  refine wpAnyH_all (rs := [2]) (by kernel_rfl) (by simp) ?_
  intro i hi; obtain rfl : i = 2 := by simpa using hi
  refine wpOp_step rfl (fun Kz hKz => ?_)
  rw [if_pos (by kernel_rfl)]
  go_simp
  go_at_call 86
  refine (jourI ad cap m.lg u0 (hv1.below hb0 (hv1.lt ikEnc_len (by omega))) hl).mono ?_
  rintro e u1 ⟨a1, c1, rfl, O1, kq⟩
  have hb1 : Below y.heap.size y u1 := hb0.trans (kq.mono hb0.size)
  clear kq
  refine hKz _ _ ⟨hb1, ?_⟩
  clear hKz Kz hi
  refine takeW 16 19 (.agg #[.slice a1 m.lg.length c1, .bool m.up, .int .i64 m.li, .int .i64 m.ep, .int .i64 m.sd, .int .i64 m.ac, .int .i64 m.al]) rfl rfl (by kernel_rfl) (by kernel_rfl) (by kernel_rfl) (fun _ _ _ h => h) (by kernel_rfl) (by (intro w hSw; go_simp)) (by assumption) ?_
  simp only [List.set_cons_zero, List.set_cons_succ]
  refine wpAnyH_all (rs := [17]) (by kernel_rfl) (by simp) ?_
  intro i hi; obtain rfl : i = 17 := by simpa using hi
  refine wpOp_step rfl (fun Kz hKz => ?_)
  rw [if_pos (by kernel_rfl)]
  go_simp
  obtain ⟨u2, hu⟩ : ∃ u, u = u1.alloc (Obj.cells #[.slice a1 m.lg.length c1, .bool m.up, .int .i64 m.li, .int .i64 m.ep, .int .i64 m.sd, .int .i64 m.ac, .int .i64 m.al] 142) := ⟨_, rfl⟩
  have kq : Below u1.heap.size u1 u2 := by rw [hu]; exact below_new _
  have M2 : MgBox u2 u1.heap.size m (.slice a1 m.lg.length c1) := by rw [hu]; exact MgBox.new u1 _ _ _
  have hb2 : Below y.heap.size y u2 := hb1.trans (kq.mono hb1.size)
  have O2 := O1.later kq
  have lo := O1.lt
  have hb1s := hb1.size
  obtain ⟨q, hq⟩ : ∃ q, q = u1.heap.size := ⟨_, rfl⟩
  rw [← hq] at M2 lo hb1s ⊢
  rw [← hu]
  clear hu kq hq
  refine hKz _ _ ⟨hb2, ?_⟩
  clear hKz Kz hi
  refine takeW 18 2 (.pointer (some ⟨q, 0, none⟩)) rfl rfl (by kernel_rfl) (by kernel_rfl) (by kernel_rfl) (fun _ _ _ h => h) (by kernel_rfl) (by (intro w hSw; go_simp)) (by assumption) ?_
  simp only [List.set_cons_zero, List.set_cons_succ]
  refine wpAnyH_done (by kernel_rfl) ?_ _
  have hO := O1.lt
  go_wp2
  go_ret
  exact ⟨q, a1, c1, rfl, M2, O2.base (Nat.le_trans B0.size hb0.size), fun g e => (lo g e).2, by omega, B0.trans (hb2.mono B0.size)⟩

end Go.Proofs.YtijhpfccjaaalaaGreat
namespace Go.Proofs.YtijhpfccjaaalaaGreat
open Go.ChangeShapes Go.WideShapes Go.ChangeAt Go.RowKit
open Go.ChangeMaps (open_string shut_string)
set_option linter.unusedVariables false
set_option maxRecDepth 100000

theorem MiBox.put {w : World} {q : Nat} {m : Mi} {v : Value} (h : MiBox w q m v) (m' : Mi) (v' : Value) : MiBox (((((((w.setCell ⟨q, 0, none⟩ (.bool m'.up)).setCell ⟨q, 1, none⟩ (.int .i64 m'.li)).setCell ⟨q, 2, none⟩ (.int .i64 m'.ep)).setCell ⟨q, 3, none⟩ (v')).setCell ⟨q, 4, none⟩ (.int .i64 m'.sd)).setCell ⟨q, 5, none⟩ (.int .i64 m'.ac)).setCell ⟨q, 6, none⟩ (.int .i64 m'.al)) q m' v' := by
  obtain ⟨h0, h1, h2, h3, h4, h5, h6, hf⟩ := h
  have h0 : (w.setCell ⟨q, 0, none⟩ (.bool m'.up)).cell? ⟨q, 0, none⟩ = some (.bool m'.up) := pset_same h0
  have h1 : (w.setCell ⟨q, 0, none⟩ (.bool m'.up)).cell? ⟨q, 1, none⟩ = _ := (pset_else (by decide)).trans h1
  have h2 : (w.setCell ⟨q, 0, none⟩ (.bool m'.up)).cell? ⟨q, 2, none⟩ = _ := (pset_else (by decide)).trans h2
  have h3 : (w.setCell ⟨q, 0, none⟩ (.bool m'.up)).cell? ⟨q, 3, none⟩ = _ := (pset_else (by decide)).trans h3
  have h4 : (w.setCell ⟨q, 0, none⟩ (.bool m'.up)).cell? ⟨q, 4, none⟩ = _ := (pset_else (by decide)).trans h4
  have h5 : (w.setCell ⟨q, 0, none⟩ (.bool m'.up)).cell? ⟨q, 5, none⟩ = _ := (pset_else (by decide)).trans h5
  have h6 : (w.setCell ⟨q, 0, none⟩ (.bool m'.up)).cell? ⟨q, 6, none⟩ = _ := (pset_else (by decide)).trans h6
  have h0 : ((w.setCell ⟨q, 0, none⟩ (.bool m'.up)).setCell ⟨q, 1, none⟩ (.int .i64 m'.li)).cell? ⟨q, 0, none⟩ = _ := (pset_else (by decide)).trans h0
  have h1 : ((w.setCell ⟨q, 0, none⟩ (.bool m'.up)).setCell ⟨q, 1, none⟩ (.int .i64 m'.li)).cell? ⟨q, 1, none⟩ = some (.int .i64 m'.li) := pset_same h1
  have h2 : ((w.setCell ⟨q, 0, none⟩ (.bool m'.up)).setCell ⟨q, 1, none⟩ (.int .i64 m'.li)).cell? ⟨q, 2, none⟩ = _ := (pset_else (by decide)).trans h2
  have h3 : ((w.setCell ⟨q, 0, none⟩ (.bool m'.up)).setCell ⟨q, 1, none⟩ (.int .i64 m'.li)).cell? ⟨q, 3, none⟩ = _ := (pset_else (by decide)).trans h3
  have h4 : ((w.setCell ⟨q, 0, none⟩ (.bool m'.up)).setCell ⟨q, 1, none⟩ (.int .i64 m'.li)).cell? ⟨q, 4, none⟩ = _ := (pset_else (by decide)).trans h4
  have h5 : ((w.setCell ⟨q, 0, none⟩ (.bool m'.up)).setCell ⟨q, 1, none⟩ (.int .i64 m'.li)).cell? ⟨q, 5, none⟩ = _ := (pset_else (by decide)).trans h5
  have h6 : ((w.setCell ⟨q, 0, none⟩ (.bool m'.up)).setCell ⟨q, 1, none⟩ (.int .i64 m'.li)).cell? ⟨q, 6, none⟩ = _ := (pset_else (by decide)).trans h6
  have h0 : (((w.setCell ⟨q, 0, none⟩ (.bool m'.up)).setCell ⟨q, 1, none⟩ (.int .i64 m'.li)).setCell ⟨q, 2, none⟩ (.int .i64 m'.ep)).cell? ⟨q, 0, none⟩ = _ := (pset_else (by decide)).trans h0
  have h1 : (((w.setCell ⟨q, 0, none⟩ (.bool m'.up)).setCell ⟨q, 1, none⟩ (.int .i64 m'.li)).setCell ⟨q, 2, none⟩ (.int .i64 m'.ep)).cell? ⟨q, 1, none⟩ = _ := (pset_else (by decide)).trans h1
  have h2 : (((w.setCell ⟨q, 0, none⟩ (.bool m'.up)).setCell ⟨q, 1, none⟩ (.int .i64 m'.li)).setCell ⟨q, 2, none⟩ (.int .i64 m'.ep)).cell? ⟨q, 2, none⟩ = some (.int .i64 m'.ep) := pset_same h2
  have h3 : (((w.setCell ⟨q, 0, none⟩ (.bool m'.up)).setCell ⟨q, 1, none⟩ (.int .i64 m'.li)).setCell ⟨q, 2, none⟩ (.int .i64 m'.ep)).cell? ⟨q, 3, none⟩ = _ := (pset_else (by decide)).trans h3
  have h4 : (((w.setCell ⟨q, 0, none⟩ (.bool m'.up)).setCell ⟨q, 1, none⟩ (.int .i64 m'.li)).setCell ⟨q, 2, none⟩ (.int .i64 m'.ep)).cell? ⟨q, 4, none⟩ = _ := (pset_else (by decide)).trans h4
  have h5 : (((w.setCell ⟨q, 0, none⟩ (.bool m'.up)).setCell ⟨q, 1, none⟩ (.int .i64 m'.li)).setCell ⟨q, 2, none⟩ (.int .i64 m'.ep)).cell? ⟨q, 5, none⟩ = _ := (pset_else (by decide)).trans h5
  have h6 : (((w.setCell ⟨q, 0, none⟩ (.bool m'.up)).setCell ⟨q, 1, none⟩ (.int .i64 m'.li)).setCell ⟨q, 2, none⟩ (.int .i64 m'.ep)).cell? ⟨q, 6, none⟩ = _ := (pset_else (by decide)).trans h6
  have h0 : ((((w.setCell ⟨q, 0, none⟩ (.bool m'.up)).setCell ⟨q, 1, none⟩ (.int .i64 m'.li)).setCell ⟨q, 2, none⟩ (.int .i64 m'.ep)).setCell ⟨q, 3, none⟩ (v')).cell? ⟨q, 0, none⟩ = _ := (pset_else (by decide)).trans h0
  have h1 : ((((w.setCell ⟨q, 0, none⟩ (.bool m'.up)).setCell ⟨q, 1, none⟩ (.int .i64 m'.li)).setCell ⟨q, 2, none⟩ (.int .i64 m'.ep)).setCell ⟨q, 3, none⟩ (v')).cell? ⟨q, 1, none⟩ = _ := (pset_else (by decide)).trans h1
  have h2 : ((((w.setCell ⟨q, 0, none⟩ (.bool m'.up)).setCell ⟨q, 1, none⟩ (.int .i64 m'.li)).setCell ⟨q, 2, none⟩ (.int .i64 m'.ep)).setCell ⟨q, 3, none⟩ (v')).cell? ⟨q, 2, none⟩ = _ := (pset_else (by decide)).trans h2
  have h3 : ((((w.setCell ⟨q, 0, none⟩ (.bool m'.up)).setCell ⟨q, 1, none⟩ (.int .i64 m'.li)).setCell ⟨q, 2, none⟩ (.int .i64 m'.ep)).setCell ⟨q, 3, none⟩ (v')).cell? ⟨q, 3, none⟩ = some (v') := pset_same h3
  have h4 : ((((w.setCell ⟨q, 0, none⟩ (.bool m'.up)).setCell ⟨q, 1, none⟩ (.int .i64 m'.li)).setCell ⟨q, 2, none⟩ (.int .i64 m'.ep)).setCell ⟨q, 3, none⟩ (v')).cell? ⟨q, 4, none⟩ = _ := (pset_else (by decide)).trans h4
  have h5 : ((((w.setCell ⟨q, 0, none⟩ (.bool m'.up)).setCell ⟨q, 1, none⟩ (.int .i64 m'.li)).setCell ⟨q, 2, none⟩ (.int .i64 m'.ep)).setCell ⟨q, 3, none⟩ (v')).cell? ⟨q, 5, none⟩ = _ := (pset_else (by decide)).trans h5
  have h6 : ((((w.setCell ⟨q, 0, none⟩ (.bool m'.up)).setCell ⟨q, 1, none⟩ (.int .i64 m'.li)).setCell ⟨q, 2, none⟩ (.int .i64 m'.ep)).setCell ⟨q, 3, none⟩ (v')).cell? ⟨q, 6, none⟩ = _ := (pset_else (by decide)).trans h6
  have h0 : (((((w.setCell ⟨q, 0, none⟩ (.bool m'.up)).setCell ⟨q, 1, none⟩ (.int .i64 m'.li)).setCell ⟨q, 2, none⟩ (.int .i64 m'.ep)).setCell ⟨q, 3, none⟩ (v')).setCell ⟨q, 4, none⟩ (.int .i64 m'.sd)).cell? ⟨q, 0, none⟩ = _ := (pset_else (by decide)).trans h0
  have h1 : (((((w.setCell ⟨q, 0, none⟩ (.bool m'.up)).setCell ⟨q, 1, none⟩ (.int .i64 m'.li)).setCell ⟨q, 2, none⟩ (.int .i64 m'.ep)).setCell ⟨q, 3, none⟩ (v')).setCell ⟨q, 4, none⟩ (.int .i64 m'.sd)).cell? ⟨q, 1, none⟩ = _ := (pset_else (by decide)).trans h1
  have h2 : (((((w.setCell ⟨q, 0, none⟩ (.bool m'.up)).setCell ⟨q, 1, none⟩ (.int .i64 m'.li)).setCell ⟨q, 2, none⟩ (.int .i64 m'.ep)).setCell ⟨q, 3, none⟩ (v')).setCell ⟨q, 4, none⟩ (.int .i64 m'.sd)).cell? ⟨q, 2, none⟩ = _ := (pset_else (by decide)).trans h2
  have h3 : (((((w.setCell ⟨q, 0, none⟩ (.bool m'.up)).setCell ⟨q, 1, none⟩ (.int .i64 m'.li)).setCell ⟨q, 2, none⟩ (.int .i64 m'.ep)).setCell ⟨q, 3, none⟩ (v')).setCell ⟨q, 4, none⟩ (.int .i64 m'.sd)).cell? ⟨q, 3, none⟩ = _ := (pset_else (by decide)).trans h3
  have h4 : (((((w.setCell ⟨q, 0, none⟩ (.bool m'.up)).setCell ⟨q, 1, none⟩ (.int .i64 m'.li)).setCell ⟨q, 2, none⟩ (.int .i64 m'.ep)).setCell ⟨q, 3, none⟩ (v')).setCell ⟨q, 4, none⟩ (.int .i64 m'.sd)).cell? ⟨q, 4, none⟩ = some (.int .i64 m'.sd) := pset_same h4
  have h5 : (((((w.setCell ⟨q, 0, none⟩ (.bool m'.up)).setCell ⟨q, 1, none⟩ (.int .i64 m'.li)).setCell ⟨q, 2, none⟩ (.int .i64 m'.ep)).setCell ⟨q, 3, none⟩ (v')).setCell ⟨q, 4, none⟩ (.int .i64 m'.sd)).cell? ⟨q, 5, none⟩ = _ := (pset_else (by decide)).trans h5
  have h6 : (((((w.setCell ⟨q, 0, none⟩ (.bool m'.up)).setCell ⟨q, 1, none⟩ (.int .i64 m'.li)).setCell ⟨q, 2, none⟩ (.int .i64 m'.ep)).setCell ⟨q, 3, none⟩ (v')).setCell ⟨q, 4, none⟩ (.int .i64 m'.sd)).cell? ⟨q, 6, none⟩ = _ := (pset_else (by decide)).trans h6
  have h0 : ((((((w.setCell ⟨q, 0, none⟩ (.bool m'.up)).setCell ⟨q, 1, none⟩ (.int .i64 m'.li)).setCell ⟨q, 2, none⟩ (.int .i64 m'.ep)).setCell ⟨q, 3, none⟩ (v')).setCell ⟨q, 4, none⟩ (.int .i64 m'.sd)).setCell ⟨q, 5, none⟩ (.int .i64 m'.ac)).cell? ⟨q, 0, none⟩ = _ := (pset_else (by decide)).trans h0
  have h1 : ((((((w.setCell ⟨q, 0, none⟩ (.bool m'.up)).setCell ⟨q, 1, none⟩ (.int .i64 m'.li)).setCell ⟨q, 2, none⟩ (.int .i64 m'.ep)).setCell ⟨q, 3, none⟩ (v')).setCell ⟨q, 4, none⟩ (.int .i64 m'.sd)).setCell ⟨q, 5, none⟩ (.int .i64 m'.ac)).cell? ⟨q, 1, none⟩ = _ := (pset_else (by decide)).trans h1
  have h2 : ((((((w.setCell ⟨q, 0, none⟩ (.bool m'.up)).setCell ⟨q, 1, none⟩ (.int .i64 m'.li)).setCell ⟨q, 2, none⟩ (.int .i64 m'.ep)).setCell ⟨q, 3, none⟩ (v')).setCell ⟨q, 4, none⟩ (.int .i64 m'.sd)).setCell ⟨q, 5, none⟩ (.int .i64 m'.ac)).cell? ⟨q, 2, none⟩ = _ := (pset_else (by decide)).trans h2
  have h3 : ((((((w.setCell ⟨q, 0, none⟩ (.bool m'.up)).setCell ⟨q, 1, none⟩ (.int .i64 m'.li)).setCell ⟨q, 2, none⟩ (.int .i64 m'.ep)).setCell ⟨q, 3, none⟩ (v')).setCell ⟨q, 4, none⟩ (.int .i64 m'.sd)).setCell ⟨q, 5, none⟩ (.int .i64 m'.ac)).cell? ⟨q, 3, none⟩ = _ := (pset_else (by decide)).trans h3
  have h4 : ((((((w.setCell ⟨q, 0, none⟩ (.bool m'.up)).setCell ⟨q, 1, none⟩ (.int .i64 m'.li)).setCell ⟨q, 2, none⟩ (.int .i64 m'.ep)).setCell ⟨q, 3, none⟩ (v')).setCell ⟨q, 4, none⟩ (.int .i64 m'.sd)).setCell ⟨q, 5, none⟩ (.int .i64 m'.ac)).cell? ⟨q, 4, none⟩ = _ := (pset_else (by decide)).trans h4
  have h5 : ((((((w.setCell ⟨q, 0, none⟩ (.bool m'.up)).setCell ⟨q, 1, none⟩ (.int .i64 m'.li)).setCell ⟨q, 2, none⟩ (.int .i64 m'.ep)).setCell ⟨q, 3, none⟩ (v')).setCell ⟨q, 4, none⟩ (.int .i64 m'.sd)).setCell ⟨q, 5, none⟩ (.int .i64 m'.ac)).cell? ⟨q, 5, none⟩ = some (.int .i64 m'.ac) := pset_same h5
  have h6 : ((((((w.setCell ⟨q, 0, none⟩ (.bool m'.up)).setCell ⟨q, 1, none⟩ (.int .i64 m'.li)).setCell ⟨q, 2, none⟩ (.int .i64 m'.ep)).setCell ⟨q, 3, none⟩ (v')).setCell ⟨q, 4, none⟩ (.int .i64 m'.sd)).setCell ⟨q, 5, none⟩ (.int .i64 m'.ac)).cell? ⟨q, 6, none⟩ = _ := (pset_else (by decide)).trans h6
  have h0 : (((((((w.setCell ⟨q, 0, none⟩ (.bool m'.up)).setCell ⟨q, 1, none⟩ (.int .i64 m'.li)).setCell ⟨q, 2, none⟩ (.int .i64 m'.ep)).setCell ⟨q, 3, none⟩ (v')).setCell ⟨q, 4, none⟩ (.int .i64 m'.sd)).setCell ⟨q, 5, none⟩ (.int .i64 m'.ac)).setCell ⟨q, 6, none⟩ (.int .i64 m'.al)).cell? ⟨q, 0, none⟩ = _ := (pset_else (by decide)).trans h0
  have h1 : (((((((w.setCell ⟨q, 0, none⟩ (.bool m'.up)).setCell ⟨q, 1, none⟩ (.int .i64 m'.li)).setCell ⟨q, 2, none⟩ (.int .i64 m'.ep)).setCell ⟨q, 3, none⟩ (v')).setCell ⟨q, 4, none⟩ (.int .i64 m'.sd)).setCell ⟨q, 5, none⟩ (.int .i64 m'.ac)).setCell ⟨q, 6, none⟩ (.int .i64 m'.al)).cell? ⟨q, 1, none⟩ = _ := (pset_else (by decide)).trans h1
  have h2 : (((((((w.setCell ⟨q, 0, none⟩ (.bool m'.up)).setCell ⟨q, 1, none⟩ (.int .i64 m'.li)).setCell ⟨q, 2, none⟩ (.int .i64 m'.ep)).setCell ⟨q, 3, none⟩ (v')).setCell ⟨q, 4, none⟩ (.int .i64 m'.sd)).setCell ⟨q, 5, none⟩ (.int .i64 m'.ac)).setCell ⟨q, 6, none⟩ (.int .i64 m'.al)).cell? ⟨q, 2, none⟩ = _ := (pset_else (by decide)).trans h2
  have h3 : (((((((w.setCell ⟨q, 0, none⟩ (.bool m'.up)).setCell ⟨q, 1, none⟩ (.int .i64 m'.li)).setCell ⟨q, 2, none⟩ (.int .i64 m'.ep)).setCell ⟨q, 3, none⟩ (v')).setCell ⟨q, 4, none⟩ (.int .i64 m'.sd)).setCell ⟨q, 5, none⟩ (.int .i64 m'.ac)).setCell ⟨q, 6, none⟩ (.int .i64 m'.al)).cell? ⟨q, 3, none⟩ = _ := (pset_else (by decide)).trans h3
  have h4 : (((((((w.setCell ⟨q, 0, none⟩ (.bool m'.up)).setCell ⟨q, 1, none⟩ (.int .i64 m'.li)).setCell ⟨q, 2, none⟩ (.int .i64 m'.ep)).setCell ⟨q, 3, none⟩ (v')).setCell ⟨q, 4, none⟩ (.int .i64 m'.sd)).setCell ⟨q, 5, none⟩ (.int .i64 m'.ac)).setCell ⟨q, 6, none⟩ (.int .i64 m'.al)).cell? ⟨q, 4, none⟩ = _ := (pset_else (by decide)).trans h4
  have h5 : (((((((w.setCell ⟨q, 0, none⟩ (.bool m'.up)).setCell ⟨q, 1, none⟩ (.int .i64 m'.li)).setCell ⟨q, 2, none⟩ (.int .i64 m'.ep)).setCell ⟨q, 3, none⟩ (v')).setCell ⟨q, 4, none⟩ (.int .i64 m'.sd)).setCell ⟨q, 5, none⟩ (.int .i64 m'.ac)).setCell ⟨q, 6, none⟩ (.int .i64 m'.al)).cell? ⟨q, 5, none⟩ = _ := (pset_else (by decide)).trans h5
  have h6 : (((((((w.setCell ⟨q, 0, none⟩ (.bool m'.up)).setCell ⟨q, 1, none⟩ (.int .i64 m'.li)).setCell ⟨q, 2, none⟩ (.int .i64 m'.ep)).setCell ⟨q, 3, none⟩ (v')).setCell ⟨q, 4, none⟩ (.int .i64 m'.sd)).setCell ⟨q, 5, none⟩ (.int .i64 m'.ac)).setCell ⟨q, 6, none⟩ (.int .i64 m'.al)).cell? ⟨q, 6, none⟩ = some (.int .i64 m'.al) := pset_same h6
  refine ⟨h0, h1, h2, h3, h4, h5, h6, fun i => ?_⟩
  rw [World.frozen?_setCell, World.frozen?_setCell, World.frozen?_setCell, World.frozen?_setCell, World.frozen?_setCell, World.frozen?_setCell, World.frozen?_setCell]
  exact hf i
theorem heap_put7 (w : World) (q k : Nat) (m' : Mi) (v' : Value) (h : k ≠ q) : ((((((((w.setCell ⟨q, 0, none⟩ (.bool m'.up)).setCell ⟨q, 1, none⟩ (.int .i64 m'.li)).setCell ⟨q, 2, none⟩ (.int .i64 m'.ep)).setCell ⟨q, 3, none⟩ (v')).setCell ⟨q, 4, none⟩ (.int .i64 m'.sd)).setCell ⟨q, 5, none⟩ (.int .i64 m'.ac)).setCell ⟨q, 6, none⟩ (.int .i64 m'.al))).heap[k]? = w.heap[k]? := by
  rw [Below.heap_setCell _ _ _ _ h, Below.heap_setCell _ _ _ _ h, Below.heap_setCell _ _ _ _ h, Below.heap_setCell _ _ _ _ h, Below.heap_setCell _ _ _ _ h, Below.heap_setCell _ _ _ _ h, Below.heap_setCell _ _ _ _ h]
theorem below_put7 {a w : World} {q n : Nat} (m' : Mi) (v' : Value) (h : Below n a w) (hq : n ≤ q) : Below n a (((((((w.setCell ⟨q, 0, none⟩ (.bool m'.up)).setCell ⟨q, 1, none⟩ (.int .i64 m'.li)).setCell ⟨q, 2, none⟩ (.int .i64 m'.ep)).setCell ⟨q, 3, none⟩ (v')).setCell ⟨q, 4, none⟩ (.int .i64 m'.sd)).setCell ⟨q, 5, none⟩ (.int .i64 m'.ac)).setCell ⟨q, 6, none⟩ (.int .i64 m'.al)) := (((((((h.setCell (p := ⟨q, 0, none⟩) hq _).setCell (p := ⟨q, 1, none⟩) hq _).setCell (p := ⟨q, 2, none⟩) hq _).setCell (p := ⟨q, 3, none⟩) hq _).setCell (p := ⟨q, 4, none⟩) hq _).setCell (p := ⟨q, 5, none⟩) hq _).setCell (p := ⟨q, 6, none⟩) hq _)
set_option maxHeartbeats 4000000 in
theorem miCop (m : Mi) (ad : Option Addr) (cap : Nat) (w : World) (hv : FView ikEnc w ad m.lg) (hl : m.lg.length ≤ 1048577) (hn : ad = none → cap = 0) :
    Calls Tryz.prog 41 #[.agg #[.bool m.up, .int .i64 m.li, .int .i64 m.ep, .slice ad m.lg.length cap, .int .i64 m.sd, .int .i64 m.ac, .int .i64 m.al]] w fun e w' => ∃ a c, e = .returned (.agg #[.bool m.up, .int .i64 m.li, .int .i64 m.ep, .slice a m.lg.length c, .int .i64 m.sd, .int .i64 m.ac, .int .i64 m.al]) ∧ FOwn ikEnc 8 138 w.heap.size w' (.slice a m.lg.length c) m.lg ∧ Below w.heap.size w w' := by
  have hB := hv.lt ikEnc_len (by omega)
  obtain ⟨y, hy⟩ : ∃ y, y = (w.alloc (Obj.cells #[.bool m.up, .int .i64 m.li, .int .i64 m.ep, .slice ad m.lg.length cap, .int .i64 m.sd, .int .i64 m.ac, .int .i64 m.al] 28)).alloc (Obj.cells #[.bool false, .int .i64 0, .int .i64 0, .slice none 0 0, .int .i64 0, .int .i64 0, .int .i64 0] 28) := ⟨_, rfl⟩
  have B0 : Below w.heap.size w y := by rw [hy]; exact ((Below.refl _ _).alloc (Nat.le_refl _) _).alloc (by simp) _
  have A0 : MiBox y w.heap.size m (.slice ad m.lg.length cap) := by rw [hy]; constructor <;> simp [go_sem]
  have A1 : MiBox y (w.heap.size + 1) ⟨false, 0, 0, [], 0, 0, 0⟩ (.slice none 0 0) := by rw [hy]; constructor <;> simp [go_sem]
  have S0 := A1.lt
  have hv1 := hv.below B0 hB
  have hB1 := hv1.lt ikEnc_len (by omega)
  obtain ⟨i1, hj, hy0, hy1, hy2⟩ := info_parts ikInfo
  have kx : Below y.heap.size y (y.alloc (Obj.cells #[] 138)) := below_new _
  have hv2 := hv1.below kx hB1
  have oE : FOwn ikEnc 8 138 y.heap.size (y.alloc (Obj.cells #[] 138)) (.slice (some ⟨y.heap.size, 0, none⟩) 0 0) ([] : List Ik) := FOwn.empty y
  have A0x := A0.below kx A0.lt
  have A1x := A1.below kx A1.lt
  go_enter Tryz.func41, Tryz.ntmps41
  go_upto_region 1 with fail
  rw [← hy]
  clear hy
  have cc := A0x
  obtain ⟨x0, x1, x2, x3, x4, x5, x6, xf⟩ := cc
  go_wp2_with (first | (at_builtin; refine fappL ikEnc_len ikEnc_ones rfl _ _ 26 rfl y.heap.size 138 i1 (.agg #[.int .i64 0, .int .i64 0, .int .i64 0, .int .i64 0, .int .i64 0, .int .i64 0, .int .i64 0, .bool false]) 64 Tryz.underlying26 hj hy0 hy1 hy2 rfl (by decide) (by decide) _ ([] : List Ik) rfl oE ad cap m.lg rfl hn hv2 ?z0 ?z1 ?_) | go_in)
  case z0 => simp; omega
  case z1 => simp
  intro vZ w1 hownZ hgrowZ _
  have bZ : Below y.heap.size y w1 := kx.grown hgrowZ (by simp) (fun j e => (oE.lt j e).1)
  replace hownZ : FOwn ikEnc 8 138 y.heap.size w1 vZ m.lg := hownZ
  obtain ⟨a1, c1, rfl⟩ := hownZ.open_
  clear hgrowZ x0 x1 x2 x3 x4 x5 x6 xf A0x A1x hv2 kx oE
  have A0 := A0.below bZ A0.lt
  have A1 := A1.below bZ A1.lt
  have A2 := A0.log (.slice a1 m.lg.length c1)
  have A3 := A1.keep (w' := w1.setCell ⟨w.heap.size, 3, none⟩ (.slice a1 m.lg.length c1)) (Below.heap_setCell _ _ _ _ (by show w.heap.size + 1 ≠ w.heap.size; omega))
  have lo := hownZ.lt
  have O2 : FOwn ikEnc 8 138 y.heap.size (w1.setCell ⟨w.heap.size, 3, none⟩ (.slice a1 m.lg.length c1)) (.slice a1 m.lg.length c1) m.lg := hownZ.keep (fun g e => Below.heap_setCell _ _ _ _ (by have := lo g e; show g ≠ w.heap.size; omega))
  have B2 : Below w.heap.size w (w1.setCell ⟨w.heap.size, 3, none⟩ (.slice a1 m.lg.length c1)) := (B0.trans (bZ.mono B0.size)).setCell (p := ⟨w.heap.size, 3, none⟩) (Nat.le_refl _) _
  clear bZ B0 hownZ hv1 hB1 hv hB
  have x3 := A0.c3
  have xf := A0.fr 3
  clear A0 A1
  go_upto_region 2 with fail
  obtain ⟨w2, hw2⟩ : ∃ w2, w2 = w1.setCell ⟨w.heap.size, 3, none⟩ (.slice a1 m.lg.length c1) := ⟨_, rfl⟩
  rw [← hw2] at A2 A3 O2 B2 ⊢
  clear hw2 x3 xf
  have B4 := below_put7 (q := w.heap.size + 1) m (.slice a1 m.lg.length c1) B2 (by omega)
  have O4 := (O2.base (base' := w.heap.size) (by omega)).keep (fun g e => heap_put7 w2 (w.heap.size + 1) g m (.slice a1 m.lg.length c1) (by have := (O2.lt g e).1; omega))
  clear B2 O2 lo
  obtain ⟨x0, x1, x2, x3, x4, x5, x6, xf⟩ := A2
  obtain ⟨z0, z1, z2, z3, z4, z5, z6, zf⟩ := A3
  have g0 := zf 0
  have g1 := zf 1
  have g2 := zf 2
  have g3 := zf 3
  have g4 := zf 4
  have g5 := zf 5
  have g6 := zf 6
  clear xf zf
  go_wp2
  refine bodyPost_ret (v := .agg #[.bool m.up, .int .i64 m.li, .int .i64 m.ep, .slice a1 m.lg.length c1, .int .i64 m.sd, .int .i64 m.ac, .int .i64 m.al]) (by simp [results, Tryz.results41, go_sem, *]) rfl ⟨a1, c1, rfl, O4, B4⟩

end Go.Proofs.YtijhpfccjaaalaaGreat
namespace Go.Proofs.YtijhpfccjaaalaaGreat
open Go.ChangeShapes Go.WideShapes Go.ChangeAt Go.RowKit
open Go.ChangeMaps (open_string shut_string)
set_option linter.unusedVariables false
set_option maxRecDepth 100000

theorem wiInfo : (Tryz.prog.info? 152).map (fun i => (i.zero, i.size, i.bytes)) = some (some (.agg #[.int .i64 0, .bool false, .int .i64 0, .int .i64 0, .int .i64 0, .int .i64 0, .int .i64 0, .int .i64 0, .int .i64 0, .int .i64 0, .int .i64 0, .bool false]), 12, 96) := by kernel_rfl
/-- How far a list is copied. -/
def LS {X : Type} (enc : X → List Value) (n : Nat) (T : TypeId) (base : Nat) (W : World) (b a : Bool) (v v' : Value) (L : List X) : Prop :=
  (b = false ∧ a = false ∧ v = undef ∧ v' = undef) ∨ (b = true ∧ a = false ∧ v' = undef ∧ FOwn enc n T base W v ([] : List X)) ∨ (b = true ∧ a = true ∧ FOwn enc n T base W v' L)
theorem LS.keep {X : Type} {enc : X → List Value} {n : Nat} {T : TypeId} {base : Nat} {W W' : World} {b a : Bool} {v v' : Value} {L : List X} (h : LS enc n T base W b a v v' L) (k : ∀ (u : Value) (M : List X), FOwn enc n T base W u M → ∀ g, u.ownBlock = some g → W'.heap[g]? = W.heap[g]?) : LS enc n T base W' b a v v' L := by
  rcases h with h | ⟨h1, h2, h3, h4⟩ | ⟨h1, h2, h3⟩
  · exact .inl h
  · exact .inr (.inl ⟨h1, h2, h3, h4.keep (k _ _ h4)⟩)
  · exact .inr (.inr ⟨h1, h2, h3.keep (k _ _ h3)⟩)
theorem LS.alloc {X : Type} {enc : X → List Value} {n : Nat} {T : TypeId} {base : Nat} {W : World} {b a : Bool} {v v' : Value} {L : List X} (h : LS enc n T base W b a v v' L) (ob : Obj) : LS enc n T base (W.alloc ob) b a v v' L :=
  h.keep (fun u M ho g e => Below.heap_alloc W ob g (ho.lt g e).2)
def ZBx (W : World) (q : Nat) : Prop := W.heap[q]? = some (Obj.cells #[.int .i64 0, .int .i64 0, .int .i64 0, .int .i64 0, .int .i64 0, .slice none 0 0, .slice none 0 0, .slice none 0 0, .slice none 0 0, .slice none 0 0] 55)
def cpL (b1 a1 b2 a2 b3 a3 b4 a4 al c : Bool) : Array Bool := #[true, true, true, true, true, true, b1, true, true, a1, b2, true, true, a2, b3, true, true, a3, b4, true, true, a4, c, al, false]
def cpN (b1 a1 b2 a2 b3 a3 b4 a4 al c : Bool) : Nat := (!b1).toNat + (!a1).toNat + (!b2).toNat + (!a2).toNat + (!b3).toNat + (!a3).toNat + (!b4).toNat + (!a4).toNat + (!al).toNat + (!c).toNat
def cpR (b1 a1 b2 a2 b3 a3 b4 a4 al c : Bool) : List Nat := (if b1 then [] else [6]) ++ (if b1 && !a1 then [9] else []) ++ (if b2 then [] else [10]) ++ (if b2 && a1 && !a2 then [13] else []) ++ (if b3 then [] else [14]) ++ (if b3 && a2 && !a3 then [17] else []) ++ (if b4 then [] else [18]) ++ (if b4 && a3 && !a4 then [21] else []) ++ (if a4 && !c then [22] else []) ++ (if al then [] else [23])
def cpF (x : BxD) (B : Nat) (v3 v11 v14 v15 v18 v19 v22 v23 v26 v27 : Value) : List Value := [.agg #[.int .i64 x.id, .int .i64 x.po, .int .i64 x.rg.ep, .int .i64 x.rg.ow, .int .i64 x.rg.pa, .slice x.aT x.two.length x.cT, .slice x.aN x.net.length x.cN, .slice x.aG x.ga.length x.cG, .slice x.aL x.ln.length x.cL, .slice x.aS x.sd.length x.cS], .pointer (some ⟨B, 0, none⟩), .pointer (some ⟨(B + 1), 0, none⟩), v3, undef, .pointer (some ⟨B, 0, none⟩), .int .i64 x.id, .pointer (some ⟨B, 1, none⟩), .int .i64 x.po, .pointer (some ⟨B, 2, none⟩), .agg #[.int .i64 x.rg.ep, .int .i64 x.rg.ow, .int .i64 x.rg.pa], v11, .pointer (some ⟨B, 6, none⟩), .slice x.aN x.net.length x.cN, v14, v15, .pointer (some ⟨B, 7, none⟩), .slice x.aG x.ga.length x.cG, v18, v19, .pointer (some ⟨B, 8, none⟩), .slice x.aL x.ln.length x.cL, v22, v23, .pointer (some ⟨B, 9, none⟩), .slice x.aS x.sd.length x.cS, v26, v27, undef, undef, undef, undef, undef, undef, undef, undef, undef, undef, undef, undef, undef, undef, undef, undef, undef, undef, undef]
def cpV (x : BxD) (v14 v18 v22 v26 : Value) : Value := .agg #[.int .i64 x.id, .int .i64 x.po, .int .i64 x.rg.ep, .int .i64 x.rg.ow, .int .i64 x.rg.pa, .slice none 0 0, v14, v18, v22, v26]
/-- How far the statement is. -/
structure CpS (x : BxD) (base : Nat) (y : World) (b1 a1 b2 a2 b3 a3 b4 a4 al c : Bool) (v3 v11 v14 v15 v18 v19 v22 v23 v26 v27 : Value) (W : World) : Prop where
  bel : Below base y W
  h1 : LS wiEnc 12 152 base W b1 a1 v11 v14 x.net
  h2 : LS boEnc 1 4 base W b2 a2 v15 v18 x.ga
  h3 : LS ikEnc 8 138 base W b3 a3 v19 v22 x.ln
  h4 : LS ouEnc 8 95 base W b4 a4 v23 v26 x.sd
  k2 : a2 = true → a1 = true
  k3 : a3 = true → a2 = true
  k4 : a4 = true → a3 = true
  k5 : c = true → a4 = true
  ha : (al = false ∧ v3 = undef) ∨ (al = true ∧ ∃ q, v3 = .pointer (some ⟨q, 0, none⟩) ∧ ZBx W q ∧ base ≤ q)
  hc : (c = false ∧ v27 = undef) ∨ (c = true ∧ v27 = cpV x v14 v18 v22 v26)
def CpI (x : BxD) (B base : Nat) (y : World) (n : Nat) (listed : Array Bool) (l : List Value) (W : World) : Prop :=
  ∃ (b1 a1 b2 a2 b3 a3 b4 a4 al c : Bool) (v3 v11 v14 v15 v18 v19 v22 v23 v26 v27 : Value), n = cpN b1 a1 b2 a2 b3 a3 b4 a4 al c ∧ listed = cpL b1 a1 b2 a2 b3 a3 b4 a4 al c ∧ l = cpF x B v3 v11 v14 v15 v18 v19 v22 v23 v26 v27 ∧ CpS x base y b1 a1 b2 a2 b3 a3 b4 a4 al c v3 v11 v14 v15 v18 v19 v22 v23 v26 v27 W
theorem LS.flag {X : Type} {enc : X → List Value} {n : Nat} {T : TypeId} {base : Nat} {W : World} {b a : Bool} {v v' : Value} {L : List X} (h : LS enc n T base W b a v v' L) : a = true → b = true := by
  rcases h with h | h | h
  · intro e; rw [h.2.1] at e; cases e
  · intro e; rw [h.2.1] at e; cases e
  · intro _; exact h.1

end Go.Proofs.YtijhpfccjaaalaaGreat
namespace Go.Proofs.YtijhpfccjaaalaaGreat
open Go.ChangeShapes Go.WideShapes Go.ChangeAt Go.RowKit
open Go.ChangeMaps (open_string shut_string)
set_option linter.unusedVariables false
set_option maxRecDepth 100000

theorem FOwn.notZ {X : Type} {enc : X → List Value} {n : Nat} {T : TypeId} {base : Nat} {w : World} {v : Value} {L : List X} (h : FOwn enc n T base w v L) {q : Nat} (hz : ZBx w q) (hT : T ≠ 55) : v.ownBlock ≠ some q := by
  intro e
  rcases h.2 with ⟨q1, _⟩ | ⟨g1, c1, u1, q1, _, o1, _⟩
  · rw [q1] at e; cases e
  · rw [q1] at e
    cases e
    unfold ZBx at hz
    rw [hz] at o1
    simp only [Option.some.injEq, Obj.cells.injEq] at o1
    exact hT o1.2.1.symm
theorem cpN_zero : ∀ (b1 a1 b2 a2 b3 a3 b4 a4 al c : Bool), cpN b1 a1 b2 a2 b3 a3 b4 a4 al c = 0 → b1 = true ∧ a1 = true ∧ b2 = true ∧ a2 = true ∧ b3 = true ∧ a3 = true ∧ b4 = true ∧ a4 = true ∧ al = true ∧ c = true := by
  intro b1 a1 b2 a2 b3 a3 b4 a4 al c h
  unfold cpN at h
  cases b1 <;> cases a1 <;> cases b2 <;> cases a2 <;> cases b3 <;> cases a3 <;> cases b4 <;> cases a4 <;> cases al <;> cases c <;> first | (cases h; done) | exact ⟨rfl, rfl, rfl, rfl, rfl, rfl, rfl, rfl, rfl, rfl⟩
theorem cpR_ne : ∀ (b1 a1 b2 a2 b3 a3 b4 a4 al c : Bool), (a2 = true → a1 = true) → (a3 = true → a2 = true) → (a4 = true → a3 = true) → (c = true → a4 = true) → cpN b1 a1 b2 a2 b3 a3 b4 a4 al c ≠ 0 → cpR b1 a1 b2 a2 b3 a3 b4 a4 al c ≠ [] := of_decide_eq_true (by kernel_rfl)

end Go.Proofs.YtijhpfccjaaalaaGreat
namespace Go.Proofs.YtijhpfccjaaalaaGreat
open Go.ChangeShapes Go.WideShapes Go.ChangeAt Go.RowKit
open Go.ChangeMaps (open_string shut_string)
set_option linter.unusedVariables false
set_option maxRecDepth 100000

theorem ZBx.box {w : World} {q : Nat} (h : ZBx w q) : BxB w q BxD.zero := by
  unfold ZBx at h
  refine ⟨⟨?_, ?_, ?_, ?_, ?_, ?_, ?_, ?_, ?_, ?_⟩, fun i => ?_⟩
  all_goals simp [World.cell?, World.frozen?, h, BxD.zero, go_sem]
theorem heap_put10 (w : World) (q k : Nat) (x : BxD) (h : k ≠ q) : (((((((((((w.setCell ⟨q, 0, none⟩ (.int .i64 x.id)).setCell ⟨q, 1, none⟩ (.int .i64 x.po)).setCell ⟨q, 2, none⟩ (.int .i64 x.rg.ep)).setCell ⟨q, 3, none⟩ (.int .i64 x.rg.ow)).setCell ⟨q, 4, none⟩ (.int .i64 x.rg.pa)).setCell ⟨q, 5, none⟩ (.slice x.aT x.two.length x.cT)).setCell ⟨q, 6, none⟩ (.slice x.aN x.net.length x.cN)).setCell ⟨q, 7, none⟩ (.slice x.aG x.ga.length x.cG)).setCell ⟨q, 8, none⟩ (.slice x.aL x.ln.length x.cL)).setCell ⟨q, 9, none⟩ (.slice x.aS x.sd.length x.cS))).heap[k]? = w.heap[k]? := by
  rw [Below.heap_setCell _ _ _ _ h, Below.heap_setCell _ _ _ _ h, Below.heap_setCell _ _ _ _ h, Below.heap_setCell _ _ _ _ h, Below.heap_setCell _ _ _ _ h, Below.heap_setCell _ _ _ _ h, Below.heap_setCell _ _ _ _ h, Below.heap_setCell _ _ _ _ h, Below.heap_setCell _ _ _ _ h, Below.heap_setCell _ _ _ _ h]
theorem below_put10 {a w : World} {q n : Nat} (x : BxD) (h : Below n a w) (hq : n ≤ q) : Below n a ((((((((((w.setCell ⟨q, 0, none⟩ (.int .i64 x.id)).setCell ⟨q, 1, none⟩ (.int .i64 x.po)).setCell ⟨q, 2, none⟩ (.int .i64 x.rg.ep)).setCell ⟨q, 3, none⟩ (.int .i64 x.rg.ow)).setCell ⟨q, 4, none⟩ (.int .i64 x.rg.pa)).setCell ⟨q, 5, none⟩ (.slice x.aT x.two.length x.cT)).setCell ⟨q, 6, none⟩ (.slice x.aN x.net.length x.cN)).setCell ⟨q, 7, none⟩ (.slice x.aG x.ga.length x.cG)).setCell ⟨q, 8, none⟩ (.slice x.aL x.ln.length x.cL)).setCell ⟨q, 9, none⟩ (.slice x.aS x.sd.length x.cS)) := ((((((((((h.setCell (p := ⟨q, 0, none⟩) hq _).setCell (p := ⟨q, 1, none⟩) hq _).setCell (p := ⟨q, 2, none⟩) hq _).setCell (p := ⟨q, 3, none⟩) hq _).setCell (p := ⟨q, 4, none⟩) hq _).setCell (p := ⟨q, 5, none⟩) hq _).setCell (p := ⟨q, 6, none⟩) hq _).setCell (p := ⟨q, 7, none⟩) hq _).setCell (p := ⟨q, 8, none⟩) hq _).setCell (p := ⟨q, 9, none⟩) hq _)
theorem FView.oneD (w : World) (t : TypeId) (x : MiD) : FView mdEnc (w.alloc (Obj.cells #[.bool x.m.up, .int .i64 x.m.li, .int .i64 x.m.ep, .slice x.ad x.m.lg.length x.cap, .int .i64 x.m.sd, .int .i64 x.m.ac, .int .i64 x.m.al] t)) (some ⟨w.heap.size, 0, none⟩) [x] := by
  intro _
  refine ⟨w.heap.size, 0, rfl, fun j v hv => ?_⟩
  simp only [fcells, mdEnc, List.append_nil] at hv
  have hj : j < 7 := (List.getElem?_eq_some_iff.1 hv).1
  rcases (by omega : j = 0 ∨ j = 1 ∨ j = 2 ∨ j = 3 ∨ j = 4 ∨ j = 5 ∨ j = 6) with rfl | rfl | rfl | rfl | rfl | rfl | rfl <;> (cases hv; simp [go_sem])
theorem mdInfo : (Tryz.prog.info? 28).map (fun i => (i.zero, i.size, i.bytes)) = some (some (.agg #[.bool false, .int .i64 0, .int .i64 0, .slice none 0 0, .int .i64 0, .int .i64 0, .int .i64 0]), 7, 72) := by kernel_rfl
/-- A box that a call owns. -/
structure BxO (base : Nat) (w : World) (x : BxD) : Prop where
  t : FOwn mdEnc 7 28 base w (.slice x.aT x.two.length x.cT) x.two
  l : ∀ i, i < x.two.length → FOwn ikEnc 8 138 base w (.slice (x.two.getD i MiD.nil).ad (x.two.getD i MiD.nil).m.lg.length (x.two.getD i MiD.nil).cap) (x.two.getD i MiD.nil).m.lg
  n : FOwn wiEnc 12 152 base w (.slice x.aN x.net.length x.cN) x.net
  g : FOwn boEnc 1 4 base w (.slice x.aG x.ga.length x.cG) x.ga
  i : FOwn ikEnc 8 138 base w (.slice x.aL x.ln.length x.cL) x.ln
  s : FOwn ouEnc 8 95 base w (.slice x.aS x.sd.length x.cS) x.sd
  ap : ∀ j, j < x.two.length → ∀ g, (Value.slice (x.two.getD j MiD.nil).ad (x.two.getD j MiD.nil).m.lg.length (x.two.getD j MiD.nil).cap).ownBlock = some g → (Value.slice x.aL x.ln.length x.cL).ownBlock ≠ some g
theorem BxO.later {base : Nat} {w w' : World} {x : BxD} (h : BxO base w x) (k : Below w.heap.size w w') : BxO base w' x :=
  ⟨h.t.later k, fun i hi => (h.l i hi).later k, h.n.later k, h.g.later k, h.i.later k, h.s.later k, h.ap⟩
theorem BxO.base {b1 b2 : Nat} {w : World} {x : BxD} (h : BxO b1 w x) (hb : b2 ≤ b1) : BxO b2 w x :=
  ⟨h.t.base hb, fun i hi => (h.l i hi).base hb, h.n.base hb, h.g.base hb, h.i.base hb, h.s.base hb, h.ap⟩
/-- All its rows stand where the blocks that it owns stand. -/
theorem BxO.keep {base : Nat} {w w' : World} {x : BxD} (h : BxO base w x) (k : ∀ g, base ≤ g → g < w.heap.size → w'.heap[g]? = w.heap[g]?) : BxO base w' x :=
  ⟨h.t.keep (fun g e => k g (h.t.lt g e).1 (h.t.lt g e).2), fun i hi => (h.l i hi).keep (fun g e => k g ((h.l i hi).lt g e).1 ((h.l i hi).lt g e).2), h.n.keep (fun g e => k g (h.n.lt g e).1 (h.n.lt g e).2), h.g.keep (fun g e => k g (h.g.lt g e).1 (h.g.lt g e).2), h.i.keep (fun g e => k g (h.i.lt g e).1 (h.i.lt g e).2), h.s.keep (fun g e => k g (h.s.lt g e).1 (h.s.lt g e).2), h.ap⟩
/-- A row of type MI turned, or a box of boxes was written: the rest of what is owned stands. -/
theorem BxO.view {base : Nat} {w : World} {x : BxD} (h : BxO base w x) (bt : x.two.length ≤ 1048576) (bl : ∀ i, i < x.two.length → (x.two.getD i MiD.nil).m.lg.length ≤ 1048576) (bn : x.net.length ≤ 1048576) (bg : x.ga.length ≤ 1048576) (bi : x.ln.length ≤ 1048576) (bs : x.sd.length ≤ 1048576) : BxV w x :=
  ⟨h.t.view.2, fun i hi => (h.l i hi).view.2, h.n.view.2, h.g.view.2, h.i.view.2, h.s.view.2, bt, bl, bn, bg, bi, bs, h.t.capM⟩

end Go.Proofs.YtijhpfccjaaalaaGreat
namespace Go.Proofs.YtijhpfccjaaalaaGreat
open Go.ChangeShapes Go.WideShapes Go.ChangeAt Go.RowKit
open Go.ChangeMaps (open_string shut_string)
set_option linter.unusedVariables false
set_option maxRecDepth 100000

/-- A block that is none of a box's rows. -/
structure BxNe (q : Nat) (x : BxD) : Prop where
  t : ∀ b, (Value.slice x.aT x.two.length x.cT).ownBlock = some b → b ≠ q
  n : ∀ b, (Value.slice x.aN x.net.length x.cN).ownBlock = some b → b ≠ q
  g : ∀ b, (Value.slice x.aG x.ga.length x.cG).ownBlock = some b → b ≠ q
  i : ∀ b, (Value.slice x.aL x.ln.length x.cL).ownBlock = some b → b ≠ q
  s : ∀ b, (Value.slice x.aS x.sd.length x.cS).ownBlock = some b → b ≠ q
  l : ∀ j, j < x.two.length → ∀ b, (Value.slice (x.two.getD j MiD.nil).ad (x.two.getD j MiD.nil).m.lg.length (x.two.getD j MiD.nil).cap).ownBlock = some b → b ≠ q
theorem BxO.keepQ {base q : Nat} {w w' : World} {x : BxD} (h : BxO base w x) (hq : BxNe q x) (k : ∀ g, g ≠ q → w'.heap[g]? = w.heap[g]?) : BxO base w' x :=
  ⟨h.t.keep (fun g e => k g (hq.t g e)), fun i hi => (h.l i hi).keep (fun g e => k g (hq.l i hi g e)), h.n.keep (fun g e => k g (hq.n g e)), h.g.keep (fun g e => k g (hq.g g e)), h.i.keep (fun g e => k g (hq.i g e)), h.s.keep (fun g e => k g (hq.s g e)), h.ap⟩
theorem BxO.ne {base q : Nat} {w : World} {x : BxD} (h : BxO base w x) (hq : w.heap.size ≤ q) : BxNe q x :=
  ⟨fun b e => (by have := h.t.lt b e; omega), fun b e => (by have := h.n.lt b e; omega), fun b e => (by have := h.g.lt b e; omega), fun b e => (by have := h.i.lt b e; omega), fun b e => (by have := h.s.lt b e; omega), fun j hj b e => (by have := (h.l j hj).lt b e; omega)⟩
/-- A gate of an owned box is turned in place. -/
theorem BxO.gate {base : Nat} {w : World} {x : BxD} (h : BxO base w x) {g k : Nat} (hat : x.aG = some ⟨g, 0, none⟩) (hk : k < x.ga.length) (b : Bool) : BxO base (w.setCell ⟨g, k, none⟩ (.bool b)) { x with ga := x.ga.set k b } := by
  have hg : FOwn boEnc 1 4 base (w.setCell ⟨g, k, none⟩ (.bool b)) (.slice x.aG (x.ga.set k b).length x.cG) (x.ga.set k b) := by
    have h1 := h.g
    rw [hat] at h1 ⊢
    have := h1.set boEnc_len (by omega) hk b
    rw [Nat.mul_one] at this
    rw [List.length_set]
    exact this
  have hb : ∀ q, q ≠ g → (w.setCell ⟨g, k, none⟩ (.bool b)).heap[q]? = w.heap[q]? := fun q hq => Below.heap_setCell _ _ _ _ hq
  have ne : ∀ {X : Type} {e : X → List Value} {n : Nat} {T : TypeId} {b1 : Nat} {v : Value} {L : List X}, FOwn e n T b1 w v L → T ≠ 4 → ∀ q, v.ownBlock = some q → q ≠ g := fun hr hT q e e2 => (hr.apart h.g hT e) (by rw [hat, e2]; rfl)
  exact ⟨h.t.keep (fun q e => hb q (ne h.t (by decide) q e)), fun i hi => (h.l i hi).keep (fun q e => hb q (ne (h.l i hi) (by decide) q e)), h.n.keep (fun q e => hb q (ne h.n (by decide) q e)), hg, h.i.keep (fun q e => hb q (ne h.i (by decide) q e)), h.s.keep (fun q e => hb q (ne h.s (by decide) q e)), h.ap⟩
/-- Its list of what was said is turned to another row. -/
theorem BxO.said {base : Nat} {w w' : World} {x : BxD} (h : BxO base w x) (N : List Ou) (a : Option Addr) (c : Nat) (hN : FOwn ouEnc 8 95 base w' (.slice a N.length c) N) (k : ∀ g, g < w.heap.size → (Value.slice x.aS x.sd.length x.cS).ownBlock ≠ some g → w'.heap[g]? = w.heap[g]?) : BxO base w' { x with sd := N, aS := a, cS := c } :=
  ⟨h.t.keep (fun g e => k g (h.t.lt g e).2 (fun e2 => h.s.apart h.t (by decide) e2 e)), fun j hj => (h.l j hj).keep (fun g e => k g ((h.l j hj).lt g e).2 (fun e2 => h.s.apart (h.l j hj) (by decide) e2 e)), h.n.keep (fun g e => k g (h.n.lt g e).2 (fun e2 => h.s.apart h.n (by decide) e2 e)), h.g.keep (fun g e => k g (h.g.lt g e).2 (fun e2 => h.s.apart h.g (by decide) e2 e)), h.i.keep (fun g e => k g (h.i.lt g e).2 (fun e2 => h.s.apart h.i (by decide) e2 e)), hN, h.ap⟩
theorem OuAtO.keepA {w w' : World} {q o : Nat} {x : Ou} (h : OuAtO w q o x) (k : w'.heap[q]? = w.heap[q]?) : OuAtO w' q o x :=
  ⟨(World.cell?_of_block (a := ⟨q, o, none⟩) k).trans h.c0, (World.cell?_of_block (a := ⟨q, o + 1, none⟩) k).trans h.c1, (World.cell?_of_block (a := ⟨q, o + 2, none⟩) k).trans h.c2, (World.cell?_of_block (a := ⟨q, o + 3, none⟩) k).trans h.c3, (World.cell?_of_block (a := ⟨q, o + 4, none⟩) k).trans h.c4, (World.cell?_of_block (a := ⟨q, o + 5, none⟩) k).trans h.c5, (World.cell?_of_block (a := ⟨q, o + 6, none⟩) k).trans h.c6, (World.cell?_of_block (a := ⟨q, o + 7, none⟩) k).trans h.c7⟩
theorem OuAtO.belowA {w w' : World} {q o n : Nat} {x : Ou} (h : OuAtO w q o x) (k : Below n w w') (hq : q < n) : OuAtO w' q o x := h.keepA (k.block q hq)
/-- What the first of what is said leave. -/
def accK (b : Bx) (M : List Ou) : Bx := ⟨b.id, b.po, b.rg, b.two, b.net, M.foldl gateX b.ga, b.ln, b.sd ++ M⟩
theorem accK_nil (b : Bx) : accK b [] = b := by unfold accK; simp
theorem accK_len (b : Bx) (M : List Ou) : (accK b M).ga.length = b.ga.length := gateX_len M b.ga
theorem accK_snoc (b : Bx) (M : List Ou) (h : Ou) : accK b (M ++ [h]) = ⟨(accK b M).id, (accK b M).po, (accK b M).rg, (accK b M).two, (accK b M).net, gateX (accK b M).ga h, (accK b M).ln, (accK b M).sd ++ [h]⟩ := by
  unfold accK
  simp
theorem take_snoc {L : List Ou} {k : Nat} (h : k < L.length) : L.take (k + 1) = L.take k ++ [L.getD k Ou.nil] := by
  rw [List.take_add_one]
  simp [List.getD, h]
theorem accX_yes {b : Bx} {s : Int} {L : List Ou} (h : mindsX b s = true) : accX b s L = ⟨b.id, b.po, b.rg, b.two, b.net, L.foldl gateX b.ga, b.ln, lastS (b.sd ++ L)⟩ := by unfold accX; rw [if_pos h]
theorem lastS_all {M : List Ou} (h : M.length ≤ 40) : lastS M = M := by unfold lastS; rw [show M.length - 40 = 0 by omega]; rfl
theorem FView.dropO {w : World} {b : Nat} {L : List Ou} (h : FView ouEnc w (some ⟨b, 0, none⟩) L) {k : Nat} (hk : k ≤ L.length) : FView ouEnc w (some ⟨b, k * 8, none⟩) (L.drop k) := by
  intro hp
  rw [List.length_drop] at hp
  obtain ⟨b2, off, e, hc⟩ := h (by omega)
  cases e
  refine ⟨b, k * 8, rfl, fun j v hv => ?_⟩
  have e : (fcells ouEnc L)[k * 8 + j]? = some v := by
    have hL : fcells ouEnc L = fcells ouEnc (L.take k) ++ fcells ouEnc (L.drop k) := by
      rw [← fcells_app, List.take_append_drop]
    have hl : (fcells ouEnc (L.take k)).length = k * 8 := by rw [fcells_len ouEnc_len, List.length_take, Nat.min_eq_left hk]
    rw [hL, List.getElem?_append_right (by omega), hl, show k * 8 + j - k * 8 = j by omega]
    exact hv
  have := hc (k * 8 + j) v e
  simpa using this

end Go.Proofs.YtijhpfccjaaalaaGreat
namespace Go.Proofs.YtijhpfccjaaalaaGreat
open Go.ChangeShapes Go.WideShapes Go.ChangeAt Go.RowKit
open Go.ChangeMaps (open_string shut_string)
set_option linter.unusedVariables false
set_option maxRecDepth 100000

theorem BxB.two {w : World} {q : Nat} {x : BxD} (h : BxB w q x) (T : List MiD) (a : Option Addr) (c : Nat) : BxB (w.setCell ⟨q, 5, none⟩ (.slice a T.length c)) q { x with two := T, aT := a, cT := c } :=
  ⟨⟨(pset_else (by decide)).trans h.at_.c0, (pset_else (by decide)).trans h.at_.c1, (pset_else (by decide)).trans h.at_.c2, (pset_else (by decide)).trans h.at_.c3, (pset_else (by decide)).trans h.at_.c4, pset_same h.at_.c5, (pset_else (by decide)).trans h.at_.c6, (pset_else (by decide)).trans h.at_.c7, (pset_else (by decide)).trans h.at_.c8, (pset_else (by decide)).trans h.at_.c9⟩, fun i => by rw [World.frozen?_setCell]; exact h.fr i⟩
theorem mdL {TN : List MiD} (T : List MiD) (e : MiD) (hT : TN = T ++ [e]) (F : MiD → Prop) (h1 : ∀ j, j < T.length → F (T.getD j MiD.nil)) (h2 : F e) : ∀ j, j < TN.length → F (TN.getD j MiD.nil) := by
  subst hT
  intro j hj
  by_cases h : j < T.length
  · have := h1 j h
    simp only [List.getD, List.getElem?_append_left h] at this ⊢
    exact this
  · have e1 : j = T.length := by simp at hj; omega
    subst e1
    simpa [List.getD] using h2
theorem mdM {T TN L : List MiD} {e d : MiD} {k : Nat} (hT : TN = T ++ [e]) (hl : T.length = k) (h : ∀ j, j < k → (T.getD j MiD.nil).m = (L.getD j MiD.nil).m) (hd : L.getD k MiD.nil = d) (he : e.m = d.m) : ∀ j, j < k + 1 → (TN.getD j MiD.nil).m = (L.getD j MiD.nil).m := by
  subst hT
  intro j hj
  by_cases hjk : j = k
  · subst hjk
    rw [hd, ← hl, ← he]; simp [List.getD]
  · rw [← h j (by omega)]
    simp [List.getD, List.getElem?_append_left (show j < T.length by omega)]
theorem mdMap {T L : List MiD} (hl : T.length = L.length) (h : ∀ j, j < L.length → (T.getD j MiD.nil).m = (L.getD j MiD.nil).m) : T.map MiD.m = L.map MiD.m := by
  apply List.ext_getElem
  · simp [hl]
  · intro j h1 h2
    have hj : j < L.length := by simpa using h2
    have hj' : j < T.length := by omega
    have := h j hj
    simpa [List.getD, hj, hj'] using this
theorem zb_alloc {W : World} {base : Nat} {al : Bool} {v3 : Value} {ob : Obj} (h : (al = false ∧ v3 = undef) ∨ (al = true ∧ ∃ q, v3 = .pointer (some ⟨q, 0, none⟩) ∧ ZBx W q ∧ base ≤ q)) : (al = false ∧ v3 = undef) ∨ (al = true ∧ ∃ q, v3 = .pointer (some ⟨q, 0, none⟩) ∧ ZBx (W.alloc ob) q ∧ base ≤ q) := by
  rcases h with h | ⟨h1, q, h2, h3, h4⟩
  · exact .inl h
  · exact .inr ⟨h1, q, h2, (Below.heap_alloc W ob q (Array.getElem?_eq_some_iff.1 h3).1).trans h3, h4⟩
theorem zb_lt {W : World} {q : Nat} (h : ZBx W q) : q < W.heap.size := (Array.getElem?_eq_some_iff.1 h).1
theorem zb_keep {W W' : World} {base : Nat} {al : Bool} {v3 : Value} (h : (al = false ∧ v3 = undef) ∨ (al = true ∧ ∃ q, v3 = .pointer (some ⟨q, 0, none⟩) ∧ ZBx W q ∧ base ≤ q)) (k : ∀ q, ZBx W q → W'.heap[q]? = W.heap[q]?) : (al = false ∧ v3 = undef) ∨ (al = true ∧ ∃ q, v3 = .pointer (some ⟨q, 0, none⟩) ∧ ZBx W' q ∧ base ≤ q) := by
  rcases h with h | ⟨h1, q, h2, h3, h4⟩
  · exact .inl h
  · exact .inr ⟨h1, q, h2, (k q h3).trans h3, h4⟩
set_option maxHeartbeats 16000000 in
theorem copyX (x : BxD) (w : World) (hV : BxV w x) (hn1 : x.aN = none → x.cN = 0) (hn2 : x.aG = none → x.cG = 0) (hn3 : x.aL = none → x.cL = 0) (hn4 : x.aS = none → x.cS = 0) (hnL : ∀ i, i < x.two.length → (x.two.getD i MiD.nil).ad = none → (x.two.getD i MiD.nil).cap = 0) :
    Calls Tryz.prog 55 #[.agg #[.int .i64 x.id, .int .i64 x.po, .int .i64 x.rg.ep, .int .i64 x.rg.ow, .int .i64 x.rg.pa, .slice x.aT x.two.length x.cT, .slice x.aN x.net.length x.cN, .slice x.aG x.ga.length x.cG, .slice x.aL x.ln.length x.cL, .slice x.aS x.sd.length x.cS]] w fun e w' => ∃ x2 : BxD, e = .returned (.agg #[.int .i64 x2.id, .int .i64 x2.po, .int .i64 x2.rg.ep, .int .i64 x2.rg.ow, .int .i64 x2.rg.pa, .slice x2.aT x2.two.length x2.cT, .slice x2.aN x2.net.length x2.cN, .slice x2.aG x2.ga.length x2.cG, .slice x2.aL x2.ln.length x2.cL, .slice x2.aS x2.sd.length x2.cS]) ∧ x2.p = x.p ∧ x2.two.length = x.two.length ∧ BxO w.heap.size w' x2 ∧ Below w.heap.size w w' := by
  obtain ⟨i5, hi5, hz50, hz51, hz52⟩ := info_parts mdInfo
  obtain ⟨i1, hi1, hz10, hz11, hz12⟩ := info_parts wiInfo
  obtain ⟨i2, hi2, hz20, hz21, hz22⟩ := info_parts boInfo
  obtain ⟨i3, hi3, hz30, hz31, hz32⟩ := info_parts ikInfo
  obtain ⟨i4, hi4, hz40, hz41, hz42⟩ := info_parts ouInfo
  obtain ⟨y, hy⟩ : ∃ y, y = (w.alloc (Obj.cells #[.int .i64 x.id, .int .i64 x.po, .int .i64 x.rg.ep, .int .i64 x.rg.ow, .int .i64 x.rg.pa, .slice x.aT x.two.length x.cT, .slice x.aN x.net.length x.cN, .slice x.aG x.ga.length x.cG, .slice x.aL x.ln.length x.cL, .slice x.aS x.sd.length x.cS] 55)).alloc (Obj.cells #[.int .i64 0, .int .i64 0, .int .i64 0, .int .i64 0, .int .i64 0, .slice none 0 0, .slice none 0 0, .slice none 0 0, .slice none 0 0, .slice none 0 0] 55) := ⟨_, rfl⟩
  have B0 : Below w.heap.size w y := by rw [hy]; exact ((Below.refl _ _).alloc (Nat.le_refl _) _).alloc (by simp) _
  have A : BxAt y w.heap.size x := by rw [hy]; constructor <;> simp [go_sem]
  have V := hV.later B0
  have RZ : BxB y (w.heap.size + 1) BxD.zero := ZBx.box (by unfold ZBx; rw [hy]; have := heap_newF (w.alloc (Obj.cells #[.int .i64 x.id, .int .i64 x.po, .int .i64 x.rg.ep, .int .i64 x.rg.ow, .int .i64 x.rg.pa, .slice x.aT x.two.length x.cT, .slice x.aN x.net.length x.cN, .slice x.aG x.ga.length x.cG, .slice x.aL x.ln.length x.cL, .slice x.aS x.sd.length x.cS] 55)) (Obj.cells #[.int .i64 0, .int .i64 0, .int .i64 0, .int .i64 0, .int .i64 0, .slice none 0 0, .slice none 0 0, .slice none 0 0, .slice none 0 0, .slice none 0 0] 55); simpa using this)
  have SR := RZ.lt
  have V1 := V.n
  have V2 := V.g
  have V3 := V.i
  have V4 := V.s
  go_enter Tryz.func55, Tryz.ntmps55
  go_upto_region 1 with fail
  rw [← hy]
  clear hy
  refine wp_region_held (S := fun Y => Below y.heap.size y Y) (by kernel_rfl) ?_
  change wpAnyH _ _ _ _ _ _ _ _ (World.drew _)
  have hb0 : Below y.heap.size y y.drew := (Below.refl _ _).drew
  obtain ⟨u0, hy0⟩ : ∃ y_, y_ = y.drew := ⟨_, rfl⟩
  rw [← hy0] at hb0 ⊢
  clear hy0
  refine takeW 0 5 (.pointer (some ⟨w.heap.size, 0, none⟩)) rfl rfl (by kernel_rfl) (by kernel_rfl) (by kernel_rfl) (fun _ _ _ h => h) (by kernel_rfl) (by (intro w hSw; go_simp)) (by assumption) ?_
  simp only [List.set_cons_zero, List.set_cons_succ]
  refine takeW 1 6 (.int .i64 x.id) rfl rfl (by kernel_rfl) (by kernel_rfl) (by kernel_rfl) (fun _ _ _ h => h) (by kernel_rfl) (by (intro Y hSw; obtain ⟨X0, X1, X2, X3, X4, X5, X6, X7, X8, X9⟩ := A.below hSw A.lt; go_simp)) (by assumption) ?_
  simp only [List.set_cons_zero, List.set_cons_succ]
  refine takeW 2 7 (.pointer (some ⟨w.heap.size, 1, none⟩)) rfl rfl (by kernel_rfl) (by kernel_rfl) (by kernel_rfl) (fun _ _ _ h => h) (by kernel_rfl) (by (intro w hSw; go_simp)) (by assumption) ?_
  simp only [List.set_cons_zero, List.set_cons_succ]
  refine takeW 3 8 (.int .i64 x.po) rfl rfl (by kernel_rfl) (by kernel_rfl) (by kernel_rfl) (fun _ _ _ h => h) (by kernel_rfl) (by (intro Y hSw; obtain ⟨X0, X1, X2, X3, X4, X5, X6, X7, X8, X9⟩ := A.below hSw A.lt; go_simp)) (by assumption) ?_
  simp only [List.set_cons_zero, List.set_cons_succ]
  refine takeW 4 9 (.pointer (some ⟨w.heap.size, 2, none⟩)) rfl rfl (by kernel_rfl) (by kernel_rfl) (by kernel_rfl) (fun _ _ _ h => h) (by kernel_rfl) (by (intro w hSw; go_simp)) (by assumption) ?_
  simp only [List.set_cons_zero, List.set_cons_succ]
  refine takeW 5 10 (.agg #[.int .i64 x.rg.ep, .int .i64 x.rg.ow, .int .i64 x.rg.pa]) rfl rfl (by kernel_rfl) (by kernel_rfl) (by kernel_rfl) (fun _ _ _ h => h) (by kernel_rfl) (by (intro Y hSw; obtain ⟨X0, X1, X2, X3, X4, X5, X6, X7, X8, X9⟩ := A.below hSw A.lt; go_simp)) (by assumption) ?_
  simp only [List.set_cons_zero, List.set_cons_succ]
  refine takeW 7 12 (.pointer (some ⟨w.heap.size, 6, none⟩)) rfl rfl (by kernel_rfl) (by kernel_rfl) (by kernel_rfl) (fun _ _ _ h => h) (by kernel_rfl) (by (intro w hSw; go_simp)) (by assumption) ?_
  simp only [List.set_cons_zero, List.set_cons_succ]
  refine takeW 8 13 (.slice x.aN x.net.length x.cN) rfl rfl (by kernel_rfl) (by kernel_rfl) (by kernel_rfl) (fun _ _ _ h => h) (by kernel_rfl) (by (intro Y hSw; obtain ⟨X0, X1, X2, X3, X4, X5, X6, X7, X8, X9⟩ := A.below hSw A.lt; go_simp)) (by assumption) ?_
  simp only [List.set_cons_zero, List.set_cons_succ]
  refine takeW 11 16 (.pointer (some ⟨w.heap.size, 7, none⟩)) rfl rfl (by kernel_rfl) (by kernel_rfl) (by kernel_rfl) (fun _ _ _ h => h) (by kernel_rfl) (by (intro w hSw; go_simp)) (by assumption) ?_
  simp only [List.set_cons_zero, List.set_cons_succ]
  refine takeW 12 17 (.slice x.aG x.ga.length x.cG) rfl rfl (by kernel_rfl) (by kernel_rfl) (by kernel_rfl) (fun _ _ _ h => h) (by kernel_rfl) (by (intro Y hSw; obtain ⟨X0, X1, X2, X3, X4, X5, X6, X7, X8, X9⟩ := A.below hSw A.lt; go_simp)) (by assumption) ?_
  simp only [List.set_cons_zero, List.set_cons_succ]
  refine takeW 15 20 (.pointer (some ⟨w.heap.size, 8, none⟩)) rfl rfl (by kernel_rfl) (by kernel_rfl) (by kernel_rfl) (fun _ _ _ h => h) (by kernel_rfl) (by (intro w hSw; go_simp)) (by assumption) ?_
  simp only [List.set_cons_zero, List.set_cons_succ]
  refine takeW 16 21 (.slice x.aL x.ln.length x.cL) rfl rfl (by kernel_rfl) (by kernel_rfl) (by kernel_rfl) (fun _ _ _ h => h) (by kernel_rfl) (by (intro Y hSw; obtain ⟨X0, X1, X2, X3, X4, X5, X6, X7, X8, X9⟩ := A.below hSw A.lt; go_simp)) (by assumption) ?_
  simp only [List.set_cons_zero, List.set_cons_succ]
  refine takeW 19 24 (.pointer (some ⟨w.heap.size, 9, none⟩)) rfl rfl (by kernel_rfl) (by kernel_rfl) (by kernel_rfl) (fun _ _ _ h => h) (by kernel_rfl) (by (intro w hSw; go_simp)) (by assumption) ?_
  simp only [List.set_cons_zero, List.set_cons_succ]
  refine takeW 20 25 (.slice x.aS x.sd.length x.cS) rfl rfl (by kernel_rfl) (by kernel_rfl) (by kernel_rfl) (fun _ _ _ h => h) (by kernel_rfl) (by (intro Y hSw; obtain ⟨X0, X1, X2, X3, X4, X5, X6, X7, X8, X9⟩ := A.below hSw A.lt; go_simp)) (by assumption) ?_
  simp only [List.set_cons_zero, List.set_cons_succ]
  refine region_by (k := 1) (CpI x w.heap.size y.heap.size y) ?_ ?_ 10 _ _ _ ?_
  · rintro n listed l W ⟨b1, a1, b2, a2, b3, a3, b4, a4, al, c, v3, v11, v14, v15, v18, v19, v22, v23, v26, v27, hn, rfl, rfl, hS⟩
    have f1 := hS.h1.flag
    have f2 := hS.h2.flag
    have f3 := hS.h3.flag
    have f4 := hS.h4.flag
    have k2 := hS.k2
    have k3 := hS.k3
    have k4 := hS.k4
    have k5 := hS.k5
    refine ⟨cpR b1 a1 b2 a2 b3 a3 b4 a4 al c, ?_, ?_, ?_⟩
    · clear hS
      cases b1 <;> cases a1 <;> (try (cases f1 rfl)) <;> cases b2 <;> cases a2 <;> (try (cases f2 rfl)) <;> (try (cases k2 rfl)) <;> cases b3 <;> cases a3 <;> (try (cases f3 rfl)) <;> (try (cases k3 rfl)) <;> cases b4 <;> cases a4 <;> (try (cases f4 rfl)) <;> (try (cases k4 rfl)) <;> cases c <;> (try (cases k5 rfl)) <;> cases al <;> first | (exfalso; unfold cpN at hn; simp at hn; done) | kernel_rfl
    · exact cpR_ne b1 a1 b2 a2 b3 a3 b4 a4 al c k2 k3 k4 k5 (by omega)
    · intro i hi K hK
      unfold cpR at hi
      simp only [List.mem_append] at hi
      obtain ⟨bel, h1, h2, h3, h4, _, _, _, _, ha, hc⟩ := hS
      have wb := bel.size
      rcases hi with ((((((((hi | hi) | hi) | hi) | hi) | hi) | hi) | hi) | hi) | hi
      · cases b1
        · obtain rfl : i = 6 := by simpa using hi
          have e0 : a1 = false ∧ v14 = undef := by rcases h1 with q | q | q; exact ⟨q.2.1, q.2.2.2⟩; cases q.1; cases q.1
          obtain ⟨rfl, rfl⟩ := e0
          have bel' : Below y.heap.size y (W.alloc (Obj.cells #[] 152)) := bel.trans ((below_new (w := W) _).mono wb)
          refine wpOp_step rfl (fun Kz hKz => ?_)
          rw [if_pos (by kernel_rfl)]
          unfold cpF
          go_simp
          exact hKz _ _ (hK (cpF x w.heap.size v3 (.slice (some ⟨W.heap.size, 0, none⟩) 0 0) undef v15 v18 v19 v22 v23 v26 v27) (W.alloc (Obj.cells #[] 152)) bel' ⟨true, false, b2, a2, b3, a3, b4, a4, al, c, v3, (.slice (some ⟨W.heap.size, 0, none⟩) 0 0), undef, v15, v18, v19, v22, v23, v26, v27, by unfold cpN at hn ⊢; simp at hn ⊢; omega, rfl, rfl, ⟨bel', (.inr (.inl ⟨rfl, rfl, rfl, (FOwn.empty W).base wb⟩)), (h2.alloc _), (h3.alloc _), (h4.alloc _), k2, k3, k4, k5, zb_alloc ha, hc⟩⟩)
        · simp at hi
      · cases b1
        · simp at hi
        · cases a1
          · obtain rfl : i = 9 := by revert hi; simp
            have e0 : v14 = undef ∧ FOwn wiEnc 12 152 y.heap.size W v11 ([] : List Wi) := by rcases h1 with q | q | q; cases q.1; exact ⟨q.2.2.1, q.2.2.2⟩; cases q.2.1
            obtain ⟨rfl, FO⟩ := e0
            refine wpOp_step rfl (fun Kz hKz => ?_)
            rw [if_pos (by kernel_rfl)]
            refine fapp wiEnc_len wiEnc_ones 14 _ _ 52 rfl rfl y.heap.size 152 i1 (.agg #[.int .i64 0, .bool false, .int .i64 0, .int .i64 0, .int .i64 0, .int .i64 0, .int .i64 0, .int .i64 0, .int .i64 0, .int .i64 0, .int .i64 0, .bool false]) 96 Tryz.underlying52 hi1 hz10 hz11 hz12 rfl (by decide) (by decide) v11 ([] : List Wi) rfl FO x.aN x.cN x.net rfl hn1 (V1.below bel (V1.lt wiEnc_len (by omega))) (by have := hV.bn; simp; omega) wb ?_
            intro v' W' oN gN _
            replace oN : FOwn wiEnc 12 152 y.heap.size W' v' x.net := oN
            have bel' : Below y.heap.size y W' := bel.grown gN wb (fun j e => (FO.lt j e).1)
            exact hKz _ _ (hK (cpF x w.heap.size v3 v11 v' v15 v18 v19 v22 v23 v26 v27) W' bel' ⟨true, true, b2, a2, b3, a3, b4, a4, al, c, v3, v11, v', v15, v18, v19, v22, v23, v26, v27, by unfold cpN at hn ⊢; simp at hn ⊢; omega, rfl, rfl, ⟨bel', (.inr (.inr ⟨rfl, rfl, oN⟩)), (h2.keep (fun u M ho g e => gN.block g (ho.lt g e).2 (fun e2 => FO.apart ho (by decide) e2.symm e))), (h3.keep (fun u M ho g e => gN.block g (ho.lt g e).2 (fun e2 => FO.apart ho (by decide) e2.symm e))), (h4.keep (fun u M ho g e => gN.block g (ho.lt g e).2 (fun e2 => FO.apart ho (by decide) e2.symm e))), (fun _ => rfl), k3, k4, k5, zb_keep ha (fun q hq => gN.block q (zb_lt hq) (fun e => FO.notZ hq (by decide) e.symm)), (hc.elim .inl (fun q => by have := k2 (k3 (k4 (k5 q.1))); cases this))⟩⟩)
          · simp at hi
      · cases b2
        · obtain rfl : i = 10 := by simpa using hi
          have e0 : a2 = false ∧ v18 = undef := by rcases h2 with q | q | q; exact ⟨q.2.1, q.2.2.2⟩; cases q.1; cases q.1
          obtain ⟨rfl, rfl⟩ := e0
          have bel' : Below y.heap.size y (W.alloc (Obj.cells #[] 4)) := bel.trans ((below_new (w := W) _).mono wb)
          refine wpOp_step rfl (fun Kz hKz => ?_)
          rw [if_pos (by kernel_rfl)]
          unfold cpF
          go_simp
          exact hKz _ _ (hK (cpF x w.heap.size v3 v11 v14 (.slice (some ⟨W.heap.size, 0, none⟩) 0 0) undef v19 v22 v23 v26 v27) (W.alloc (Obj.cells #[] 4)) bel' ⟨b1, a1, true, false, b3, a3, b4, a4, al, c, v3, v11, v14, (.slice (some ⟨W.heap.size, 0, none⟩) 0 0), undef, v19, v22, v23, v26, v27, by unfold cpN at hn ⊢; simp at hn ⊢; omega, rfl, rfl, ⟨bel', (h1.alloc _), (.inr (.inl ⟨rfl, rfl, rfl, (FOwn.empty W).base wb⟩)), (h3.alloc _), (h4.alloc _), k2, k3, k4, k5, zb_alloc ha, hc⟩⟩)
        · simp at hi
      · cases b2
        · simp at hi
        · cases a2
          · have hp : a1 = true ∧ i = 13 := by revert hi; cases a1 <;> simp
            obtain ⟨hp1, rfl⟩ := hp
            have e0 : v18 = undef ∧ FOwn boEnc 1 4 y.heap.size W v15 ([] : List Bool) := by rcases h2 with q | q | q; cases q.1; exact ⟨q.2.2.1, q.2.2.2⟩; cases q.2.1
            obtain ⟨rfl, FO⟩ := e0
            refine wpOp_step rfl (fun Kz hKz => ?_)
            rw [if_pos (by kernel_rfl)]
            refine fapp boEnc_len boEnc_ones 18 _ _ 44 rfl rfl y.heap.size 4 i2 (.bool false) 1 Tryz.underlying44 hi2 hz20 hz21 hz22 rfl (by decide) (by decide) v15 ([] : List Bool) rfl FO x.aG x.cG x.ga rfl hn2 (V2.below bel (V2.lt boEnc_len (by omega))) (by have := hV.bg; simp; omega) wb ?_
            intro v' W' oN gN _
            replace oN : FOwn boEnc 1 4 y.heap.size W' v' x.ga := oN
            have bel' : Below y.heap.size y W' := bel.grown gN wb (fun j e => (FO.lt j e).1)
            exact hKz _ _ (hK (cpF x w.heap.size v3 v11 v14 v15 v' v19 v22 v23 v26 v27) W' bel' ⟨b1, a1, true, true, b3, a3, b4, a4, al, c, v3, v11, v14, v15, v', v19, v22, v23, v26, v27, by unfold cpN at hn ⊢; simp at hn ⊢; omega, rfl, rfl, ⟨bel', (h1.keep (fun u M ho g e => gN.block g (ho.lt g e).2 (fun e2 => FO.apart ho (by decide) e2.symm e))), (.inr (.inr ⟨rfl, rfl, oN⟩)), (h3.keep (fun u M ho g e => gN.block g (ho.lt g e).2 (fun e2 => FO.apart ho (by decide) e2.symm e))), (h4.keep (fun u M ho g e => gN.block g (ho.lt g e).2 (fun e2 => FO.apart ho (by decide) e2.symm e))), (fun _ => hp1), (fun _ => rfl), k4, k5, zb_keep ha (fun q hq => gN.block q (zb_lt hq) (fun e => FO.notZ hq (by decide) e.symm)), (hc.elim .inl (fun q => by have := k3 (k4 (k5 q.1)); cases this))⟩⟩)
          · revert hi; cases a1 <;> simp
      · cases b3
        · obtain rfl : i = 14 := by simpa using hi
          have e0 : a3 = false ∧ v22 = undef := by rcases h3 with q | q | q; exact ⟨q.2.1, q.2.2.2⟩; cases q.1; cases q.1
          obtain ⟨rfl, rfl⟩ := e0
          have bel' : Below y.heap.size y (W.alloc (Obj.cells #[] 138)) := bel.trans ((below_new (w := W) _).mono wb)
          refine wpOp_step rfl (fun Kz hKz => ?_)
          rw [if_pos (by kernel_rfl)]
          unfold cpF
          go_simp
          exact hKz _ _ (hK (cpF x w.heap.size v3 v11 v14 v15 v18 (.slice (some ⟨W.heap.size, 0, none⟩) 0 0) undef v23 v26 v27) (W.alloc (Obj.cells #[] 138)) bel' ⟨b1, a1, b2, a2, true, false, b4, a4, al, c, v3, v11, v14, v15, v18, (.slice (some ⟨W.heap.size, 0, none⟩) 0 0), undef, v23, v26, v27, by unfold cpN at hn ⊢; simp at hn ⊢; omega, rfl, rfl, ⟨bel', (h1.alloc _), (h2.alloc _), (.inr (.inl ⟨rfl, rfl, rfl, (FOwn.empty W).base wb⟩)), (h4.alloc _), k2, k3, k4, k5, zb_alloc ha, hc⟩⟩)
        · simp at hi
      · cases b3
        · simp at hi
        · cases a3
          · have hp : a2 = true ∧ i = 17 := by revert hi; cases a2 <;> simp
            obtain ⟨hp1, rfl⟩ := hp
            have e0 : v22 = undef ∧ FOwn ikEnc 8 138 y.heap.size W v19 ([] : List Ik) := by rcases h3 with q | q | q; cases q.1; exact ⟨q.2.2.1, q.2.2.2⟩; cases q.2.1
            obtain ⟨rfl, FO⟩ := e0
            refine wpOp_step rfl (fun Kz hKz => ?_)
            rw [if_pos (by kernel_rfl)]
            refine fapp ikEnc_len ikEnc_ones 22 _ _ 26 rfl rfl y.heap.size 138 i3 (.agg #[.int .i64 0, .int .i64 0, .int .i64 0, .int .i64 0, .int .i64 0, .int .i64 0, .int .i64 0, .bool false]) 64 Tryz.underlying26 hi3 hz30 hz31 hz32 rfl (by decide) (by decide) v19 ([] : List Ik) rfl FO x.aL x.cL x.ln rfl hn3 (V3.below bel (V3.lt ikEnc_len (by omega))) (by have := hV.bi; simp; omega) wb ?_
            intro v' W' oN gN _
            replace oN : FOwn ikEnc 8 138 y.heap.size W' v' x.ln := oN
            have bel' : Below y.heap.size y W' := bel.grown gN wb (fun j e => (FO.lt j e).1)
            exact hKz _ _ (hK (cpF x w.heap.size v3 v11 v14 v15 v18 v19 v' v23 v26 v27) W' bel' ⟨b1, a1, b2, a2, true, true, b4, a4, al, c, v3, v11, v14, v15, v18, v19, v', v23, v26, v27, by unfold cpN at hn ⊢; simp at hn ⊢; omega, rfl, rfl, ⟨bel', (h1.keep (fun u M ho g e => gN.block g (ho.lt g e).2 (fun e2 => FO.apart ho (by decide) e2.symm e))), (h2.keep (fun u M ho g e => gN.block g (ho.lt g e).2 (fun e2 => FO.apart ho (by decide) e2.symm e))), (.inr (.inr ⟨rfl, rfl, oN⟩)), (h4.keep (fun u M ho g e => gN.block g (ho.lt g e).2 (fun e2 => FO.apart ho (by decide) e2.symm e))), k2, (fun _ => hp1), (fun _ => rfl), k5, zb_keep ha (fun q hq => gN.block q (zb_lt hq) (fun e => FO.notZ hq (by decide) e.symm)), (hc.elim .inl (fun q => by have := k4 (k5 q.1); cases this))⟩⟩)
          · revert hi; cases a2 <;> simp
      · cases b4
        · obtain rfl : i = 18 := by simpa using hi
          have e0 : a4 = false ∧ v26 = undef := by rcases h4 with q | q | q; exact ⟨q.2.1, q.2.2.2⟩; cases q.1; cases q.1
          obtain ⟨rfl, rfl⟩ := e0
          have bel' : Below y.heap.size y (W.alloc (Obj.cells #[] 95)) := bel.trans ((below_new (w := W) _).mono wb)
          refine wpOp_step rfl (fun Kz hKz => ?_)
          rw [if_pos (by kernel_rfl)]
          unfold cpF
          go_simp
          exact hKz _ _ (hK (cpF x w.heap.size v3 v11 v14 v15 v18 v19 v22 (.slice (some ⟨W.heap.size, 0, none⟩) 0 0) undef v27) (W.alloc (Obj.cells #[] 95)) bel' ⟨b1, a1, b2, a2, b3, a3, true, false, al, c, v3, v11, v14, v15, v18, v19, v22, (.slice (some ⟨W.heap.size, 0, none⟩) 0 0), undef, v27, by unfold cpN at hn ⊢; simp at hn ⊢; omega, rfl, rfl, ⟨bel', (h1.alloc _), (h2.alloc _), (h3.alloc _), (.inr (.inl ⟨rfl, rfl, rfl, (FOwn.empty W).base wb⟩)), k2, k3, k4, k5, zb_alloc ha, hc⟩⟩)
        · simp at hi
      · cases b4
        · simp at hi
        · cases a4
          · have hp : a3 = true ∧ i = 21 := by revert hi; cases a3 <;> simp
            obtain ⟨hp1, rfl⟩ := hp
            have e0 : v26 = undef ∧ FOwn ouEnc 8 95 y.heap.size W v23 ([] : List Ou) := by rcases h4 with q | q | q; cases q.1; exact ⟨q.2.2.1, q.2.2.2⟩; cases q.2.1
            obtain ⟨rfl, FO⟩ := e0
            refine wpOp_step rfl (fun Kz hKz => ?_)
            rw [if_pos (by kernel_rfl)]
            refine fapp ouEnc_len ouEnc_ones 26 _ _ 53 rfl rfl y.heap.size 95 i4 (.agg #[.int .i64 0, .int .i64 0, .int .i64 0, .int .i64 0, .int .i64 0, .int .i64 0, .int .i64 0, .bool false]) 64 Tryz.underlying53 hi4 hz40 hz41 hz42 rfl (by decide) (by decide) v23 ([] : List Ou) rfl FO x.aS x.cS x.sd rfl hn4 (V4.below bel (V4.lt ouEnc_len (by omega))) (by have := hV.bs; simp; omega) wb ?_
            intro v' W' oN gN _
            replace oN : FOwn ouEnc 8 95 y.heap.size W' v' x.sd := oN
            have bel' : Below y.heap.size y W' := bel.grown gN wb (fun j e => (FO.lt j e).1)
            exact hKz _ _ (hK (cpF x w.heap.size v3 v11 v14 v15 v18 v19 v22 v23 v' v27) W' bel' ⟨b1, a1, b2, a2, b3, a3, true, true, al, c, v3, v11, v14, v15, v18, v19, v22, v23, v', v27, by unfold cpN at hn ⊢; simp at hn ⊢; omega, rfl, rfl, ⟨bel', (h1.keep (fun u M ho g e => gN.block g (ho.lt g e).2 (fun e2 => FO.apart ho (by decide) e2.symm e))), (h2.keep (fun u M ho g e => gN.block g (ho.lt g e).2 (fun e2 => FO.apart ho (by decide) e2.symm e))), (h3.keep (fun u M ho g e => gN.block g (ho.lt g e).2 (fun e2 => FO.apart ho (by decide) e2.symm e))), (.inr (.inr ⟨rfl, rfl, oN⟩)), k2, k3, (fun _ => hp1), (fun _ => rfl), zb_keep ha (fun q hq => gN.block q (zb_lt hq) (fun e => FO.notZ hq (by decide) e.symm)), (hc.elim .inl (fun q => by have := k5 q.1; cases this))⟩⟩)
          · revert hi; cases a3 <;> simp
      · cases a4
        · simp at hi
        · cases c
          · obtain rfl : i = 22 := by simpa using hi
            obtain rfl := k4 rfl
            obtain rfl := k3 rfl
            obtain rfl := k2 rfl
            obtain rfl : v27 = undef := by rcases hc with q | q; exact q.2; cases q.1
            have q1 : FOwn wiEnc 12 152 y.heap.size W v14 x.net := by rcases h1 with q | q | q; cases q.2.1; cases q.2.1; exact q.2.2
            obtain ⟨d1, e1, rfl⟩ := q1.open_
            have q2 : FOwn boEnc 1 4 y.heap.size W v18 x.ga := by rcases h2 with q | q | q; cases q.2.1; cases q.2.1; exact q.2.2
            obtain ⟨d2, e2, rfl⟩ := q2.open_
            have q3 : FOwn ikEnc 8 138 y.heap.size W v22 x.ln := by rcases h3 with q | q | q; cases q.2.1; cases q.2.1; exact q.2.2
            obtain ⟨d3, e3, rfl⟩ := q3.open_
            have q4 : FOwn ouEnc 8 95 y.heap.size W v26 x.sd := by rcases h4 with q | q | q; cases q.2.1; cases q.2.1; exact q.2.2
            obtain ⟨d4, e4, rfl⟩ := q4.open_
            refine wpOp_step rfl (fun Kz hKz => ?_)
            rw [if_pos (by kernel_rfl)]
            unfold cpF
            go_simp
            exact hKz _ _ (hK (cpF x w.heap.size v3 v11 (.slice d1 x.net.length e1) v15 (.slice d2 x.ga.length e2) v19 (.slice d3 x.ln.length e3) v23 (.slice d4 x.sd.length e4) (cpV x (.slice d1 x.net.length e1) (.slice d2 x.ga.length e2) (.slice d3 x.ln.length e3) (.slice d4 x.sd.length e4))) W bel ⟨b1, true, b2, true, b3, true, b4, true, al, true, v3, v11, (.slice d1 x.net.length e1), v15, (.slice d2 x.ga.length e2), v19, (.slice d3 x.ln.length e3), v23, (.slice d4 x.sd.length e4), (cpV x (.slice d1 x.net.length e1) (.slice d2 x.ga.length e2) (.slice d3 x.ln.length e3) (.slice d4 x.sd.length e4)), by unfold cpN at hn ⊢; simp at hn ⊢; omega, rfl, rfl, ⟨bel, h1, h2, h3, h4, k2, k3, k4, fun _ => rfl, ha, .inr ⟨rfl, rfl⟩⟩⟩)
          · simp at hi
      · cases al
        · obtain rfl : i = 23 := by simpa using hi
          obtain rfl : v3 = undef := by rcases ha with q | q; exact q.2; cases q.1
          have bel' : Below y.heap.size y (W.alloc (Obj.cells #[.int .i64 0, .int .i64 0, .int .i64 0, .int .i64 0, .int .i64 0, .slice none 0 0, .slice none 0 0, .slice none 0 0, .slice none 0 0, .slice none 0 0] 55)) := bel.trans ((below_new (w := W) _).mono wb)
          refine wpOp_step rfl (fun Kz hKz => ?_)
          rw [if_pos (by kernel_rfl)]
          unfold cpF
          go_simp
          exact hKz _ _ (hK (cpF x w.heap.size (.pointer (some ⟨W.heap.size, 0, none⟩)) v11 v14 v15 v18 v19 v22 v23 v26 v27) (W.alloc (Obj.cells #[.int .i64 0, .int .i64 0, .int .i64 0, .int .i64 0, .int .i64 0, .slice none 0 0, .slice none 0 0, .slice none 0 0, .slice none 0 0, .slice none 0 0] 55)) bel' ⟨b1, a1, b2, a2, b3, a3, b4, a4, true, c, (.pointer (some ⟨W.heap.size, 0, none⟩)), v11, v14, v15, v18, v19, v22, v23, v26, v27, by unfold cpN at hn ⊢; simp at hn ⊢; omega, rfl, rfl, ⟨bel', h1.alloc _, h2.alloc _, h3.alloc _, h4.alloc _, k2, k3, k4, k5, .inr ⟨rfl, _, rfl, heap_newF W _, wb⟩, hc⟩⟩)
        · simp at hi
  · rintro listed l W ⟨b1, a1, b2, a2, b3, a3, b4, a4, al, c, v3, v11, v14, v15, v18, v19, v22, v23, v26, v27, hn, rfl, rfl, hS⟩
    obtain ⟨rfl, rfl, rfl, rfl, rfl, rfl, rfl, rfl, rfl, rfl⟩ := cpN_zero b1 a1 b2 a2 b3 a3 b4 a4 al c hn.symm
    obtain ⟨bel, h1, h2, h3, h4, _, _, _, _, ha, hc⟩ := hS
    have wb := bel.size
    have q1 : FOwn wiEnc 12 152 y.heap.size W v14 x.net := by rcases h1 with q | q | q; cases q.2.1; cases q.2.1; exact q.2.2
    obtain ⟨d1, e1, rfl⟩ := q1.open_
    have q2 : FOwn boEnc 1 4 y.heap.size W v18 x.ga := by rcases h2 with q | q | q; cases q.2.1; cases q.2.1; exact q.2.2
    obtain ⟨d2, e2, rfl⟩ := q2.open_
    have q3 : FOwn ikEnc 8 138 y.heap.size W v22 x.ln := by rcases h3 with q | q | q; cases q.2.1; cases q.2.1; exact q.2.2
    obtain ⟨d3, e3, rfl⟩ := q3.open_
    have q4 : FOwn ouEnc 8 95 y.heap.size W v26 x.sd := by rcases h4 with q | q | q; cases q.2.1; cases q.2.1; exact q.2.2
    obtain ⟨d4, e4, rfl⟩ := q4.open_
    obtain ⟨q, rfl, zq, lq⟩ : ∃ q, v3 = .pointer (some ⟨q, 0, none⟩) ∧ ZBx W q ∧ y.heap.size ≤ q := by rcases ha with z | z; cases z.1; exact z.2
    obtain rfl : v27 = cpV x (.slice d1 x.net.length e1) (.slice d2 x.ga.length e2) (.slice d3 x.ln.length e3) (.slice d4 x.sd.length e4) := by rcases hc with z | z; cases z.1; exact z.2
    clear h1 h2 h3 h4 ha hc hn
    have z1 := q1.notZ zq (by decide)
    have z2 := q2.notZ zq (by decide)
    have z3 := q3.notZ zq (by decide)
    have z4 := q4.notZ zq (by decide)
    have ZQ := zq.box
    have zlt := zb_lt zq
    obtain ⟨W1, hW1⟩ : ∃ y_, y_ = ((((((((((W.setCell ⟨q, 0, none⟩ (.int .i64 x.id)).setCell ⟨q, 1, none⟩ (.int .i64 x.po)).setCell ⟨q, 2, none⟩ (.int .i64 x.rg.ep)).setCell ⟨q, 3, none⟩ (.int .i64 x.rg.ow)).setCell ⟨q, 4, none⟩ (.int .i64 x.rg.pa)).setCell ⟨q, 5, none⟩ (.slice none 0 0)).setCell ⟨q, 6, none⟩ (.slice d1 x.net.length e1)).setCell ⟨q, 7, none⟩ (.slice d2 x.ga.length e2)).setCell ⟨q, 8, none⟩ (.slice d3 x.ln.length e3)).setCell ⟨q, 9, none⟩ (.slice d4 x.sd.length e4)) := ⟨_, rfl⟩
    have Q1 : BxB W1 q ⟨x.id, x.po, x.rg, [], none, 0, x.net, d1, e1, x.ga, d2, e2, x.ln, d3, e3, x.sd, d4, e4⟩ := by rw [hW1]; exact ZQ.put ⟨x.id, x.po, x.rg, [], none, 0, x.net, d1, e1, x.ga, d2, e2, x.ln, d3, e3, x.sd, d4, e4⟩
    have kp : ∀ k, k ≠ q → W1.heap[k]? = W.heap[k]? := fun k hk => by rw [hW1]; exact heap_put10 W q k ⟨x.id, x.po, x.rg, [], none, 0, x.net, d1, e1, x.ga, d2, e2, x.ln, d3, e3, x.sd, d4, e4⟩ hk
    have bel1 : Below y.heap.size y W1 := by rw [hW1]; exact below_put10 ⟨x.id, x.po, x.rg, [], none, 0, x.net, d1, e1, x.ga, d2, e2, x.ln, d3, e3, x.sd, d4, e4⟩ bel lq
    have q1 := q1.keep (fun g e => kp g (fun e2 => z1 (by rw [e, e2])))
    have q2 := q2.keep (fun g e => kp g (fun e2 => z2 (by rw [e, e2])))
    have q3 := q3.keep (fun g e => kp g (fun e2 => z3 (by rw [e, e2])))
    have q4 := q4.keep (fun g e => kp g (fun e2 => z4 (by rw [e, e2])))
    obtain ⟨⟨z0, z1, z2, z3, z4, z5, z6, z7, z8, z9⟩, zf⟩ := ZQ
    dsimp only [BxD.zero] at z0 z1 z2 z3 z4 z5 z6 z7 z8 z9
    have g0 := zf 0
    have g1 := zf 1
    have g2 := zf 2
    have g3 := zf 3
    have g4 := zf 4
    have g5 := zf 5
    have g6 := zf 6
    have g7 := zf 7
    have g8 := zf 8
    have g9 := zf 9
    clear zf
    refine wpAnyH_all (rs := [24]) (by kernel_rfl) (by simp) ?_
    intro i hi; obtain rfl : i = 24 := by simpa using hi
    refine wpOp_step rfl (fun Kz hKz => ?_)
    rw [if_pos (by kernel_rfl)]
    unfold cpF cpV
    go_simp
    rw [← hW1]
    clear hW1 z0 z1 z2 z3 z4 z5 z6 z7 z8 z9 g0 g1 g2 g3 g4 g5 g6 g7 g8 g9
    refine hKz _ _ ⟨bel1, ?_⟩
    clear hKz Kz hi
    refine wpAnyH_done (by kernel_rfl) ?_ _
    have zs1 : q < W1.heap.size := Q1.lt
    have O1 : BxO y.heap.size W1 ⟨x.id, x.po, x.rg, [], none, 0, x.net, d1, e1, x.ga, d2, e2, x.ln, d3, e3, x.sd, d4, e4⟩ := ⟨FOwn.nil, fun i hi => absurd hi (by simp), q1, q2, q3, q4, fun j hj => absurd hj (by simp)⟩
    clear bel wb zq zlt kp q1 q2 q3 q4
    go_wp2
    go_loopw [4] (fun i wr => ∃ (k : Nat) (T : List MiD) (aT : Option Addr) (cT : Nat), k ≤ x.two.length ∧ i = .int .i64 (k : Int) ∧ T.length = k ∧ (∀ j, j < k → (T.getD j MiD.nil).m = (x.two.getD j MiD.nil).m) ∧ BxB wr q ⟨x.id, x.po, x.rg, T, aT, cT, x.net, d1, e1, x.ga, d2, e2, x.ln, d3, e3, x.sd, d4, e4⟩ ∧ BxO y.heap.size wr ⟨x.id, x.po, x.rg, T, aT, cT, x.net, d1, e1, x.ga, d2, e2, x.ln, d3, e3, x.sd, d4, e4⟩ ∧ (∀ g, (Value.slice aT T.length cT).ownBlock = some g → q < g) ∧ (∀ j, j < k → ∀ g, (Value.slice (T.getD j MiD.nil).ad (T.getD j MiD.nil).m.lg.length (T.getD j MiD.nil).cap).ownBlock = some g → q < g) ∧ Below y.heap.size y wr) (fun i _ => x.two.length - (intOf i).toNat)
    case atStart => exact ⟨0, [], none, 0, Nat.zero_le _, rfl, rfl, fun j hj => absurd hj (by omega), Q1, O1, (fun g e => by cases e), fun j hj => absurd hj (by omega), bel1⟩
    case round =>
      clear Q1 O1 bel1 zs1
      obtain ⟨k, T, aT, cT, hk, rfl, hTl, hTm, Q, O, loT, loL, K⟩ := hrel
      have A2 := A.below K (by omega)
      have V2 := V.later K
      have bt := V.bt
      replace hTl : Hid _ := hTl
      by_cases hlt : k < x.two.length
      · obtain ⟨b, off, hat, hcell⟩ := V.t (by omega)
        have hbl : b < y.heap.size := V.t.lt mdEnc_len (by omega) _ hat (by omega)
        obtain ⟨d, hd⟩ : ∃ d, x.two.getD k MiD.nil = d := ⟨_, rfl⟩
        have hvl := V2.l k hlt
        have hll := V2.bl k hlt
        have hnl := hnL k hlt
        rw [hd] at hvl hll hnl
        have hck : ∀ Y, Below y.heap.size wr Y → MdAtO Y b (off + k * 7) d := fun Y hY => by have ht := (V.t.below (K.trans hY) (V.t.lt mdEnc_len (by omega))); rw [hat] at ht; rw [← hd]; exact mdAtO_of (ht.at_ mdEnc_len MiD.nil hlt)
        have ks := K.size
        have cc := A2
        obtain ⟨a0, a1, a2, a3, a4, a5, a6, a7, a8, a9⟩ := cc
        rw [hat] at a5
        go_upto_region 5 with fail
        clear a0 a1 a2 a3 a4 a5 a6 a7 a8 a9
        refine wp_region_held (S := fun Y => Below y.heap.size wr Y) (by kernel_rfl) ?_
        change wpAnyH _ _ _ _ _ _ _ _ (World.drew _)
        have kd : Below wr.heap.size wr wr.drew := (Below.refl _ _).drew
        obtain ⟨u0, hu0⟩ : ∃ y_, y_ = wr.drew := ⟨_, rfl⟩
        rw [← hu0] at kd ⊢
        clear hu0
        have hc0 : Below y.heap.size wr u0 := kd.mono ks
        have Q := Q.below kd Q.lt
        have O := O.later kd
        have hvl := hvl.below kd (hvl.lt ikEnc_len (by omega))
        have zd := kd.size
        have ql := Q.lt
        clear kd
        refine takeW 0 35 (.pointer (some ⟨q, 5, none⟩)) rfl rfl (by kernel_rfl) (by kernel_rfl) (by kernel_rfl) (fun _ _ _ h => h) (by kernel_rfl) (by (intro w hSw; go_simp)) (by assumption) ?_
        simp only [List.set_cons_zero, List.set_cons_succ]
        refine takeW 2 37 (.pointer (some ⟨w.heap.size, 5, none⟩)) rfl rfl (by kernel_rfl) (by kernel_rfl) (by kernel_rfl) (fun _ _ _ h => h) (by kernel_rfl) (by (intro w hSw; go_simp)) (by assumption) ?_
        simp only [List.set_cons_zero, List.set_cons_succ]
        refine takeW 3 38 (.slice (some ⟨b, off, none⟩) x.two.length x.cT) rfl rfl (by kernel_rfl) (by kernel_rfl) (by kernel_rfl) (fun _ _ _ h => h) (by kernel_rfl) (by (intro Y hSw; obtain ⟨X0, X1, X2, X3, X4, X5, X6, X7, X8, X9⟩ := A2.below hSw (by omega); rw [hat] at X5; go_simp)) (by assumption) ?_
        simp only [List.set_cons_zero, List.set_cons_succ]
        refine takeW 4 39 (.int .i64 (k : Int)) rfl rfl (by kernel_rfl) (by kernel_rfl) (by kernel_rfl) (fun _ _ _ h => h) (by kernel_rfl) (by (intro w hSw; go_simp)) (by assumption) ?_
        simp only [List.set_cons_zero, List.set_cons_succ]
        refine takeW 5 40 (.pointer (some ⟨b, off + k * 7, none⟩)) rfl rfl (by kernel_rfl) (by kernel_rfl) (by kernel_rfl) (fun _ _ _ h => h) (by kernel_rfl) (by (intro Y hSw; go_simp; try omega)) (by assumption) ?_
        simp only [List.set_cons_zero, List.set_cons_succ]
        refine takeW 6 41 (.agg #[.bool d.m.up, .int .i64 d.m.li, .int .i64 d.m.ep, .slice d.ad d.m.lg.length d.cap, .int .i64 d.m.sd, .int .i64 d.m.ac, .int .i64 d.m.al]) rfl rfl (by kernel_rfl) (by kernel_rfl) (by kernel_rfl) (fun _ _ _ h => h) (by kernel_rfl) (by (intro Y hSw; obtain ⟨X0, X1, X2, X3, X4, X5, X6⟩ := hck Y hSw; go_simp)) (by assumption) ?_
        simp only [List.set_cons_zero, List.set_cons_succ]
        have li3 : ∀ g_, (Value.slice d3 x.ln.length e3).ownBlock = some g_ → y.heap.size ≤ g_ ∧ g_ < u0.heap.size := fun g_ e => O.i.lt g_ e
        refine wpAnyH_all (rs := [1, 7]) (by kernel_rfl) (by simp) ?_
        intro i hi; rcases (by simpa using hi : i = 1 ∨ i = 7) with rfl | rfl
        · refine wpOp_step rfl (fun Kz hKz => ?_)
          rw [if_pos (by kernel_rfl)]
          have c5 := Q.at_.c5
          go_simp
          clear c5
          refine hKz _ _ ⟨hc0, ?_⟩
          clear hKz Kz hi
          refine wpAnyH_all (rs := [7]) (by kernel_rfl) (by simp) ?_
          intro i hi; obtain rfl : i = 7 := by simpa using hi
          refine wpOp_step rfl (fun Kz hKz => ?_)
          rw [if_pos (by kernel_rfl)]
          go_simp
          go_at_call 41
          refine (miCop d.m d.ad d.cap u0 hvl (by omega) hnl).mono ?_
          rintro e u1 ⟨a7, c7, rfl, O7, kq⟩
          have hc1 : Below y.heap.size wr u1 := hc0.trans (kq.mono (by omega))
          have Q := Q.below kq Q.lt
          have O := O.later kq
          have zq1 := kq.size
          have lo7 := O7.lt
          clear kq
          refine hKz _ _ ⟨hc1, ?_⟩
          clear hKz Kz hi
          refine wpAnyH_all (rs := [8]) (by kernel_rfl) (by simp) ?_
          intro i hi; obtain rfl : i = 8 := by simpa using hi
          refine wpOp_step rfl (fun Kz hKz => ?_)
          rw [if_pos (by kernel_rfl)]
          go_simp
          obtain ⟨u2, hu2⟩ : ∃ y_, y_ = u1.alloc (Obj.cells #[.bool d.m.up, .int .i64 d.m.li, .int .i64 d.m.ep, .slice a7 d.m.lg.length c7, .int .i64 d.m.sd, .int .i64 d.m.ac, .int .i64 d.m.al] 28) := ⟨_, rfl⟩
          have VN : FView mdEnc u2 (some ⟨u1.heap.size, 0, none⟩) [(⟨d.m, a7, c7⟩ : MiD)] := by rw [hu2]; exact FView.oneD u1 _ ⟨d.m, a7, c7⟩
          have kq : Below u1.heap.size u1 u2 := by rw [hu2]; exact below_new _
          have hc2 : Below y.heap.size wr u2 := hc1.trans (kq.mono (by omega))
          have Q := Q.below kq Q.lt
          have O := O.later kq
          have O7 := O7.later kq
          have zq2 := kq.size
          rw [← hu2]
          clear hu2 kq
          refine hKz _ _ ⟨hc2, ?_⟩
          clear hKz Kz hi
          refine wpAnyH_all (rs := [9]) (by kernel_rfl) (by simp) ?_
          intro i hi; obtain rfl : i = 9 := by simpa using hi
          refine wpOp_step rfl (fun Kz hKz => ?_)
          rw [if_pos (by kernel_rfl)]
          refine fapp mdEnc_len mdEnc_ones 44 _ _ 51 rfl rfl y.heap.size 28 i5 (.agg #[.bool false, .int .i64 0, .int .i64 0, .slice none 0 0, .int .i64 0, .int .i64 0, .int .i64 0]) 72 Tryz.underlying51 hi5 hz50 hz51 hz52 rfl (by decide) (by decide) (.slice aT T.length cT) T rfl O.t (some ⟨u1.heap.size, 0, none⟩) 1 [(⟨d.m, a7, c7⟩ : MiD)] rfl (fun e => by cases e) VN (by have := hTl.out; simp; omega) (by omega) ?_
          intro vN u3 oN gN hob
          have kb : ∀ k_, k_ < u2.heap.size → (Value.slice aT T.length cT).ownBlock ≠ some k_ → u3.heap[k_]? = u2.heap[k_]? := fun k_ hk_ he => gN.block k_ hk_ (fun e => he e.symm)
          have lon : ∀ g_, vN.ownBlock = some g_ → q < g_ := fun g_ e => hob.elim (fun h => by rw [h] at e; exact loT g_ e) (fun h => by rw [h] at e; have e2 := Option.some.inj e; omega)
          have Q := Q.keep (kb q Q.lt (fun e => by have := loT q e; omega))
          have hc3 : Below y.heap.size wr u3 := hc2.grown gN (by omega) (fun j e => (O.t.lt j e).1)
          have o1 := O.n.keep (fun g_ e => kb g_ (O.n.lt g_ e).2 (fun e2 => O.t.apart O.n (by decide) e2 e))
          have o2 := O.g.keep (fun g_ e => kb g_ (O.g.lt g_ e).2 (fun e2 => O.t.apart O.g (by decide) e2 e))
          have o3 := O.i.keep (fun g_ e => kb g_ (O.i.lt g_ e).2 (fun e2 => O.t.apart O.i (by decide) e2 e))
          have o4 := O.s.keep (fun g_ e => kb g_ (O.s.lt g_ e).2 (fun e2 => O.t.apart O.s (by decide) e2 e))
          have o5 : ∀ j, j < T.length → FOwn ikEnc 8 138 y.heap.size u3 (.slice (T.getD j MiD.nil).ad (T.getD j MiD.nil).m.lg.length (T.getD j MiD.nil).cap) (T.getD j MiD.nil).m.lg := fun j hj => (O.l j hj).keep (fun g_ e => kb g_ ((O.l j hj).lt g_ e).2 (fun e2 => O.t.apart (O.l j hj) (by decide) e2 e))
          have o7 := O7.keep (fun g_ e => kb g_ (O7.lt g_ e).2 (fun e2 => O.t.apart O7 (by decide) e2 e))
          have zN := gN.size
          obtain ⟨TN, hTN⟩ : ∃ y_, y_ = (T ++ [(⟨d.m, a7, c7⟩ : MiD)]) := ⟨_, rfl⟩
          rw [← hTN] at oN
          obtain ⟨aN, cN, rfl⟩ := oN.open_
          replace hTN : Hid _ := hTN
          have li := O.i.lt
          have lap := O.ap
          clear gN kb hob VN O O7
          simp only [List.set_cons_zero, List.set_cons_succ]
          refine hKz _ _ ⟨hc3, ?_⟩
          clear hKz Kz hi
          refine takeW 10 45 (.pointer (some ⟨q, 5, none⟩)) rfl rfl (by kernel_rfl) (by kernel_rfl) (by kernel_rfl) (fun _ _ _ h => h) (by kernel_rfl) (by (intro w hSw; go_simp)) (by assumption) ?_
          simp only [List.set_cons_zero, List.set_cons_succ]
          refine wpAnyH_all (rs := [11]) (by kernel_rfl) (by simp) ?_
          intro i hi; obtain rfl : i = 11 := by simpa using hi
          refine wpOp_step rfl (fun Kz hKz => ?_)
          rw [if_pos (by kernel_rfl)]
          have c5 := Q.at_.c5
          have f5 := Q.fr 5
          go_simp
          clear c5 f5
          obtain ⟨u4, hu4⟩ : ∃ y_, y_ = u3.setCell ⟨q, 5, none⟩ (.slice aN TN.length cN) := ⟨_, rfl⟩
          have Q4 : BxB u4 q ⟨x.id, x.po, x.rg, TN, aN, cN, x.net, d1, e1, x.ga, d2, e2, x.ln, d3, e3, x.sd, d4, e4⟩ := by rw [hu4]; exact Q.two TN aN cN
          have kp : ∀ k_, k_ ≠ q → u4.heap[k_]? = u3.heap[k_]? := fun k_ hk_ => by rw [hu4]; exact Below.heap_setCell _ _ _ _ hk_
          have hc4 : Below y.heap.size wr u4 := by rw [hu4]; exact hc3.setCell (p := ⟨q, 5, none⟩) lq _
          have O4 : BxO y.heap.size u4 ⟨x.id, x.po, x.rg, TN, aN, cN, x.net, d1, e1, x.ga, d2, e2, x.ln, d3, e3, x.sd, d4, e4⟩ := ⟨oN.keep (fun g_ e => kp g_ (by have := lon g_ e; omega)), fun j hj => mdL T ⟨d.m, a7, c7⟩ hTN.out (fun z => FOwn ikEnc 8 138 y.heap.size u4 (.slice z.ad z.m.lg.length z.cap) z.m.lg) (fun j hj => (o5 j hj).keep (fun g_ e => kp g_ (by have := loL j (by rw [← hTl.out]; exact hj) g_ e; omega))) ((o7.base (by omega)).keep (fun g_ e => kp g_ (by have := lo7 g_ e; omega))) j hj, o1.keep (fun g_ e => kp g_ (fun e2 => z1 (by rw [e, e2]))), o2.keep (fun g_ e => kp g_ (fun e2 => z2 (by rw [e, e2]))), o3.keep (fun g_ e => kp g_ (fun e2 => z3 (by rw [e, e2]))), o4.keep (fun g_ e => kp g_ (fun e2 => z4 (by rw [e, e2]))), fun j hj => mdL T ⟨d.m, a7, c7⟩ hTN.out (fun z => ∀ g_, (Value.slice z.ad z.m.lg.length z.cap).ownBlock = some g_ → (Value.slice d3 x.ln.length e3).ownBlock ≠ some g_) (fun j hj => lap j hj) (fun g_ e e2 => by have := (lo7 g_ e).1; have := (li3 g_ e2).2; omega) j hj⟩
          rw [← hu4]
          clear hu4 kp Q o1 o2 o3 o4 o5 o7 oN
          refine hKz _ _ ⟨hc4, ?_⟩
          clear hKz Kz hi
          refine wpAnyH_done (by kernel_rfl) ?_ _
          have K4 := K.trans hc4
          have loL4 : ∀ j, j < k + 1 → ∀ g_, (Value.slice (TN.getD j MiD.nil).ad (TN.getD j MiD.nil).m.lg.length (TN.getD j MiD.nil).cap).ownBlock = some g_ → q < g_ := fun j hj => mdL T ⟨d.m, a7, c7⟩ hTN.out (fun z => ∀ g_, (Value.slice z.ad z.m.lg.length z.cap).ownBlock = some g_ → q < g_) (fun j hj => loL j (by rw [← hTl.out]; exact hj)) (fun g_ e => by have := (lo7 g_ e).1; omega) j (by rw [hTN.out]; have := hTl.out; simp; omega)
          have hTm4 : ∀ j, j < k + 1 → (TN.getD j MiD.nil).m = (x.two.getD j MiD.nil).m := mdM hTN.out hTl.out hTm hd rfl
          have hTl4 : TN.length = k + 1 := by rw [hTN.out]; have := hTl.out; simp; omega
          replace hTl4 : Hid _ := hTl4
          go_wp2
          go_roundw
          case rel => refine ⟨k + 1, by omega, by go_num, TN, hTl4.out, hTm4, aN, cN, Q4, O4, lon, loL4⟩
          case measure => simp [intOf]; omega
        · refine wpOp_step rfl (fun Kz hKz => ?_)
          rw [if_pos (by kernel_rfl)]
          go_simp
          go_at_call 41
          refine (miCop d.m d.ad d.cap u0 hvl (by omega) hnl).mono ?_
          rintro e u1 ⟨a7, c7, rfl, O7, kq⟩
          have hc1 : Below y.heap.size wr u1 := hc0.trans (kq.mono (by omega))
          have Q := Q.below kq Q.lt
          have O := O.later kq
          have zq1 := kq.size
          have lo7 := O7.lt
          clear kq
          refine hKz _ _ ⟨hc1, ?_⟩
          clear hKz Kz hi
          refine wpAnyH_all (rs := [1, 8]) (by kernel_rfl) (by simp) ?_
          intro i hi; rcases (by simpa using hi : i = 1 ∨ i = 8) with rfl | rfl
          · refine wpOp_step rfl (fun Kz hKz => ?_)
            rw [if_pos (by kernel_rfl)]
            have c5 := Q.at_.c5
            go_simp
            clear c5
            refine hKz _ _ ⟨hc1, ?_⟩
            clear hKz Kz hi
            refine wpAnyH_all (rs := [8]) (by kernel_rfl) (by simp) ?_
            intro i hi; obtain rfl : i = 8 := by simpa using hi
            refine wpOp_step rfl (fun Kz hKz => ?_)
            rw [if_pos (by kernel_rfl)]
            go_simp
            obtain ⟨u2, hu2⟩ : ∃ y_, y_ = u1.alloc (Obj.cells #[.bool d.m.up, .int .i64 d.m.li, .int .i64 d.m.ep, .slice a7 d.m.lg.length c7, .int .i64 d.m.sd, .int .i64 d.m.ac, .int .i64 d.m.al] 28) := ⟨_, rfl⟩
            have VN : FView mdEnc u2 (some ⟨u1.heap.size, 0, none⟩) [(⟨d.m, a7, c7⟩ : MiD)] := by rw [hu2]; exact FView.oneD u1 _ ⟨d.m, a7, c7⟩
            have kq : Below u1.heap.size u1 u2 := by rw [hu2]; exact below_new _
            have hc2 : Below y.heap.size wr u2 := hc1.trans (kq.mono (by omega))
            have Q := Q.below kq Q.lt
            have O := O.later kq
            have O7 := O7.later kq
            have zq2 := kq.size
            rw [← hu2]
            clear hu2 kq
            refine hKz _ _ ⟨hc2, ?_⟩
            clear hKz Kz hi
            refine wpAnyH_all (rs := [9]) (by kernel_rfl) (by simp) ?_
            intro i hi; obtain rfl : i = 9 := by simpa using hi
            refine wpOp_step rfl (fun Kz hKz => ?_)
            rw [if_pos (by kernel_rfl)]
            refine fapp mdEnc_len mdEnc_ones 44 _ _ 51 rfl rfl y.heap.size 28 i5 (.agg #[.bool false, .int .i64 0, .int .i64 0, .slice none 0 0, .int .i64 0, .int .i64 0, .int .i64 0]) 72 Tryz.underlying51 hi5 hz50 hz51 hz52 rfl (by decide) (by decide) (.slice aT T.length cT) T rfl O.t (some ⟨u1.heap.size, 0, none⟩) 1 [(⟨d.m, a7, c7⟩ : MiD)] rfl (fun e => by cases e) VN (by have := hTl.out; simp; omega) (by omega) ?_
            intro vN u3 oN gN hob
            have kb : ∀ k_, k_ < u2.heap.size → (Value.slice aT T.length cT).ownBlock ≠ some k_ → u3.heap[k_]? = u2.heap[k_]? := fun k_ hk_ he => gN.block k_ hk_ (fun e => he e.symm)
            have lon : ∀ g_, vN.ownBlock = some g_ → q < g_ := fun g_ e => hob.elim (fun h => by rw [h] at e; exact loT g_ e) (fun h => by rw [h] at e; have e2 := Option.some.inj e; omega)
            have Q := Q.keep (kb q Q.lt (fun e => by have := loT q e; omega))
            have hc3 : Below y.heap.size wr u3 := hc2.grown gN (by omega) (fun j e => (O.t.lt j e).1)
            have o1 := O.n.keep (fun g_ e => kb g_ (O.n.lt g_ e).2 (fun e2 => O.t.apart O.n (by decide) e2 e))
            have o2 := O.g.keep (fun g_ e => kb g_ (O.g.lt g_ e).2 (fun e2 => O.t.apart O.g (by decide) e2 e))
            have o3 := O.i.keep (fun g_ e => kb g_ (O.i.lt g_ e).2 (fun e2 => O.t.apart O.i (by decide) e2 e))
            have o4 := O.s.keep (fun g_ e => kb g_ (O.s.lt g_ e).2 (fun e2 => O.t.apart O.s (by decide) e2 e))
            have o5 : ∀ j, j < T.length → FOwn ikEnc 8 138 y.heap.size u3 (.slice (T.getD j MiD.nil).ad (T.getD j MiD.nil).m.lg.length (T.getD j MiD.nil).cap) (T.getD j MiD.nil).m.lg := fun j hj => (O.l j hj).keep (fun g_ e => kb g_ ((O.l j hj).lt g_ e).2 (fun e2 => O.t.apart (O.l j hj) (by decide) e2 e))
            have o7 := O7.keep (fun g_ e => kb g_ (O7.lt g_ e).2 (fun e2 => O.t.apart O7 (by decide) e2 e))
            have zN := gN.size
            obtain ⟨TN, hTN⟩ : ∃ y_, y_ = (T ++ [(⟨d.m, a7, c7⟩ : MiD)]) := ⟨_, rfl⟩
            rw [← hTN] at oN
            obtain ⟨aN, cN, rfl⟩ := oN.open_
            replace hTN : Hid _ := hTN
            have li := O.i.lt
            have lap := O.ap
            clear gN kb hob VN O O7
            simp only [List.set_cons_zero, List.set_cons_succ]
            refine hKz _ _ ⟨hc3, ?_⟩
            clear hKz Kz hi
            refine takeW 10 45 (.pointer (some ⟨q, 5, none⟩)) rfl rfl (by kernel_rfl) (by kernel_rfl) (by kernel_rfl) (fun _ _ _ h => h) (by kernel_rfl) (by (intro w hSw; go_simp)) (by assumption) ?_
            simp only [List.set_cons_zero, List.set_cons_succ]
            refine wpAnyH_all (rs := [11]) (by kernel_rfl) (by simp) ?_
            intro i hi; obtain rfl : i = 11 := by simpa using hi
            refine wpOp_step rfl (fun Kz hKz => ?_)
            rw [if_pos (by kernel_rfl)]
            have c5 := Q.at_.c5
            have f5 := Q.fr 5
            go_simp
            clear c5 f5
            obtain ⟨u4, hu4⟩ : ∃ y_, y_ = u3.setCell ⟨q, 5, none⟩ (.slice aN TN.length cN) := ⟨_, rfl⟩
            have Q4 : BxB u4 q ⟨x.id, x.po, x.rg, TN, aN, cN, x.net, d1, e1, x.ga, d2, e2, x.ln, d3, e3, x.sd, d4, e4⟩ := by rw [hu4]; exact Q.two TN aN cN
            have kp : ∀ k_, k_ ≠ q → u4.heap[k_]? = u3.heap[k_]? := fun k_ hk_ => by rw [hu4]; exact Below.heap_setCell _ _ _ _ hk_
            have hc4 : Below y.heap.size wr u4 := by rw [hu4]; exact hc3.setCell (p := ⟨q, 5, none⟩) lq _
            have O4 : BxO y.heap.size u4 ⟨x.id, x.po, x.rg, TN, aN, cN, x.net, d1, e1, x.ga, d2, e2, x.ln, d3, e3, x.sd, d4, e4⟩ := ⟨oN.keep (fun g_ e => kp g_ (by have := lon g_ e; omega)), fun j hj => mdL T ⟨d.m, a7, c7⟩ hTN.out (fun z => FOwn ikEnc 8 138 y.heap.size u4 (.slice z.ad z.m.lg.length z.cap) z.m.lg) (fun j hj => (o5 j hj).keep (fun g_ e => kp g_ (by have := loL j (by rw [← hTl.out]; exact hj) g_ e; omega))) ((o7.base (by omega)).keep (fun g_ e => kp g_ (by have := lo7 g_ e; omega))) j hj, o1.keep (fun g_ e => kp g_ (fun e2 => z1 (by rw [e, e2]))), o2.keep (fun g_ e => kp g_ (fun e2 => z2 (by rw [e, e2]))), o3.keep (fun g_ e => kp g_ (fun e2 => z3 (by rw [e, e2]))), o4.keep (fun g_ e => kp g_ (fun e2 => z4 (by rw [e, e2]))), fun j hj => mdL T ⟨d.m, a7, c7⟩ hTN.out (fun z => ∀ g_, (Value.slice z.ad z.m.lg.length z.cap).ownBlock = some g_ → (Value.slice d3 x.ln.length e3).ownBlock ≠ some g_) (fun j hj => lap j hj) (fun g_ e e2 => by have := (lo7 g_ e).1; have := (li3 g_ e2).2; omega) j hj⟩
            rw [← hu4]
            clear hu4 kp Q o1 o2 o3 o4 o5 o7 oN
            refine hKz _ _ ⟨hc4, ?_⟩
            clear hKz Kz hi
            refine wpAnyH_done (by kernel_rfl) ?_ _
            have K4 := K.trans hc4
            have loL4 : ∀ j, j < k + 1 → ∀ g_, (Value.slice (TN.getD j MiD.nil).ad (TN.getD j MiD.nil).m.lg.length (TN.getD j MiD.nil).cap).ownBlock = some g_ → q < g_ := fun j hj => mdL T ⟨d.m, a7, c7⟩ hTN.out (fun z => ∀ g_, (Value.slice z.ad z.m.lg.length z.cap).ownBlock = some g_ → q < g_) (fun j hj => loL j (by rw [← hTl.out]; exact hj)) (fun g_ e => by have := (lo7 g_ e).1; omega) j (by rw [hTN.out]; have := hTl.out; simp; omega)
            have hTm4 : ∀ j, j < k + 1 → (TN.getD j MiD.nil).m = (x.two.getD j MiD.nil).m := mdM hTN.out hTl.out hTm hd rfl
            have hTl4 : TN.length = k + 1 := by rw [hTN.out]; have := hTl.out; simp; omega
            replace hTl4 : Hid _ := hTl4
            go_wp2
            go_roundw
            case rel => refine ⟨k + 1, by omega, by go_num, TN, hTl4.out, hTm4, aN, cN, Q4, O4, lon, loL4⟩
            case measure => simp [intOf]; omega
          · refine wpOp_step rfl (fun Kz hKz => ?_)
            rw [if_pos (by kernel_rfl)]
            go_simp
            obtain ⟨u2, hu2⟩ : ∃ y_, y_ = u1.alloc (Obj.cells #[.bool d.m.up, .int .i64 d.m.li, .int .i64 d.m.ep, .slice a7 d.m.lg.length c7, .int .i64 d.m.sd, .int .i64 d.m.ac, .int .i64 d.m.al] 28) := ⟨_, rfl⟩
            have VN : FView mdEnc u2 (some ⟨u1.heap.size, 0, none⟩) [(⟨d.m, a7, c7⟩ : MiD)] := by rw [hu2]; exact FView.oneD u1 _ ⟨d.m, a7, c7⟩
            have kq : Below u1.heap.size u1 u2 := by rw [hu2]; exact below_new _
            have hc2 : Below y.heap.size wr u2 := hc1.trans (kq.mono (by omega))
            have Q := Q.below kq Q.lt
            have O := O.later kq
            have O7 := O7.later kq
            have zq2 := kq.size
            rw [← hu2]
            clear hu2 kq
            refine hKz _ _ ⟨hc2, ?_⟩
            clear hKz Kz hi
            refine wpAnyH_all (rs := [1]) (by kernel_rfl) (by simp) ?_
            intro i hi; obtain rfl : i = 1 := by simpa using hi
            refine wpOp_step rfl (fun Kz hKz => ?_)
            rw [if_pos (by kernel_rfl)]
            have c5 := Q.at_.c5
            go_simp
            clear c5
            refine hKz _ _ ⟨hc2, ?_⟩
            clear hKz Kz hi
            refine wpAnyH_all (rs := [9]) (by kernel_rfl) (by simp) ?_
            intro i hi; obtain rfl : i = 9 := by simpa using hi
            refine wpOp_step rfl (fun Kz hKz => ?_)
            rw [if_pos (by kernel_rfl)]
            refine fapp mdEnc_len mdEnc_ones 44 _ _ 51 rfl rfl y.heap.size 28 i5 (.agg #[.bool false, .int .i64 0, .int .i64 0, .slice none 0 0, .int .i64 0, .int .i64 0, .int .i64 0]) 72 Tryz.underlying51 hi5 hz50 hz51 hz52 rfl (by decide) (by decide) (.slice aT T.length cT) T rfl O.t (some ⟨u1.heap.size, 0, none⟩) 1 [(⟨d.m, a7, c7⟩ : MiD)] rfl (fun e => by cases e) VN (by have := hTl.out; simp; omega) (by omega) ?_
            intro vN u3 oN gN hob
            have kb : ∀ k_, k_ < u2.heap.size → (Value.slice aT T.length cT).ownBlock ≠ some k_ → u3.heap[k_]? = u2.heap[k_]? := fun k_ hk_ he => gN.block k_ hk_ (fun e => he e.symm)
            have lon : ∀ g_, vN.ownBlock = some g_ → q < g_ := fun g_ e => hob.elim (fun h => by rw [h] at e; exact loT g_ e) (fun h => by rw [h] at e; have e2 := Option.some.inj e; omega)
            have Q := Q.keep (kb q Q.lt (fun e => by have := loT q e; omega))
            have hc3 : Below y.heap.size wr u3 := hc2.grown gN (by omega) (fun j e => (O.t.lt j e).1)
            have o1 := O.n.keep (fun g_ e => kb g_ (O.n.lt g_ e).2 (fun e2 => O.t.apart O.n (by decide) e2 e))
            have o2 := O.g.keep (fun g_ e => kb g_ (O.g.lt g_ e).2 (fun e2 => O.t.apart O.g (by decide) e2 e))
            have o3 := O.i.keep (fun g_ e => kb g_ (O.i.lt g_ e).2 (fun e2 => O.t.apart O.i (by decide) e2 e))
            have o4 := O.s.keep (fun g_ e => kb g_ (O.s.lt g_ e).2 (fun e2 => O.t.apart O.s (by decide) e2 e))
            have o5 : ∀ j, j < T.length → FOwn ikEnc 8 138 y.heap.size u3 (.slice (T.getD j MiD.nil).ad (T.getD j MiD.nil).m.lg.length (T.getD j MiD.nil).cap) (T.getD j MiD.nil).m.lg := fun j hj => (O.l j hj).keep (fun g_ e => kb g_ ((O.l j hj).lt g_ e).2 (fun e2 => O.t.apart (O.l j hj) (by decide) e2 e))
            have o7 := O7.keep (fun g_ e => kb g_ (O7.lt g_ e).2 (fun e2 => O.t.apart O7 (by decide) e2 e))
            have zN := gN.size
            obtain ⟨TN, hTN⟩ : ∃ y_, y_ = (T ++ [(⟨d.m, a7, c7⟩ : MiD)]) := ⟨_, rfl⟩
            rw [← hTN] at oN
            obtain ⟨aN, cN, rfl⟩ := oN.open_
            replace hTN : Hid _ := hTN
            have li := O.i.lt
            have lap := O.ap
            clear gN kb hob VN O O7
            simp only [List.set_cons_zero, List.set_cons_succ]
            refine hKz _ _ ⟨hc3, ?_⟩
            clear hKz Kz hi
            refine takeW 10 45 (.pointer (some ⟨q, 5, none⟩)) rfl rfl (by kernel_rfl) (by kernel_rfl) (by kernel_rfl) (fun _ _ _ h => h) (by kernel_rfl) (by (intro w hSw; go_simp)) (by assumption) ?_
            simp only [List.set_cons_zero, List.set_cons_succ]
            refine wpAnyH_all (rs := [11]) (by kernel_rfl) (by simp) ?_
            intro i hi; obtain rfl : i = 11 := by simpa using hi
            refine wpOp_step rfl (fun Kz hKz => ?_)
            rw [if_pos (by kernel_rfl)]
            have c5 := Q.at_.c5
            have f5 := Q.fr 5
            go_simp
            clear c5 f5
            obtain ⟨u4, hu4⟩ : ∃ y_, y_ = u3.setCell ⟨q, 5, none⟩ (.slice aN TN.length cN) := ⟨_, rfl⟩
            have Q4 : BxB u4 q ⟨x.id, x.po, x.rg, TN, aN, cN, x.net, d1, e1, x.ga, d2, e2, x.ln, d3, e3, x.sd, d4, e4⟩ := by rw [hu4]; exact Q.two TN aN cN
            have kp : ∀ k_, k_ ≠ q → u4.heap[k_]? = u3.heap[k_]? := fun k_ hk_ => by rw [hu4]; exact Below.heap_setCell _ _ _ _ hk_
            have hc4 : Below y.heap.size wr u4 := by rw [hu4]; exact hc3.setCell (p := ⟨q, 5, none⟩) lq _
            have O4 : BxO y.heap.size u4 ⟨x.id, x.po, x.rg, TN, aN, cN, x.net, d1, e1, x.ga, d2, e2, x.ln, d3, e3, x.sd, d4, e4⟩ := ⟨oN.keep (fun g_ e => kp g_ (by have := lon g_ e; omega)), fun j hj => mdL T ⟨d.m, a7, c7⟩ hTN.out (fun z => FOwn ikEnc 8 138 y.heap.size u4 (.slice z.ad z.m.lg.length z.cap) z.m.lg) (fun j hj => (o5 j hj).keep (fun g_ e => kp g_ (by have := loL j (by rw [← hTl.out]; exact hj) g_ e; omega))) ((o7.base (by omega)).keep (fun g_ e => kp g_ (by have := lo7 g_ e; omega))) j hj, o1.keep (fun g_ e => kp g_ (fun e2 => z1 (by rw [e, e2]))), o2.keep (fun g_ e => kp g_ (fun e2 => z2 (by rw [e, e2]))), o3.keep (fun g_ e => kp g_ (fun e2 => z3 (by rw [e, e2]))), o4.keep (fun g_ e => kp g_ (fun e2 => z4 (by rw [e, e2]))), fun j hj => mdL T ⟨d.m, a7, c7⟩ hTN.out (fun z => ∀ g_, (Value.slice z.ad z.m.lg.length z.cap).ownBlock = some g_ → (Value.slice d3 x.ln.length e3).ownBlock ≠ some g_) (fun j hj => lap j hj) (fun g_ e e2 => by have := (lo7 g_ e).1; have := (li3 g_ e2).2; omega) j hj⟩
            rw [← hu4]
            clear hu4 kp Q o1 o2 o3 o4 o5 o7 oN
            refine hKz _ _ ⟨hc4, ?_⟩
            clear hKz Kz hi
            refine wpAnyH_done (by kernel_rfl) ?_ _
            have K4 := K.trans hc4
            have loL4 : ∀ j, j < k + 1 → ∀ g_, (Value.slice (TN.getD j MiD.nil).ad (TN.getD j MiD.nil).m.lg.length (TN.getD j MiD.nil).cap).ownBlock = some g_ → q < g_ := fun j hj => mdL T ⟨d.m, a7, c7⟩ hTN.out (fun z => ∀ g_, (Value.slice z.ad z.m.lg.length z.cap).ownBlock = some g_ → q < g_) (fun j hj => loL j (by rw [← hTl.out]; exact hj)) (fun g_ e => by have := (lo7 g_ e).1; omega) j (by rw [hTN.out]; have := hTl.out; simp; omega)
            have hTm4 : ∀ j, j < k + 1 → (TN.getD j MiD.nil).m = (x.two.getD j MiD.nil).m := mdM hTN.out hTl.out hTm hd rfl
            have hTl4 : TN.length = k + 1 := by rw [hTN.out]; have := hTl.out; simp; omega
            replace hTl4 : Hid _ := hTl4
            go_wp2
            go_roundw
            case rel => refine ⟨k + 1, by omega, by go_num, TN, hTl4.out, hTm4, aN, cN, Q4, O4, lon, loL4⟩
            case measure => simp [intOf]; omega
      · obtain rfl : k = x.two.length := by omega
        have RZ := RZ.below K (by omega)
        have O9 : BxO w.heap.size ((((((((((wr.setCell ⟨(w.heap.size + 1), 0, none⟩ (.int .i64 x.id)).setCell ⟨(w.heap.size + 1), 1, none⟩ (.int .i64 x.po)).setCell ⟨(w.heap.size + 1), 2, none⟩ (.int .i64 x.rg.ep)).setCell ⟨(w.heap.size + 1), 3, none⟩ (.int .i64 x.rg.ow)).setCell ⟨(w.heap.size + 1), 4, none⟩ (.int .i64 x.rg.pa)).setCell ⟨(w.heap.size + 1), 5, none⟩ (.slice aT T.length cT)).setCell ⟨(w.heap.size + 1), 6, none⟩ (.slice d1 x.net.length e1)).setCell ⟨(w.heap.size + 1), 7, none⟩ (.slice d2 x.ga.length e2)).setCell ⟨(w.heap.size + 1), 8, none⟩ (.slice d3 x.ln.length e3)).setCell ⟨(w.heap.size + 1), 9, none⟩ (.slice d4 x.sd.length e4)) ⟨x.id, x.po, x.rg, T, aT, cT, x.net, d1, e1, x.ga, d2, e2, x.ln, d3, e3, x.sd, d4, e4⟩ := (O.keep (fun g_ h1_ _ => heap_put10 wr (w.heap.size + 1) g_ ⟨x.id, x.po, x.rg, T, aT, cT, x.net, d1, e1, x.ga, d2, e2, x.ln, d3, e3, x.sd, d4, e4⟩ (by omega))).base (by omega)
        have B9 : Below w.heap.size w ((((((((((wr.setCell ⟨(w.heap.size + 1), 0, none⟩ (.int .i64 x.id)).setCell ⟨(w.heap.size + 1), 1, none⟩ (.int .i64 x.po)).setCell ⟨(w.heap.size + 1), 2, none⟩ (.int .i64 x.rg.ep)).setCell ⟨(w.heap.size + 1), 3, none⟩ (.int .i64 x.rg.ow)).setCell ⟨(w.heap.size + 1), 4, none⟩ (.int .i64 x.rg.pa)).setCell ⟨(w.heap.size + 1), 5, none⟩ (.slice aT T.length cT)).setCell ⟨(w.heap.size + 1), 6, none⟩ (.slice d1 x.net.length e1)).setCell ⟨(w.heap.size + 1), 7, none⟩ (.slice d2 x.ga.length e2)).setCell ⟨(w.heap.size + 1), 8, none⟩ (.slice d3 x.ln.length e3)).setCell ⟨(w.heap.size + 1), 9, none⟩ (.slice d4 x.sd.length e4)) := below_put10 (q := w.heap.size + 1) ⟨x.id, x.po, x.rg, T, aT, cT, x.net, d1, e1, x.ga, d2, e2, x.ln, d3, e3, x.sd, d4, e4⟩ (B0.trans (K.mono B0.size)) (by omega)
        have hp9 : BxD.p ⟨x.id, x.po, x.rg, T, aT, cT, x.net, d1, e1, x.ga, d2, e2, x.ln, d3, e3, x.sd, d4, e4⟩ = x.p := by unfold BxD.p; rw [show T.map MiD.m = x.two.map MiD.m from mdMap hTl.out hTm]
        have hl9 := hTl.out
        obtain ⟨⟨r0, r1, r2, r3, r4, r5, r6, r7, r8, r9⟩, rf⟩ := RZ
        dsimp only [BxD.zero] at r0 r1 r2 r3 r4 r5 r6 r7 r8 r9
        have g0 := rf 0
        have g1 := rf 1
        have g2 := rf 2
        have g3 := rf 3
        have g4 := rf 4
        have g5 := rf 5
        have g6 := rf 6
        have g7 := rf 7
        have g8 := rf 8
        have g9 := rf 9
        obtain ⟨⟨s0, s1, s2, s3, s4, s5, s6, s7, s8, s9⟩, sf⟩ := Q
        clear rf sf
        obtain ⟨a0, a1, a2, a3, a4, a5, a6, a7, a8, a9⟩ := A2
        replace hp9 : Hid _ := hp9
        replace hl9 : Hid _ := hl9
        clear O hTm loT loL
        go_wp2
        refine bodyPost_ret (v := .agg #[.int .i64 x.id, .int .i64 x.po, .int .i64 x.rg.ep, .int .i64 x.rg.ow, .int .i64 x.rg.pa, .slice aT T.length cT, .slice d1 x.net.length e1, .slice d2 x.ga.length e2, .slice d3 x.ln.length e3, .slice d4 x.sd.length e4]) (by simp [results, Tryz.results55, go_sem, *]) rfl ⟨⟨x.id, x.po, x.rg, T, aT, cT, x.net, d1, e1, x.ga, d2, e2, x.ln, d3, e3, x.sd, d4, e4⟩, rfl, hp9.out, hl9.out, O9, B9⟩
  · exact ⟨false, false, false, false, false, false, false, false, false, false, undef, undef, undef, undef, undef, undef, undef, undef, undef, undef, rfl, rfl, rfl, ⟨hb0, .inl ⟨rfl, rfl, rfl, rfl⟩, .inl ⟨rfl, rfl, rfl, rfl⟩, .inl ⟨rfl, rfl, rfl, rfl⟩, .inl ⟨rfl, rfl, rfl, rfl⟩, (fun h => by cases h), (fun h => by cases h), (fun h => by cases h), (fun h => by cases h), .inl ⟨rfl, rfl⟩, .inl ⟨rfl, rfl⟩⟩⟩

end Go.Proofs.YtijhpfccjaaalaaGreat
namespace Go.Proofs.YtijhpfccjaaalaaGreat
open Go.ChangeShapes Go.WideShapes Go.ChangeAt Go.RowKit
open Go.ChangeMaps (open_string shut_string)
set_option linter.unusedVariables false
set_option maxRecDepth 100000

theorem p_two_len (x : BxD) : x.p.two.length = x.two.length := by unfold BxD.p; simp
set_option maxHeartbeats 4000000 in
theorem mindsXS (x : BxD) (s : Int) (w : World) (hV : BxV w x) :
    Calls Tryz.prog 56 #[.agg #[.int .i64 x.id, .int .i64 x.po, .int .i64 x.rg.ep, .int .i64 x.rg.ow, .int .i64 x.rg.pa, .slice x.aT x.two.length x.cT, .slice x.aN x.net.length x.cN, .slice x.aG x.ga.length x.cG, .slice x.aL x.ln.length x.cL, .slice x.aS x.sd.length x.cS], .int .i64 s] w fun e w' => e = .returned (.bool (mindsX x.p s)) ∧ Below w.heap.size w w' := by
  obtain ⟨R, hR⟩ : ∃ R, R = mindsX x.p s := ⟨_, rfl⟩
  rw [← hR]
  replace hR : Hid _ := hR
  obtain ⟨y, hy⟩ : ∃ y, y = w.alloc (Obj.cells #[.int .i64 x.id, .int .i64 x.po, .int .i64 x.rg.ep, .int .i64 x.rg.ow, .int .i64 x.rg.pa, .slice x.aT x.two.length x.cT, .slice x.aN x.net.length x.cN, .slice x.aG x.ga.length x.cG, .slice x.aL x.ln.length x.cL, .slice x.aS x.sd.length x.cS] 55) := ⟨_, rfl⟩
  have B0 : Below w.heap.size w y := by rw [hy]; exact below_new _
  have A : BxAt y w.heap.size x := by rw [hy]; exact BxAt.new w _ x
  have V := hV.later B0
  go_enter Tryz.func56, Tryz.ntmps56
  go_upto_region 1 with fail
  rw [← hy]
  clear hy hV
  refine wp_region_held (S := fun Y => Below y.heap.size y Y) (by kernel_rfl) ?_
  change wpAnyH _ _ _ _ _ _ _ _ (World.drew _)
  have hb0 : Below y.heap.size y y.drew := (Below.refl _ _).drew
  obtain ⟨u0, hy0⟩ : ∃ y_, y_ = y.drew := ⟨_, rfl⟩
  rw [← hy0] at hb0 ⊢
  clear hy0
  refine takeW 0 5 (.int .i64 s) rfl rfl (by kernel_rfl) (by kernel_rfl) (by kernel_rfl) (fun _ _ _ h => h) (by kernel_rfl) (by (intro w hSw; go_simp)) (by assumption) ?_
  simp only [List.set_cons_zero, List.set_cons_succ]
  refine takeW 1 6 (.pointer (some ⟨w.heap.size, 5, none⟩)) rfl rfl (by kernel_rfl) (by kernel_rfl) (by kernel_rfl) (fun _ _ _ h => h) (by kernel_rfl) (by (intro w hSw; go_simp)) (by assumption) ?_
  simp only [List.set_cons_zero, List.set_cons_succ]
  refine takeW 2 7 (.slice x.aT x.two.length x.cT) rfl rfl (by kernel_rfl) (by kernel_rfl) (by kernel_rfl) (fun _ _ _ h => h) (by kernel_rfl) (by (intro Y hSw; obtain ⟨X0, X1, X2, X3, X4, X5, X6, X7, X8, X9⟩ := A.below hSw A.lt; go_simp)) (by assumption) ?_
  simp only [List.set_cons_zero, List.set_cons_succ]
  refine takeW 3 8 (.int .i64 (x.two.length : Int)) rfl rfl (by kernel_rfl) (by kernel_rfl) (by kernel_rfl) (fun _ _ _ h => h) (by kernel_rfl) (by (intro w hSw; go_simp)) (by assumption) ?_
  simp only [List.set_cons_zero, List.set_cons_succ]
  have bt := V.bt
  have hwr : IntKind.i64.wrap ((x.two.length : Int) - 1) = (x.two.length : Int) - 1 := by rw [IntKind.wrap_i64]; omega
  refine takeW 4 9 (.int .i64 ((x.two.length : Int) - 1)) rfl rfl (by kernel_rfl) (by kernel_rfl) (by kernel_rfl) (fun _ _ _ h => h) (by kernel_rfl) (by (intro w hSw; go_simp)) (by assumption) ?_
  simp only [List.set_cons_zero, List.set_cons_succ]
  refine wpAnyH_all (rs := [5]) (by kernel_rfl) (by simp) ?_
  intro i hi; obtain rfl : i = 5 := by simpa using hi
  refine wpOp_step rfl (fun Kz hKz => ?_)
  rw [if_pos (by kernel_rfl)]
  go_simp
  go_at_call 43
  refine (inB s 0 ((x.two.length : Int) - 1) u0).mono ?_
  rintro e u1 ⟨rfl, hw_⟩
  have hb1 : Below y.heap.size y u1 := by rw [hw_]; exact hb0
  clear hw_
  refine hKz _ _ ⟨hb1, ?_⟩
  clear hKz Kz hi
  clear hwr
  cases h1 : decide (0 ≤ s ∧ s ≤ (x.two.length : Int) - 1)
  · have hN : Hid (R = false) := by unfold Hid; rw [hR.out]; unfold mindsX; rw [show decide (0 ≤ s ∧ s < ((x.p.two).length : Int)) = false from decide_eq_false (by have := of_decide_eq_false h1; rw [p_two_len]; omega)]; rfl
    clear h1
    refine takeW 6 11 (.bool false) rfl rfl (by kernel_rfl) (by kernel_rfl) (by kernel_rfl) (fun _ _ _ h => h) (by kernel_rfl) (by (intro w hSw; go_simp)) (by assumption) ?_
    simp only [List.set_cons_zero, List.set_cons_succ]
    refine takeS 7 12 rfl rfl (by kernel_rfl) (by kernel_rfl) (by kernel_rfl) (fun _ _ _ h => h) (by kernel_rfl) (by assumption) ?_
    simp only [List.set_cons_zero, List.set_cons_succ]
    refine takeS 8 13 rfl rfl (by kernel_rfl) (by kernel_rfl) (by kernel_rfl) (fun _ _ _ h => h) (by kernel_rfl) (by assumption) ?_
    simp only [List.set_cons_zero, List.set_cons_succ]
    refine takeS 9 14 rfl rfl (by kernel_rfl) (by kernel_rfl) (by kernel_rfl) (fun _ _ _ h => h) (by kernel_rfl) (by assumption) ?_
    simp only [List.set_cons_zero, List.set_cons_succ]
    refine takeS 10 15 rfl rfl (by kernel_rfl) (by kernel_rfl) (by kernel_rfl) (fun _ _ _ h => h) (by kernel_rfl) (by assumption) ?_
    simp only [List.set_cons_zero, List.set_cons_succ]
    refine takeS 11 16 rfl rfl (by kernel_rfl) (by kernel_rfl) (by kernel_rfl) (fun _ _ _ h => h) (by kernel_rfl) (by assumption) ?_
    simp only [List.set_cons_zero, List.set_cons_succ]
    refine takeS 12 17 rfl rfl (by kernel_rfl) (by kernel_rfl) (by kernel_rfl) (fun _ _ _ h => h) (by kernel_rfl) (by assumption) ?_
    simp only [List.set_cons_zero, List.set_cons_succ]
    refine takeS 13 18 rfl rfl (by kernel_rfl) (by kernel_rfl) (by kernel_rfl) (fun _ _ _ h => h) (by kernel_rfl) (by assumption) ?_
    simp only [List.set_cons_zero, List.set_cons_succ]
    refine takeS 14 19 rfl rfl (by kernel_rfl) (by kernel_rfl) (by kernel_rfl) (fun _ _ _ h => h) (by kernel_rfl) (by assumption) ?_
    simp only [List.set_cons_zero, List.set_cons_succ]
    refine takeS 15 20 rfl rfl (by kernel_rfl) (by kernel_rfl) (by kernel_rfl) (fun _ _ _ h => h) (by kernel_rfl) (by assumption) ?_
    simp only [List.set_cons_zero, List.set_cons_succ]
    refine takeW 16 21 (.bool false) rfl rfl (by kernel_rfl) (by kernel_rfl) (by kernel_rfl) (fun _ _ _ h => h) (by kernel_rfl) (by (intro w hSw; go_simp)) (by assumption) ?_
    simp only [List.set_cons_zero, List.set_cons_succ]
    refine takeW 17 4 (.bool false) rfl rfl (by kernel_rfl) (by kernel_rfl) (by kernel_rfl) (fun _ _ _ h => h) (by kernel_rfl) (by (intro w hSw; go_simp)) (by assumption) ?_
    simp only [List.set_cons_zero, List.set_cons_succ]
    refine wpAnyH_done (by kernel_rfl) ?_ _
    go_wp2
    go_ret
    exact ⟨by rw [hN.out]; rfl, B0.trans (hb1.mono B0.size)⟩
  · have h1' := of_decide_eq_true h1
    obtain ⟨k, rfl⟩ : ∃ k : Nat, s = (k : Int) := ⟨s.toNat, by omega⟩
    have hk : k < x.two.length := by omega
    have hcap := V.ct
    obtain ⟨d, hd⟩ : ∃ d, x.two.getD k MiD.nil = d := ⟨_, rfl⟩
    have hvl := V.l k hk
    have hll := V.bl k hk
    rw [hd] at hvl hll
    have hN : Hid (R = mindsB x.rg (k : Int) d.m) := by unfold Hid; rw [hR.out]; unfold mindsX; rw [show decide (0 ≤ (k : Int) ∧ (k : Int) < ((x.p.two).length : Int)) = true from decide_eq_true (by rw [p_two_len]; omega), mOf_p, Int.toNat_natCast, hd]; rfl
    obtain ⟨b, off, hat, _⟩ := V.t (by omega)
    have hck : ∀ Y, Below y.heap.size y Y → MdAtO Y b (off + k * 7) d := fun Y hY => by have ht := (V.later hY).t; rw [hat] at ht; rw [← hd]; exact mdAtO_of (ht.at_ mdEnc_len MiD.nil hk)
    replace hd : Hid _ := hd
    clear h1 h1'
    refine takeW 6 11 (.bool true) rfl rfl (by kernel_rfl) (by kernel_rfl) (by kernel_rfl) (fun _ _ _ h => h) (by kernel_rfl) (by (intro w hSw; go_simp)) (by assumption) ?_
    simp only [List.set_cons_zero, List.set_cons_succ]
    refine takeW 7 12 (.pointer (some ⟨w.heap.size, 2, none⟩)) rfl rfl (by kernel_rfl) (by kernel_rfl) (by kernel_rfl) (fun _ _ _ h => h) (by kernel_rfl) (by (intro w hSw; go_simp)) (by assumption) ?_
    simp only [List.set_cons_zero, List.set_cons_succ]
    refine takeW 8 13 (.agg #[.int .i64 x.rg.ep, .int .i64 x.rg.ow, .int .i64 x.rg.pa]) rfl rfl (by kernel_rfl) (by kernel_rfl) (by kernel_rfl) (fun _ _ _ h => h) (by kernel_rfl) (by (intro Y hSw; obtain ⟨X0, X1, X2, X3, X4, X5, X6, X7, X8, X9⟩ := A.below hSw A.lt; go_simp)) (by assumption) ?_
    simp only [List.set_cons_zero, List.set_cons_succ]
    refine takeW 9 14 (.int .i64 (k : Int)) rfl rfl (by kernel_rfl) (by kernel_rfl) (by kernel_rfl) (fun _ _ _ h => h) (by kernel_rfl) (by (intro w hSw; go_simp)) (by assumption) ?_
    simp only [List.set_cons_zero, List.set_cons_succ]
    refine takeW 10 15 (.pointer (some ⟨w.heap.size, 5, none⟩)) rfl rfl (by kernel_rfl) (by kernel_rfl) (by kernel_rfl) (fun _ _ _ h => h) (by kernel_rfl) (by (intro w hSw; go_simp)) (by assumption) ?_
    simp only [List.set_cons_zero, List.set_cons_succ]
    refine takeW 11 16 (.slice (some ⟨b, off, none⟩) x.two.length x.cT) rfl rfl (by kernel_rfl) (by kernel_rfl) (by kernel_rfl) (fun _ _ _ h => h) (by kernel_rfl) (by (intro Y hSw; obtain ⟨X0, X1, X2, X3, X4, X5, X6, X7, X8, X9⟩ := A.below hSw A.lt; rw [hat] at X5; go_simp)) (by assumption) ?_
    simp only [List.set_cons_zero, List.set_cons_succ]
    refine takeW 12 17 (.int .i64 (k : Int)) rfl rfl (by kernel_rfl) (by kernel_rfl) (by kernel_rfl) (fun _ _ _ h => h) (by kernel_rfl) (by (intro w hSw; go_simp)) (by assumption) ?_
    simp only [List.set_cons_zero, List.set_cons_succ]
    refine takeW 13 18 (.pointer (some ⟨b, off + k * 7, none⟩)) rfl rfl (by kernel_rfl) (by kernel_rfl) (by kernel_rfl) (fun _ _ _ h => h) (by kernel_rfl) (by (intro Y hSw; go_simp; try omega)) (by assumption) ?_
    simp only [List.set_cons_zero, List.set_cons_succ]
    refine takeW 14 19 (.agg #[.bool d.m.up, .int .i64 d.m.li, .int .i64 d.m.ep, .slice d.ad d.m.lg.length d.cap, .int .i64 d.m.sd, .int .i64 d.m.ac, .int .i64 d.m.al]) rfl rfl (by kernel_rfl) (by kernel_rfl) (by kernel_rfl) (fun _ _ _ h => h) (by kernel_rfl) (by (intro Y hSw; obtain ⟨X0, X1, X2, X3, X4, X5, X6⟩ := hck Y hSw; go_simp)) (by assumption) ?_
    simp only [List.set_cons_zero, List.set_cons_succ]
    refine wpAnyH_all (rs := [15]) (by kernel_rfl) (by simp) ?_
    intro i hi; obtain rfl : i = 15 := by simpa using hi
    refine wpOp_step rfl (fun Kz hKz => ?_)
    rw [if_pos (by kernel_rfl)]
    go_simp
    go_at_call 16
    refine (mindsS x.rg (k : Int) d.m d.ad d.cap u1 (hvl.below hb1 (hvl.lt ikEnc_len (by omega))) (by omega)).mono ?_
    rintro e u2 ⟨rfl, kq⟩
    rw [← hN.out]
    have hb2 : Below y.heap.size y u2 := hb1.trans (kq.mono hb1.size)
    clear kq
    refine hKz _ _ ⟨hb2, ?_⟩
    clear hKz Kz hi
    refine takeW 16 21 (.bool R) rfl rfl (by kernel_rfl) (by kernel_rfl) (by kernel_rfl) (fun _ _ _ h => h) (by kernel_rfl) (by (intro w hSw; go_simp)) (by assumption) ?_
    simp only [List.set_cons_zero, List.set_cons_succ]
    refine takeW 17 4 (.bool R) rfl rfl (by kernel_rfl) (by kernel_rfl) (by kernel_rfl) (fun _ _ _ h => h) (by kernel_rfl) (by (intro w hSw; go_simp)) (by assumption) ?_
    simp only [List.set_cons_zero, List.set_cons_succ]
    refine wpAnyH_done (by kernel_rfl) ?_ _
    go_wp2
    go_ret
    exact ⟨rfl, B0.trans (hb2.mono B0.size)⟩
set_option maxHeartbeats 4000000 in
theorem whoS (x : BxD) (w : World) (hV : BxV w x) :
    Calls Tryz.prog 161 #[.agg #[.int .i64 x.id, .int .i64 x.po, .int .i64 x.rg.ep, .int .i64 x.rg.ow, .int .i64 x.rg.pa, .slice x.aT x.two.length x.cT, .slice x.aN x.net.length x.cN, .slice x.aG x.ga.length x.cG, .slice x.aL x.ln.length x.cL, .slice x.aS x.sd.length x.cS]] w fun e w' => e = .returned (.int .i64 (whoX x.p)) ∧ Below w.heap.size w w' := by
  obtain ⟨R, hR⟩ : ∃ R, R = whoX x.p := ⟨_, rfl⟩
  rw [← hR]
  replace hR : Hid _ := hR
  obtain ⟨y, hy⟩ : ∃ y, y = w.alloc (Obj.cells #[.int .i64 x.id, .int .i64 x.po, .int .i64 x.rg.ep, .int .i64 x.rg.ow, .int .i64 x.rg.pa, .slice x.aT x.two.length x.cT, .slice x.aN x.net.length x.cN, .slice x.aG x.ga.length x.cG, .slice x.aL x.ln.length x.cL, .slice x.aS x.sd.length x.cS] 55) := ⟨_, rfl⟩
  have B0 : Below w.heap.size w y := by rw [hy]; exact below_new _
  have A : BxAt y w.heap.size x := by rw [hy]; exact BxAt.new w _ x
  have V := hV.later B0
  go_enter Tryz.func161, Tryz.ntmps161
  go_upto_region 2 with fail
  rw [← hy]
  clear hy hV
  refine wp_loop_rounds 3 ?_
  rw [rounds_succ]
  have cc := A
  obtain ⟨a0, a1, a2, a3, a4, a5, a6, a7, a8, a9⟩ := cc
  go_wp2_with fail
  go_at_call 56
  clear a0 a1 a2 a3 a4 a5 a6 a7 a8 a9
  refine (mindsXS x 0 y V).mono ?_
  rintro e v1 ⟨rfl, k1⟩
  have A := A.below k1 A.lt
  have V := V.later k1
  have B1 := B0.trans (k1.mono B0.size)
  clear k1 B0
  cases h0 : mindsX x.p 0
  · replace h0 : Hid _ := h0
    go_wp2
    rw [rounds_succ]
    have cc := A
    obtain ⟨a0, a1, a2, a3, a4, a5, a6, a7, a8, a9⟩ := cc
    go_wp2_with fail
    go_at_call 56
    clear a0 a1 a2 a3 a4 a5 a6 a7 a8 a9
    refine (mindsXS x 1 v1 V).mono ?_
    rintro e v2 ⟨rfl, k2⟩
    have B2 := B1.trans (k2.mono B1.size)
    clear k2 B1
    cases h1 : mindsX x.p 1
    · have hN : Hid (R = -1) := by unfold Hid; rw [hR.out]; unfold whoX; rw [h0.out, h1]; rfl
      clear h1
      go_wp2
      rw [rounds_succ]
      go_wp2
      go_ret
      exact ⟨by rw [hN.out]; rfl, B2⟩
    · have hN : Hid (R = 1) := by unfold Hid; rw [hR.out]; unfold whoX; rw [h0.out, h1]; rfl
      clear h1
      go_wp2
      go_ret
      exact ⟨by rw [hN.out]; rfl, B2⟩
  · have hN : Hid (R = 0) := by unfold Hid; rw [hR.out]; unfold whoX; rw [h0]; rfl
    clear h0
    go_wp2
    go_ret
    exact ⟨by rw [hN.out]; rfl, B1⟩

end Go.Proofs.YtijhpfccjaaalaaGreat
namespace Go.Proofs.YtijhpfccjaaalaaGreat
open Go.ChangeShapes Go.WideShapes Go.ChangeAt Go.RowKit
open Go.ChangeMaps (open_string shut_string)
set_option linter.unusedVariables false
set_option maxRecDepth 100000

theorem join_regionA {P : Program} {reg : Code} {Qp : Exit → Act → World → Prop} {l : List Value} {ds : List Deferred} {W : World} (R : List Value → List Value → World → Prop) (h1 : ∀ l' W', R l l' W' → Qp .normal ⟨l'.toArray, ds⟩ W') (h2 : ∀ K2 : Act → World → Prop, Hid (∀ l' W', R l l' W' → K2 ⟨l'.toArray, ds⟩ W') → Code.wp P reg (Exit.then K2 (fun _ _ _ => False)) ⟨l.toArray, ds⟩ W) : Code.wp P reg Qp ⟨l.toArray, ds⟩ W :=
  Code.wp_mono (fun e a w h => by cases e <;> first | exact h | exact (h : False).elim) (h2 (fun a w => Qp .normal a w) h1)
set_option maxHeartbeats 16000000 in
theorem acceptS (x : BxD) (s : Int) (aO : Option Addr) (cO : Nat) (L : List Ou) (w : World) (hV : BxV w x) (hn1 : x.aN = none → x.cN = 0) (hn2 : x.aG = none → x.cG = 0) (hn3 : x.aL = none → x.cL = 0) (hn4 : x.aS = none → x.cS = 0) (hnL : ∀ i, i < x.two.length → (x.two.getD i MiD.nil).ad = none → (x.two.getD i MiD.nil).cap = 0) (hL : FView ouEnc w aO L) (hl : L.length ≤ 1048576) :
    Calls Tryz.prog 21 #[.agg #[.int .i64 x.id, .int .i64 x.po, .int .i64 x.rg.ep, .int .i64 x.rg.ow, .int .i64 x.rg.pa, .slice x.aT x.two.length x.cT, .slice x.aN x.net.length x.cN, .slice x.aG x.ga.length x.cG, .slice x.aL x.ln.length x.cL, .slice x.aS x.sd.length x.cS], .int .i64 s, .slice aO L.length cO] w fun e w' => ∃ x3 : BxD, e = .returned (.agg #[.int .i64 x3.id, .int .i64 x3.po, .int .i64 x3.rg.ep, .int .i64 x3.rg.ow, .int .i64 x3.rg.pa, .slice x3.aT x3.two.length x3.cT, .slice x3.aN x3.net.length x3.cN, .slice x3.aG x3.ga.length x3.cG, .slice x3.aL x3.ln.length x3.cL, .slice x3.aS x3.sd.length x3.cS]) ∧ x3.p = accX x.p s L ∧ BxO w.heap.size w' x3 ∧ Below w.heap.size w w' := by
  obtain ⟨i4, hj4, hz40, hz41, hz42⟩ := info_parts ouInfo
  obtain ⟨y, hy⟩ : ∃ y, y = (w.alloc (Obj.cells #[.int .i64 x.id, .int .i64 x.po, .int .i64 x.rg.ep, .int .i64 x.rg.ow, .int .i64 x.rg.pa, .slice x.aT x.two.length x.cT, .slice x.aN x.net.length x.cN, .slice x.aG x.ga.length x.cG, .slice x.aL x.ln.length x.cL, .slice x.aS x.sd.length x.cS] 55)).alloc (Obj.cells #[.int .i64 0, .int .i64 0, .int .i64 0, .int .i64 0, .int .i64 0, .slice none 0 0, .slice none 0 0, .slice none 0 0, .slice none 0 0, .slice none 0 0] 55) := ⟨_, rfl⟩
  have B0 : Below w.heap.size w y := by rw [hy]; exact ((Below.refl _ _).alloc (Nat.le_refl _) _).alloc (by simp) _
  have A : BxAt y w.heap.size x := by rw [hy]; constructor <;> simp [go_sem]
  have Z : BxB y (w.heap.size + 1) BxD.zero := by rw [hy]; refine ⟨?_, fun i => ?_⟩; constructor <;> simp [go_sem, BxD.zero]; simp [go_sem]
  have Z0 := Z
  have sy := Z.lt
  have V := hV.later B0
  have hL1 := hL.below B0 (hL.lt ouEnc_len (by omega))
  go_enter Tryz.func21, Tryz.ntmps21
  have cc := A
  obtain ⟨a0, a1, a2, a3, a4, a5, a6, a7, a8, a9⟩ := cc
  go_wp2_with fail
  go_at_call 55
  rw [← hy]
  clear hy a0 a1 a2 a3 a4 a5 a6 a7 a8 a9
  refine (copyX x y V hn1 hn2 hn3 hn4 hnL).mono ?_
  rintro e u1 ⟨x2, rfl, p2, lt2, O2, k1⟩
  replace p2 : Hid _ := p2
  have A := A.below k1 A.lt
  have Z := Z.below k1 Z.lt
  have V := V.later k1
  have s1 := k1.size
  have K1 : Below y.heap.size y u1 := k1
  clear lt2
  obtain ⟨u2, hu2⟩ : ∃ y_, y_ = u1.alloc (Obj.cells #[.int .i64 x2.id, .int .i64 x2.po, .int .i64 x2.rg.ep, .int .i64 x2.rg.ow, .int .i64 x2.rg.pa, .slice x2.aT x2.two.length x2.cT, .slice x2.aN x2.net.length x2.cN, .slice x2.aG x2.ga.length x2.cG, .slice x2.aL x2.ln.length x2.cL, .slice x2.aS x2.sd.length x2.cS] 55) := ⟨_, rfl⟩
  have kk : Below u1.heap.size u1 u2 := by rw [hu2]; exact below_new _
  have Q : BxB u2 u1.heap.size x2 := by rw [hu2]; refine ⟨BxAt.new u1 _ x2, fun i => ?_⟩; simp [go_sem]
  have A := A.below kk A.lt
  have Z := Z.below kk Z.lt
  have V := V.later kk
  have O2' := O2.ne (q := u1.heap.size) (Nat.le_refl _)
  have O2 := O2.later kk
  have K2 := K1.trans (kk.mono (by omega))
  have s2 := Q.lt
  clear kk k1 K1
  go_upto_region 2 with fail
  rw [← hu2]
  clear hu2
  obtain ⟨q7, hq7⟩ : ∃ q, q = u1.heap.size := ⟨_, rfl⟩
  rw [← hq7] at Q O2' s2 ⊢
  replace hq7 := Nat.le_of_eq hq7.symm
  have cc := A
  obtain ⟨a0, a1, a2, a3, a4, a5, a6, a7, a8, a9⟩ := cc
  go_wp2_with fail
  go_at_call 56
  clear a0 a1 a2 a3 a4 a5 a6 a7 a8 a9
  refine (mindsXS x s u2 V).mono ?_
  rintro e u3 ⟨rfl, kk⟩
  have A := A.below kk A.lt
  have Z := Z.below kk Z.lt
  have Q := Q.below kk Q.lt
  have O2 := O2.later kk
  have K3 := K2.trans (kk.mono (by have := K2.size; omega))
  have s3 := kk.size
  clear kk V K2
  cases hm : mindsX x.p s
  · have hX : Hid (x2.p = accX x.p s L) := by unfold Hid accX; rw [hm, p2.out]; rfl
    replace hm : Hid _ := hm
    have B3 := B0.trans (K3.mono B0.size)
    obtain ⟨W9, hW9⟩ : ∃ y_, y_ = ((((((((((u3.setCell ⟨w.heap.size + 1, 0, none⟩ (.int .i64 x2.id)).setCell ⟨w.heap.size + 1, 1, none⟩ (.int .i64 x2.po)).setCell ⟨w.heap.size + 1, 2, none⟩ (.int .i64 x2.rg.ep)).setCell ⟨w.heap.size + 1, 3, none⟩ (.int .i64 x2.rg.ow)).setCell ⟨w.heap.size + 1, 4, none⟩ (.int .i64 x2.rg.pa)).setCell ⟨w.heap.size + 1, 5, none⟩ (.slice x2.aT x2.two.length x2.cT)).setCell ⟨w.heap.size + 1, 6, none⟩ (.slice x2.aN x2.net.length x2.cN)).setCell ⟨w.heap.size + 1, 7, none⟩ (.slice x2.aG x2.ga.length x2.cG)).setCell ⟨w.heap.size + 1, 8, none⟩ (.slice x2.aL x2.ln.length x2.cL)).setCell ⟨w.heap.size + 1, 9, none⟩ (.slice x2.aS x2.sd.length x2.cS)) := ⟨_, rfl⟩
    have ZZ : BxB W9 (w.heap.size + 1) x2 := by rw [hW9]; exact Z.put x2
    have kp : ∀ k, k ≠ w.heap.size + 1 → W9.heap[k]? = u3.heap[k]? := fun k hk => by rw [hW9, Below.heap_setCell _ _ _ _ hk, Below.heap_setCell _ _ _ _ hk, Below.heap_setCell _ _ _ _ hk, Below.heap_setCell _ _ _ _ hk, Below.heap_setCell _ _ _ _ hk, Below.heap_setCell _ _ _ _ hk, Below.heap_setCell _ _ _ _ hk, Below.heap_setCell _ _ _ _ hk, Below.heap_setCell _ _ _ _ hk, Below.heap_setCell _ _ _ _ hk]
    have B9 : Below w.heap.size w W9 := by rw [hW9]; exact ((((((((((B3.setCell (p := ⟨w.heap.size + 1, 0, none⟩) (by show _ ≤ w.heap.size + 1; omega) _).setCell (p := ⟨w.heap.size + 1, 1, none⟩) (by show _ ≤ w.heap.size + 1; omega) _).setCell (p := ⟨w.heap.size + 1, 2, none⟩) (by show _ ≤ w.heap.size + 1; omega) _).setCell (p := ⟨w.heap.size + 1, 3, none⟩) (by show _ ≤ w.heap.size + 1; omega) _).setCell (p := ⟨w.heap.size + 1, 4, none⟩) (by show _ ≤ w.heap.size + 1; omega) _).setCell (p := ⟨w.heap.size + 1, 5, none⟩) (by show _ ≤ w.heap.size + 1; omega) _).setCell (p := ⟨w.heap.size + 1, 6, none⟩) (by show _ ≤ w.heap.size + 1; omega) _).setCell (p := ⟨w.heap.size + 1, 7, none⟩) (by show _ ≤ w.heap.size + 1; omega) _).setCell (p := ⟨w.heap.size + 1, 8, none⟩) (by show _ ≤ w.heap.size + 1; omega) _).setCell (p := ⟨w.heap.size + 1, 9, none⟩) (by show _ ≤ w.heap.size + 1; omega) _)
    have O9 : BxO w.heap.size W9 x2 := (O2.keep (fun g h1 h2 => kp g (by omega))).base (by omega)
    obtain ⟨⟨t0, t1, t2, t3, t4, t5, t6, t7, t8, t9⟩, tf⟩ := ZZ
    clear tf
    have cc := Z
    obtain ⟨⟨z0, z1, z2, z3, z4, z5, z6, z7, z8, z9⟩, zf⟩ := cc
    have e0 := zf 0
    have e1 := zf 1
    have e2 := zf 2
    have e3 := zf 3
    have e4 := zf 4
    have e5 := zf 5
    have e6 := zf 6
    have e7 := zf 7
    have e8 := zf 8
    have e9 := zf 9
    clear zf
    have cc := Q
    obtain ⟨⟨q0, q1, q2, q3, q4, q5, q6, q7, q8, q9⟩, qf⟩ := cc
    clear qf
    go_wp2
    refine bodyPost_ret (v := .agg #[.int .i64 x2.id, .int .i64 x2.po, .int .i64 x2.rg.ep, .int .i64 x2.rg.ow, .int .i64 x2.rg.pa, .slice x2.aT x2.two.length x2.cT, .slice x2.aN x2.net.length x2.cN, .slice x2.aG x2.ga.length x2.cG, .slice x2.aL x2.ln.length x2.cL, .slice x2.aS x2.sd.length x2.cS]) (by simp [results, Tryz.results21, go_sem, *]) rfl ⟨x2, rfl, hX.out, by rw [← hW9]; exact O9, by rw [← hW9]; exact B9⟩
  · replace hm : Hid _ := hm
    have hl2 : x2.ga.length = x.ga.length := by have h := congrArg Bx.ga p2.out; unfold BxD.p at h; simp only at h; rw [h]
    have hs2 : x2.sd.length = x.sd.length := by have h := congrArg Bx.sd p2.out; unfold BxD.p at h; simp only at h; rw [h]
    have bg2 : x2.ga.length ≤ 1048576 := by rw [hl2]; exact hV.bg
    have bs2 : x2.sd.length ≤ 1048576 := by rw [hs2]; exact hV.bs
    clear hl2 hs2
    go_wp2
    go_loopw [8] (fun i wr => ∃ (k : Nat) (z : BxD), k ≤ L.length ∧ i = .int .i64 k ∧ Hid (z.p = accK x2.p (L.take k)) ∧ BxB wr q7 z ∧ BxO y.heap.size wr z ∧ BxNe q7 z ∧ Below y.heap.size y wr ∧ q7 < wr.heap.size) (fun i _ => L.length - (intOf i).toNat)
    case atStart => exact ⟨0, x2, Nat.zero_le _, rfl, by unfold Hid; rw [List.take_zero, accK_nil], Q, O2, O2', K3, by omega⟩
    case round =>
      obtain ⟨k, z, hk_, rfl, hz, Q, O, NE, KW, sW⟩ := hrel
      clear O2 O2' K3
      have hza : z.ga.length = x2.ga.length := by have h : z.p.ga.length = (accK x2.p (L.take k)).ga.length := by { rw [hz.out] }; rw [accK_len] at h; exact h
      have bgz : z.ga.length ≤ 1048576 := by rw [hza]; exact bg2
      have hzs : z.sd.length = x2.sd.length + k := by have h : z.p.sd.length = (accK x2.p (L.take k)).sd.length := by { rw [hz.out] }; have h2 : (accK x2.p (L.take k)).sd.length = x2.sd.length + k := by { show (x2.sd ++ L.take k).length = _; rw [List.length_append, List.length_take, Nat.min_eq_left hk_] }; exact h.trans h2
      have bsz : z.sd.length ≤ 2097152 := by omega
      clear hza hzs
      by_cases hlt : k < L.length
      · obtain ⟨b, off, rfl, _⟩ := hL1 (by omega)
        have hbl : b < y.heap.size := hL1.lt ouEnc_len (by omega) _ rfl (by omega)
        obtain ⟨⟨hk, hpt, hr, hc, hb, hp, hh_, hon⟩, hh⟩ : ∃ h, L.getD k Ou.nil = h := ⟨_, rfl⟩
        have E : OuAtO wr b (off + k * 8) ⟨hk, hpt, hr, hc, hb, hp, hh_, hon⟩ := by rw [← hh]; exact ouAtO_of ((hL1.below KW (hL1.lt ouEnc_len (by omega))).at_ ouEnc_len Ou.nil hlt)
        replace hh : Hid _ := hh
        clear hL1
        have hwr : IntKind.i64.wrap ((z.ga.length : Int) - 1) = (z.ga.length : Int) - 1 := by rw [IntKind.wrap_i64]; omega
        by_cases e2 : hk = 2
        · have d2 : (hk == 2) = true := by simpa using e2
          by_cases e3 : 0 ≤ hpt ∧ hpt < (z.ga.length : Int)
          · have hin : decide (0 ≤ hpt ∧ hpt ≤ (z.ga.length : Int) - 1) = true := decide_eq_true (by omega)
            go_upto_region 7 with fail
            refine wp_region_held (S := fun Y => Below wr.heap.size wr Y) (by kernel_rfl) ?_
            change wpAnyH _ _ _ _ _ _ _ _ (World.drew _)
            have hb0 : Below wr.heap.size wr wr.drew := (Below.refl _ _).drew
            obtain ⟨u0, hu0⟩ : ∃ y_, y_ = wr.drew := ⟨_, rfl⟩
            rw [← hu0] at hb0 ⊢
            clear hu0
            refine takeW 0 22 (.slice (some ⟨b, off, none⟩) L.length cO) rfl rfl (by kernel_rfl) (by kernel_rfl) (by kernel_rfl) (fun _ _ _ h => h) (by kernel_rfl) (by (intro w hSw; go_simp)) (by assumption) ?_
            simp only [List.set_cons_zero, List.set_cons_succ]
            refine takeW 1 23 (.int .i64 k) rfl rfl (by kernel_rfl) (by kernel_rfl) (by kernel_rfl) (fun _ _ _ h => h) (by kernel_rfl) (by (intro w hSw; go_simp)) (by assumption) ?_
            simp only [List.set_cons_zero, List.set_cons_succ]
            refine takeW 2 24 (.pointer (some ⟨b, off + k * 8, none⟩)) rfl rfl (by kernel_rfl) (by kernel_rfl) (by kernel_rfl) (fun _ _ _ h => h) (by kernel_rfl) (by (intro Y hSw; go_simp; try omega)) (by assumption) ?_
            simp only [List.set_cons_zero, List.set_cons_succ]
            refine takeW 3 25 (.pointer (some ⟨b, off + k * 8, none⟩)) rfl rfl (by kernel_rfl) (by kernel_rfl) (by kernel_rfl) (fun _ _ _ h => h) (by kernel_rfl) (by (intro w hSw; go_simp)) (by assumption) ?_
            simp only [List.set_cons_zero, List.set_cons_succ]
            refine takeW 4 26 (.int .i64 hk) rfl rfl (by kernel_rfl) (by kernel_rfl) (by kernel_rfl) (fun _ _ _ h => h) (by kernel_rfl) (by (intro Y hSw; obtain ⟨X0, X1, X2, X3, X4, X5, X6, X7⟩ := (E.belowA hSw (by omega)); go_simp)) (by assumption) ?_
            simp only [List.set_cons_zero, List.set_cons_succ]
            refine takeW 5 27 (.bool true) rfl rfl (by kernel_rfl) (by kernel_rfl) (by kernel_rfl) (fun _ _ _ h => h) (by kernel_rfl) (by (intro w hSw; go_simp)) (by assumption) ?_
            simp only [List.set_cons_zero, List.set_cons_succ]
            refine takeW 6 28 (.bool true) rfl rfl (by kernel_rfl) (by kernel_rfl) (by kernel_rfl) (fun _ _ _ h => h) (by kernel_rfl) (by (intro w hSw; go_simp)) (by assumption) ?_
            simp only [List.set_cons_zero, List.set_cons_succ]
            refine takeW 7 29 (.slice (some ⟨b, off, none⟩) L.length cO) rfl rfl (by kernel_rfl) (by kernel_rfl) (by kernel_rfl) (fun _ _ _ h => h) (by kernel_rfl) (by (intro w hSw; go_simp)) (by assumption) ?_
            simp only [List.set_cons_zero, List.set_cons_succ]
            refine takeW 8 30 (.int .i64 k) rfl rfl (by kernel_rfl) (by kernel_rfl) (by kernel_rfl) (fun _ _ _ h => h) (by kernel_rfl) (by (intro w hSw; go_simp)) (by assumption) ?_
            simp only [List.set_cons_zero, List.set_cons_succ]
            refine takeW 9 31 (.pointer (some ⟨b, off + k * 8, none⟩)) rfl rfl (by kernel_rfl) (by kernel_rfl) (by kernel_rfl) (fun _ _ _ h => h) (by kernel_rfl) (by (intro Y hSw; go_simp; try omega)) (by assumption) ?_
            simp only [List.set_cons_zero, List.set_cons_succ]
            refine takeW 10 32 (.pointer (some ⟨b, off + k * 8 + 1, none⟩)) rfl rfl (by kernel_rfl) (by kernel_rfl) (by kernel_rfl) (fun _ _ _ h => h) (by kernel_rfl) (by (intro w hSw; go_simp)) (by assumption) ?_
            simp only [List.set_cons_zero, List.set_cons_succ]
            refine takeW 11 33 (.int .i64 hpt) rfl rfl (by kernel_rfl) (by kernel_rfl) (by kernel_rfl) (fun _ _ _ h => h) (by kernel_rfl) (by (intro Y hSw; obtain ⟨X0, X1, X2, X3, X4, X5, X6, X7⟩ := (E.belowA hSw (by omega)); go_simp)) (by assumption) ?_
            simp only [List.set_cons_zero, List.set_cons_succ]
            refine takeW 12 34 (.pointer (some ⟨q7, 7, none⟩)) rfl rfl (by kernel_rfl) (by kernel_rfl) (by kernel_rfl) (fun _ _ _ h => h) (by kernel_rfl) (by (intro w hSw; go_simp)) (by assumption) ?_
            simp only [List.set_cons_zero, List.set_cons_succ]
            refine takeW 13 35 (.slice z.aG z.ga.length z.cG) rfl rfl (by kernel_rfl) (by kernel_rfl) (by kernel_rfl) (fun _ _ _ h => h) (by kernel_rfl) (by (intro Y hSw; obtain ⟨⟨X0, X1, X2, X3, X4, X5, X6, X7, X8, X9⟩, _⟩ := (Q.below hSw Q.lt); go_simp)) (by assumption) ?_
            simp only [List.set_cons_zero, List.set_cons_succ]
            refine takeW 14 36 (.int .i64 (z.ga.length : Int)) rfl rfl (by kernel_rfl) (by kernel_rfl) (by kernel_rfl) (fun _ _ _ h => h) (by kernel_rfl) (by (intro w hSw; go_simp)) (by assumption) ?_
            simp only [List.set_cons_zero, List.set_cons_succ]
            refine takeW 15 37 (.int .i64 ((z.ga.length : Int) - 1)) rfl rfl (by kernel_rfl) (by kernel_rfl) (by kernel_rfl) (fun _ _ _ h => h) (by kernel_rfl) (by (intro Y hSw; go_simp)) (by assumption) ?_
            simp only [List.set_cons_zero, List.set_cons_succ]
            refine wpAnyH_all (rs := [16]) (by kernel_rfl) (by simp) ?_
            intro i hi; obtain rfl : i = 16 := by simpa using hi
            refine wpOp_step rfl (fun Kz hKz => ?_)
            rw [if_pos (by kernel_rfl)]
            go_simp
            go_at_call 43
            refine (inB hpt 0 ((z.ga.length : Int) - 1) u0).mono ?_
            rintro e u9 ⟨rfl, hw_⟩
            rw [hw_]
            clear hw_
            rw [hin]
            refine hKz _ _ ⟨hb0, ?_⟩
            clear hKz Kz hi
            refine takeW 17 39 (.bool true) rfl rfl (by kernel_rfl) (by kernel_rfl) (by kernel_rfl) (fun _ _ _ h => h) (by kernel_rfl) (by (intro w hSw; go_simp)) (by assumption) ?_
            simp only [List.set_cons_zero, List.set_cons_succ]
            refine wpAnyH_done (by kernel_rfl) ?_ _
            have Q := Q.below hb0 Q.lt
            have O := O.later hb0
            have KW := KW.trans (hb0.mono KW.size)
            have E := E.belowA hb0 (by omega)
            have sW := Nat.lt_of_lt_of_le sW hb0.size
            clear hb0
            clear hin d2
            obtain ⟨j, rfl⟩ : ∃ j : Nat, hpt = (j : Int) := ⟨hpt.toNat, by omega⟩
            have hj : j < z.ga.length := by omega
            have hg : gateX z.p.ga (⟨hk, (j : Int), hr, hc, hb, hp, hh_, hon⟩ : Ou) = z.p.ga.set j hon := if_pos ⟨e2, by show (0 : Int) ≤ (j : Int); omega, by show (j : Int) < (z.ga.length : Int); omega⟩
            replace e2 : Hid _ := e2
            replace e3 : Hid _ := e3
            obtain ⟨gg, hgg⟩ : ∃ g, z.aG = some ⟨g, 0, none⟩ := by
              rcases O.g.2 with ⟨q, h0⟩ | ⟨g, c, cur, q, _⟩
              · simp only [Value.slice.injEq] at q; omega
              · simp only [Value.slice.injEq] at q; exact ⟨g, q.1⟩
            have hgq : gg ≠ q7 := NE.g gg (by rw [hgg]; rfl)
            have hgy : y.heap.size ≤ gg := (O.g.lt gg (by rw [hgg]; rfl)).1
            go_upto_region 8 with fail
            refine wp_region_held (S := fun Y => BxAt Y q7 z ∧ OuAtO Y b (off + k * 8) ⟨hk, (j : Int), hr, hc, hb, hp, hh_, hon⟩) (by kernel_rfl) ?_
            change wpAnyH _ _ _ _ _ _ _ _ (World.drew _)
            have kd : Below u0.heap.size u0 u0.drew := (Below.refl _ _).drew
            obtain ⟨u4, hu4⟩ : ∃ y_, y_ = u0.drew := ⟨_, rfl⟩
            rw [← hu4] at kd ⊢
            clear hu4
            have Q := Q.below kd Q.lt
            have O := O.later kd
            have KW := KW.trans (kd.mono KW.size)
            have E := E.belowA kd (by omega)
            have sW := Nat.lt_of_lt_of_le sW kd.size
            have hs0 : BxAt u4 q7 z ∧ OuAtO u4 b (off + k * 8) ⟨hk, (j : Int), hr, hc, hb, hp, hh_, hon⟩ := ⟨Q.at_, E⟩
            clear kd
            refine takeW 0 40 (.pointer (some ⟨q7, 7, none⟩)) rfl rfl (by kernel_rfl) (by kernel_rfl) (by kernel_rfl) (fun _ _ _ h => h) (by kernel_rfl) (by (intro w hSw; go_simp)) (by assumption) ?_
            simp only [List.set_cons_zero, List.set_cons_succ]
            refine takeW 1 41 (.slice (some ⟨gg, 0, none⟩) z.ga.length z.cG) rfl rfl (by kernel_rfl) (by kernel_rfl) (by kernel_rfl) (fun _ _ _ h => h) (by kernel_rfl) (by (intro Y hSw; obtain ⟨⟨X0, X1, X2, X3, X4, X5, X6, X7, X8, X9⟩, _⟩ := hSw; rw [hgg] at X7; go_simp)) (by assumption) ?_
            simp only [List.set_cons_zero, List.set_cons_succ]
            refine takeW 2 42 (.slice (some ⟨b, off, none⟩) L.length cO) rfl rfl (by kernel_rfl) (by kernel_rfl) (by kernel_rfl) (fun _ _ _ h => h) (by kernel_rfl) (by (intro w hSw; go_simp)) (by assumption) ?_
            simp only [List.set_cons_zero, List.set_cons_succ]
            refine takeW 3 43 (.int .i64 k) rfl rfl (by kernel_rfl) (by kernel_rfl) (by kernel_rfl) (fun _ _ _ h => h) (by kernel_rfl) (by (intro w hSw; go_simp)) (by assumption) ?_
            simp only [List.set_cons_zero, List.set_cons_succ]
            refine takeW 4 44 (.pointer (some ⟨b, off + k * 8, none⟩)) rfl rfl (by kernel_rfl) (by kernel_rfl) (by kernel_rfl) (fun _ _ _ h => h) (by kernel_rfl) (by (intro Y hSw; go_simp; try omega)) (by assumption) ?_
            simp only [List.set_cons_zero, List.set_cons_succ]
            refine takeW 5 45 (.pointer (some ⟨b, off + k * 8 + 1, none⟩)) rfl rfl (by kernel_rfl) (by kernel_rfl) (by kernel_rfl) (fun _ _ _ h => h) (by kernel_rfl) (by (intro w hSw; go_simp)) (by assumption) ?_
            simp only [List.set_cons_zero, List.set_cons_succ]
            refine takeW 6 46 (.int .i64 (j : Int)) rfl rfl (by kernel_rfl) (by kernel_rfl) (by kernel_rfl) (fun _ _ _ h => h) (by kernel_rfl) (by (intro Y hSw; obtain ⟨_, X0, X1, X2, X3, X4, X5, X6, X7⟩ := hSw; go_simp)) (by assumption) ?_
            simp only [List.set_cons_zero, List.set_cons_succ]
            refine takeW 7 47 (.slice (some ⟨b, off, none⟩) L.length cO) rfl rfl (by kernel_rfl) (by kernel_rfl) (by kernel_rfl) (fun _ _ _ h => h) (by kernel_rfl) (by (intro w hSw; go_simp)) (by assumption) ?_
            simp only [List.set_cons_zero, List.set_cons_succ]
            refine takeW 8 48 (.int .i64 k) rfl rfl (by kernel_rfl) (by kernel_rfl) (by kernel_rfl) (fun _ _ _ h => h) (by kernel_rfl) (by (intro w hSw; go_simp)) (by assumption) ?_
            simp only [List.set_cons_zero, List.set_cons_succ]
            refine takeW 9 49 (.pointer (some ⟨b, off + k * 8, none⟩)) rfl rfl (by kernel_rfl) (by kernel_rfl) (by kernel_rfl) (fun _ _ _ h => h) (by kernel_rfl) (by (intro Y hSw; go_simp; try omega)) (by assumption) ?_
            simp only [List.set_cons_zero, List.set_cons_succ]
            refine takeW 10 50 (.pointer (some ⟨b, off + k * 8 + 7, none⟩)) rfl rfl (by kernel_rfl) (by kernel_rfl) (by kernel_rfl) (fun _ _ _ h => h) (by kernel_rfl) (by (intro w hSw; go_simp)) (by assumption) ?_
            simp only [List.set_cons_zero, List.set_cons_succ]
            refine takeW 11 51 (.bool hon) rfl rfl (by kernel_rfl) (by kernel_rfl) (by kernel_rfl) (fun _ _ _ h => h) (by kernel_rfl) (by (intro Y hSw; obtain ⟨_, X0, X1, X2, X3, X4, X5, X6, X7⟩ := hSw; go_simp)) (by assumption) ?_
            simp only [List.set_cons_zero, List.set_cons_succ]
            refine takeW 12 52 (.pointer (some ⟨gg, j, none⟩)) rfl rfl (by kernel_rfl) (by kernel_rfl) (by kernel_rfl) (fun _ _ _ h => h) (by kernel_rfl) (by (intro Y hSw; go_simp; try omega)) (by assumption) ?_
            simp only [List.set_cons_zero, List.set_cons_succ]
            refine wpAnyH_all (rs := [13]) (by kernel_rfl) (by simp) ?_
            intro i hi; obtain rfl : i = 13 := by simpa using hi
            refine wpOp_step rfl (fun Kz hKz => ?_)
            rw [if_pos (by kernel_rfl)]
            have og := O.g
            rw [hgg] at og
            have cj : u4.cell? ⟨gg, j, none⟩ = some (.bool (z.ga.getD j false)) := by have h9 := og.cell boEnc_len false hj 0 _ rfl; rw [Nat.mul_one] at h9; exact h9
            have fj := og.frozen j
            go_simp
            clear cj fj og
            obtain ⟨u6, hu6⟩ : ∃ y_, y_ = u4.setCell ⟨gg, j, none⟩ (.bool hon) := ⟨_, rfl⟩
            have O6 : BxO y.heap.size u6 { z with ga := z.ga.set j hon } := by rw [hu6]; exact O.gate hgg hj hon
            have kp : ∀ g, g ≠ gg → u6.heap[g]? = u4.heap[g]? := fun g hg => by rw [hu6]; exact Below.heap_setCell _ _ _ _ hg
            have Q6 : BxB u6 q7 { z with ga := z.ga.set j hon } := by have h9 := Q.keep (kp _ (fun e => hgq e.symm)); exact ⟨⟨h9.at_.c0, h9.at_.c1, h9.at_.c2, h9.at_.c3, h9.at_.c4, h9.at_.c5, h9.at_.c6, by show _ = some (Value.slice z.aG (z.ga.set j hon).length z.cG); rw [List.length_set]; exact h9.at_.c7, h9.at_.c8, h9.at_.c9⟩, h9.fr⟩
            have NE6 : BxNe q7 { z with ga := z.ga.set j hon } := ⟨NE.t, NE.n, fun b_ e => NE.g b_ (by have e : (Value.slice z.aG (z.ga.set j hon).length z.cG).ownBlock = some b_ := e; rw [hgg] at e ⊢; exact e), NE.i, NE.s, NE.l⟩
            have K6 : Below y.heap.size y u6 := by rw [hu6]; exact KW.setCell (p := ⟨gg, j, none⟩) hgy _
            have E6 := E.keepA (kp _ (by omega))
            have s6 : u6.heap.size = u4.heap.size := by rw [hu6]; simp
            have hs6 : BxAt u6 q7 z ∧ OuAtO u6 b (off + k * 8) ⟨hk, (j : Int), hr, hc, hb, hp, hh_, hon⟩ := ⟨Q.at_.keep (kp _ (fun e => hgq e.symm)), E6⟩
            rw [← hu6]
            clear hu6 kp
            refine hKz _ _ ⟨hs6, ?_⟩
            clear hKz Kz hi
            refine wpAnyH_done (by kernel_rfl) ?_ _
            replace s6 := Nat.le_of_eq s6.symm
            have sW := Nat.lt_of_lt_of_le sW s6
            obtain ⟨zg, hzg⟩ : ∃ zg : BxD, zg = { z with ga := z.ga.set j hon } := ⟨_, rfl⟩
            rw [← hzg] at Q6 O6 NE6
            have hz2 : Hid (BxD.p { zg with sd := zg.sd ++ [(⟨hk, (j : Int), hr, hc, hb, hp, hh_, hon⟩ : Ou)] } = accK x2.p (L.take (k + 1))) := by
              unfold Hid
              rw [take_snoc hlt, hh.out, accK_snoc, ← hz.out, hg, hzg]
              rfl
            have bsz : zg.sd.length ≤ 2097152 := by rw [hzg]; exact bsz
            clear hg hzg Q O NE KW E hs0 hs6
            have Q := Q6
            have O := O6
            have NE := NE6
            have KW := K6
            have E := E6
            clear Q6 O6 NE6 K6 E6
            go_upto_region 9 with fail
            refine join_regionA (fun l l' W' => ∃ (aN : Option Addr) (cN : Nat) (us : List Value), us.length = 9 ∧ l' = l.take 53 ++ us ++ l.drop 62 ∧ BxB W' q7 { zg with sd := zg.sd ++ [(⟨hk, (j : Int), hr, hc, hb, hp, hh_, hon⟩ : Ou)], aS := aN, cS := cN } ∧ BxO y.heap.size W' { zg with sd := zg.sd ++ [(⟨hk, (j : Int), hr, hc, hb, hp, hh_, hon⟩ : Ou)], aS := aN, cS := cN } ∧ BxNe q7 { zg with sd := zg.sd ++ [(⟨hk, (j : Int), hr, hc, hb, hp, hh_, hon⟩ : Ou)], aS := aN, cS := cN } ∧ Below y.heap.size y W' ∧ q7 < W'.heap.size) ?_ ?_
            rotate_left
            · intro K2 hT3
              refine wp_region_held (S := fun Y => OuAtO Y b (off + k * 8) ⟨hk, (j : Int), hr, hc, hb, hp, hh_, hon⟩) (by kernel_rfl) ?_
              change wpAnyH _ _ _ _ _ _ _ _ (World.drew _)
              have kd : Below u6.heap.size u6 u6.drew := (Below.refl _ _).drew
              obtain ⟨u0, hu0⟩ : ∃ y_, y_ = u6.drew := ⟨_, rfl⟩
              rw [← hu0] at kd ⊢
              clear hu0
              have Q := Q.below kd Q.lt
              have O := O.later kd
              have KW := KW.trans (kd.mono KW.size)
              have E := E.belowA kd (by omega)
              have sd0 := kd.size
              clear kd
              refine takeW 0 53 (.pointer (some ⟨q7, 9, none⟩)) rfl rfl (by kernel_rfl) (by kernel_rfl) (by kernel_rfl) (fun _ _ _ h => h) (by kernel_rfl) (by (intro w hSw; go_simp)) (by assumption) ?_
              simp only [List.set_cons_zero, List.set_cons_succ]
              refine takeW 2 55 (.slice (some ⟨b, off, none⟩) L.length cO) rfl rfl (by kernel_rfl) (by kernel_rfl) (by kernel_rfl) (fun _ _ _ h => h) (by kernel_rfl) (by (intro w hSw; go_simp)) (by assumption) ?_
              simp only [List.set_cons_zero, List.set_cons_succ]
              refine takeW 3 56 (.int .i64 k) rfl rfl (by kernel_rfl) (by kernel_rfl) (by kernel_rfl) (fun _ _ _ h => h) (by kernel_rfl) (by (intro w hSw; go_simp)) (by assumption) ?_
              simp only [List.set_cons_zero, List.set_cons_succ]
              refine takeW 4 57 (.pointer (some ⟨b, off + k * 8, none⟩)) rfl rfl (by kernel_rfl) (by kernel_rfl) (by kernel_rfl) (fun _ _ _ h => h) (by kernel_rfl) (by (intro Y hSw; go_simp; try omega)) (by assumption) ?_
              simp only [List.set_cons_zero, List.set_cons_succ]
              refine takeW 5 58 (.agg #[.int .i64 hk, .int .i64 (j : Int), .int .i64 hr, .int .i64 hc, .int .i64 hb, .int .i64 hp, .int .i64 hh_, .bool hon]) rfl rfl (by kernel_rfl) (by kernel_rfl) (by kernel_rfl) (fun _ _ _ h => h) (by kernel_rfl) (by (intro Y hSw; obtain ⟨X0, X1, X2, X3, X4, X5, X6, X7⟩ := hSw; go_simp)) (by assumption) ?_
              simp only [List.set_cons_zero, List.set_cons_succ]
              refine wpAnyH_all (rs := [1, 6]) (by kernel_rfl) (by simp) ?_
              intro i hi; rcases (by simpa using hi : i = 1 ∨ i = 6) with rfl | rfl
              · refine wpOp_step rfl (fun Kz hKz => ?_)
                rw [if_pos (by kernel_rfl)]
                have cc := Q
                obtain ⟨⟨q0, q1, q2, q3, q4, q5, q6, q7, q8, q9⟩, qf⟩ := cc
                go_simp
                clear q0 q1 q2 q3 q4 q5 q6 q7 q8 q9 qf
                refine hKz _ _ ⟨E, ?_⟩
                clear hKz Kz hi
                refine wpAnyH_all (rs := [6]) (by kernel_rfl) (by simp) ?_
                intro i hi; obtain rfl : i = 6 := by simpa using hi
                refine wpOp_step rfl (fun Kz hKz => ?_)
                rw [if_pos (by kernel_rfl)]
                go_simp
                obtain ⟨u1_, hu1⟩ : ∃ y_, y_ = u0.alloc (Obj.cells #[.int .i64 hk, .int .i64 (j : Int), .int .i64 hr, .int .i64 hc, .int .i64 hb, .int .i64 hp, .int .i64 hh_, .bool hon] 95) := ⟨_, rfl⟩
                have V1 : FView ouEnc u1_ (some ⟨u0.heap.size, 0, none⟩) [(⟨hk, (j : Int), hr, hc, hb, hp, hh_, hon⟩ : Ou)] := by rw [hu1]; exact FView.oneO u0 _ ⟨hk, (j : Int), hr, hc, hb, hp, hh_, hon⟩
                have k1 : Below u0.heap.size u0 u1_ := by rw [hu1]; exact below_new _
                have s1_ : u0.heap.size < u1_.heap.size := by rw [hu1]; simp
                have Q := Q.below k1 Q.lt
                have O := O.later k1
                have KW := KW.trans (k1.mono KW.size)
                have E := E.belowA k1 (by omega)
                rw [← hu1]
                clear hu1 k1
                refine hKz _ _ ⟨E, ?_⟩
                clear hKz Kz hi
                refine wpAnyH_all (rs := [7]) (by kernel_rfl) (by simp) ?_
                intro i hi; obtain rfl : i = 7 := by simpa using hi
                refine wpOp_step rfl (fun Kz hKz => ?_)
                rw [if_pos (by kernel_rfl)]
                refine fapp ouEnc_len ouEnc_ones 60 _ _ 53 rfl rfl y.heap.size 95 i4 (.agg #[.int .i64 0, .int .i64 0, .int .i64 0, .int .i64 0, .int .i64 0, .int .i64 0, .int .i64 0, .bool false]) 64 Tryz.underlying53 hj4 hz40 hz41 hz42 rfl (by decide) (by decide) (.slice zg.aS zg.sd.length zg.cS) zg.sd rfl O.s (some ⟨u0.heap.size, 0, none⟩) 1 [(⟨hk, (j : Int), hr, hc, hb, hp, hh_, hon⟩ : Ou)] rfl (fun e => by cases e) V1 (by simp; omega) (by omega) ?_
                intro vN u2_ oN gN hob
                replace oN : FOwn ouEnc 8 95 y.heap.size u2_ vN (zg.sd ++ [(⟨hk, (j : Int), hr, hc, hb, hp, hh_, hon⟩ : Ou)]) := oN
                have hk2 : ∀ g, g < u1_.heap.size → (Value.slice zg.aS zg.sd.length zg.cS).ownBlock ≠ some g → u2_.heap[g]? = u1_.heap[g]? := fun g h1 h2 => gN.block g h1 (fun e => h2 e.symm)
                have Q := Q.keep (hk2 _ Q.lt (fun e => NE.s _ e rfl))
                have KW := KW.grown gN (by omega) (fun g e => (O.s.lt g e).1)
                have E := E.keepA (hk2 _ (by omega) (fun e => by have := (O.s.lt _ e).1; omega))
                have s2_ := gN.size
                obtain ⟨N, hN⟩ : ∃ N, N = zg.sd ++ [(⟨hk, (j : Int), hr, hc, hb, hp, hh_, hon⟩ : Ou)] := ⟨_, rfl⟩
                rw [← hN] at oN
                replace hN : Hid _ := hN
                obtain ⟨aN, cN, rfl⟩ := oN.open_
                have O := O.said N aN cN oN hk2
                have NE' : ∀ b_, (Value.slice aN N.length cN).ownBlock = some b_ → b_ ≠ q7 := fun b_ e => hob.elim (fun h => by rw [h] at e; exact NE.s b_ e) (fun h => by rw [h] at e; have e2 := Option.some.inj e; omega)
                clear gN hk2 hob V1
                simp only [List.set_cons_zero, List.set_cons_succ]
                refine hKz _ _ ⟨E, ?_⟩
                clear hKz Kz hi
                refine takeW 8 61 (.pointer (some ⟨q7, 9, none⟩)) rfl rfl (by kernel_rfl) (by kernel_rfl) (by kernel_rfl) (fun _ _ _ h => h) (by kernel_rfl) (by (intro w hSw; go_simp)) (by assumption) ?_
                simp only [List.set_cons_zero, List.set_cons_succ]
                refine wpAnyH_all (rs := [9]) (by kernel_rfl) (by simp) ?_
                intro i hi; obtain rfl : i = 9 := by simpa using hi
                refine wpOp_step rfl (fun Kz hKz => ?_)
                rw [if_pos (by kernel_rfl)]
                have cc := Q
                obtain ⟨⟨q0, q1, q2, q3, q4, q5, q6, q7, q8, q9⟩, qf⟩ := cc
                have f9 := qf 9
                go_simp
                clear q0 q1 q2 q3 q4 q5 q6 q7 q8 q9 qf f9
                obtain ⟨u3_, hu3⟩ : ∃ y_, y_ = u2_.setCell ⟨q7, 9, none⟩ (.slice aN N.length cN) := ⟨_, rfl⟩
                have Q3 : BxB u3_ q7 { zg with sd := N, aS := aN, cS := cN } := by rw [hu3]; exact Q.sS N aN N.length cN rfl
                have NE3 : BxNe q7 { zg with sd := N, aS := aN, cS := cN } := ⟨NE.t, NE.n, NE.g, NE.i, NE', NE.l⟩
                have kp : ∀ g, g ≠ q7 → u3_.heap[g]? = u2_.heap[g]? := fun g hg => by rw [hu3]; exact Below.heap_setCell _ _ _ _ hg
                have O3 := O.keepQ NE3 kp
                have K3' : Below y.heap.size y u3_ := by rw [hu3]; exact KW.setCell (p := ⟨q7, 9, none⟩) (by show _ ≤ q7; omega) _
                have s3_ : u3_.heap.size = u2_.heap.size := by rw [hu3]; simp
                replace s3_ := Nat.le_of_eq s3_.symm
                have E := E.keepA (kp _ (by omega))
                rw [← hu3]
                clear hu3 kp
                refine hKz _ _ ⟨E, ?_⟩
                clear hKz Kz hi
                refine wpAnyH_done (by kernel_rfl) ?_ _
                have hN9 := hN.out
                subst hN9
                exact hT3.out _ _ ⟨aN, cN, [_, _, _, _, _, _, _, _, _], rfl, rfl, Q3, O3, NE3, K3', by omega⟩
              · refine wpOp_step rfl (fun Kz hKz => ?_)
                rw [if_pos (by kernel_rfl)]
                go_simp
                obtain ⟨u1_, hu1⟩ : ∃ y_, y_ = u0.alloc (Obj.cells #[.int .i64 hk, .int .i64 (j : Int), .int .i64 hr, .int .i64 hc, .int .i64 hb, .int .i64 hp, .int .i64 hh_, .bool hon] 95) := ⟨_, rfl⟩
                have V1 : FView ouEnc u1_ (some ⟨u0.heap.size, 0, none⟩) [(⟨hk, (j : Int), hr, hc, hb, hp, hh_, hon⟩ : Ou)] := by rw [hu1]; exact FView.oneO u0 _ ⟨hk, (j : Int), hr, hc, hb, hp, hh_, hon⟩
                have k1 : Below u0.heap.size u0 u1_ := by rw [hu1]; exact below_new _
                have s1_ : u0.heap.size < u1_.heap.size := by rw [hu1]; simp
                have Q := Q.below k1 Q.lt
                have O := O.later k1
                have KW := KW.trans (k1.mono KW.size)
                have E := E.belowA k1 (by omega)
                rw [← hu1]
                clear hu1 k1
                refine hKz _ _ ⟨E, ?_⟩
                clear hKz Kz hi
                refine wpAnyH_all (rs := [1]) (by kernel_rfl) (by simp) ?_
                intro i hi; obtain rfl : i = 1 := by simpa using hi
                refine wpOp_step rfl (fun Kz hKz => ?_)
                rw [if_pos (by kernel_rfl)]
                have cc := Q
                obtain ⟨⟨q0, q1, q2, q3, q4, q5, q6, q7, q8, q9⟩, qf⟩ := cc
                go_simp
                clear q0 q1 q2 q3 q4 q5 q6 q7 q8 q9 qf
                refine hKz _ _ ⟨E, ?_⟩
                clear hKz Kz hi
                refine wpAnyH_all (rs := [7]) (by kernel_rfl) (by simp) ?_
                intro i hi; obtain rfl : i = 7 := by simpa using hi
                refine wpOp_step rfl (fun Kz hKz => ?_)
                rw [if_pos (by kernel_rfl)]
                refine fapp ouEnc_len ouEnc_ones 60 _ _ 53 rfl rfl y.heap.size 95 i4 (.agg #[.int .i64 0, .int .i64 0, .int .i64 0, .int .i64 0, .int .i64 0, .int .i64 0, .int .i64 0, .bool false]) 64 Tryz.underlying53 hj4 hz40 hz41 hz42 rfl (by decide) (by decide) (.slice zg.aS zg.sd.length zg.cS) zg.sd rfl O.s (some ⟨u0.heap.size, 0, none⟩) 1 [(⟨hk, (j : Int), hr, hc, hb, hp, hh_, hon⟩ : Ou)] rfl (fun e => by cases e) V1 (by simp; omega) (by omega) ?_
                intro vN u2_ oN gN hob
                replace oN : FOwn ouEnc 8 95 y.heap.size u2_ vN (zg.sd ++ [(⟨hk, (j : Int), hr, hc, hb, hp, hh_, hon⟩ : Ou)]) := oN
                have hk2 : ∀ g, g < u1_.heap.size → (Value.slice zg.aS zg.sd.length zg.cS).ownBlock ≠ some g → u2_.heap[g]? = u1_.heap[g]? := fun g h1 h2 => gN.block g h1 (fun e => h2 e.symm)
                have Q := Q.keep (hk2 _ Q.lt (fun e => NE.s _ e rfl))
                have KW := KW.grown gN (by omega) (fun g e => (O.s.lt g e).1)
                have E := E.keepA (hk2 _ (by omega) (fun e => by have := (O.s.lt _ e).1; omega))
                have s2_ := gN.size
                obtain ⟨N, hN⟩ : ∃ N, N = zg.sd ++ [(⟨hk, (j : Int), hr, hc, hb, hp, hh_, hon⟩ : Ou)] := ⟨_, rfl⟩
                rw [← hN] at oN
                replace hN : Hid _ := hN
                obtain ⟨aN, cN, rfl⟩ := oN.open_
                have O := O.said N aN cN oN hk2
                have NE' : ∀ b_, (Value.slice aN N.length cN).ownBlock = some b_ → b_ ≠ q7 := fun b_ e => hob.elim (fun h => by rw [h] at e; exact NE.s b_ e) (fun h => by rw [h] at e; have e2 := Option.some.inj e; omega)
                clear gN hk2 hob V1
                simp only [List.set_cons_zero, List.set_cons_succ]
                refine hKz _ _ ⟨E, ?_⟩
                clear hKz Kz hi
                refine takeW 8 61 (.pointer (some ⟨q7, 9, none⟩)) rfl rfl (by kernel_rfl) (by kernel_rfl) (by kernel_rfl) (fun _ _ _ h => h) (by kernel_rfl) (by (intro w hSw; go_simp)) (by assumption) ?_
                simp only [List.set_cons_zero, List.set_cons_succ]
                refine wpAnyH_all (rs := [9]) (by kernel_rfl) (by simp) ?_
                intro i hi; obtain rfl : i = 9 := by simpa using hi
                refine wpOp_step rfl (fun Kz hKz => ?_)
                rw [if_pos (by kernel_rfl)]
                have cc := Q
                obtain ⟨⟨q0, q1, q2, q3, q4, q5, q6, q7, q8, q9⟩, qf⟩ := cc
                have f9 := qf 9
                go_simp
                clear q0 q1 q2 q3 q4 q5 q6 q7 q8 q9 qf f9
                obtain ⟨u3_, hu3⟩ : ∃ y_, y_ = u2_.setCell ⟨q7, 9, none⟩ (.slice aN N.length cN) := ⟨_, rfl⟩
                have Q3 : BxB u3_ q7 { zg with sd := N, aS := aN, cS := cN } := by rw [hu3]; exact Q.sS N aN N.length cN rfl
                have NE3 : BxNe q7 { zg with sd := N, aS := aN, cS := cN } := ⟨NE.t, NE.n, NE.g, NE.i, NE', NE.l⟩
                have kp : ∀ g, g ≠ q7 → u3_.heap[g]? = u2_.heap[g]? := fun g hg => by rw [hu3]; exact Below.heap_setCell _ _ _ _ hg
                have O3 := O.keepQ NE3 kp
                have K3' : Below y.heap.size y u3_ := by rw [hu3]; exact KW.setCell (p := ⟨q7, 9, none⟩) (by show _ ≤ q7; omega) _
                have s3_ : u3_.heap.size = u2_.heap.size := by rw [hu3]; simp
                replace s3_ := Nat.le_of_eq s3_.symm
                have E := E.keepA (kp _ (by omega))
                rw [← hu3]
                clear hu3 kp
                refine hKz _ _ ⟨E, ?_⟩
                clear hKz Kz hi
                refine wpAnyH_done (by kernel_rfl) ?_ _
                have hN9 := hN.out
                subst hN9
                exact hT3.out _ _ ⟨aN, cN, [_, _, _, _, _, _, _, _, _], rfl, rfl, Q3, O3, NE3, K3', by omega⟩
            clear Q O KW E NE
            rintro l' w5 ⟨aN, cN, us, hul, rfl, Q, O, NE, KW, sW⟩
            obtain ⟨v53, us, rfl⟩ : ∃ a b, us = a :: b := List.exists_cons_of_length_eq_add_one hul
            replace hul := Nat.succ.inj hul
            obtain ⟨v54, us, rfl⟩ : ∃ a b, us = a :: b := List.exists_cons_of_length_eq_add_one hul
            replace hul := Nat.succ.inj hul
            obtain ⟨v55, us, rfl⟩ : ∃ a b, us = a :: b := List.exists_cons_of_length_eq_add_one hul
            replace hul := Nat.succ.inj hul
            obtain ⟨v56, us, rfl⟩ : ∃ a b, us = a :: b := List.exists_cons_of_length_eq_add_one hul
            replace hul := Nat.succ.inj hul
            obtain ⟨v57, us, rfl⟩ : ∃ a b, us = a :: b := List.exists_cons_of_length_eq_add_one hul
            replace hul := Nat.succ.inj hul
            obtain ⟨v58, us, rfl⟩ : ∃ a b, us = a :: b := List.exists_cons_of_length_eq_add_one hul
            replace hul := Nat.succ.inj hul
            obtain ⟨v59, us, rfl⟩ : ∃ a b, us = a :: b := List.exists_cons_of_length_eq_add_one hul
            replace hul := Nat.succ.inj hul
            obtain ⟨v60, us, rfl⟩ : ∃ a b, us = a :: b := List.exists_cons_of_length_eq_add_one hul
            replace hul := Nat.succ.inj hul
            obtain ⟨v61, us, rfl⟩ : ∃ a b, us = a :: b := List.exists_cons_of_length_eq_add_one hul
            replace hul := Nat.succ.inj hul
            obtain rfl : us = [] := List.eq_nil_of_length_eq_zero hul
            clear hul
            simp only [List.take, List.drop, List.cons_append, List.nil_append]
            obtain ⟨z5, hz5⟩ : ∃ z5 : BxD, z5 = { zg with sd := zg.sd ++ [(⟨hk, (j : Int), hr, hc, hb, hp, hh_, hon⟩ : Ou)], aS := aN, cS := cN } := ⟨_, rfl⟩
            rw [← hz5] at Q O NE
            have hP5 : Hid (z5.p = accK x2.p (L.take (k + 1))) := by unfold Hid; rw [hz5]; exact hz2.out
            clear hz5
            go_wp2
            go_roundw
            case rel => exact ⟨k + 1, z5, by omega, by go_num, hP5, Q, O, NE, KW, sW⟩
            case measure => simp [intOf]; omega
          · have hin : decide (0 ≤ hpt ∧ hpt ≤ (z.ga.length : Int) - 1) = false := decide_eq_false (by omega)
            go_upto_region 7 with fail
            refine wp_region_held (S := fun Y => Below wr.heap.size wr Y) (by kernel_rfl) ?_
            change wpAnyH _ _ _ _ _ _ _ _ (World.drew _)
            have hb0 : Below wr.heap.size wr wr.drew := (Below.refl _ _).drew
            obtain ⟨u0, hu0⟩ : ∃ y_, y_ = wr.drew := ⟨_, rfl⟩
            rw [← hu0] at hb0 ⊢
            clear hu0
            refine takeW 0 22 (.slice (some ⟨b, off, none⟩) L.length cO) rfl rfl (by kernel_rfl) (by kernel_rfl) (by kernel_rfl) (fun _ _ _ h => h) (by kernel_rfl) (by (intro w hSw; go_simp)) (by assumption) ?_
            simp only [List.set_cons_zero, List.set_cons_succ]
            refine takeW 1 23 (.int .i64 k) rfl rfl (by kernel_rfl) (by kernel_rfl) (by kernel_rfl) (fun _ _ _ h => h) (by kernel_rfl) (by (intro w hSw; go_simp)) (by assumption) ?_
            simp only [List.set_cons_zero, List.set_cons_succ]
            refine takeW 2 24 (.pointer (some ⟨b, off + k * 8, none⟩)) rfl rfl (by kernel_rfl) (by kernel_rfl) (by kernel_rfl) (fun _ _ _ h => h) (by kernel_rfl) (by (intro Y hSw; go_simp; try omega)) (by assumption) ?_
            simp only [List.set_cons_zero, List.set_cons_succ]
            refine takeW 3 25 (.pointer (some ⟨b, off + k * 8, none⟩)) rfl rfl (by kernel_rfl) (by kernel_rfl) (by kernel_rfl) (fun _ _ _ h => h) (by kernel_rfl) (by (intro w hSw; go_simp)) (by assumption) ?_
            simp only [List.set_cons_zero, List.set_cons_succ]
            refine takeW 4 26 (.int .i64 hk) rfl rfl (by kernel_rfl) (by kernel_rfl) (by kernel_rfl) (fun _ _ _ h => h) (by kernel_rfl) (by (intro Y hSw; obtain ⟨X0, X1, X2, X3, X4, X5, X6, X7⟩ := (E.belowA hSw (by omega)); go_simp)) (by assumption) ?_
            simp only [List.set_cons_zero, List.set_cons_succ]
            refine takeW 5 27 (.bool true) rfl rfl (by kernel_rfl) (by kernel_rfl) (by kernel_rfl) (fun _ _ _ h => h) (by kernel_rfl) (by (intro w hSw; go_simp)) (by assumption) ?_
            simp only [List.set_cons_zero, List.set_cons_succ]
            refine takeW 6 28 (.bool true) rfl rfl (by kernel_rfl) (by kernel_rfl) (by kernel_rfl) (fun _ _ _ h => h) (by kernel_rfl) (by (intro w hSw; go_simp)) (by assumption) ?_
            simp only [List.set_cons_zero, List.set_cons_succ]
            refine takeW 7 29 (.slice (some ⟨b, off, none⟩) L.length cO) rfl rfl (by kernel_rfl) (by kernel_rfl) (by kernel_rfl) (fun _ _ _ h => h) (by kernel_rfl) (by (intro w hSw; go_simp)) (by assumption) ?_
            simp only [List.set_cons_zero, List.set_cons_succ]
            refine takeW 8 30 (.int .i64 k) rfl rfl (by kernel_rfl) (by kernel_rfl) (by kernel_rfl) (fun _ _ _ h => h) (by kernel_rfl) (by (intro w hSw; go_simp)) (by assumption) ?_
            simp only [List.set_cons_zero, List.set_cons_succ]
            refine takeW 9 31 (.pointer (some ⟨b, off + k * 8, none⟩)) rfl rfl (by kernel_rfl) (by kernel_rfl) (by kernel_rfl) (fun _ _ _ h => h) (by kernel_rfl) (by (intro Y hSw; go_simp; try omega)) (by assumption) ?_
            simp only [List.set_cons_zero, List.set_cons_succ]
            refine takeW 10 32 (.pointer (some ⟨b, off + k * 8 + 1, none⟩)) rfl rfl (by kernel_rfl) (by kernel_rfl) (by kernel_rfl) (fun _ _ _ h => h) (by kernel_rfl) (by (intro w hSw; go_simp)) (by assumption) ?_
            simp only [List.set_cons_zero, List.set_cons_succ]
            refine takeW 11 33 (.int .i64 hpt) rfl rfl (by kernel_rfl) (by kernel_rfl) (by kernel_rfl) (fun _ _ _ h => h) (by kernel_rfl) (by (intro Y hSw; obtain ⟨X0, X1, X2, X3, X4, X5, X6, X7⟩ := (E.belowA hSw (by omega)); go_simp)) (by assumption) ?_
            simp only [List.set_cons_zero, List.set_cons_succ]
            refine takeW 12 34 (.pointer (some ⟨q7, 7, none⟩)) rfl rfl (by kernel_rfl) (by kernel_rfl) (by kernel_rfl) (fun _ _ _ h => h) (by kernel_rfl) (by (intro w hSw; go_simp)) (by assumption) ?_
            simp only [List.set_cons_zero, List.set_cons_succ]
            refine takeW 13 35 (.slice z.aG z.ga.length z.cG) rfl rfl (by kernel_rfl) (by kernel_rfl) (by kernel_rfl) (fun _ _ _ h => h) (by kernel_rfl) (by (intro Y hSw; obtain ⟨⟨X0, X1, X2, X3, X4, X5, X6, X7, X8, X9⟩, _⟩ := (Q.below hSw Q.lt); go_simp)) (by assumption) ?_
            simp only [List.set_cons_zero, List.set_cons_succ]
            refine takeW 14 36 (.int .i64 (z.ga.length : Int)) rfl rfl (by kernel_rfl) (by kernel_rfl) (by kernel_rfl) (fun _ _ _ h => h) (by kernel_rfl) (by (intro w hSw; go_simp)) (by assumption) ?_
            simp only [List.set_cons_zero, List.set_cons_succ]
            refine takeW 15 37 (.int .i64 ((z.ga.length : Int) - 1)) rfl rfl (by kernel_rfl) (by kernel_rfl) (by kernel_rfl) (fun _ _ _ h => h) (by kernel_rfl) (by (intro Y hSw; go_simp)) (by assumption) ?_
            simp only [List.set_cons_zero, List.set_cons_succ]
            refine wpAnyH_all (rs := [16]) (by kernel_rfl) (by simp) ?_
            intro i hi; obtain rfl : i = 16 := by simpa using hi
            refine wpOp_step rfl (fun Kz hKz => ?_)
            rw [if_pos (by kernel_rfl)]
            go_simp
            go_at_call 43
            refine (inB hpt 0 ((z.ga.length : Int) - 1) u0).mono ?_
            rintro e u9 ⟨rfl, hw_⟩
            rw [hw_]
            clear hw_
            rw [hin]
            refine hKz _ _ ⟨hb0, ?_⟩
            clear hKz Kz hi
            refine takeW 17 39 (.bool false) rfl rfl (by kernel_rfl) (by kernel_rfl) (by kernel_rfl) (fun _ _ _ h => h) (by kernel_rfl) (by (intro w hSw; go_simp)) (by assumption) ?_
            simp only [List.set_cons_zero, List.set_cons_succ]
            refine wpAnyH_done (by kernel_rfl) ?_ _
            have Q := Q.below hb0 Q.lt
            have O := O.later hb0
            have KW := KW.trans (hb0.mono KW.size)
            have E := E.belowA hb0 (by omega)
            have sW := Nat.lt_of_lt_of_le sW hb0.size
            clear hb0
            have hg : gateX z.p.ga (⟨hk, hpt, hr, hc, hb, hp, hh_, hon⟩ : Ou) = z.p.ga := if_neg (fun h => e3 ⟨h.2.1, h.2.2⟩)
            have hz2 : Hid (BxD.p { z with sd := z.sd ++ [(⟨hk, hpt, hr, hc, hb, hp, hh_, hon⟩ : Ou)] } = accK x2.p (L.take (k + 1))) := by
              unfold Hid
              rw [take_snoc hlt, hh.out, accK_snoc, ← hz.out]
              rw [hg]
              rfl
            clear hg hin d2
            replace e2 : Hid _ := e2
            replace e3 : Hid _ := e3
            go_upto_region 9 with fail
            refine join_regionA (fun l l' W' => ∃ (aN : Option Addr) (cN : Nat) (us : List Value), us.length = 9 ∧ l' = l.take 53 ++ us ++ l.drop 62 ∧ BxB W' q7 { z with sd := z.sd ++ [(⟨hk, hpt, hr, hc, hb, hp, hh_, hon⟩ : Ou)], aS := aN, cS := cN } ∧ BxO y.heap.size W' { z with sd := z.sd ++ [(⟨hk, hpt, hr, hc, hb, hp, hh_, hon⟩ : Ou)], aS := aN, cS := cN } ∧ BxNe q7 { z with sd := z.sd ++ [(⟨hk, hpt, hr, hc, hb, hp, hh_, hon⟩ : Ou)], aS := aN, cS := cN } ∧ Below y.heap.size y W' ∧ q7 < W'.heap.size) ?_ ?_
            rotate_left
            · intro K2 hT3
              refine wp_region_held (S := fun Y => OuAtO Y b (off + k * 8) ⟨hk, hpt, hr, hc, hb, hp, hh_, hon⟩) (by kernel_rfl) ?_
              change wpAnyH _ _ _ _ _ _ _ _ (World.drew _)
              have kd : Below u0.heap.size u0 u0.drew := (Below.refl _ _).drew
              obtain ⟨u0, hu0⟩ : ∃ y_, y_ = u0.drew := ⟨_, rfl⟩
              rw [← hu0] at kd ⊢
              clear hu0
              have Q := Q.below kd Q.lt
              have O := O.later kd
              have KW := KW.trans (kd.mono KW.size)
              have E := E.belowA kd (by omega)
              have sd0 := kd.size
              clear kd
              refine takeW 0 53 (.pointer (some ⟨q7, 9, none⟩)) rfl rfl (by kernel_rfl) (by kernel_rfl) (by kernel_rfl) (fun _ _ _ h => h) (by kernel_rfl) (by (intro w hSw; go_simp)) (by assumption) ?_
              simp only [List.set_cons_zero, List.set_cons_succ]
              refine takeW 2 55 (.slice (some ⟨b, off, none⟩) L.length cO) rfl rfl (by kernel_rfl) (by kernel_rfl) (by kernel_rfl) (fun _ _ _ h => h) (by kernel_rfl) (by (intro w hSw; go_simp)) (by assumption) ?_
              simp only [List.set_cons_zero, List.set_cons_succ]
              refine takeW 3 56 (.int .i64 k) rfl rfl (by kernel_rfl) (by kernel_rfl) (by kernel_rfl) (fun _ _ _ h => h) (by kernel_rfl) (by (intro w hSw; go_simp)) (by assumption) ?_
              simp only [List.set_cons_zero, List.set_cons_succ]
              refine takeW 4 57 (.pointer (some ⟨b, off + k * 8, none⟩)) rfl rfl (by kernel_rfl) (by kernel_rfl) (by kernel_rfl) (fun _ _ _ h => h) (by kernel_rfl) (by (intro Y hSw; go_simp; try omega)) (by assumption) ?_
              simp only [List.set_cons_zero, List.set_cons_succ]
              refine takeW 5 58 (.agg #[.int .i64 hk, .int .i64 hpt, .int .i64 hr, .int .i64 hc, .int .i64 hb, .int .i64 hp, .int .i64 hh_, .bool hon]) rfl rfl (by kernel_rfl) (by kernel_rfl) (by kernel_rfl) (fun _ _ _ h => h) (by kernel_rfl) (by (intro Y hSw; obtain ⟨X0, X1, X2, X3, X4, X5, X6, X7⟩ := hSw; go_simp)) (by assumption) ?_
              simp only [List.set_cons_zero, List.set_cons_succ]
              refine wpAnyH_all (rs := [1, 6]) (by kernel_rfl) (by simp) ?_
              intro i hi; rcases (by simpa using hi : i = 1 ∨ i = 6) with rfl | rfl
              · refine wpOp_step rfl (fun Kz hKz => ?_)
                rw [if_pos (by kernel_rfl)]
                have cc := Q
                obtain ⟨⟨q0, q1, q2, q3, q4, q5, q6, q7, q8, q9⟩, qf⟩ := cc
                go_simp
                clear q0 q1 q2 q3 q4 q5 q6 q7 q8 q9 qf
                refine hKz _ _ ⟨E, ?_⟩
                clear hKz Kz hi
                refine wpAnyH_all (rs := [6]) (by kernel_rfl) (by simp) ?_
                intro i hi; obtain rfl : i = 6 := by simpa using hi
                refine wpOp_step rfl (fun Kz hKz => ?_)
                rw [if_pos (by kernel_rfl)]
                go_simp
                obtain ⟨u1_, hu1⟩ : ∃ y_, y_ = u0.alloc (Obj.cells #[.int .i64 hk, .int .i64 hpt, .int .i64 hr, .int .i64 hc, .int .i64 hb, .int .i64 hp, .int .i64 hh_, .bool hon] 95) := ⟨_, rfl⟩
                have V1 : FView ouEnc u1_ (some ⟨u0.heap.size, 0, none⟩) [(⟨hk, hpt, hr, hc, hb, hp, hh_, hon⟩ : Ou)] := by rw [hu1]; exact FView.oneO u0 _ ⟨hk, hpt, hr, hc, hb, hp, hh_, hon⟩
                have k1 : Below u0.heap.size u0 u1_ := by rw [hu1]; exact below_new _
                have s1_ : u0.heap.size < u1_.heap.size := by rw [hu1]; simp
                have Q := Q.below k1 Q.lt
                have O := O.later k1
                have KW := KW.trans (k1.mono KW.size)
                have E := E.belowA k1 (by omega)
                rw [← hu1]
                clear hu1 k1
                refine hKz _ _ ⟨E, ?_⟩
                clear hKz Kz hi
                refine wpAnyH_all (rs := [7]) (by kernel_rfl) (by simp) ?_
                intro i hi; obtain rfl : i = 7 := by simpa using hi
                refine wpOp_step rfl (fun Kz hKz => ?_)
                rw [if_pos (by kernel_rfl)]
                refine fapp ouEnc_len ouEnc_ones 60 _ _ 53 rfl rfl y.heap.size 95 i4 (.agg #[.int .i64 0, .int .i64 0, .int .i64 0, .int .i64 0, .int .i64 0, .int .i64 0, .int .i64 0, .bool false]) 64 Tryz.underlying53 hj4 hz40 hz41 hz42 rfl (by decide) (by decide) (.slice z.aS z.sd.length z.cS) z.sd rfl O.s (some ⟨u0.heap.size, 0, none⟩) 1 [(⟨hk, hpt, hr, hc, hb, hp, hh_, hon⟩ : Ou)] rfl (fun e => by cases e) V1 (by simp; omega) (by omega) ?_
                intro vN u2_ oN gN hob
                replace oN : FOwn ouEnc 8 95 y.heap.size u2_ vN (z.sd ++ [(⟨hk, hpt, hr, hc, hb, hp, hh_, hon⟩ : Ou)]) := oN
                have hk2 : ∀ g, g < u1_.heap.size → (Value.slice z.aS z.sd.length z.cS).ownBlock ≠ some g → u2_.heap[g]? = u1_.heap[g]? := fun g h1 h2 => gN.block g h1 (fun e => h2 e.symm)
                have Q := Q.keep (hk2 _ Q.lt (fun e => NE.s _ e rfl))
                have KW := KW.grown gN (by omega) (fun g e => (O.s.lt g e).1)
                have E := E.keepA (hk2 _ (by omega) (fun e => by have := (O.s.lt _ e).1; omega))
                have s2_ := gN.size
                obtain ⟨N, hN⟩ : ∃ N, N = z.sd ++ [(⟨hk, hpt, hr, hc, hb, hp, hh_, hon⟩ : Ou)] := ⟨_, rfl⟩
                rw [← hN] at oN
                replace hN : Hid _ := hN
                obtain ⟨aN, cN, rfl⟩ := oN.open_
                have O := O.said N aN cN oN hk2
                have NE' : ∀ b_, (Value.slice aN N.length cN).ownBlock = some b_ → b_ ≠ q7 := fun b_ e => hob.elim (fun h => by rw [h] at e; exact NE.s b_ e) (fun h => by rw [h] at e; have e2 := Option.some.inj e; omega)
                clear gN hk2 hob V1
                simp only [List.set_cons_zero, List.set_cons_succ]
                refine hKz _ _ ⟨E, ?_⟩
                clear hKz Kz hi
                refine takeW 8 61 (.pointer (some ⟨q7, 9, none⟩)) rfl rfl (by kernel_rfl) (by kernel_rfl) (by kernel_rfl) (fun _ _ _ h => h) (by kernel_rfl) (by (intro w hSw; go_simp)) (by assumption) ?_
                simp only [List.set_cons_zero, List.set_cons_succ]
                refine wpAnyH_all (rs := [9]) (by kernel_rfl) (by simp) ?_
                intro i hi; obtain rfl : i = 9 := by simpa using hi
                refine wpOp_step rfl (fun Kz hKz => ?_)
                rw [if_pos (by kernel_rfl)]
                have cc := Q
                obtain ⟨⟨q0, q1, q2, q3, q4, q5, q6, q7, q8, q9⟩, qf⟩ := cc
                have f9 := qf 9
                go_simp
                clear q0 q1 q2 q3 q4 q5 q6 q7 q8 q9 qf f9
                obtain ⟨u3_, hu3⟩ : ∃ y_, y_ = u2_.setCell ⟨q7, 9, none⟩ (.slice aN N.length cN) := ⟨_, rfl⟩
                have Q3 : BxB u3_ q7 { z with sd := N, aS := aN, cS := cN } := by rw [hu3]; exact Q.sS N aN N.length cN rfl
                have NE3 : BxNe q7 { z with sd := N, aS := aN, cS := cN } := ⟨NE.t, NE.n, NE.g, NE.i, NE', NE.l⟩
                have kp : ∀ g, g ≠ q7 → u3_.heap[g]? = u2_.heap[g]? := fun g hg => by rw [hu3]; exact Below.heap_setCell _ _ _ _ hg
                have O3 := O.keepQ NE3 kp
                have K3' : Below y.heap.size y u3_ := by rw [hu3]; exact KW.setCell (p := ⟨q7, 9, none⟩) (by show _ ≤ q7; omega) _
                have s3_ : u3_.heap.size = u2_.heap.size := by rw [hu3]; simp
                replace s3_ := Nat.le_of_eq s3_.symm
                have E := E.keepA (kp _ (by omega))
                rw [← hu3]
                clear hu3 kp
                refine hKz _ _ ⟨E, ?_⟩
                clear hKz Kz hi
                refine wpAnyH_done (by kernel_rfl) ?_ _
                have hN9 := hN.out
                subst hN9
                exact hT3.out _ _ ⟨aN, cN, [_, _, _, _, _, _, _, _, _], rfl, rfl, Q3, O3, NE3, K3', by omega⟩
              · refine wpOp_step rfl (fun Kz hKz => ?_)
                rw [if_pos (by kernel_rfl)]
                go_simp
                obtain ⟨u1_, hu1⟩ : ∃ y_, y_ = u0.alloc (Obj.cells #[.int .i64 hk, .int .i64 hpt, .int .i64 hr, .int .i64 hc, .int .i64 hb, .int .i64 hp, .int .i64 hh_, .bool hon] 95) := ⟨_, rfl⟩
                have V1 : FView ouEnc u1_ (some ⟨u0.heap.size, 0, none⟩) [(⟨hk, hpt, hr, hc, hb, hp, hh_, hon⟩ : Ou)] := by rw [hu1]; exact FView.oneO u0 _ ⟨hk, hpt, hr, hc, hb, hp, hh_, hon⟩
                have k1 : Below u0.heap.size u0 u1_ := by rw [hu1]; exact below_new _
                have s1_ : u0.heap.size < u1_.heap.size := by rw [hu1]; simp
                have Q := Q.below k1 Q.lt
                have O := O.later k1
                have KW := KW.trans (k1.mono KW.size)
                have E := E.belowA k1 (by omega)
                rw [← hu1]
                clear hu1 k1
                refine hKz _ _ ⟨E, ?_⟩
                clear hKz Kz hi
                refine wpAnyH_all (rs := [1]) (by kernel_rfl) (by simp) ?_
                intro i hi; obtain rfl : i = 1 := by simpa using hi
                refine wpOp_step rfl (fun Kz hKz => ?_)
                rw [if_pos (by kernel_rfl)]
                have cc := Q
                obtain ⟨⟨q0, q1, q2, q3, q4, q5, q6, q7, q8, q9⟩, qf⟩ := cc
                go_simp
                clear q0 q1 q2 q3 q4 q5 q6 q7 q8 q9 qf
                refine hKz _ _ ⟨E, ?_⟩
                clear hKz Kz hi
                refine wpAnyH_all (rs := [7]) (by kernel_rfl) (by simp) ?_
                intro i hi; obtain rfl : i = 7 := by simpa using hi
                refine wpOp_step rfl (fun Kz hKz => ?_)
                rw [if_pos (by kernel_rfl)]
                refine fapp ouEnc_len ouEnc_ones 60 _ _ 53 rfl rfl y.heap.size 95 i4 (.agg #[.int .i64 0, .int .i64 0, .int .i64 0, .int .i64 0, .int .i64 0, .int .i64 0, .int .i64 0, .bool false]) 64 Tryz.underlying53 hj4 hz40 hz41 hz42 rfl (by decide) (by decide) (.slice z.aS z.sd.length z.cS) z.sd rfl O.s (some ⟨u0.heap.size, 0, none⟩) 1 [(⟨hk, hpt, hr, hc, hb, hp, hh_, hon⟩ : Ou)] rfl (fun e => by cases e) V1 (by simp; omega) (by omega) ?_
                intro vN u2_ oN gN hob
                replace oN : FOwn ouEnc 8 95 y.heap.size u2_ vN (z.sd ++ [(⟨hk, hpt, hr, hc, hb, hp, hh_, hon⟩ : Ou)]) := oN
                have hk2 : ∀ g, g < u1_.heap.size → (Value.slice z.aS z.sd.length z.cS).ownBlock ≠ some g → u2_.heap[g]? = u1_.heap[g]? := fun g h1 h2 => gN.block g h1 (fun e => h2 e.symm)
                have Q := Q.keep (hk2 _ Q.lt (fun e => NE.s _ e rfl))
                have KW := KW.grown gN (by omega) (fun g e => (O.s.lt g e).1)
                have E := E.keepA (hk2 _ (by omega) (fun e => by have := (O.s.lt _ e).1; omega))
                have s2_ := gN.size
                obtain ⟨N, hN⟩ : ∃ N, N = z.sd ++ [(⟨hk, hpt, hr, hc, hb, hp, hh_, hon⟩ : Ou)] := ⟨_, rfl⟩
                rw [← hN] at oN
                replace hN : Hid _ := hN
                obtain ⟨aN, cN, rfl⟩ := oN.open_
                have O := O.said N aN cN oN hk2
                have NE' : ∀ b_, (Value.slice aN N.length cN).ownBlock = some b_ → b_ ≠ q7 := fun b_ e => hob.elim (fun h => by rw [h] at e; exact NE.s b_ e) (fun h => by rw [h] at e; have e2 := Option.some.inj e; omega)
                clear gN hk2 hob V1
                simp only [List.set_cons_zero, List.set_cons_succ]
                refine hKz _ _ ⟨E, ?_⟩
                clear hKz Kz hi
                refine takeW 8 61 (.pointer (some ⟨q7, 9, none⟩)) rfl rfl (by kernel_rfl) (by kernel_rfl) (by kernel_rfl) (fun _ _ _ h => h) (by kernel_rfl) (by (intro w hSw; go_simp)) (by assumption) ?_
                simp only [List.set_cons_zero, List.set_cons_succ]
                refine wpAnyH_all (rs := [9]) (by kernel_rfl) (by simp) ?_
                intro i hi; obtain rfl : i = 9 := by simpa using hi
                refine wpOp_step rfl (fun Kz hKz => ?_)
                rw [if_pos (by kernel_rfl)]
                have cc := Q
                obtain ⟨⟨q0, q1, q2, q3, q4, q5, q6, q7, q8, q9⟩, qf⟩ := cc
                have f9 := qf 9
                go_simp
                clear q0 q1 q2 q3 q4 q5 q6 q7 q8 q9 qf f9
                obtain ⟨u3_, hu3⟩ : ∃ y_, y_ = u2_.setCell ⟨q7, 9, none⟩ (.slice aN N.length cN) := ⟨_, rfl⟩
                have Q3 : BxB u3_ q7 { z with sd := N, aS := aN, cS := cN } := by rw [hu3]; exact Q.sS N aN N.length cN rfl
                have NE3 : BxNe q7 { z with sd := N, aS := aN, cS := cN } := ⟨NE.t, NE.n, NE.g, NE.i, NE', NE.l⟩
                have kp : ∀ g, g ≠ q7 → u3_.heap[g]? = u2_.heap[g]? := fun g hg => by rw [hu3]; exact Below.heap_setCell _ _ _ _ hg
                have O3 := O.keepQ NE3 kp
                have K3' : Below y.heap.size y u3_ := by rw [hu3]; exact KW.setCell (p := ⟨q7, 9, none⟩) (by show _ ≤ q7; omega) _
                have s3_ : u3_.heap.size = u2_.heap.size := by rw [hu3]; simp
                replace s3_ := Nat.le_of_eq s3_.symm
                have E := E.keepA (kp _ (by omega))
                rw [← hu3]
                clear hu3 kp
                refine hKz _ _ ⟨E, ?_⟩
                clear hKz Kz hi
                refine wpAnyH_done (by kernel_rfl) ?_ _
                have hN9 := hN.out
                subst hN9
                exact hT3.out _ _ ⟨aN, cN, [_, _, _, _, _, _, _, _, _], rfl, rfl, Q3, O3, NE3, K3', by omega⟩
            clear Q O KW E NE
            rintro l' w5 ⟨aN, cN, us, hul, rfl, Q, O, NE, KW, sW⟩
            obtain ⟨v53, us, rfl⟩ : ∃ a b, us = a :: b := List.exists_cons_of_length_eq_add_one hul
            replace hul := Nat.succ.inj hul
            obtain ⟨v54, us, rfl⟩ : ∃ a b, us = a :: b := List.exists_cons_of_length_eq_add_one hul
            replace hul := Nat.succ.inj hul
            obtain ⟨v55, us, rfl⟩ : ∃ a b, us = a :: b := List.exists_cons_of_length_eq_add_one hul
            replace hul := Nat.succ.inj hul
            obtain ⟨v56, us, rfl⟩ : ∃ a b, us = a :: b := List.exists_cons_of_length_eq_add_one hul
            replace hul := Nat.succ.inj hul
            obtain ⟨v57, us, rfl⟩ : ∃ a b, us = a :: b := List.exists_cons_of_length_eq_add_one hul
            replace hul := Nat.succ.inj hul
            obtain ⟨v58, us, rfl⟩ : ∃ a b, us = a :: b := List.exists_cons_of_length_eq_add_one hul
            replace hul := Nat.succ.inj hul
            obtain ⟨v59, us, rfl⟩ : ∃ a b, us = a :: b := List.exists_cons_of_length_eq_add_one hul
            replace hul := Nat.succ.inj hul
            obtain ⟨v60, us, rfl⟩ : ∃ a b, us = a :: b := List.exists_cons_of_length_eq_add_one hul
            replace hul := Nat.succ.inj hul
            obtain ⟨v61, us, rfl⟩ : ∃ a b, us = a :: b := List.exists_cons_of_length_eq_add_one hul
            replace hul := Nat.succ.inj hul
            obtain rfl : us = [] := List.eq_nil_of_length_eq_zero hul
            clear hul
            simp only [List.take, List.drop, List.cons_append, List.nil_append]
            obtain ⟨z5, hz5⟩ : ∃ z5 : BxD, z5 = { z with sd := z.sd ++ [(⟨hk, hpt, hr, hc, hb, hp, hh_, hon⟩ : Ou)], aS := aN, cS := cN } := ⟨_, rfl⟩
            rw [← hz5] at Q O NE
            have hP5 : Hid (z5.p = accK x2.p (L.take (k + 1))) := by unfold Hid; rw [hz5]; exact hz2.out
            clear hz5
            go_wp2
            go_roundw
            case rel => exact ⟨k + 1, z5, by omega, by go_num, hP5, Q, O, NE, KW, sW⟩
            case measure => simp [intOf]; omega
        · have d2 : (hk == 2) = false := by simpa using e2
          go_upto_region 7 with fail
          refine wp_region_held (S := fun Y => Below wr.heap.size wr Y) (by kernel_rfl) ?_
          change wpAnyH _ _ _ _ _ _ _ _ (World.drew _)
          have hb0 : Below wr.heap.size wr wr.drew := (Below.refl _ _).drew
          obtain ⟨u0, hu0⟩ : ∃ y_, y_ = wr.drew := ⟨_, rfl⟩
          rw [← hu0] at hb0 ⊢
          clear hu0
          refine takeW 0 22 (.slice (some ⟨b, off, none⟩) L.length cO) rfl rfl (by kernel_rfl) (by kernel_rfl) (by kernel_rfl) (fun _ _ _ h => h) (by kernel_rfl) (by (intro w hSw; go_simp)) (by assumption) ?_
          simp only [List.set_cons_zero, List.set_cons_succ]
          refine takeW 1 23 (.int .i64 k) rfl rfl (by kernel_rfl) (by kernel_rfl) (by kernel_rfl) (fun _ _ _ h => h) (by kernel_rfl) (by (intro w hSw; go_simp)) (by assumption) ?_
          simp only [List.set_cons_zero, List.set_cons_succ]
          refine takeW 2 24 (.pointer (some ⟨b, off + k * 8, none⟩)) rfl rfl (by kernel_rfl) (by kernel_rfl) (by kernel_rfl) (fun _ _ _ h => h) (by kernel_rfl) (by (intro Y hSw; go_simp; try omega)) (by assumption) ?_
          simp only [List.set_cons_zero, List.set_cons_succ]
          refine takeW 3 25 (.pointer (some ⟨b, off + k * 8, none⟩)) rfl rfl (by kernel_rfl) (by kernel_rfl) (by kernel_rfl) (fun _ _ _ h => h) (by kernel_rfl) (by (intro w hSw; go_simp)) (by assumption) ?_
          simp only [List.set_cons_zero, List.set_cons_succ]
          refine takeW 4 26 (.int .i64 hk) rfl rfl (by kernel_rfl) (by kernel_rfl) (by kernel_rfl) (fun _ _ _ h => h) (by kernel_rfl) (by (intro Y hSw; obtain ⟨X0, X1, X2, X3, X4, X5, X6, X7⟩ := (E.belowA hSw (by omega)); go_simp)) (by assumption) ?_
          simp only [List.set_cons_zero, List.set_cons_succ]
          refine takeW 5 27 (.bool false) rfl rfl (by kernel_rfl) (by kernel_rfl) (by kernel_rfl) (fun _ _ _ h => h) (by kernel_rfl) (by (intro w hSw; go_simp)) (by assumption) ?_
          simp only [List.set_cons_zero, List.set_cons_succ]
          refine takeW 6 28 (.bool false) rfl rfl (by kernel_rfl) (by kernel_rfl) (by kernel_rfl) (fun _ _ _ h => h) (by kernel_rfl) (by (intro w hSw; go_simp)) (by assumption) ?_
          simp only [List.set_cons_zero, List.set_cons_succ]
          refine takeS 7 29 rfl rfl (by kernel_rfl) (by kernel_rfl) (by kernel_rfl) (fun _ _ _ h => h) (by kernel_rfl) (by assumption) ?_
          simp only [List.set_cons_zero, List.set_cons_succ]
          refine takeS 8 30 rfl rfl (by kernel_rfl) (by kernel_rfl) (by kernel_rfl) (fun _ _ _ h => h) (by kernel_rfl) (by assumption) ?_
          simp only [List.set_cons_zero, List.set_cons_succ]
          refine takeS 9 31 rfl rfl (by kernel_rfl) (by kernel_rfl) (by kernel_rfl) (fun _ _ _ h => h) (by kernel_rfl) (by assumption) ?_
          simp only [List.set_cons_zero, List.set_cons_succ]
          refine takeS 10 32 rfl rfl (by kernel_rfl) (by kernel_rfl) (by kernel_rfl) (fun _ _ _ h => h) (by kernel_rfl) (by assumption) ?_
          simp only [List.set_cons_zero, List.set_cons_succ]
          refine takeS 11 33 rfl rfl (by kernel_rfl) (by kernel_rfl) (by kernel_rfl) (fun _ _ _ h => h) (by kernel_rfl) (by assumption) ?_
          simp only [List.set_cons_zero, List.set_cons_succ]
          refine takeS 12 34 rfl rfl (by kernel_rfl) (by kernel_rfl) (by kernel_rfl) (fun _ _ _ h => h) (by kernel_rfl) (by assumption) ?_
          simp only [List.set_cons_zero, List.set_cons_succ]
          refine takeS 13 35 rfl rfl (by kernel_rfl) (by kernel_rfl) (by kernel_rfl) (fun _ _ _ h => h) (by kernel_rfl) (by assumption) ?_
          simp only [List.set_cons_zero, List.set_cons_succ]
          refine takeS 14 36 rfl rfl (by kernel_rfl) (by kernel_rfl) (by kernel_rfl) (fun _ _ _ h => h) (by kernel_rfl) (by assumption) ?_
          simp only [List.set_cons_zero, List.set_cons_succ]
          refine takeS 15 37 rfl rfl (by kernel_rfl) (by kernel_rfl) (by kernel_rfl) (fun _ _ _ h => h) (by kernel_rfl) (by assumption) ?_
          simp only [List.set_cons_zero, List.set_cons_succ]
          refine takeS 16 38 rfl rfl (by kernel_rfl) (by kernel_rfl) (by kernel_rfl) (fun _ _ _ h => h) (by kernel_rfl) (by assumption) ?_
          simp only [List.set_cons_zero, List.set_cons_succ]
          refine takeW 17 39 (.bool false) rfl rfl (by kernel_rfl) (by kernel_rfl) (by kernel_rfl) (fun _ _ _ h => h) (by kernel_rfl) (by (intro w hSw; go_simp)) (by assumption) ?_
          simp only [List.set_cons_zero, List.set_cons_succ]
          refine wpAnyH_done (by kernel_rfl) ?_ _
          have Q := Q.below hb0 Q.lt
          have O := O.later hb0
          have KW := KW.trans (hb0.mono KW.size)
          have E := E.belowA hb0 (by omega)
          have sW := Nat.lt_of_lt_of_le sW hb0.size
          clear hb0
          have hg : gateX z.p.ga (⟨hk, hpt, hr, hc, hb, hp, hh_, hon⟩ : Ou) = z.p.ga := if_neg (fun h => e2 h.1)
          have hz2 : Hid (BxD.p { z with sd := z.sd ++ [(⟨hk, hpt, hr, hc, hb, hp, hh_, hon⟩ : Ou)] } = accK x2.p (L.take (k + 1))) := by
            unfold Hid
            rw [take_snoc hlt, hh.out, accK_snoc, ← hz.out]
            rw [hg]
            rfl
          clear hg d2
          replace e2 : Hid _ := e2
          go_upto_region 9 with fail
          refine join_regionA (fun l l' W' => ∃ (aN : Option Addr) (cN : Nat) (us : List Value), us.length = 9 ∧ l' = l.take 53 ++ us ++ l.drop 62 ∧ BxB W' q7 { z with sd := z.sd ++ [(⟨hk, hpt, hr, hc, hb, hp, hh_, hon⟩ : Ou)], aS := aN, cS := cN } ∧ BxO y.heap.size W' { z with sd := z.sd ++ [(⟨hk, hpt, hr, hc, hb, hp, hh_, hon⟩ : Ou)], aS := aN, cS := cN } ∧ BxNe q7 { z with sd := z.sd ++ [(⟨hk, hpt, hr, hc, hb, hp, hh_, hon⟩ : Ou)], aS := aN, cS := cN } ∧ Below y.heap.size y W' ∧ q7 < W'.heap.size) ?_ ?_
          rotate_left
          · intro K2 hT3
            refine wp_region_held (S := fun Y => OuAtO Y b (off + k * 8) ⟨hk, hpt, hr, hc, hb, hp, hh_, hon⟩) (by kernel_rfl) ?_
            change wpAnyH _ _ _ _ _ _ _ _ (World.drew _)
            have kd : Below u0.heap.size u0 u0.drew := (Below.refl _ _).drew
            obtain ⟨u0, hu0⟩ : ∃ y_, y_ = u0.drew := ⟨_, rfl⟩
            rw [← hu0] at kd ⊢
            clear hu0
            have Q := Q.below kd Q.lt
            have O := O.later kd
            have KW := KW.trans (kd.mono KW.size)
            have E := E.belowA kd (by omega)
            have sd0 := kd.size
            clear kd
            refine takeW 0 53 (.pointer (some ⟨q7, 9, none⟩)) rfl rfl (by kernel_rfl) (by kernel_rfl) (by kernel_rfl) (fun _ _ _ h => h) (by kernel_rfl) (by (intro w hSw; go_simp)) (by assumption) ?_
            simp only [List.set_cons_zero, List.set_cons_succ]
            refine takeW 2 55 (.slice (some ⟨b, off, none⟩) L.length cO) rfl rfl (by kernel_rfl) (by kernel_rfl) (by kernel_rfl) (fun _ _ _ h => h) (by kernel_rfl) (by (intro w hSw; go_simp)) (by assumption) ?_
            simp only [List.set_cons_zero, List.set_cons_succ]
            refine takeW 3 56 (.int .i64 k) rfl rfl (by kernel_rfl) (by kernel_rfl) (by kernel_rfl) (fun _ _ _ h => h) (by kernel_rfl) (by (intro w hSw; go_simp)) (by assumption) ?_
            simp only [List.set_cons_zero, List.set_cons_succ]
            refine takeW 4 57 (.pointer (some ⟨b, off + k * 8, none⟩)) rfl rfl (by kernel_rfl) (by kernel_rfl) (by kernel_rfl) (fun _ _ _ h => h) (by kernel_rfl) (by (intro Y hSw; go_simp; try omega)) (by assumption) ?_
            simp only [List.set_cons_zero, List.set_cons_succ]
            refine takeW 5 58 (.agg #[.int .i64 hk, .int .i64 hpt, .int .i64 hr, .int .i64 hc, .int .i64 hb, .int .i64 hp, .int .i64 hh_, .bool hon]) rfl rfl (by kernel_rfl) (by kernel_rfl) (by kernel_rfl) (fun _ _ _ h => h) (by kernel_rfl) (by (intro Y hSw; obtain ⟨X0, X1, X2, X3, X4, X5, X6, X7⟩ := hSw; go_simp)) (by assumption) ?_
            simp only [List.set_cons_zero, List.set_cons_succ]
            refine wpAnyH_all (rs := [1, 6]) (by kernel_rfl) (by simp) ?_
            intro i hi; rcases (by simpa using hi : i = 1 ∨ i = 6) with rfl | rfl
            · refine wpOp_step rfl (fun Kz hKz => ?_)
              rw [if_pos (by kernel_rfl)]
              have cc := Q
              obtain ⟨⟨q0, q1, q2, q3, q4, q5, q6, q7, q8, q9⟩, qf⟩ := cc
              go_simp
              clear q0 q1 q2 q3 q4 q5 q6 q7 q8 q9 qf
              refine hKz _ _ ⟨E, ?_⟩
              clear hKz Kz hi
              refine wpAnyH_all (rs := [6]) (by kernel_rfl) (by simp) ?_
              intro i hi; obtain rfl : i = 6 := by simpa using hi
              refine wpOp_step rfl (fun Kz hKz => ?_)
              rw [if_pos (by kernel_rfl)]
              go_simp
              obtain ⟨u1_, hu1⟩ : ∃ y_, y_ = u0.alloc (Obj.cells #[.int .i64 hk, .int .i64 hpt, .int .i64 hr, .int .i64 hc, .int .i64 hb, .int .i64 hp, .int .i64 hh_, .bool hon] 95) := ⟨_, rfl⟩
              have V1 : FView ouEnc u1_ (some ⟨u0.heap.size, 0, none⟩) [(⟨hk, hpt, hr, hc, hb, hp, hh_, hon⟩ : Ou)] := by rw [hu1]; exact FView.oneO u0 _ ⟨hk, hpt, hr, hc, hb, hp, hh_, hon⟩
              have k1 : Below u0.heap.size u0 u1_ := by rw [hu1]; exact below_new _
              have s1_ : u0.heap.size < u1_.heap.size := by rw [hu1]; simp
              have Q := Q.below k1 Q.lt
              have O := O.later k1
              have KW := KW.trans (k1.mono KW.size)
              have E := E.belowA k1 (by omega)
              rw [← hu1]
              clear hu1 k1
              refine hKz _ _ ⟨E, ?_⟩
              clear hKz Kz hi
              refine wpAnyH_all (rs := [7]) (by kernel_rfl) (by simp) ?_
              intro i hi; obtain rfl : i = 7 := by simpa using hi
              refine wpOp_step rfl (fun Kz hKz => ?_)
              rw [if_pos (by kernel_rfl)]
              refine fapp ouEnc_len ouEnc_ones 60 _ _ 53 rfl rfl y.heap.size 95 i4 (.agg #[.int .i64 0, .int .i64 0, .int .i64 0, .int .i64 0, .int .i64 0, .int .i64 0, .int .i64 0, .bool false]) 64 Tryz.underlying53 hj4 hz40 hz41 hz42 rfl (by decide) (by decide) (.slice z.aS z.sd.length z.cS) z.sd rfl O.s (some ⟨u0.heap.size, 0, none⟩) 1 [(⟨hk, hpt, hr, hc, hb, hp, hh_, hon⟩ : Ou)] rfl (fun e => by cases e) V1 (by simp; omega) (by omega) ?_
              intro vN u2_ oN gN hob
              replace oN : FOwn ouEnc 8 95 y.heap.size u2_ vN (z.sd ++ [(⟨hk, hpt, hr, hc, hb, hp, hh_, hon⟩ : Ou)]) := oN
              have hk2 : ∀ g, g < u1_.heap.size → (Value.slice z.aS z.sd.length z.cS).ownBlock ≠ some g → u2_.heap[g]? = u1_.heap[g]? := fun g h1 h2 => gN.block g h1 (fun e => h2 e.symm)
              have Q := Q.keep (hk2 _ Q.lt (fun e => NE.s _ e rfl))
              have KW := KW.grown gN (by omega) (fun g e => (O.s.lt g e).1)
              have E := E.keepA (hk2 _ (by omega) (fun e => by have := (O.s.lt _ e).1; omega))
              have s2_ := gN.size
              obtain ⟨N, hN⟩ : ∃ N, N = z.sd ++ [(⟨hk, hpt, hr, hc, hb, hp, hh_, hon⟩ : Ou)] := ⟨_, rfl⟩
              rw [← hN] at oN
              replace hN : Hid _ := hN
              obtain ⟨aN, cN, rfl⟩ := oN.open_
              have O := O.said N aN cN oN hk2
              have NE' : ∀ b_, (Value.slice aN N.length cN).ownBlock = some b_ → b_ ≠ q7 := fun b_ e => hob.elim (fun h => by rw [h] at e; exact NE.s b_ e) (fun h => by rw [h] at e; have e2 := Option.some.inj e; omega)
              clear gN hk2 hob V1
              simp only [List.set_cons_zero, List.set_cons_succ]
              refine hKz _ _ ⟨E, ?_⟩
              clear hKz Kz hi
              refine takeW 8 61 (.pointer (some ⟨q7, 9, none⟩)) rfl rfl (by kernel_rfl) (by kernel_rfl) (by kernel_rfl) (fun _ _ _ h => h) (by kernel_rfl) (by (intro w hSw; go_simp)) (by assumption) ?_
              simp only [List.set_cons_zero, List.set_cons_succ]
              refine wpAnyH_all (rs := [9]) (by kernel_rfl) (by simp) ?_
              intro i hi; obtain rfl : i = 9 := by simpa using hi
              refine wpOp_step rfl (fun Kz hKz => ?_)
              rw [if_pos (by kernel_rfl)]
              have cc := Q
              obtain ⟨⟨q0, q1, q2, q3, q4, q5, q6, q7, q8, q9⟩, qf⟩ := cc
              have f9 := qf 9
              go_simp
              clear q0 q1 q2 q3 q4 q5 q6 q7 q8 q9 qf f9
              obtain ⟨u3_, hu3⟩ : ∃ y_, y_ = u2_.setCell ⟨q7, 9, none⟩ (.slice aN N.length cN) := ⟨_, rfl⟩
              have Q3 : BxB u3_ q7 { z with sd := N, aS := aN, cS := cN } := by rw [hu3]; exact Q.sS N aN N.length cN rfl
              have NE3 : BxNe q7 { z with sd := N, aS := aN, cS := cN } := ⟨NE.t, NE.n, NE.g, NE.i, NE', NE.l⟩
              have kp : ∀ g, g ≠ q7 → u3_.heap[g]? = u2_.heap[g]? := fun g hg => by rw [hu3]; exact Below.heap_setCell _ _ _ _ hg
              have O3 := O.keepQ NE3 kp
              have K3' : Below y.heap.size y u3_ := by rw [hu3]; exact KW.setCell (p := ⟨q7, 9, none⟩) (by show _ ≤ q7; omega) _
              have s3_ : u3_.heap.size = u2_.heap.size := by rw [hu3]; simp
              replace s3_ := Nat.le_of_eq s3_.symm
              have E := E.keepA (kp _ (by omega))
              rw [← hu3]
              clear hu3 kp
              refine hKz _ _ ⟨E, ?_⟩
              clear hKz Kz hi
              refine wpAnyH_done (by kernel_rfl) ?_ _
              have hN9 := hN.out
              subst hN9
              exact hT3.out _ _ ⟨aN, cN, [_, _, _, _, _, _, _, _, _], rfl, rfl, Q3, O3, NE3, K3', by omega⟩
            · refine wpOp_step rfl (fun Kz hKz => ?_)
              rw [if_pos (by kernel_rfl)]
              go_simp
              obtain ⟨u1_, hu1⟩ : ∃ y_, y_ = u0.alloc (Obj.cells #[.int .i64 hk, .int .i64 hpt, .int .i64 hr, .int .i64 hc, .int .i64 hb, .int .i64 hp, .int .i64 hh_, .bool hon] 95) := ⟨_, rfl⟩
              have V1 : FView ouEnc u1_ (some ⟨u0.heap.size, 0, none⟩) [(⟨hk, hpt, hr, hc, hb, hp, hh_, hon⟩ : Ou)] := by rw [hu1]; exact FView.oneO u0 _ ⟨hk, hpt, hr, hc, hb, hp, hh_, hon⟩
              have k1 : Below u0.heap.size u0 u1_ := by rw [hu1]; exact below_new _
              have s1_ : u0.heap.size < u1_.heap.size := by rw [hu1]; simp
              have Q := Q.below k1 Q.lt
              have O := O.later k1
              have KW := KW.trans (k1.mono KW.size)
              have E := E.belowA k1 (by omega)
              rw [← hu1]
              clear hu1 k1
              refine hKz _ _ ⟨E, ?_⟩
              clear hKz Kz hi
              refine wpAnyH_all (rs := [1]) (by kernel_rfl) (by simp) ?_
              intro i hi; obtain rfl : i = 1 := by simpa using hi
              refine wpOp_step rfl (fun Kz hKz => ?_)
              rw [if_pos (by kernel_rfl)]
              have cc := Q
              obtain ⟨⟨q0, q1, q2, q3, q4, q5, q6, q7, q8, q9⟩, qf⟩ := cc
              go_simp
              clear q0 q1 q2 q3 q4 q5 q6 q7 q8 q9 qf
              refine hKz _ _ ⟨E, ?_⟩
              clear hKz Kz hi
              refine wpAnyH_all (rs := [7]) (by kernel_rfl) (by simp) ?_
              intro i hi; obtain rfl : i = 7 := by simpa using hi
              refine wpOp_step rfl (fun Kz hKz => ?_)
              rw [if_pos (by kernel_rfl)]
              refine fapp ouEnc_len ouEnc_ones 60 _ _ 53 rfl rfl y.heap.size 95 i4 (.agg #[.int .i64 0, .int .i64 0, .int .i64 0, .int .i64 0, .int .i64 0, .int .i64 0, .int .i64 0, .bool false]) 64 Tryz.underlying53 hj4 hz40 hz41 hz42 rfl (by decide) (by decide) (.slice z.aS z.sd.length z.cS) z.sd rfl O.s (some ⟨u0.heap.size, 0, none⟩) 1 [(⟨hk, hpt, hr, hc, hb, hp, hh_, hon⟩ : Ou)] rfl (fun e => by cases e) V1 (by simp; omega) (by omega) ?_
              intro vN u2_ oN gN hob
              replace oN : FOwn ouEnc 8 95 y.heap.size u2_ vN (z.sd ++ [(⟨hk, hpt, hr, hc, hb, hp, hh_, hon⟩ : Ou)]) := oN
              have hk2 : ∀ g, g < u1_.heap.size → (Value.slice z.aS z.sd.length z.cS).ownBlock ≠ some g → u2_.heap[g]? = u1_.heap[g]? := fun g h1 h2 => gN.block g h1 (fun e => h2 e.symm)
              have Q := Q.keep (hk2 _ Q.lt (fun e => NE.s _ e rfl))
              have KW := KW.grown gN (by omega) (fun g e => (O.s.lt g e).1)
              have E := E.keepA (hk2 _ (by omega) (fun e => by have := (O.s.lt _ e).1; omega))
              have s2_ := gN.size
              obtain ⟨N, hN⟩ : ∃ N, N = z.sd ++ [(⟨hk, hpt, hr, hc, hb, hp, hh_, hon⟩ : Ou)] := ⟨_, rfl⟩
              rw [← hN] at oN
              replace hN : Hid _ := hN
              obtain ⟨aN, cN, rfl⟩ := oN.open_
              have O := O.said N aN cN oN hk2
              have NE' : ∀ b_, (Value.slice aN N.length cN).ownBlock = some b_ → b_ ≠ q7 := fun b_ e => hob.elim (fun h => by rw [h] at e; exact NE.s b_ e) (fun h => by rw [h] at e; have e2 := Option.some.inj e; omega)
              clear gN hk2 hob V1
              simp only [List.set_cons_zero, List.set_cons_succ]
              refine hKz _ _ ⟨E, ?_⟩
              clear hKz Kz hi
              refine takeW 8 61 (.pointer (some ⟨q7, 9, none⟩)) rfl rfl (by kernel_rfl) (by kernel_rfl) (by kernel_rfl) (fun _ _ _ h => h) (by kernel_rfl) (by (intro w hSw; go_simp)) (by assumption) ?_
              simp only [List.set_cons_zero, List.set_cons_succ]
              refine wpAnyH_all (rs := [9]) (by kernel_rfl) (by simp) ?_
              intro i hi; obtain rfl : i = 9 := by simpa using hi
              refine wpOp_step rfl (fun Kz hKz => ?_)
              rw [if_pos (by kernel_rfl)]
              have cc := Q
              obtain ⟨⟨q0, q1, q2, q3, q4, q5, q6, q7, q8, q9⟩, qf⟩ := cc
              have f9 := qf 9
              go_simp
              clear q0 q1 q2 q3 q4 q5 q6 q7 q8 q9 qf f9
              obtain ⟨u3_, hu3⟩ : ∃ y_, y_ = u2_.setCell ⟨q7, 9, none⟩ (.slice aN N.length cN) := ⟨_, rfl⟩
              have Q3 : BxB u3_ q7 { z with sd := N, aS := aN, cS := cN } := by rw [hu3]; exact Q.sS N aN N.length cN rfl
              have NE3 : BxNe q7 { z with sd := N, aS := aN, cS := cN } := ⟨NE.t, NE.n, NE.g, NE.i, NE', NE.l⟩
              have kp : ∀ g, g ≠ q7 → u3_.heap[g]? = u2_.heap[g]? := fun g hg => by rw [hu3]; exact Below.heap_setCell _ _ _ _ hg
              have O3 := O.keepQ NE3 kp
              have K3' : Below y.heap.size y u3_ := by rw [hu3]; exact KW.setCell (p := ⟨q7, 9, none⟩) (by show _ ≤ q7; omega) _
              have s3_ : u3_.heap.size = u2_.heap.size := by rw [hu3]; simp
              replace s3_ := Nat.le_of_eq s3_.symm
              have E := E.keepA (kp _ (by omega))
              rw [← hu3]
              clear hu3 kp
              refine hKz _ _ ⟨E, ?_⟩
              clear hKz Kz hi
              refine wpAnyH_done (by kernel_rfl) ?_ _
              have hN9 := hN.out
              subst hN9
              exact hT3.out _ _ ⟨aN, cN, [_, _, _, _, _, _, _, _, _], rfl, rfl, Q3, O3, NE3, K3', by omega⟩
          clear Q O KW E NE
          rintro l' w5 ⟨aN, cN, us, hul, rfl, Q, O, NE, KW, sW⟩
          obtain ⟨v53, us, rfl⟩ : ∃ a b, us = a :: b := List.exists_cons_of_length_eq_add_one hul
          replace hul := Nat.succ.inj hul
          obtain ⟨v54, us, rfl⟩ : ∃ a b, us = a :: b := List.exists_cons_of_length_eq_add_one hul
          replace hul := Nat.succ.inj hul
          obtain ⟨v55, us, rfl⟩ : ∃ a b, us = a :: b := List.exists_cons_of_length_eq_add_one hul
          replace hul := Nat.succ.inj hul
          obtain ⟨v56, us, rfl⟩ : ∃ a b, us = a :: b := List.exists_cons_of_length_eq_add_one hul
          replace hul := Nat.succ.inj hul
          obtain ⟨v57, us, rfl⟩ : ∃ a b, us = a :: b := List.exists_cons_of_length_eq_add_one hul
          replace hul := Nat.succ.inj hul
          obtain ⟨v58, us, rfl⟩ : ∃ a b, us = a :: b := List.exists_cons_of_length_eq_add_one hul
          replace hul := Nat.succ.inj hul
          obtain ⟨v59, us, rfl⟩ : ∃ a b, us = a :: b := List.exists_cons_of_length_eq_add_one hul
          replace hul := Nat.succ.inj hul
          obtain ⟨v60, us, rfl⟩ : ∃ a b, us = a :: b := List.exists_cons_of_length_eq_add_one hul
          replace hul := Nat.succ.inj hul
          obtain ⟨v61, us, rfl⟩ : ∃ a b, us = a :: b := List.exists_cons_of_length_eq_add_one hul
          replace hul := Nat.succ.inj hul
          obtain rfl : us = [] := List.eq_nil_of_length_eq_zero hul
          clear hul
          simp only [List.take, List.drop, List.cons_append, List.nil_append]
          obtain ⟨z5, hz5⟩ : ∃ z5 : BxD, z5 = { z with sd := z.sd ++ [(⟨hk, hpt, hr, hc, hb, hp, hh_, hon⟩ : Ou)], aS := aN, cS := cN } := ⟨_, rfl⟩
          rw [← hz5] at Q O NE
          have hP5 : Hid (z5.p = accK x2.p (L.take (k + 1))) := by unfold Hid; rw [hz5]; exact hz2.out
          clear hz5
          go_wp2
          go_roundw
          case rel => exact ⟨k + 1, z5, by omega, by go_num, hP5, Q, O, NE, KW, sW⟩
          case measure => simp [intOf]; omega
      · obtain rfl : k = L.length := by omega
        rw [List.take_length] at hz
        have B5 := B0.trans (KW.mono B0.size)
        have Z := Z0.below KW (by omega)
        by_cases h40 : z.sd.length ≤ 40
        · have d40 : decide (40 < (z.sd.length : Int)) = false := decide_eq_false (by omega)
          have hX : Hid (z.p = accX x.p s L) := by
            unfold Hid
            rw [accX_yes hm.out, hz.out, p2.out, lastS_all (by have h := congrArg (fun b => b.sd.length) hz.out; unfold accK at h; rw [p2.out] at h; simp only at h; have h2 : z.p.sd.length = z.sd.length := rfl; omega)]
            rfl
          obtain ⟨W9, hW9⟩ : ∃ y_, y_ = ((((((((((wr.setCell ⟨w.heap.size + 1, 0, none⟩ (.int .i64 z.id)).setCell ⟨w.heap.size + 1, 1, none⟩ (.int .i64 z.po)).setCell ⟨w.heap.size + 1, 2, none⟩ (.int .i64 z.rg.ep)).setCell ⟨w.heap.size + 1, 3, none⟩ (.int .i64 z.rg.ow)).setCell ⟨w.heap.size + 1, 4, none⟩ (.int .i64 z.rg.pa)).setCell ⟨w.heap.size + 1, 5, none⟩ (.slice z.aT z.two.length z.cT)).setCell ⟨w.heap.size + 1, 6, none⟩ (.slice z.aN z.net.length z.cN)).setCell ⟨w.heap.size + 1, 7, none⟩ (.slice z.aG z.ga.length z.cG)).setCell ⟨w.heap.size + 1, 8, none⟩ (.slice z.aL z.ln.length z.cL)).setCell ⟨w.heap.size + 1, 9, none⟩ (.slice z.aS z.sd.length z.cS)) := ⟨_, rfl⟩
          have ZZ : BxB W9 (w.heap.size + 1) z := by rw [hW9]; exact Z.put z
          have kp : ∀ k, k ≠ w.heap.size + 1 → W9.heap[k]? = wr.heap[k]? := fun k hk => by rw [hW9, Below.heap_setCell _ _ _ _ hk, Below.heap_setCell _ _ _ _ hk, Below.heap_setCell _ _ _ _ hk, Below.heap_setCell _ _ _ _ hk, Below.heap_setCell _ _ _ _ hk, Below.heap_setCell _ _ _ _ hk, Below.heap_setCell _ _ _ _ hk, Below.heap_setCell _ _ _ _ hk, Below.heap_setCell _ _ _ _ hk, Below.heap_setCell _ _ _ _ hk]
          have B9 : Below w.heap.size w W9 := by rw [hW9]; exact ((((((((((B5.setCell (p := ⟨w.heap.size + 1, 0, none⟩) (by show _ ≤ w.heap.size + 1; omega) _).setCell (p := ⟨w.heap.size + 1, 1, none⟩) (by show _ ≤ w.heap.size + 1; omega) _).setCell (p := ⟨w.heap.size + 1, 2, none⟩) (by show _ ≤ w.heap.size + 1; omega) _).setCell (p := ⟨w.heap.size + 1, 3, none⟩) (by show _ ≤ w.heap.size + 1; omega) _).setCell (p := ⟨w.heap.size + 1, 4, none⟩) (by show _ ≤ w.heap.size + 1; omega) _).setCell (p := ⟨w.heap.size + 1, 5, none⟩) (by show _ ≤ w.heap.size + 1; omega) _).setCell (p := ⟨w.heap.size + 1, 6, none⟩) (by show _ ≤ w.heap.size + 1; omega) _).setCell (p := ⟨w.heap.size + 1, 7, none⟩) (by show _ ≤ w.heap.size + 1; omega) _).setCell (p := ⟨w.heap.size + 1, 8, none⟩) (by show _ ≤ w.heap.size + 1; omega) _).setCell (p := ⟨w.heap.size + 1, 9, none⟩) (by show _ ≤ w.heap.size + 1; omega) _)
          have O9 : BxO w.heap.size W9 z := (O.keep (fun g h1 h2 => kp g (by omega))).base (by omega)
          obtain ⟨⟨t0, t1, t2, t3, t4, t5, t6, t7, t8, t9⟩, tf⟩ := ZZ
          clear tf
          have cc := Z
          obtain ⟨⟨z0, z1, z2, z3, z4, z5, z6, z7, z8, z9⟩, zf⟩ := cc
          have e0 := zf 0
          have e1 := zf 1
          have e2 := zf 2
          have e3 := zf 3
          have e4 := zf 4
          have e5 := zf 5
          have e6 := zf 6
          have e7 := zf 7
          have e8 := zf 8
          have e9 := zf 9
          clear zf
          have cc := Q
          obtain ⟨⟨q0, q1, q2, q3, q4, q5, q6, q7, q8, q9⟩, qf⟩ := cc
          clear qf
          go_wp2
          refine bodyPost_ret (v := .agg #[.int .i64 z.id, .int .i64 z.po, .int .i64 z.rg.ep, .int .i64 z.rg.ow, .int .i64 z.rg.pa, .slice z.aT z.two.length z.cT, .slice z.aN z.net.length z.cN, .slice z.aG z.ga.length z.cG, .slice z.aL z.ln.length z.cL, .slice z.aS z.sd.length z.cS]) (by simp [results, Tryz.results21, go_sem, *]) rfl ⟨z, rfl, hX.out, by rw [← hW9]; exact O9, by rw [← hW9]; exact B9⟩
        · have d40 : decide (40 < (z.sd.length : Int)) = true := decide_eq_true (by omega)
          obtain ⟨gs, hgs⟩ : ∃ g, z.aS = some ⟨g, 0, none⟩ := by
            rcases O.s.2 with ⟨q, h0⟩ | ⟨g, c, cur, q, _⟩
            · simp only [Value.slice.injEq] at q; omega
            · simp only [Value.slice.injEq] at q; exact ⟨g, q.1⟩
          have hcap : z.sd.length ≤ z.cS := O.s.capM
          have hbs : z.sd.length ≤ 2097152 := bsz
          obtain ⟨n, hn⟩ : ∃ n, z.sd.length = n + 40 := ⟨z.sd.length - 40, by omega⟩
          have hwr : IntKind.i64.wrap ((z.sd.length : Int) - 40) = (n : Int) := by rw [IntKind.wrap_i64]; omega
          have hw2 : (z.sd.length : Int) - 40 = (n : Int) := by omega
          have kx : Below wr.heap.size wr (wr.alloc (Obj.cells #[] 95)) := below_new _
          have oE : FOwn ouEnc 8 95 wr.heap.size (wr.alloc (Obj.cells #[] 95)) (.slice (some ⟨wr.heap.size, 0, none⟩) 0 0) ([] : List Ou) := FOwn.empty wr
          have vS := O.s.view.2
          rw [hgs] at vS
          have vD := (vS.below kx (vS.lt ouEnc_len (by omega))).dropO (k := n) (by omega)
          have Qx := Q.below kx Q.lt
          have cc := Q
          obtain ⟨⟨m0, m1, m2, m3, m4, m5, m6, m7, m8, m9⟩, mf⟩ := cc
          rw [hgs] at m9
          have f9 := mf 9
          clear mf
          obtain ⟨N, hN⟩ : ∃ N, N = z.sd.drop n := ⟨_, rfl⟩
          have hld : Hid (N.length = 40) := by unfold Hid; rw [hN, List.length_drop]; omega
          rw [← hN] at vD
          replace hN : Hid _ := hN
          replace hn : Hid _ := hn
          go_wp2_with (first | (at_builtin; refine fappL ouEnc_len ouEnc_ones rfl _ _ 53 rfl wr.heap.size 95 i4 (.agg #[.int .i64 0, .int .i64 0, .int .i64 0, .int .i64 0, .int .i64 0, .int .i64 0, .int .i64 0, .bool false]) 64 Tryz.underlying53 hj4 hz40 hz41 hz42 rfl (by decide) (by decide) _ ([] : List Ou) rfl oE (some ⟨gs, n * 8, none⟩) ?zc N ?zx (fun e => by cases e) vD ?z0 ?z1 ?_) | go_in)
          case zc => exact z.cS - n
          case zx => go_simp; have h9 := hn.out; have h8 := hld.out; omega
          case z0 => have h8 := hld.out; simp only [List.length_nil]; omega
          case z1 => simp
          intro vZ w1 hownZ hgrowZ _
          have bZ : Below wr.heap.size wr w1 := kx.grown hgrowZ (by simp) (fun j e => (oE.lt j e).1)
          replace hownZ : FOwn ouEnc 8 95 wr.heap.size w1 vZ N := hownZ
          obtain ⟨a1, c1, rfl⟩ := hownZ.open_
          clear hgrowZ m0 m1 m2 m3 m4 m5 m6 m7 m8 m9 f9 kx oE vS vD Qx
          have Q := Q.below bZ Q.lt
          have Z := Z.below bZ Z.lt
          have KW := KW.trans (bZ.mono KW.size)
          have sz1 := bZ.size
          have lo1 := fun g e => (hownZ.lt g e).1
          have ys : y.heap.size ≤ wr.heap.size := by have := B5.size; omega
          have O := (O.later bZ).said N a1 c1 (hownZ.base ys) (fun g _ _ => rfl)
          have NE3 : BxNe q7 { z with sd := N, aS := a1, cS := c1 } := ⟨NE.t, NE.n, NE.g, NE.i, fun b_ e => (by have := lo1 b_ e; omega), NE.l⟩
          obtain ⟨w2, hw2'⟩ : ∃ y_, y_ = w1.setCell ⟨q7, 9, none⟩ (.slice a1 N.length c1) := ⟨_, rfl⟩
          have Q2 : BxB w2 q7 { z with sd := N, aS := a1, cS := c1 } := by rw [hw2']; exact Q.sS N a1 N.length c1 rfl
          have kp2 : ∀ g, g ≠ q7 → w2.heap[g]? = w1.heap[g]? := fun g hg => by rw [hw2']; exact Below.heap_setCell _ _ _ _ hg
          have O := O.keepQ NE3 kp2
          have Z := Z.keep (kp2 _ (by omega))
          have K2' : Below y.heap.size y w2 := by rw [hw2']; exact KW.setCell (p := ⟨q7, 9, none⟩) (by show _ ≤ q7; omega) _
          have e2' : N = lastS (x2.p.sd ++ L) := by
            rw [hN.out]
            have e9 : z.p.sd = x2.p.sd ++ L := by rw [hz.out]; rfl
            rw [← e9]
            show _ = z.sd.drop (z.sd.length - 40)
            have h9 := hn.out
            rw [show z.sd.length - 40 = n by omega]
          have hX : Hid (BxD.p { z with sd := N, aS := a1, cS := c1 } = accX x.p s L) := by
            unfold Hid
            rw [accX_yes hm.out, ← p2.out]
            show (⟨z.p.id, z.p.po, z.p.rg, z.p.two, z.p.net, z.p.ga, z.p.ln, N⟩ : Bx) = _
            rw [e2', hz.out]
            rfl
          clear e2'
          have B6 := B0.trans (K2'.mono B0.size)
          have cc := Q
          obtain ⟨⟨m0, m1, m2, m3, m4, m5, m6, m7, m8, m9⟩, mf⟩ := cc
          have f9 := mf 9
          clear mf
          go_upto_region 12 with fail
          rw [← hw2']
          clear hw2' kp2 m0 m1 m2 m3 m4 m5 m6 m7 m8 m9 f9 Q hz hownZ
          have Q := Q2
          clear Q2
          obtain ⟨zz, hz3⟩ : ∃ zz : BxD, zz = { z with sd := N, aS := a1, cS := c1 } := ⟨_, rfl⟩
          rw [← hz3] at Q O NE3 hX
          clear hz3
          obtain ⟨W9, hW9⟩ : ∃ y_, y_ = ((((((((((w2.setCell ⟨w.heap.size + 1, 0, none⟩ (.int .i64 zz.id)).setCell ⟨w.heap.size + 1, 1, none⟩ (.int .i64 zz.po)).setCell ⟨w.heap.size + 1, 2, none⟩ (.int .i64 zz.rg.ep)).setCell ⟨w.heap.size + 1, 3, none⟩ (.int .i64 zz.rg.ow)).setCell ⟨w.heap.size + 1, 4, none⟩ (.int .i64 zz.rg.pa)).setCell ⟨w.heap.size + 1, 5, none⟩ (.slice zz.aT zz.two.length zz.cT)).setCell ⟨w.heap.size + 1, 6, none⟩ (.slice zz.aN zz.net.length zz.cN)).setCell ⟨w.heap.size + 1, 7, none⟩ (.slice zz.aG zz.ga.length zz.cG)).setCell ⟨w.heap.size + 1, 8, none⟩ (.slice zz.aL zz.ln.length zz.cL)).setCell ⟨w.heap.size + 1, 9, none⟩ (.slice zz.aS zz.sd.length zz.cS)) := ⟨_, rfl⟩
          have ZZ : BxB W9 (w.heap.size + 1) zz := by rw [hW9]; exact Z.put zz
          have kp : ∀ k, k ≠ w.heap.size + 1 → W9.heap[k]? = w2.heap[k]? := fun k hk => by rw [hW9, Below.heap_setCell _ _ _ _ hk, Below.heap_setCell _ _ _ _ hk, Below.heap_setCell _ _ _ _ hk, Below.heap_setCell _ _ _ _ hk, Below.heap_setCell _ _ _ _ hk, Below.heap_setCell _ _ _ _ hk, Below.heap_setCell _ _ _ _ hk, Below.heap_setCell _ _ _ _ hk, Below.heap_setCell _ _ _ _ hk, Below.heap_setCell _ _ _ _ hk]
          have B9 : Below w.heap.size w W9 := by rw [hW9]; exact ((((((((((B6.setCell (p := ⟨w.heap.size + 1, 0, none⟩) (by show _ ≤ w.heap.size + 1; omega) _).setCell (p := ⟨w.heap.size + 1, 1, none⟩) (by show _ ≤ w.heap.size + 1; omega) _).setCell (p := ⟨w.heap.size + 1, 2, none⟩) (by show _ ≤ w.heap.size + 1; omega) _).setCell (p := ⟨w.heap.size + 1, 3, none⟩) (by show _ ≤ w.heap.size + 1; omega) _).setCell (p := ⟨w.heap.size + 1, 4, none⟩) (by show _ ≤ w.heap.size + 1; omega) _).setCell (p := ⟨w.heap.size + 1, 5, none⟩) (by show _ ≤ w.heap.size + 1; omega) _).setCell (p := ⟨w.heap.size + 1, 6, none⟩) (by show _ ≤ w.heap.size + 1; omega) _).setCell (p := ⟨w.heap.size + 1, 7, none⟩) (by show _ ≤ w.heap.size + 1; omega) _).setCell (p := ⟨w.heap.size + 1, 8, none⟩) (by show _ ≤ w.heap.size + 1; omega) _).setCell (p := ⟨w.heap.size + 1, 9, none⟩) (by show _ ≤ w.heap.size + 1; omega) _)
          have O9 : BxO w.heap.size W9 zz := (O.keep (fun g h1 h2 => kp g (by omega))).base (by omega)
          obtain ⟨⟨t0, t1, t2, t3, t4, t5, t6, t7, t8, t9⟩, tf⟩ := ZZ
          clear tf
          have cc := Z
          obtain ⟨⟨z0, z1, z2, z3, z4, z5, z6, z7, z8, z9⟩, zf⟩ := cc
          have e0 := zf 0
          have e1 := zf 1
          have e2 := zf 2
          have e3 := zf 3
          have e4 := zf 4
          have e5 := zf 5
          have e6 := zf 6
          have e7 := zf 7
          have e8 := zf 8
          have e9 := zf 9
          clear zf
          have cc := Q
          obtain ⟨⟨q0, q1, q2, q3, q4, q5, q6, q7, q8, q9⟩, qf⟩ := cc
          clear qf
          go_wp2
          refine bodyPost_ret (v := .agg #[.int .i64 zz.id, .int .i64 zz.po, .int .i64 zz.rg.ep, .int .i64 zz.rg.ow, .int .i64 zz.rg.pa, .slice zz.aT zz.two.length zz.cT, .slice zz.aN zz.net.length zz.cN, .slice zz.aG zz.ga.length zz.cG, .slice zz.aL zz.ln.length zz.cL, .slice zz.aS zz.sd.length zz.cS]) (by simp [results, Tryz.results21, go_sem, *]) rfl ⟨zz, rfl, hX.out, by rw [← hW9]; exact O9, by rw [← hW9]; exact B9⟩

end Go.Proofs.YtijhpfccjaaalaaGreat
namespace Go.Proofs
abbrev Tryz.muLink : Go.Conc.Locks.MuLink := { lock := 89, unlock := 90, ilock := 118, iunlock := 119, lockSlow := 136, unlockSlow := 139, disable := 132, enable := 134, acquire := 135, relMerge := 137, cas32 := 133, add32 := 138, tMutex := 130, tIMutex := 128, tPMutex := 177, tPIMutex := 197, tPI32 := 199, tUP := 201, tNoCopy := 125, tU32 := 126 }
theorem Tryz.muLib : Go.Conc.Locks.MuLib Tryz.prog Tryz.muLink :=
  ⟨Tryz.func89, Tryz.func90, Tryz.func118, Tryz.func119, Tryz.func132, Tryz.func134, Tryz.func135, Tryz.func137, Tryz.func133, Tryz.func138, Tryz.underlying128, Tryz.runUnderlying128, Tryz.sizeOf128, Tryz.isAgg128, Tryz.zeroValue128, Tryz.underlying130, Tryz.runUnderlying130, Tryz.sizeOf130, Tryz.isAgg130, Tryz.zeroValue130, Tryz.underlying177, Tryz.runUnderlying177, Tryz.sizeOf177, Tryz.isAgg177, Tryz.zeroValue177, Tryz.underlying197, Tryz.runUnderlying197, Tryz.sizeOf197, Tryz.isAgg197, Tryz.zeroValue197, Tryz.underlying199, Tryz.runUnderlying199, Tryz.sizeOf199, Tryz.isAgg199, Tryz.zeroValue199, Tryz.underlying201, Tryz.runUnderlying201, Tryz.sizeOf201, Tryz.isAgg201, Tryz.zeroValue201, Tryz.underlying125, Tryz.runUnderlying125, Tryz.sizeOf125, Tryz.isAgg125, Tryz.zeroValue125, Tryz.underlying21, Tryz.runUnderlying21, Tryz.sizeOf21, Tryz.isAgg21, Tryz.zeroValue21, (by kernel_rfl)⟩
end Go.Proofs
namespace Go.Proofs.YtijhpfccjaaalaaGreat
open Go.ChangeShapes Go.WideShapes Go.ChangeAt Go.RowKit
open Go.ChangeMaps (open_string shut_string)
set_option linter.unusedVariables false
set_option maxRecDepth 100000

theorem setCells_put (g : Nat) : ∀ (vs : List Value) (o : Nat) (w : World), w.setCells g o vs = putAll w g o vs
  | [], _, _ => rfl
  | v :: vs, o, w => setCells_put g vs (o + 1) (w.setCell ⟨g, o, none⟩ v)
/-- Only the blocks q and o have turned. -/
structure Turned (q : Nat) (o : Option Nat) (w w' : World) : Prop where
  os : w'.os = w.os
  tape : w'.tape = w.tape
  output : w'.output = w.output
  size : w.heap.size ≤ w'.heap.size
  block : ∀ k, k < w.heap.size → k ≠ q → o ≠ some k → w'.heap[k]? = w.heap[k]?
theorem Turned.below {q : Nat} {o : Option Nat} {w w' : World} (h : Turned q o w w') {B : Nat} (hB : B ≤ w.heap.size) (h1 : B ≤ q) (h2 : ∀ g, o = some g → B ≤ g) : Below B w w' :=
  ⟨h.os, h.tape, h.output, h.size, fun k hk => h.block k (by omega) (by omega) (fun e => by have := h2 k e; omega)⟩
theorem Turned.refl (q : Nat) (o : Option Nat) (w : World) : Turned q o w w := ⟨rfl, rfl, rfl, Nat.le_refl _, fun _ _ _ _ => rfl⟩
theorem Turned.set {q : Nat} {o : Option Nat} {w w' : World} (h : Turned q o w w') (i : Nat) (v : Value) : Turned q o w (w'.setCell ⟨q, i, none⟩ v) :=
  ⟨h.os, h.tape, h.output, by simpa using h.size, fun k hk h1 h2 => (Below.heap_setCell _ _ _ _ h1).trans (h.block k hk h1 h2)⟩
theorem Turned.put {q g : Nat} {w : World} (o : Nat) (vs : List Value) : Turned q (some g) w (putAll w g o vs) := by
  have hb := below_putAll (B := 0) (g := g) (a := w) (Nat.zero_le _) vs o (Below.refl 0 w)
  exact ⟨hb.os, hb.tape, hb.output, hb.size, fun k _ _ h2 => heap_putAll vs w o k (fun e => h2 (by rw [e]))⟩
theorem zeroIk (w : World) : (zeroValue 138).run Tryz.prog w = .ok (.agg #[.int .i64 0, .int .i64 0, .int .i64 0, .int .i64 0, .int .i64 0, .int .i64 0, .int .i64 0, .bool false]) w := by kernel_rfl
theorem clearIk (w : World) (ty : TypeId) (g n c : Nat) (hn : 0 < n) (hc : ∀ j, j < n * 8 → (w.cell? ⟨g, j, none⟩).isSome = true) (hf : ∀ j, w.frozen? ⟨g, j, none⟩ = false) :
    ∃ vs, (Builtin.clear_ #[26] ty #[.slice (some ⟨g, 0, none⟩) n c]).run Tryz.prog w = .ok (.tuple #[]) (putAll w g 0 vs) := by
  obtain ⟨z, hz⟩ : ∃ z, z = Value.agg #[.int .i64 0, .int .i64 0, .int .i64 0, .int .i64 0, .int .i64 0, .int .i64 0, .int .i64 0, .bool false] := ⟨_, rfl⟩
  have h8 : z.cells.size = 8 := by rw [hz]; rfl
  have hl : (Builtin.zeroCells z.cells n).toList.length = n * 8 := by simp [Builtin.zeroCells, h8]
  have h1 : ∀ v ∈ (Builtin.zeroCells z.cells n).toList, v.oneCell' = true := by
    intro v hv
    simp only [Builtin.zeroCells, h8, Array.toList_map, List.mem_map] at hv
    obtain ⟨i, _, rfl⟩ := hv
    have : i % 8 = 0 ∨ i % 8 = 1 ∨ i % 8 = 2 ∨ i % 8 = 3 ∨ i % 8 = 4 ∨ i % 8 = 5 ∨ i % 8 = 6 ∨ i % 8 = 7 := by omega
    rw [hz]
    rcases this with e | e | e | e | e | e | e | e <;> rw [e] <;> rfl
  have hst := run_storeCells_cells (P := Tryz.prog) g 0 (Builtin.zeroCells z.cells n).toList 0 w (by rw [hl]; simpa using hc) (fun j _ => by simpa using hf j) h1
  simp only [Nat.add_zero] at hst
  rw [setCells_put] at hst
  refine ⟨(Builtin.zeroCells z.cells n).toList, ?_⟩
  have hzv : ∀ w : World, (zeroValue 138).run Tryz.prog w = .ok z w := fun w => by rw [hz]; exact zeroIk w
  obtain ⟨k, rfl⟩ : ∃ k, n = k + 1 := ⟨n - 1, by omega⟩
  simp [Builtin.clear_, run_underlying Tryz.underlying26, hzv, hst]
set_option maxHeartbeats 2000000 in
theorem emptyI (m : Mi) (q base : Nat) (ad : Option Addr) (cap : Nat) (w : World) (M : MgBox w q m (.slice ad m.lg.length cap)) (O : FOwn ikEnc 8 138 base w (.slice ad m.lg.length cap) m.lg) (hq : ∀ g, (Value.slice ad m.lg.length cap).ownBlock = some g → g ≠ q) :
    Calls Tryz.prog 131 #[.pointer (some ⟨q, 0, none⟩)] w fun e w' => e = .returned (.tuple #[]) ∧ MgBox w' q m (.slice ad 0 cap) ∧ Turned q (Value.slice ad m.lg.length cap).ownBlock w w' := by
  have hcl : ∃ w1, (∀ ty, (Builtin.clear_ #[26] ty #[.slice ad m.lg.length cap]).run Tryz.prog w = .ok (.tuple #[]) w1) ∧ MgBox w1 q m (.slice ad m.lg.length cap) ∧ Turned q (Value.slice ad m.lg.length cap).ownBlock w w1 := by
    cases ad with
    | none =>
      refine ⟨w, fun ty => ?_, M, Turned.refl _ _ _⟩
      simp [Builtin.clear_, run_underlying Tryz.underlying26]
    | some a =>
      by_cases h0 : m.lg.length = 0
      · refine ⟨w, fun ty => ?_, M, Turned.refl _ _ _⟩
        rw [h0]
        simp [Builtin.clear_, run_underlying Tryz.underlying26]
      · have ha : ∃ g, a = ⟨g, 0, none⟩ := by
          rcases O.2 with ⟨e, _⟩ | ⟨g, c, cur, e, _⟩
          · cases e
          · simp only [Value.slice.injEq, Option.some.injEq] at e
            exact ⟨g, e.1⟩
        obtain ⟨g, rfl⟩ := ha
        have hc : ∀ j, j < m.lg.length * 8 → (w.cell? ⟨g, j, none⟩).isSome = true := fun j hj => by
          rw [World.ownsRow.cellAt O j hj]
          have hx : (fcells ikEnc m.lg).length = m.lg.length * 8 := fcells_len ikEnc_len _
          rw [List.getElem?_eq_getElem (by omega)]
          rfl
        have hne : q ≠ g := fun e => hq g rfl e.symm
        obtain ⟨vs, hvs⟩ := clearIk w 0 g m.lg.length cap (by omega) hc (fun j => O.frozen j)
        refine ⟨putAll w g 0 vs, fun ty => hvs, M.keep (heap_putAll vs w 0 q hne), Turned.put 0 vs⟩
  obtain ⟨w1, hcl, M1, T1⟩ := hcl
  have M2 := M1.log (.slice ad 0 cap)
  have T2 := T1.set 0 (.slice ad 0 cap)
  have c0 := M.c0
  have d0 := M1.c0
  have f0 := M1.fr 0
  clear M M1 T1 O hq
  cases ad with
  | none =>
    go_enter Tryz.func131, Tryz.ntmps131
    go_wp2_with (simp only [hcl])
    go_end0
    exact ⟨rfl, M2, T2⟩
  | some a =>
    go_enter Tryz.func131, Tryz.ntmps131
    go_wp2_with (simp only [hcl])
    go_end0
    exact ⟨rfl, M2, T2⟩
theorem MgBox.fallen {w : World} {q : Nat} {m : Mi} {v : Value} (h : MgBox w q m v) : MgBox ((((((w.setCell ⟨q, 1, none⟩ (.bool false)).setCell ⟨q, 2, none⟩ (.int .i64 m.li)).setCell ⟨q, 3, none⟩ (.int .i64 0)).setCell ⟨q, 4, none⟩ (.int .i64 0)).setCell ⟨q, 5, none⟩ (.int .i64 0)).setCell ⟨q, 6, none⟩ (.int .i64 0)) q ⟨false, m.li, 0, [], 0, 0, 0⟩ v := by
  obtain ⟨h0, h1, h2, h3, h4, h5, h6, hf⟩ := h
  have h0 : (w.setCell ⟨q, 1, none⟩ (.bool false)).cell? ⟨q, 0, none⟩ = _ := (pset_else (by decide)).trans h0
  have h1 : (w.setCell ⟨q, 1, none⟩ (.bool false)).cell? ⟨q, 1, none⟩ = some (.bool false) := pset_same h1
  have h2 : (w.setCell ⟨q, 1, none⟩ (.bool false)).cell? ⟨q, 2, none⟩ = _ := (pset_else (by decide)).trans h2
  have h3 : (w.setCell ⟨q, 1, none⟩ (.bool false)).cell? ⟨q, 3, none⟩ = _ := (pset_else (by decide)).trans h3
  have h4 : (w.setCell ⟨q, 1, none⟩ (.bool false)).cell? ⟨q, 4, none⟩ = _ := (pset_else (by decide)).trans h4
  have h5 : (w.setCell ⟨q, 1, none⟩ (.bool false)).cell? ⟨q, 5, none⟩ = _ := (pset_else (by decide)).trans h5
  have h6 : (w.setCell ⟨q, 1, none⟩ (.bool false)).cell? ⟨q, 6, none⟩ = _ := (pset_else (by decide)).trans h6
  have h0 : ((w.setCell ⟨q, 1, none⟩ (.bool false)).setCell ⟨q, 2, none⟩ (.int .i64 m.li)).cell? ⟨q, 0, none⟩ = _ := (pset_else (by decide)).trans h0
  have h1 : ((w.setCell ⟨q, 1, none⟩ (.bool false)).setCell ⟨q, 2, none⟩ (.int .i64 m.li)).cell? ⟨q, 1, none⟩ = _ := (pset_else (by decide)).trans h1
  have h2 : ((w.setCell ⟨q, 1, none⟩ (.bool false)).setCell ⟨q, 2, none⟩ (.int .i64 m.li)).cell? ⟨q, 2, none⟩ = some (.int .i64 m.li) := pset_same h2
  have h3 : ((w.setCell ⟨q, 1, none⟩ (.bool false)).setCell ⟨q, 2, none⟩ (.int .i64 m.li)).cell? ⟨q, 3, none⟩ = _ := (pset_else (by decide)).trans h3
  have h4 : ((w.setCell ⟨q, 1, none⟩ (.bool false)).setCell ⟨q, 2, none⟩ (.int .i64 m.li)).cell? ⟨q, 4, none⟩ = _ := (pset_else (by decide)).trans h4
  have h5 : ((w.setCell ⟨q, 1, none⟩ (.bool false)).setCell ⟨q, 2, none⟩ (.int .i64 m.li)).cell? ⟨q, 5, none⟩ = _ := (pset_else (by decide)).trans h5
  have h6 : ((w.setCell ⟨q, 1, none⟩ (.bool false)).setCell ⟨q, 2, none⟩ (.int .i64 m.li)).cell? ⟨q, 6, none⟩ = _ := (pset_else (by decide)).trans h6
  have h0 : (((w.setCell ⟨q, 1, none⟩ (.bool false)).setCell ⟨q, 2, none⟩ (.int .i64 m.li)).setCell ⟨q, 3, none⟩ (.int .i64 0)).cell? ⟨q, 0, none⟩ = _ := (pset_else (by decide)).trans h0
  have h1 : (((w.setCell ⟨q, 1, none⟩ (.bool false)).setCell ⟨q, 2, none⟩ (.int .i64 m.li)).setCell ⟨q, 3, none⟩ (.int .i64 0)).cell? ⟨q, 1, none⟩ = _ := (pset_else (by decide)).trans h1
  have h2 : (((w.setCell ⟨q, 1, none⟩ (.bool false)).setCell ⟨q, 2, none⟩ (.int .i64 m.li)).setCell ⟨q, 3, none⟩ (.int .i64 0)).cell? ⟨q, 2, none⟩ = _ := (pset_else (by decide)).trans h2
  have h3 : (((w.setCell ⟨q, 1, none⟩ (.bool false)).setCell ⟨q, 2, none⟩ (.int .i64 m.li)).setCell ⟨q, 3, none⟩ (.int .i64 0)).cell? ⟨q, 3, none⟩ = some (.int .i64 0) := pset_same h3
  have h4 : (((w.setCell ⟨q, 1, none⟩ (.bool false)).setCell ⟨q, 2, none⟩ (.int .i64 m.li)).setCell ⟨q, 3, none⟩ (.int .i64 0)).cell? ⟨q, 4, none⟩ = _ := (pset_else (by decide)).trans h4
  have h5 : (((w.setCell ⟨q, 1, none⟩ (.bool false)).setCell ⟨q, 2, none⟩ (.int .i64 m.li)).setCell ⟨q, 3, none⟩ (.int .i64 0)).cell? ⟨q, 5, none⟩ = _ := (pset_else (by decide)).trans h5
  have h6 : (((w.setCell ⟨q, 1, none⟩ (.bool false)).setCell ⟨q, 2, none⟩ (.int .i64 m.li)).setCell ⟨q, 3, none⟩ (.int .i64 0)).cell? ⟨q, 6, none⟩ = _ := (pset_else (by decide)).trans h6
  have h0 : ((((w.setCell ⟨q, 1, none⟩ (.bool false)).setCell ⟨q, 2, none⟩ (.int .i64 m.li)).setCell ⟨q, 3, none⟩ (.int .i64 0)).setCell ⟨q, 4, none⟩ (.int .i64 0)).cell? ⟨q, 0, none⟩ = _ := (pset_else (by decide)).trans h0
  have h1 : ((((w.setCell ⟨q, 1, none⟩ (.bool false)).setCell ⟨q, 2, none⟩ (.int .i64 m.li)).setCell ⟨q, 3, none⟩ (.int .i64 0)).setCell ⟨q, 4, none⟩ (.int .i64 0)).cell? ⟨q, 1, none⟩ = _ := (pset_else (by decide)).trans h1
  have h2 : ((((w.setCell ⟨q, 1, none⟩ (.bool false)).setCell ⟨q, 2, none⟩ (.int .i64 m.li)).setCell ⟨q, 3, none⟩ (.int .i64 0)).setCell ⟨q, 4, none⟩ (.int .i64 0)).cell? ⟨q, 2, none⟩ = _ := (pset_else (by decide)).trans h2
  have h3 : ((((w.setCell ⟨q, 1, none⟩ (.bool false)).setCell ⟨q, 2, none⟩ (.int .i64 m.li)).setCell ⟨q, 3, none⟩ (.int .i64 0)).setCell ⟨q, 4, none⟩ (.int .i64 0)).cell? ⟨q, 3, none⟩ = _ := (pset_else (by decide)).trans h3
  have h4 : ((((w.setCell ⟨q, 1, none⟩ (.bool false)).setCell ⟨q, 2, none⟩ (.int .i64 m.li)).setCell ⟨q, 3, none⟩ (.int .i64 0)).setCell ⟨q, 4, none⟩ (.int .i64 0)).cell? ⟨q, 4, none⟩ = some (.int .i64 0) := pset_same h4
  have h5 : ((((w.setCell ⟨q, 1, none⟩ (.bool false)).setCell ⟨q, 2, none⟩ (.int .i64 m.li)).setCell ⟨q, 3, none⟩ (.int .i64 0)).setCell ⟨q, 4, none⟩ (.int .i64 0)).cell? ⟨q, 5, none⟩ = _ := (pset_else (by decide)).trans h5
  have h6 : ((((w.setCell ⟨q, 1, none⟩ (.bool false)).setCell ⟨q, 2, none⟩ (.int .i64 m.li)).setCell ⟨q, 3, none⟩ (.int .i64 0)).setCell ⟨q, 4, none⟩ (.int .i64 0)).cell? ⟨q, 6, none⟩ = _ := (pset_else (by decide)).trans h6
  have h0 : (((((w.setCell ⟨q, 1, none⟩ (.bool false)).setCell ⟨q, 2, none⟩ (.int .i64 m.li)).setCell ⟨q, 3, none⟩ (.int .i64 0)).setCell ⟨q, 4, none⟩ (.int .i64 0)).setCell ⟨q, 5, none⟩ (.int .i64 0)).cell? ⟨q, 0, none⟩ = _ := (pset_else (by decide)).trans h0
  have h1 : (((((w.setCell ⟨q, 1, none⟩ (.bool false)).setCell ⟨q, 2, none⟩ (.int .i64 m.li)).setCell ⟨q, 3, none⟩ (.int .i64 0)).setCell ⟨q, 4, none⟩ (.int .i64 0)).setCell ⟨q, 5, none⟩ (.int .i64 0)).cell? ⟨q, 1, none⟩ = _ := (pset_else (by decide)).trans h1
  have h2 : (((((w.setCell ⟨q, 1, none⟩ (.bool false)).setCell ⟨q, 2, none⟩ (.int .i64 m.li)).setCell ⟨q, 3, none⟩ (.int .i64 0)).setCell ⟨q, 4, none⟩ (.int .i64 0)).setCell ⟨q, 5, none⟩ (.int .i64 0)).cell? ⟨q, 2, none⟩ = _ := (pset_else (by decide)).trans h2
  have h3 : (((((w.setCell ⟨q, 1, none⟩ (.bool false)).setCell ⟨q, 2, none⟩ (.int .i64 m.li)).setCell ⟨q, 3, none⟩ (.int .i64 0)).setCell ⟨q, 4, none⟩ (.int .i64 0)).setCell ⟨q, 5, none⟩ (.int .i64 0)).cell? ⟨q, 3, none⟩ = _ := (pset_else (by decide)).trans h3
  have h4 : (((((w.setCell ⟨q, 1, none⟩ (.bool false)).setCell ⟨q, 2, none⟩ (.int .i64 m.li)).setCell ⟨q, 3, none⟩ (.int .i64 0)).setCell ⟨q, 4, none⟩ (.int .i64 0)).setCell ⟨q, 5, none⟩ (.int .i64 0)).cell? ⟨q, 4, none⟩ = _ := (pset_else (by decide)).trans h4
  have h5 : (((((w.setCell ⟨q, 1, none⟩ (.bool false)).setCell ⟨q, 2, none⟩ (.int .i64 m.li)).setCell ⟨q, 3, none⟩ (.int .i64 0)).setCell ⟨q, 4, none⟩ (.int .i64 0)).setCell ⟨q, 5, none⟩ (.int .i64 0)).cell? ⟨q, 5, none⟩ = some (.int .i64 0) := pset_same h5
  have h6 : (((((w.setCell ⟨q, 1, none⟩ (.bool false)).setCell ⟨q, 2, none⟩ (.int .i64 m.li)).setCell ⟨q, 3, none⟩ (.int .i64 0)).setCell ⟨q, 4, none⟩ (.int .i64 0)).setCell ⟨q, 5, none⟩ (.int .i64 0)).cell? ⟨q, 6, none⟩ = _ := (pset_else (by decide)).trans h6
  have h0 : ((((((w.setCell ⟨q, 1, none⟩ (.bool false)).setCell ⟨q, 2, none⟩ (.int .i64 m.li)).setCell ⟨q, 3, none⟩ (.int .i64 0)).setCell ⟨q, 4, none⟩ (.int .i64 0)).setCell ⟨q, 5, none⟩ (.int .i64 0)).setCell ⟨q, 6, none⟩ (.int .i64 0)).cell? ⟨q, 0, none⟩ = _ := (pset_else (by decide)).trans h0
  have h1 : ((((((w.setCell ⟨q, 1, none⟩ (.bool false)).setCell ⟨q, 2, none⟩ (.int .i64 m.li)).setCell ⟨q, 3, none⟩ (.int .i64 0)).setCell ⟨q, 4, none⟩ (.int .i64 0)).setCell ⟨q, 5, none⟩ (.int .i64 0)).setCell ⟨q, 6, none⟩ (.int .i64 0)).cell? ⟨q, 1, none⟩ = _ := (pset_else (by decide)).trans h1
  have h2 : ((((((w.setCell ⟨q, 1, none⟩ (.bool false)).setCell ⟨q, 2, none⟩ (.int .i64 m.li)).setCell ⟨q, 3, none⟩ (.int .i64 0)).setCell ⟨q, 4, none⟩ (.int .i64 0)).setCell ⟨q, 5, none⟩ (.int .i64 0)).setCell ⟨q, 6, none⟩ (.int .i64 0)).cell? ⟨q, 2, none⟩ = _ := (pset_else (by decide)).trans h2
  have h3 : ((((((w.setCell ⟨q, 1, none⟩ (.bool false)).setCell ⟨q, 2, none⟩ (.int .i64 m.li)).setCell ⟨q, 3, none⟩ (.int .i64 0)).setCell ⟨q, 4, none⟩ (.int .i64 0)).setCell ⟨q, 5, none⟩ (.int .i64 0)).setCell ⟨q, 6, none⟩ (.int .i64 0)).cell? ⟨q, 3, none⟩ = _ := (pset_else (by decide)).trans h3
  have h4 : ((((((w.setCell ⟨q, 1, none⟩ (.bool false)).setCell ⟨q, 2, none⟩ (.int .i64 m.li)).setCell ⟨q, 3, none⟩ (.int .i64 0)).setCell ⟨q, 4, none⟩ (.int .i64 0)).setCell ⟨q, 5, none⟩ (.int .i64 0)).setCell ⟨q, 6, none⟩ (.int .i64 0)).cell? ⟨q, 4, none⟩ = _ := (pset_else (by decide)).trans h4
  have h5 : ((((((w.setCell ⟨q, 1, none⟩ (.bool false)).setCell ⟨q, 2, none⟩ (.int .i64 m.li)).setCell ⟨q, 3, none⟩ (.int .i64 0)).setCell ⟨q, 4, none⟩ (.int .i64 0)).setCell ⟨q, 5, none⟩ (.int .i64 0)).setCell ⟨q, 6, none⟩ (.int .i64 0)).cell? ⟨q, 5, none⟩ = _ := (pset_else (by decide)).trans h5
  have h6 : ((((((w.setCell ⟨q, 1, none⟩ (.bool false)).setCell ⟨q, 2, none⟩ (.int .i64 m.li)).setCell ⟨q, 3, none⟩ (.int .i64 0)).setCell ⟨q, 4, none⟩ (.int .i64 0)).setCell ⟨q, 5, none⟩ (.int .i64 0)).setCell ⟨q, 6, none⟩ (.int .i64 0)).cell? ⟨q, 6, none⟩ = some (.int .i64 0) := pset_same h6
  refine ⟨h0, h1, h2, h3, h4, h5, h6, fun i => ?_⟩
  rw [World.frozen?_setCell, World.frozen?_setCell, World.frozen?_setCell, World.frozen?_setCell, World.frozen?_setCell, World.frozen?_setCell]
  exact hf i
set_option maxHeartbeats 2000000 in
theorem fallI (m : Mi) (q base : Nat) (ad : Option Addr) (cap : Nat) (w : World) (M : MgBox w q m (.slice ad m.lg.length cap)) (O : FOwn ikEnc 8 138 base w (.slice ad m.lg.length cap) m.lg) (hq : ∀ g, (Value.slice ad m.lg.length cap).ownBlock = some g → g ≠ q) :
    Calls Tryz.prog 117 #[.pointer (some ⟨q, 0, none⟩)] w fun e w' => e = .returned (.tuple #[]) ∧ MgBox w' q ⟨false, m.li, 0, [], 0, 0, 0⟩ (.slice ad 0 cap) ∧ Turned q (Value.slice ad m.lg.length cap).ownBlock w w' := by
  go_enter Tryz.func117, Tryz.ntmps117
  go_wp2_with fail
  go_at_call 131
  refine (emptyI m q base ad cap w M O hq).mono ?_
  rintro e w1 ⟨rfl, M1, T1⟩
  have M2 := M1.fallen
  have T3 : Turned q (Value.slice ad m.lg.length cap).ownBlock w ((((((w1.setCell ⟨q, 1, none⟩ (.bool false)).setCell ⟨q, 2, none⟩ (.int .i64 m.li)).setCell ⟨q, 3, none⟩ (.int .i64 0)).setCell ⟨q, 4, none⟩ (.int .i64 0)).setCell ⟨q, 5, none⟩ (.int .i64 0)).setCell ⟨q, 6, none⟩ (.int .i64 0)) := ((((((T1.set 1 _).set 2 _).set 3 _).set 4 _).set 5 _).set 6 _)
  clear T1 O hq M
  obtain ⟨c0, c1, c2, c3, c4, c5, c6, fr⟩ := M1
  have f1 := fr 1
  have f2 := fr 2
  have f3 := fr 3
  have f4 := fr 4
  have f5 := fr 5
  have f6 := fr 6
  clear fr
  go_wp2
  go_end0
  exact ⟨rfl, M2, T3⟩

end Go.Proofs.YtijhpfccjaaalaaGreat
namespace Go.Proofs.YtijhpfccjaaalaaGreat
open Go.ChangeShapes Go.WideShapes Go.ChangeAt Go.RowKit
open Go.ChangeMaps (open_string shut_string)
set_option linter.unusedVariables false
set_option maxRecDepth 100000

open Go.MuLone
/-- The program's own register, at work: its number, its lock, its owner and its pair. -/
structure GBox (w : World) (q : Nat) (l : Int) (r : Rg) : Prop where
  c0 : w.cell? ⟨q, 0, none⟩ = some (.int .i64 r.ep)
  c1 : w.cell? ⟨q, 1, none⟩ = some (.int .i32 l)
  c2 : w.cell? ⟨q, 2, none⟩ = some (.int .u32 0)
  c3 : w.cell? ⟨q, 3, none⟩ = some (.int .i64 r.ow)
  c4 : w.cell? ⟨q, 4, none⟩ = some (.int .i64 r.pa)
  fr : ∀ i, w.frozen? ⟨q, i, none⟩ = false
theorem GBox.keep {w w' : World} {q : Nat} {l : Int} {r : Rg} (h : GBox w q l r) (k : w'.heap[q]? = w.heap[q]?) : GBox w' q l r :=
  ⟨(World.cell?_of_block (a := ⟨q, 0, none⟩) k).trans h.c0, (World.cell?_of_block (a := ⟨q, 1, none⟩) k).trans h.c1, (World.cell?_of_block (a := ⟨q, 2, none⟩) k).trans h.c2, (World.cell?_of_block (a := ⟨q, 3, none⟩) k).trans h.c3, (World.cell?_of_block (a := ⟨q, 4, none⟩) k).trans h.c4, fun i => (World.frozen?_of_block (a := ⟨q, i, none⟩) k).trans (h.fr i)⟩
theorem GBox.lt {w : World} {q : Nat} {l : Int} {r : Rg} (h : GBox w q l r) : q < w.heap.size := World.block_lt_of_cell? w _ h.c0
theorem GBox.below {w w' : World} {q n : Nat} {l : Int} {r : Rg} (h : GBox w q l r) (k : Below n w w') (hq : q < n) : GBox w' q l r := h.keep (k.block q hq)
theorem GBox.lock {w : World} {q : Nat} {l : Int} {r : Rg} (h : GBox w q l r) (l' : Int) : GBox (w.setCell ⟨q, 1, none⟩ (.int .i32 l')) q l' r := by
  obtain ⟨h0, h1, h2, h3, h4, hf⟩ := h
  refine ⟨(pset_else (by decide)).trans h0, pset_same h1, (pset_else (by decide)).trans h2, (pset_else (by decide)).trans h3, (pset_else (by decide)).trans h4, fun i => ?_⟩
  rw [World.frozen?_setCell]; exact hf i
theorem GBox.setEp {w : World} {q : Nat} {l : Int} {r : Rg} (h : GBox w q l r) (x : Int) : GBox (w.setCell ⟨q, 0, none⟩ (.int .i64 x)) q l ⟨x, r.ow, r.pa⟩ := by
  obtain ⟨h0, h1, h2, h3, h4, hf⟩ := h
  refine ⟨pset_same h0, (pset_else (by decide)).trans h1, (pset_else (by decide)).trans h2, (pset_else (by decide)).trans h3, (pset_else (by decide)).trans h4, fun i => ?_⟩
  rw [World.frozen?_setCell]; exact hf i
theorem GBox.setOw {w : World} {q : Nat} {l : Int} {r : Rg} (h : GBox w q l r) (x : Int) : GBox (w.setCell ⟨q, 3, none⟩ (.int .i64 x)) q l ⟨r.ep, x, r.pa⟩ := by
  obtain ⟨h0, h1, h2, h3, h4, hf⟩ := h
  refine ⟨(pset_else (by decide)).trans h0, (pset_else (by decide)).trans h1, (pset_else (by decide)).trans h2, pset_same h3, (pset_else (by decide)).trans h4, fun i => ?_⟩
  rw [World.frozen?_setCell]; exact hf i
theorem GBox.setPa {w : World} {q : Nat} {l : Int} {r : Rg} (h : GBox w q l r) (x : Int) : GBox (w.setCell ⟨q, 4, none⟩ (.int .i64 x)) q l ⟨r.ep, r.ow, x⟩ := by
  obtain ⟨h0, h1, h2, h3, h4, hf⟩ := h
  refine ⟨(pset_else (by decide)).trans h0, (pset_else (by decide)).trans h1, (pset_else (by decide)).trans h2, (pset_else (by decide)).trans h3, pset_same h4, fun i => ?_⟩
  rw [World.frozen?_setCell]; exact hf i
theorem loadG (x : Int) (q : Nat) (w : World) (h : w.cell? ⟨q, 0, none⟩ = some (.int .i64 x)) :
    Calls Tryz.prog 92 #[.pointer (some ⟨q, 0, none⟩)] w fun e w' => e = .returned (.int .i64 x) ∧ w' = w := by
  have hl := run_call_load (P := Tryz.prog) Tryz.func121 (by kernel_rfl) (by kernel_rfl) (by kernel_rfl) .i64 (by kernel_rfl) h
  go_enter Tryz.func92, Tryz.ntmps92
  go_wp2
  go_ret
  exact ⟨rfl, rfl⟩
theorem storeG (x : Int) (u : Value) (q : Nat) (w : World) (h : w.cell? ⟨q, 0, none⟩ = some u) (hz : w.frozen? ⟨q, 0, none⟩ = false) :
    Calls Tryz.prog 85 #[.pointer (some ⟨q, 0, none⟩), .int .i64 x] w fun e w' => e = .returned (.tuple #[]) ∧ w' = w.setCell ⟨q, 0, none⟩ (.int .i64 x) := by
  have hl := run_call_store (P := Tryz.prog) Tryz.func112 (by kernel_rfl) (by kernel_rfl) (by kernel_rfl) (by kernel_rfl) (k := .i64) (y := x) h hz
  go_enter Tryz.func85, Tryz.ntmps85
  go_wp2
  exact bodyPost_end (results_none rfl _ _ _) rfl ⟨rfl, rfl⟩
theorem addG (x : Int) (q : Nat) (w : World) (h : w.cell? ⟨q, 0, none⟩ = some (.int .i64 x)) (hz : w.frozen? ⟨q, 0, none⟩ = false) (h1 : 1 ≤ x) (h2 : x ≤ 100000) :
    Calls Tryz.prog 91 #[.pointer (some ⟨q, 0, none⟩), .int .i64 1] w fun e w' => e = .returned (.int .i64 (x + 1)) ∧ w' = w.setCell ⟨q, 0, none⟩ (.int .i64 (x + 1)) := by
  have hs : (Op.intArith .add .i64 x 1).run Tryz.prog w = .ok (.int .i64 (x + 1)) w := by
    have hw : IntKind.i64.wrap (x + 1) = x + 1 := by
      first | (simp [IntKind.wrap]; omega) | (have hz : wrap64 (x + 1) = x + 1 := by { unfold wrap64; omega }; exact hz) | (simp [IntKind.wrap, IntKind.bits, IntKind.signed]; omega)
    simp [go_sem, hw]
  have hl := run_call_add (P := Tryz.prog) Tryz.func120 (by kernel_rfl) (by kernel_rfl) (by kernel_rfl) .i64 (by kernel_rfl) h hz hs
  go_enter Tryz.func91, Tryz.ntmps91
  go_wp2
  go_ret
  exact ⟨rfl, rfl⟩
theorem epochI (x : Int) (q : Nat) (w : World) (h : w.cell? ⟨q, 0, none⟩ = some (.int .i64 x)) :
    Calls Tryz.prog 38 #[.pointer (some ⟨q, 0, none⟩)] w fun e w' => e = .returned (.int .i64 x) ∧ w' = w := by
  go_enter Tryz.func38, Tryz.ntmps38
  go_wp2_with fail
  go_at_call 92
  refine (loadG x q w h).mono ?_
  rintro e w' ⟨rfl, rfl⟩
  go_wp2
  go_ret
  exact ⟨rfl, rfl⟩

end Go.Proofs.YtijhpfccjaaalaaGreat
namespace Go.Proofs.YtijhpfccjaaalaaGreat
open Go.ChangeShapes Go.WideShapes Go.ChangeAt Go.RowKit
open Go.ChangeMaps (open_string shut_string)
set_option linter.unusedVariables false
set_option maxRecDepth 100000

open Go.MuLone
set_option maxHeartbeats 2000000 in
theorem isOfI (r : Rg) (s ep : Int) (q : Nat) (w : World) (G : GBox w q 0 r) :
    Calls Tryz.prog 49 #[.pointer (some ⟨q, 0, none⟩), .int .i64 s, .int .i64 ep] w fun e w' => e = .returned (.bool (decide (r.ow = s) && decide (r.ep = ep))) ∧ GBox w' q 0 r ∧ Turned q none w w' := by
  obtain ⟨R, hR⟩ : ∃ R, R = (decide (r.ow = s) && decide (r.ep = ep)) := ⟨_, rfl⟩
  rw [← hR]
  replace hR : Hid _ := hR
  go_enter_defers Tryz.func49, Tryz.ntmps49
  go_wp2_with fail
  go_at_call 89
  refine (lock_free Tryz.muLib ⟨q, 1, none⟩ w G.c1 (G.fr 1)).mono ?_
  rintro e w' ⟨rfl, rfl⟩
  obtain ⟨v, hv⟩ : ∃ v, v = w.setCell ⟨q, 1, none⟩ (.int .i32 1) := ⟨_, rfl⟩
  have G1 : GBox v q 1 r := by rw [hv]; exact G.lock 1
  have T1 : Turned q none w v := by rw [hv]; exact (Turned.refl _ _ _).set 1 _
  rw [← hv]
  clear hv G
  have c0 := G1.c0
  have c3 := G1.c3
  by_cases e1 : r.ow = s
  rotate_left
  · have h1 : decide (r.ow = s) = false := decide_eq_false e1
    have hN : Hid (R = false) := by unfold Hid; rw [hR.out, h1]; rfl
    go_wp2
    refine leaves_cons (f := 90) (args := #[.pointer (some ⟨q, 1, none⟩)]) (by simp) (by simp [go_sem]) ?_
    refine (unlock_deferred Tryz.muLib ⟨q, 1, none⟩ .returning _ G1.c1 (G1.fr 1)).mono ?_
    rintro e u' w'' ⟨rfl, rfl, rfl⟩
    exact ⟨_, results_tmp rfl _ _ _, by rw [hN.out]; rfl, G1.lock 0, T1.set 1 _⟩
  · have h1 : decide (r.ow = s) = true := decide_eq_true e1
    have hN : Hid (R = decide (r.ep = ep)) := by unfold Hid; rw [hR.out, h1]; rfl
    replace e1 : Hid _ := e1
    go_wp2_with fail
    go_at_call 38
    refine (epochI r.ep q v c0).mono ?_
    rintro e w' ⟨rfl, rfl⟩
    go_wp2
    refine leaves_cons (f := 90) (args := #[.pointer (some ⟨q, 1, none⟩)]) (by simp) (by simp [go_sem]) ?_
    refine (unlock_deferred Tryz.muLib ⟨q, 1, none⟩ .returning _ G1.c1 (G1.fr 1)).mono ?_
    rintro e u' w'' ⟨rfl, rfl, rfl⟩
    exact ⟨_, results_tmp rfl _ _ _, by rw [hN.out]; rfl, G1.lock 0, T1.set 1 _⟩
set_option maxHeartbeats 2000000 in
theorem pairWI (r : Rg) (p : Int) (q : Nat) (w : World) (G : GBox w q 0 r) :
    Calls Tryz.prog 46 #[.pointer (some ⟨q, 0, none⟩), .int .i64 p] w fun e w' => e = .returned (.tuple #[]) ∧ GBox w' q 0 ⟨r.ep, r.ow, p⟩ ∧ Turned q none w w' := by
  go_enter_defers Tryz.func46, Tryz.ntmps46
  go_wp2_with fail
  go_at_call 89
  refine (lock_free Tryz.muLib ⟨q, 1, none⟩ w G.c1 (G.fr 1)).mono ?_
  rintro e w' ⟨rfl, rfl⟩
  obtain ⟨v, hv⟩ : ∃ v, v = w.setCell ⟨q, 1, none⟩ (.int .i32 1) := ⟨_, rfl⟩
  have G1 : GBox v q 1 r := by rw [hv]; exact G.lock 1
  have T1 : Turned q none w v := by rw [hv]; exact (Turned.refl _ _ _).set 1 _
  rw [← hv]
  clear hv G
  have c4 := G1.c4
  have f4 := G1.fr 4
  have G2 := G1.setPa p
  have T2 := T1.set 4 (.int .i64 p)
  go_wp2
  refine leaves_cons (f := 90) (args := #[.pointer (some ⟨q, 1, none⟩)]) (by simp) (by simp [go_sem]) ?_
  refine (unlock_deferred Tryz.muLib ⟨q, 1, none⟩ .returning _ G2.c1 (G2.fr 1)).mono ?_
  rintro e u' w'' ⟨rfl, rfl, rfl⟩
  exact ⟨_, results_none rfl _ _ _, rfl, G2.lock 0, T2.set 1 _⟩

end Go.Proofs.YtijhpfccjaaalaaGreat
