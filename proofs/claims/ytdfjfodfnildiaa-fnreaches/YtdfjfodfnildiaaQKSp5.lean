/- spec.l10Round, walked. -/
import Derived.Test.YtdfjfodfnildiaaRows
import Derived.WalkKit
import Derived.ProofKit
import Derived.OpenShut
import Derived.ShutString
import Derived.ChangeOld
import Derived.Below
import Derived.Deep.QuietTactic
import Derived.BigQuiet
import Derived.WalkSmall
import Derived.Laws.OwnMore
import Derived.WalkSpells
import Derived.WalkLawsBesides
import Derived.Deep.Cut
import Derived.Laws.StructEq
import Derived.Deep.RegionHeld
import Derived.Test.YtdfjfodfnildiaaQM16
import Derived.Test.YtdfjfodfnildiaaQKRe5
import Derived.Test.YtdfjfodfnildiaaQM15
import Derived.Test.YtdfjfodfnildiaaQM1
namespace Go.Proofs.Ytdfjfodfnildiaa
open Go.ChangeShapes Go.WideShapes Go.ChangeAt Go.RowKit
open Go.ChangeMaps (open_string shut_string)
set_option linter.unusedVariables false
set_option maxRecDepth 100000

theorem join_regionR {P : Program} {reg : Code} {K : Act → World → Prop} {Q : Exit → Act → World → Prop} {l : List Value} {ds : List Deferred} {W : World} (R : List Value → List Value → World → Prop) (h1 : ∀ l' W', R l l' W' → K ⟨l'.toArray, ds⟩ W') (h2 : ∀ K2 : Act → World → Prop, Hid (∀ l' W', R l l' W' → K2 ⟨l'.toArray, ds⟩ W') → Code.wp P reg (Exit.then K2 Q) ⟨l.toArray, ds⟩ W) : Code.wp P reg (Exit.then K Q) ⟨l.toArray, ds⟩ W := h2 K h1
theorem ouLt {w : World} {q o : Nat} {x : Ou} (h : OuAtO w q o x) : q < w.heap.size := World.block_lt_of_cell? w _ h.c0
theorem ouKeep {w w' : World} {q o : Nat} {x : Ou} (h : OuAtO w q o x) (k : w'.heap[q]? = w.heap[q]?) : OuAtO w' q o x :=
  ⟨(World.cell?_of_block k).trans h.c0, (World.cell?_of_block k).trans h.c1, (World.cell?_of_block k).trans h.c2, (World.cell?_of_block k).trans h.c3, (World.cell?_of_block k).trans h.c4, (World.cell?_of_block k).trans h.c5, (World.cell?_of_block k).trans h.c6, (World.cell?_of_block k).trans h.c7⟩
theorem otherSn (adB : Option Addr) (capB : Nat) (Bs : List Bd) (adK : Option Addr) (capK : Nat) (K : List Lk) (n : Nat) (hn : Bs.length = n) (a p : Int) (w : World) (h : NN w adB Bs adK K) :
    Calls Try.prog 121 #[.agg #[.slice adB n capB, .slice adK K.length capK], .int .i64 a, .int .i64 p] w fun e w' => e = .returned (othV (otherL K a p)) ∧ Below w.heap.size w w' := by
  subst hn
  exact otherS adB capB Bs adK capK K a p w h
set_option maxHeartbeats 16000000 in
theorem roundNS (adB : Option Addr) (capB : Nat) (Bs : List Bd) (adK : Option Addr) (capK : Nat) (K : List Lk) (lo mid hi : Nat) (w : World) (hO : NetOwn lo mid hi w (.slice adB Bs.length capB) Bs (.slice adK K.length capK) K) (h0 : 0 < Bs.length) (hl : Bs.length ≤ 1048576) (hls : ∀ i, i < Bs.length → (Bs.getD i Bd.nil).L.length ≤ 1048576) (hk : K.length ≤ 1048576)
    (hE : ∀ (i : Nat) (p : Int) (z : Int × Int), otherL K i p = some z → 0 ≤ z.1 ∧ z.1 < (Bs.length : Int)) :
    Calls Try.prog 107 #[.agg #[.slice adB Bs.length capB, .slice adK K.length capK]] w fun e w' => ∃ Cs, e = .returned (.agg #[.slice adB Cs.length capB, .slice adK K.length capK]) ∧ dB Cs = roundL K (dB Bs) Bs.length ∧ Cs.length = Bs.length ∧ (∀ i, i < Cs.length → (Cs.getD i Bd.nil).L.length ≤ 1048576) ∧ (∀ i, i < Cs.length → ∀ q, (Cs.getD i Bd.nil).v.ownBlock = some q → (∃ j, j < Bs.length ∧ (Bs.getD j Bd.nil).v.ownBlock = some q) ∨ w.heap.size < q) ∧ NetOwn lo mid w'.heap.size w' (.slice adB Cs.length capB) Cs (.slice adK K.length capK) K ∧ w.grownBy w' (Value.slice adB Bs.length capB).ownBlock := by
  obtain ⟨g, rfl⟩ : ∃ g, adB = some ⟨g, 0, none⟩ := by
    rcases hO.own.row.2 with ⟨_, q⟩ | ⟨g, cap, cur, q, _⟩
    · omega
    · simp only [Value.slice.injEq] at q
      exact ⟨g, q.1⟩
  obtain ⟨n, hn⟩ : ∃ n, Bs.length = n := ⟨_, rfl⟩
  rw [hn] at hO h0 hl hE ⊢
  replace hn : Hid _ := hn
  replace hE : Hid _ := hE
  obtain ⟨y, hy⟩ : ∃ y, y = (w.alloc (Obj.cells #[(.slice (some ⟨g, 0, none⟩) n capB), (.slice adK K.length capK)] 27)).alloc (Obj.cells #[.slice none 0 0, .slice none 0 0] 27) := ⟨_, rfl⟩
  have B0 : Below w.heap.size w y := by rw [hy]; exact ((Below.refl _ _).alloc (Nat.le_refl _) _).alloc (by simp) _
  have St : RdSt (fun q => ∃ j, j < Bs.length ∧ (Bs.getD j Bd.nil).v.ownBlock = some q) g w.heap.size n lo mid capB adK capK K w y Bs := by
    have h1 := hO.later B0
    have h2 := hO.own.rhi g rfl
    have h3 := hO.hs
    refine ⟨⟨h1.own.wide (Nat.le_refl _) h1.hs, h1.own2, h1.khi, h1.lm, Nat.le_trans h1.mh h1.hs, Nat.le_refl _⟩, ?_, ?_, grown_of B0, by omega, hn.out, hls, fun i hi q e => .inl ⟨by have := hO.own.nhi i hi q e; omega, i, hi, e⟩⟩
    · rw [hy]; constructor <;> simp [go_sem]
    · rw [hy]; refine ⟨?_, fun i => ?_⟩
      · constructor <;> simp [go_sem]
      · simp [go_sem]
  go_enter Try.func107, Try.ntmps107
  go_wp2
  rw [← hy]
  clear hy B0 hO hls
  go_loopw [3] (fun q wr => ∃ (k : Nat) (Cs : List Bd), k ≤ n ∧ q = .int .i64 k ∧ Hid (dB Cs = roundL K (dB Bs) k) ∧ RdSt (fun q => ∃ j, j < Bs.length ∧ (Bs.getD j Bd.nil).v.ownBlock = some q) g w.heap.size n lo mid capB adK capK K w wr Cs) (fun q _ => n - (intOf q).toNat)
  case atStart => exact ⟨0, Bs, Nat.zero_le _, rfl, rfl, St⟩
  case round =>
    clear St
    obtain ⟨k, Cs, hk1, rfl, hd, St⟩ := hrel
    by_cases hlt : k < n
    · have hltC : k < Cs.length := by rw [St.hl]; exact hlt
      have hrow := St.row hltC
      have hnil := St.nil0 hltC
      have hlk := St.ls k hltC
      have hdk : Hid ((roundL K (dB Bs) k).getD k Bg.nil = (Cs.getD k Bd.nil).d) := by unfold Hid; rw [← hd.out]; exact bd_get Cs k
      obtain ⟨⟨id, a1, c1, L1⟩, hh⟩ : ∃ q, Cs.getD k Bd.nil = q := ⟨_, rfl⟩
      rw [hh] at hlk hnil hdk
      simp only [hh] at hrow
      dsimp only at hlk hnil hrow
      clear hh
      obtain ⟨w0, hw0⟩ : ∃ x, x = wr := ⟨_, rfl⟩
      rw [← hw0] at St hrow ⊢
      clear hw0
      obtain ⟨B, hB⟩ : ∃ B, Hid (B = w0.heap.size) := ⟨_, rfl⟩
      have hgB : g < B := by have h1 := hB.out; have h2 := St.hg; have h3 := St.pb.lt; omega
      obtain ⟨rc, _, rv⟩ := hrow w0 (Below.refl _ _)
      obtain ⟨X0, X1⟩ := rc
      dsimp only at X0 X1
      obtain ⟨m0, m1⟩ := St.pb
      go_wp2_with fail
      go_at_call 92
      refine (reactS id a1 c1 L1 tickIk w0 rv hlk hnil).mono ?_
      rintro e u1 ⟨a2, c2, ao, co, rfl, n1, o1, _, kq⟩
      have hs : Hid (stepL K (roundL K (dB Bs) k) k = (reactO id L1 tickIk).foldl (handL K k) ((roundL K (dB Bs) k).set k ⟨id, reactL id L1 tickIk⟩)) := by
        unfold Hid stepL tickB
        rw [hdk.out]
        rfl
      have hrl : Hid ((reactL id L1 tickIk).length = L1.length) := reactL_len _ _ _
      have hol := reactO_len id L1 tickIk
      generalize reactL id L1 tickIk = L2 at n1 hs hrl ⊢
      generalize reactO id L1 tickIk = OO at o1 hs hol ⊢
      obtain ⟨x2, hx2⟩ : ∃ x, x = u1.alloc (Obj.cells #[.int .i64 id, .slice a2 L2.length c2] 71) := ⟨_, rfl⟩
      have kx2 : Below u1.heap.size u1 x2 := by rw [hx2]; exact below_new _
      have b2 : BBox x2 u1.heap.size id (.slice a2 L2.length c2) := by rw [hx2]; exact BBox.new u1 _ _ _
      have k02 : Below w0.heap.size w0 x2 := kq.trans (kx2.mono kq.size)
      have n2 := n1.later kx2
      have o2 := o1.later kx2
      clear X0 X1 m0 m1
      go_upto_region 5 with fail
      rw [← hx2]
      clear hx2 kx2 n1 o1 kq rv
      generalize u1.heap.size = Q at b2 ⊢
      obtain ⟨⟨r0, r1⟩, rf, _⟩ := hrow x2 k02
      dsimp only at r0 r1
      have f0 := rf (k * 2)
      have f1 := rf (k * 2 + 1)
      obtain ⟨b0, b1⟩ := b2.at_
      obtain ⟨m0, m1⟩ := (St.later k02).pb
      have S3 := St.set k02 hltC ⟨id, a2, c2, L2⟩ n2 (by show L2.length ≤ _; rw [hrl.out]; exact hlk)
      dsimp only at S3
      have O3 : FOwn ouEnc 8 146 B ((x2.setCell ⟨g, k * 2, none⟩ (.int .i64 id)).setCell ⟨g, k * 2 + 1, none⟩ (.slice a2 L2.length c2)) (.slice ao OO.length co) OO := by
        rw [← hB.out] at o2
        refine o2.keep (fun e_ he => ?_)
        have := (o2.lt e_ he).1
        rw [Below.heap_setCell _ _ _ _ (by show e_ ≠ g; omega), Below.heap_setCell _ _ _ _ (by show e_ ≠ g; omega)]
      obtain ⟨TT, hTT⟩ : ∃ T, Hid ((roundL K (dB Bs) k).set k ⟨id, L2⟩ = T) := ⟨_, rfl⟩
      have hd3 : Hid (dB (Cs.set k ⟨id, a2, c2, L2⟩) = TT) := by
        unfold Hid
        rw [← hTT.out, ← hd.out]
        unfold dB
        rw [List.map_set]
        rfl
      rw [hTT.out] at hs
      obtain ⟨x3, hx3⟩ : ∃ x, x = (x2.setCell ⟨g, k * 2, none⟩ (.int .i64 id)).setCell ⟨g, k * 2 + 1, none⟩ (.slice a2 L2.length c2) := ⟨_, rfl⟩
      rw [← hx3] at S3 O3
      go_upto_region 6 with fail
      rw [← hx3]
      clear hx3 r0 r1 rf f0 f1 b0 b1 m0 m1 b2 k02 n2 o2 hrow St hd hdk
      go_wp2
      go_loopw [6] (fun s wr => ∃ (m : Nat) (Ds : List Bd), m ≤ OO.length ∧ s = .int .i64 m ∧ Hid (dB Ds = (OO.take m).foldl (handL K k) TT) ∧ RdSt (fun q => ∃ j, j < Bs.length ∧ (Bs.getD j Bd.nil).v.ownBlock = some q) g w.heap.size n lo mid capB adK capK K w wr Ds ∧ FOwn ouEnc 8 146 B wr (.slice ao OO.length co) OO) (fun s _ => OO.length - (intOf s).toNat)
      case atStart => exact ⟨0, _, Nat.zero_le _, rfl, by unfold Hid; rw [List.take_zero]; exact hd3.out, S3, O3⟩
      case round =>
        clear S3 O3 hd3 hTT hB
        obtain ⟨m, Ds, hm1, rfl, hdm, S, O⟩ := hrel
        by_cases hmt : m < OO.length
        · obtain ⟨b, off, rfl, _⟩ := O.view.2 (by omega)
          obtain ⟨o, ho⟩ : ∃ o, OO.getD m Ou.nil = o := ⟨_, rfl⟩
          have hck : OuAtO wr b (off + m * 8) o := by
            rw [← ho]
            exact ouAtO_of (O.view.2.at_ ouEnc_len Ou.nil hmt)
          have hnx : Hid ((OO.take (m + 1)).foldl (handL K k) TT = handL K k (dB Ds) o) := by
            unfold Hid
            rw [foldL_take _ _ Ou.nil _ hmt, ho, ← hdm.out]
          obtain ⟨c0, c1, c2, c3, c4, c5, c6, c7⟩ := hck
          obtain ⟨u, hu⟩ : ∃ u, u = wr.alloc (Obj.cells #[.int .i64 o.k, .int .i64 o.pt, .int .i64 o.r, .int .i64 o.c, .int .i64 o.b, .int .i64 o.p, .int .i64 o.h, .bool o.on] 146) := ⟨_, rfl⟩
          have ku : Below wr.heap.size wr u := by rw [hu]; exact below_new _
          have ou : OuAtO u wr.heap.size 0 o := by rw [hu]; constructor <;> simp [go_sem]
          have Su := S.later ku
          have Ou_ := O.later ku
          clear ho hdm
          go_upto_region 10 with fail
          rw [← hu]
          clear hu c0 c1 c2 c3 c4 c5 c6 c7 ku
          generalize wr.heap.size = P9 at ou ⊢
          have oc := ou
          obtain ⟨c0, c1, c2, c3, c4, c5, c6, c7⟩ := oc
          obtain ⟨m0, m1⟩ := Su.pb
          go_wp2_with fail
          go_at_call 121
          refine (otherSn (some ⟨g, 0, none⟩) capB Ds adK capK K n Su.hl k o.pt u (Su.nn hl hk)).mono ?_
          rintro e v ⟨rfl, kv⟩
          obtain ⟨t, q, ok, hov, hoc⟩ := othV_cases (otherL K k o.pt)
          rw [hov]
          have Sv := Su.later kv
          have Ov := Ou_.later kv
          have ov := ouKeep ou (kv.block _ (ouLt ou))
          clear hov c0 c1 c2 c3 c4 c5 c6 c7 m0 m1 Su Ou_ ou kv O
          have oc := ov
          obtain ⟨y0, y1, y2, y3, y4, y5, y6, y7⟩ := oc
          by_cases hkind : o.k = 1
          rotate_left
          · have z1 : (o.k == 1) = false := by simp [hkind]
            have z2 : decide (o.k = 1) = false := decide_eq_false hkind
            replace hoc : Hid _ := hoc
            replace hkind : Hid _ := hkind
            have hd6 : Hid (dB Ds = (OO.take (m + 1)).foldl (handL K k) TT) := by
              unfold Hid
              rw [hnx.out]
              unfold handL
              rw [if_neg hkind.out]
            go_wp2
            go_roundw
            case rel => exact ⟨m + 1, _, by omega, by go_num, hd6, Sv, Ov⟩
            case measure => simp [intOf]; omega
          have z1 : (o.k == 1) = true := by simp [hkind]
          have z2 : decide (o.k = 1) = true := decide_eq_true hkind
          replace hkind : Hid _ := hkind
          rcases hoc with ⟨rfl, hot⟩ | ⟨rfl, hot⟩
          rotate_left
          · replace hot : Hid _ := hot
            have hd6 : Hid (dB Ds = (OO.take (m + 1)).foldl (handL K k) TT) := by
              unfold Hid
              rw [hnx.out]
              unfold handL
              rw [if_pos hkind.out, hot.out]
            go_wp2
            go_roundw
            case rel => exact ⟨m + 1, _, by omega, by go_num, hd6, Sv, Ov⟩
            case measure => simp [intOf]; omega
          obtain ⟨ht0, htn⟩ := hE k o.pt (t, q) hot
          obtain ⟨j, rfl⟩ := Int.eq_ofNat_of_zero_le ht0
          have hjn : j < n := by have : (j : Int) < (n : Int) := htn; omega
          have hjD : j < Ds.length := by rw [Sv.hl]; exact hjn
          clear ht0 htn
          have hrow3 := Sv.row hjD
          have hnil3 := Sv.nil0 hjD
          have hlk3 := Sv.ls j hjD
          have hdj : Hid ((dB Ds).getD j Bg.nil = (Ds.getD j Bd.nil).d) := bd_get Ds j
          obtain ⟨⟨id2, a3, c3, L3⟩, hh3⟩ : ∃ z, Ds.getD j Bd.nil = z := ⟨_, rfl⟩
          rw [hh3] at hlk3 hnil3 hdj
          simp only [hh3] at hrow3
          dsimp only at hlk3 hnil3 hrow3
          clear hh3
          obtain ⟨M, hM⟩ : ∃ M, Hid (reactL id2 L3 (claimIk q o) = M) := ⟨_, rfl⟩
          have hMl : Hid (M.length = L3.length) := by unfold Hid; rw [← hM.out]; exact reactL_len _ _ _
          have hd5 : Hid ((OO.take (m + 1)).foldl (handL K k) TT = (dB Ds).set j ⟨id2, M⟩) := by
            unfold Hid
            rw [hnx.out]
            unfold handL
            rw [if_pos hkind.out, hot]
            show (dB Ds).set (j : Int).toNat _ = _
            rw [show (j : Int).toNat = j from rfl, hdj.out, ← hM.out]
            rfl
          replace hot : Hid _ := hot
          go_upto_region 12 with fail
          clear y0 y1 y2 y3 y4 y5 y6 y7
          refine join_regionR (fun l l' W' => ∃ (P : Nat) (aT : Option Addr) (cT : Nat) (v12 : Value) (us : List Value), us.length = 15 ∧ l' = l.take 11 ++ (.pointer (some ⟨P, 0, none⟩) :: v12 :: (l.drop 13).take 47) ++ us ++ l.drop 75 ∧ BBox W' P id2 (.slice aT M.length cT) ∧ FOwn ptEnc 11 68 v.heap.size W' (.slice aT M.length cT) M ∧ v.heap.size ≤ P ∧ Below v.heap.size v W') ?_ ?_
          rotate_left
          · intro K2 hT3
            refine wp_region_held (S := fun Y => Below v.heap.size v Y) (by kernel_rfl) ?_
            change wpAnyH _ _ _ _ _ _ _ _ (World.drew _)
            have hb0 : Below v.heap.size v v.drew := (Below.refl _ _).drew
            obtain ⟨u0, hy0⟩ : ∃ y_, y_ = v.drew := ⟨_, rfl⟩
            rw [← hy0] at hb0 ⊢
            clear hy0
            refine takeW 0 61 (.pointer (some ⟨w.heap.size, 0, none⟩)) rfl rfl (by kernel_rfl) (by kernel_rfl) (by kernel_rfl) (fun _ _ _ h => h) (by kernel_rfl) (by (intro w hSw; go_simp)) (by assumption) ?_
            simp only [List.set_cons_zero, List.set_cons_succ]
            refine takeW 1 62 (.slice (some ⟨g, 0, none⟩) n capB) rfl rfl (by kernel_rfl) (by kernel_rfl) (by kernel_rfl) (fun _ _ _ h => h) (by kernel_rfl) (by (intro Y hSw; obtain ⟨X0, X1⟩ := (Sv.later hSw).pb; go_simp)) (by assumption) ?_
            simp only [List.set_cons_zero, List.set_cons_succ]
            refine takeW 2 63 (.int .i64 (j : Int)) rfl rfl (by kernel_rfl) (by kernel_rfl) (by kernel_rfl) (fun _ _ _ h => h) (by kernel_rfl) (by (intro w hSw; go_simp)) (by assumption) ?_
            simp only [List.set_cons_zero, List.set_cons_succ]
            refine takeW 3 64 (.pointer (some ⟨g, j * 2, none⟩)) rfl rfl (by kernel_rfl) (by kernel_rfl) (by kernel_rfl) (fun _ _ _ h => h) (by kernel_rfl) (by (intro Y hSw; go_simp; try omega)) (by assumption) ?_
            simp only [List.set_cons_zero, List.set_cons_succ]
            refine takeW 4 65 (.agg #[.int .i64 id2, .slice a3 L3.length c3]) rfl rfl (by kernel_rfl) (by kernel_rfl) (by kernel_rfl) (fun _ _ _ h => h) (by kernel_rfl) (by (intro Y hSw; obtain ⟨⟨X0, X1⟩, _⟩ := hrow3 Y hSw; go_simp)) (by assumption) ?_
            simp only [List.set_cons_zero, List.set_cons_succ]
            refine takeW 5 66 (.int .i64 q) rfl rfl (by kernel_rfl) (by kernel_rfl) (by kernel_rfl) (fun _ _ _ h => h) (by kernel_rfl) (by (intro w hSw; go_simp)) (by assumption) ?_
            simp only [List.set_cons_zero, List.set_cons_succ]
            refine takeW 6 67 (.pointer (some ⟨P9, 2, none⟩)) rfl rfl (by kernel_rfl) (by kernel_rfl) (by kernel_rfl) (fun _ _ _ h => h) (by kernel_rfl) (by (intro w hSw; go_simp)) (by assumption) ?_
            simp only [List.set_cons_zero, List.set_cons_succ]
            refine takeW 7 68 (.agg #[.int .i64 o.r, .int .i64 o.c, .int .i64 o.b, .int .i64 o.p]) rfl rfl (by kernel_rfl) (by kernel_rfl) (by kernel_rfl) (fun _ _ _ h => h) (by kernel_rfl) (by (intro Y hSw; obtain ⟨y0, y1, y2, y3, y4, y5, y6, y7⟩ := ouKeep ov (hSw.block _ (ouLt ov)); go_simp)) (by assumption) ?_
            simp only [List.set_cons_zero, List.set_cons_succ]
            refine takeW 8 69 (.pointer (some ⟨P9, 6, none⟩)) rfl rfl (by kernel_rfl) (by kernel_rfl) (by kernel_rfl) (fun _ _ _ h => h) (by kernel_rfl) (by (intro w hSw; go_simp)) (by assumption) ?_
            simp only [List.set_cons_zero, List.set_cons_succ]
            refine takeW 9 70 (.int .i64 o.h) rfl rfl (by kernel_rfl) (by kernel_rfl) (by kernel_rfl) (fun _ _ _ h => h) (by kernel_rfl) (by (intro Y hSw; obtain ⟨y0, y1, y2, y3, y4, y5, y6, y7⟩ := ouKeep ov (hSw.block _ (ouLt ov)); go_simp)) (by assumption) ?_
            simp only [List.set_cons_zero, List.set_cons_succ]
            refine takeW 10 71 (.agg #[.int .i64 1, .int .i64 q, .int .i64 o.r, .int .i64 o.c, .int .i64 o.b, .int .i64 o.p, .int .i64 o.h, .bool false]) rfl rfl (by kernel_rfl) (by kernel_rfl) (by kernel_rfl) (fun _ _ _ h => h) (by kernel_rfl) (by (intro w hSw; go_simp)) (by assumption) ?_
            simp only [List.set_cons_zero, List.set_cons_succ]
            refine wpAnyH_all (rs := [11, 15]) (by kernel_rfl) (by simp) ?_
            intro i hi; rcases (by simpa using hi : i = 11 ∨ i = 15) with rfl | rfl
            · refine wpOp_step rfl (fun Kz hKz => ?_)
              rw [if_pos (by kernel_rfl)]
              go_simp
              go_at_call 92
              refine (reactS id2 a3 c3 L3 (claimIk q o) u0 (hrow3 u0 hb0).2.2 hlk3 hnil3).mono ?_
              rintro e u1 ⟨aT, cT, aO, cO, rfl, oT, _, _, kq⟩
              rw [hM.out] at oT ⊢
              generalize (reactO id2 L3 (claimIk q o)).length = nO
              have bT : v.heap.size ≤ u0.heap.size := hb0.size
              have hb1 : Below v.heap.size v u1 := hb0.trans (kq.mono hb0.size)
              clear kq
              refine hKz _ _ ⟨hb1, ?_⟩
              clear hKz Kz hi
              refine takeW 12 60 (.tuple #[(.agg #[.int .i64 id2, .slice aT M.length cT]), (.slice aO nO cO)]) rfl rfl (by kernel_rfl) (by kernel_rfl) (by kernel_rfl) (fun _ _ _ h => h) (by kernel_rfl) (by (intro w hSw; go_simp)) (by assumption) ?_
              simp only [List.set_cons_zero, List.set_cons_succ]
              refine takeW 13 73 (.agg #[.int .i64 id2, .slice aT M.length cT]) rfl rfl (by kernel_rfl) (by kernel_rfl) (by kernel_rfl) (fun _ _ _ h => h) (by kernel_rfl) (by (intro w hSw; go_simp)) (by assumption) ?_
              simp only [List.set_cons_zero, List.set_cons_succ]
              refine takeW 14 74 (.slice aO nO cO) rfl rfl (by kernel_rfl) (by kernel_rfl) (by kernel_rfl) (fun _ _ _ h => h) (by kernel_rfl) (by (intro w hSw; go_simp)) (by assumption) ?_
              simp only [List.set_cons_zero, List.set_cons_succ]
              refine wpAnyH_all (rs := [15]) (by kernel_rfl) (by simp) ?_
              intro i hi; obtain rfl : i = 15 := by simpa using hi
              refine wpOp_step rfl (fun Kz hKz => ?_)
              rw [if_pos (by kernel_rfl)]
              go_simp
              obtain ⟨u2, hy⟩ : ∃ y_, y_ = u1.alloc (Obj.cells #[.int .i64 0, .slice none 0 0] 71) := ⟨_, rfl⟩
              have kq : Below u1.heap.size u1 u2 := by rw [hy]; exact below_new _
              have joT : ∀ g_, (Value.slice aT M.length cT).ownBlock = some g_ → g_ ≠ u1.heap.size := fun g_ e => by have h1 := (oT.lt g_ e).2; omega
              have oT := oT.later kq
              have FP : BBox u2 u1.heap.size 0 (.slice none 0 0) := by rw [hy]; exact BBox.new u1 _ _ _
              have pa : v.heap.size ≤ u1.heap.size := hb1.size
              have hb2 : Below v.heap.size v u2 := hb1.trans (kq.mono hb1.size)
              rw [← hy]
              clear hy kq
              refine hKz _ _ ⟨hb2, ?_⟩
              clear hKz Kz hi
              refine wpAnyH_all (rs := [16]) (by kernel_rfl) (by simp) ?_
              intro i hi; obtain rfl : i = 16 := by simpa using hi
              refine wpOp_step rfl (fun Kz hKz => ?_)
              rw [if_pos (by kernel_rfl)]
              have FQ := FP
              obtain ⟨⟨t0, t1⟩, tf⟩ := FP
              go_simp
              clear t0 t1 tf
              obtain ⟨uf, huf⟩ : ∃ y_, y_ = (u2.setCell ⟨u1.heap.size, 0, none⟩ (.int .i64 id2)).setCell ⟨u1.heap.size, 1, none⟩ (.slice aT M.length cT) := ⟨_, rfl⟩
              have FE : BBox uf (u1.heap.size) id2 (.slice aT M.length cT) := by rw [huf]; exact FQ.put _ _
              have hbf : Below v.heap.size v uf := by rw [huf]; exact (hb2.setCell (p := ⟨u1.heap.size, 0, none⟩) pa _).setCell (p := ⟨u1.heap.size, 1, none⟩) pa _
              have oT := oT.keep (w' := uf) (fun g_ e => by rw [huf, Below.heap_setCell _ _ _ _ (by show g_ ≠ u1.heap.size; exact joT g_ e), Below.heap_setCell _ _ _ _ (by show g_ ≠ u1.heap.size; exact joT g_ e)])
              rw [← huf]
              clear huf FQ
              refine hKz _ _ ⟨hbf, ?_⟩
              clear hKz Kz hi
              refine takeW 17 12 (.slice aO nO cO) rfl rfl (by kernel_rfl) (by kernel_rfl) (by kernel_rfl) (fun _ _ _ h => h) (by kernel_rfl) (by (intro w hSw; go_simp)) (by assumption) ?_
              simp only [List.set_cons_zero, List.set_cons_succ]
              refine wpAnyH_done (by kernel_rfl) ?_ _
              exact hT3.out _ _ ⟨u1.heap.size, aT, cT, (.slice aO nO cO), [(.tuple #[(.agg #[.int .i64 id2, .slice aT M.length cT]), (.slice aO nO cO)]), (.pointer (some ⟨w.heap.size, 0, none⟩)), (.slice (some ⟨g, 0, none⟩) n capB), (.int .i64 (j : Int)), (.pointer (some ⟨g, j * 2, none⟩)), (.agg #[.int .i64 id2, .slice a3 L3.length c3]), (.int .i64 q), (.pointer (some ⟨P9, 2, none⟩)), (.agg #[.int .i64 o.r, .int .i64 o.c, .int .i64 o.b, .int .i64 o.p]), (.pointer (some ⟨P9, 6, none⟩)), (.int .i64 o.h), (.agg #[.int .i64 1, .int .i64 q, .int .i64 o.r, .int .i64 o.c, .int .i64 o.b, .int .i64 o.p, .int .i64 o.h, .bool false]), (.tuple #[(.agg #[.int .i64 id2, .slice aT M.length cT]), (.slice aO nO cO)]), (.agg #[.int .i64 id2, .slice aT M.length cT]), (.slice aO nO cO)], rfl, by kernel_rfl, FE, oT.base bT, pa, hbf⟩
            · refine wpOp_step rfl (fun Kz hKz => ?_)
              rw [if_pos (by kernel_rfl)]
              go_simp
              obtain ⟨u1, hy⟩ : ∃ y_, y_ = u0.alloc (Obj.cells #[.int .i64 0, .slice none 0 0] 71) := ⟨_, rfl⟩
              have kq : Below u0.heap.size u0 u1 := by rw [hy]; exact below_new _
              have FP : BBox u1 u0.heap.size 0 (.slice none 0 0) := by rw [hy]; exact BBox.new u0 _ _ _
              have pa : v.heap.size ≤ u0.heap.size := hb0.size
              have hb1 : Below v.heap.size v u1 := hb0.trans (kq.mono hb0.size)
              rw [← hy]
              clear hy kq
              refine hKz _ _ ⟨hb1, ?_⟩
              clear hKz Kz hi
              refine wpAnyH_all (rs := [11]) (by kernel_rfl) (by simp) ?_
              intro i hi; obtain rfl : i = 11 := by simpa using hi
              refine wpOp_step rfl (fun Kz hKz => ?_)
              rw [if_pos (by kernel_rfl)]
              go_simp
              go_at_call 92
              refine (reactS id2 a3 c3 L3 (claimIk q o) u1 (hrow3 u1 hb1).2.2 hlk3 hnil3).mono ?_
              rintro e u2 ⟨aT, cT, aO, cO, rfl, oT, _, _, kq⟩
              rw [hM.out] at oT ⊢
              generalize (reactO id2 L3 (claimIk q o)).length = nO
              have bT : v.heap.size ≤ u1.heap.size := hb1.size
              have joT : ∀ g_, (Value.slice aT M.length cT).ownBlock = some g_ → g_ ≠ u0.heap.size := fun g_ e => by have h1 := (oT.lt g_ e).1; have h2 := FP.lt; omega
              have FP := FP.below kq FP.lt
              have hb2 : Below v.heap.size v u2 := hb1.trans (kq.mono hb1.size)
              clear kq
              refine hKz _ _ ⟨hb2, ?_⟩
              clear hKz Kz hi
              refine takeW 12 60 (.tuple #[(.agg #[.int .i64 id2, .slice aT M.length cT]), (.slice aO nO cO)]) rfl rfl (by kernel_rfl) (by kernel_rfl) (by kernel_rfl) (fun _ _ _ h => h) (by kernel_rfl) (by (intro w hSw; go_simp)) (by assumption) ?_
              simp only [List.set_cons_zero, List.set_cons_succ]
              refine takeW 13 73 (.agg #[.int .i64 id2, .slice aT M.length cT]) rfl rfl (by kernel_rfl) (by kernel_rfl) (by kernel_rfl) (fun _ _ _ h => h) (by kernel_rfl) (by (intro w hSw; go_simp)) (by assumption) ?_
              simp only [List.set_cons_zero, List.set_cons_succ]
              refine takeW 14 74 (.slice aO nO cO) rfl rfl (by kernel_rfl) (by kernel_rfl) (by kernel_rfl) (fun _ _ _ h => h) (by kernel_rfl) (by (intro w hSw; go_simp)) (by assumption) ?_
              simp only [List.set_cons_zero, List.set_cons_succ]
              refine wpAnyH_all (rs := [16]) (by kernel_rfl) (by simp) ?_
              intro i hi; obtain rfl : i = 16 := by simpa using hi
              refine wpOp_step rfl (fun Kz hKz => ?_)
              rw [if_pos (by kernel_rfl)]
              have FQ := FP
              obtain ⟨⟨t0, t1⟩, tf⟩ := FP
              go_simp
              clear t0 t1 tf
              obtain ⟨uf, huf⟩ : ∃ y_, y_ = (u2.setCell ⟨u0.heap.size, 0, none⟩ (.int .i64 id2)).setCell ⟨u0.heap.size, 1, none⟩ (.slice aT M.length cT) := ⟨_, rfl⟩
              have FE : BBox uf (u0.heap.size) id2 (.slice aT M.length cT) := by rw [huf]; exact FQ.put _ _
              have hbf : Below v.heap.size v uf := by rw [huf]; exact (hb2.setCell (p := ⟨u0.heap.size, 0, none⟩) pa _).setCell (p := ⟨u0.heap.size, 1, none⟩) pa _
              have oT := oT.keep (w' := uf) (fun g_ e => by rw [huf, Below.heap_setCell _ _ _ _ (by show g_ ≠ u0.heap.size; exact joT g_ e), Below.heap_setCell _ _ _ _ (by show g_ ≠ u0.heap.size; exact joT g_ e)])
              rw [← huf]
              clear huf FQ
              refine hKz _ _ ⟨hbf, ?_⟩
              clear hKz Kz hi
              refine takeW 17 12 (.slice aO nO cO) rfl rfl (by kernel_rfl) (by kernel_rfl) (by kernel_rfl) (fun _ _ _ h => h) (by kernel_rfl) (by (intro w hSw; go_simp)) (by assumption) ?_
              simp only [List.set_cons_zero, List.set_cons_succ]
              refine wpAnyH_done (by kernel_rfl) ?_ _
              exact hT3.out _ _ ⟨u0.heap.size, aT, cT, (.slice aO nO cO), [(.tuple #[(.agg #[.int .i64 id2, .slice aT M.length cT]), (.slice aO nO cO)]), (.pointer (some ⟨w.heap.size, 0, none⟩)), (.slice (some ⟨g, 0, none⟩) n capB), (.int .i64 (j : Int)), (.pointer (some ⟨g, j * 2, none⟩)), (.agg #[.int .i64 id2, .slice a3 L3.length c3]), (.int .i64 q), (.pointer (some ⟨P9, 2, none⟩)), (.agg #[.int .i64 o.r, .int .i64 o.c, .int .i64 o.b, .int .i64 o.p]), (.pointer (some ⟨P9, 6, none⟩)), (.int .i64 o.h), (.agg #[.int .i64 1, .int .i64 q, .int .i64 o.r, .int .i64 o.c, .int .i64 o.b, .int .i64 o.p, .int .i64 o.h, .bool false]), (.tuple #[(.agg #[.int .i64 id2, .slice aT M.length cT]), (.slice aO nO cO)]), (.agg #[.int .i64 id2, .slice aT M.length cT]), (.slice aO nO cO)], rfl, by kernel_rfl, FE, oT.base bT, pa, hbf⟩
          rintro l' Y4 ⟨P, aT, cT, v12, us, hul, rfl, NP, oT, pP, k4⟩
          obtain ⟨s60, us, rfl⟩ : ∃ a b, us = a :: b := List.exists_cons_of_length_eq_add_one hul
          replace hul := Nat.succ.inj hul
          obtain ⟨s61, us, rfl⟩ : ∃ a b, us = a :: b := List.exists_cons_of_length_eq_add_one hul
          replace hul := Nat.succ.inj hul
          obtain ⟨s62, us, rfl⟩ : ∃ a b, us = a :: b := List.exists_cons_of_length_eq_add_one hul
          replace hul := Nat.succ.inj hul
          obtain ⟨s63, us, rfl⟩ : ∃ a b, us = a :: b := List.exists_cons_of_length_eq_add_one hul
          replace hul := Nat.succ.inj hul
          obtain ⟨s64, us, rfl⟩ : ∃ a b, us = a :: b := List.exists_cons_of_length_eq_add_one hul
          replace hul := Nat.succ.inj hul
          obtain ⟨s65, us, rfl⟩ : ∃ a b, us = a :: b := List.exists_cons_of_length_eq_add_one hul
          replace hul := Nat.succ.inj hul
          obtain ⟨s66, us, rfl⟩ : ∃ a b, us = a :: b := List.exists_cons_of_length_eq_add_one hul
          replace hul := Nat.succ.inj hul
          obtain ⟨s67, us, rfl⟩ : ∃ a b, us = a :: b := List.exists_cons_of_length_eq_add_one hul
          replace hul := Nat.succ.inj hul
          obtain ⟨s68, us, rfl⟩ : ∃ a b, us = a :: b := List.exists_cons_of_length_eq_add_one hul
          replace hul := Nat.succ.inj hul
          obtain ⟨s69, us, rfl⟩ : ∃ a b, us = a :: b := List.exists_cons_of_length_eq_add_one hul
          replace hul := Nat.succ.inj hul
          obtain ⟨s70, us, rfl⟩ : ∃ a b, us = a :: b := List.exists_cons_of_length_eq_add_one hul
          replace hul := Nat.succ.inj hul
          obtain ⟨s71, us, rfl⟩ : ∃ a b, us = a :: b := List.exists_cons_of_length_eq_add_one hul
          replace hul := Nat.succ.inj hul
          obtain ⟨s72, us, rfl⟩ : ∃ a b, us = a :: b := List.exists_cons_of_length_eq_add_one hul
          replace hul := Nat.succ.inj hul
          obtain ⟨s73, us, rfl⟩ : ∃ a b, us = a :: b := List.exists_cons_of_length_eq_add_one hul
          replace hul := Nat.succ.inj hul
          obtain ⟨s74, us, rfl⟩ : ∃ a b, us = a :: b := List.exists_cons_of_length_eq_add_one hul
          replace hul := Nat.succ.inj hul
          obtain rfl : us = [] := List.eq_nil_of_length_eq_zero hul
          clear hul
          simp only [List.take, List.drop, List.cons_append, List.nil_append]
          have S5 := Sv.set k4 hjD ⟨id2, aT, cT, M⟩ oT (by show M.length ≤ _; rw [hMl.out]; exact hlk3)
          dsimp only at S5
          have O5 : FOwn ouEnc 8 146 B ((Y4.setCell ⟨g, j * 2, none⟩ (.int .i64 id2)).setCell ⟨g, j * 2 + 1, none⟩ (.slice aT M.length cT)) (.slice (some ⟨b, off, none⟩) OO.length co) OO := (Ov.later k4).keep (fun e_ he => by
            have := (Ov.lt e_ he).1
            rw [Below.heap_setCell _ _ _ _ (by show e_ ≠ g; omega), Below.heap_setCell _ _ _ _ (by show e_ ≠ g; omega)])
          obtain ⟨⟨r0, r1⟩, rf, _⟩ := hrow3 Y4 k4
          dsimp only at r0 r1
          have f0 := rf (j * 2)
          have f1 := rf (j * 2 + 1)
          obtain ⟨b0, b1⟩ := NP.at_
          obtain ⟨m0, m1⟩ := (Sv.later k4).pb
          have hd6 : Hid (dB (Ds.set j ⟨id2, aT, cT, M⟩) = (OO.take (m + 1)).foldl (handL K k) TT) := by
            unfold Hid dB
            rw [hd5.out, List.map_set]
            rfl
          clear rf hrow3 Sv Ov NP oT S hd5 hM
          go_wp2
          go_roundw
          case rel => exact ⟨m + 1, _, by omega, by go_num, hd6, S5, O5⟩
          case measure => simp [intOf]; omega
        · obtain rfl : m = OO.length := by omega
          have hd7 : Hid (dB Ds = roundL K (dB Bs) (k + 1)) := by
            unfold Hid
            rw [hdm.out, List.take_length]
            exact hs.out.symm
          go_wp2
          go_roundw
          case rel => exact ⟨k + 1, Ds, by omega, by go_num, hd7, S⟩
          case measure => simp [intOf]; omega
    · obtain rfl : k = n := by omega
      have pb := St.pb
      obtain ⟨m0, m1⟩ := pb
      have rb := St.rb
      obtain ⟨⟨r0, r1⟩, rf⟩ := rb
      have rf0 := rf 0
      have rf1 := rf 1
      have hg := St.hg
      have R9 := St.rb.put (.slice (some ⟨g, 0, none⟩) k capB) (.slice adK K.length capK)
      have sb : ∀ j, j ≠ w.heap.size + 1 → ((wr.setCell ⟨w.heap.size + 1, 0, none⟩ (.slice (some ⟨g, 0, none⟩) k capB)).setCell ⟨w.heap.size + 1, 1, none⟩ (.slice adK K.length capK)).heap[j]? = wr.heap[j]? := fun j hj => by rw [Below.heap_setCell _ _ _ _ hj, Below.heap_setCell _ _ _ _ hj]
      have ss : ((wr.setCell ⟨w.heap.size + 1, 0, none⟩ (.slice (some ⟨g, 0, none⟩) k capB)).setCell ⟨w.heap.size + 1, 1, none⟩ (.slice adK K.length capK)).heap.size = wr.heap.size := by simp
      have W9 : NOwn mid wr.heap.size ((wr.setCell ⟨w.heap.size + 1, 0, none⟩ (.slice (some ⟨g, 0, none⟩) k capB)).setCell ⟨w.heap.size + 1, 1, none⟩ (.slice adK K.length capK)) (.slice (some ⟨g, 0, none⟩) k capB) Cs := by
        have ho := St.own.own
        refine ⟨ho.row.keep (fun q e => sb q ?_), fun i hi => (ho.nest i hi).keep (fun q e => sb q ?_), ho.rhi, ho.nhi, ho.apart, ho.aparts⟩
        · have : g = q := by simpa [Value.ownBlock] using e
          omega
        · rcases St.np i hi q e with ⟨z, _⟩ | z <;> omega
      have hmg := St.midg
      have N9 : NetOwn lo mid wr.heap.size ((wr.setCell ⟨w.heap.size + 1, 0, none⟩ (.slice (some ⟨g, 0, none⟩) k capB)).setCell ⟨w.heap.size + 1, 1, none⟩ (.slice adK K.length capK)) (.slice (some ⟨g, 0, none⟩) k capB) Cs (.slice adK K.length capK) K :=
        ⟨W9, St.own.own2.keep (fun q e => sb q (by have := St.own.khi q e; omega)), St.own.khi, St.own.lm, St.own.mh, by rw [ss]; exact Nat.le_refl _⟩
      have G9 : w.grownBy ((wr.setCell ⟨w.heap.size + 1, 0, none⟩ (.slice (some ⟨g, 0, none⟩) k capB)).setCell ⟨w.heap.size + 1, 1, none⟩ (.slice adK K.length capK)) (some g) :=
        ⟨St.gr.os, St.gr.tape, St.gr.output, by rw [ss]; exact St.gr.size, fun j hj hq => (sb j (by omega)).trans (St.gr.block j hj hq)⟩
      have hln : Hid (Cs.length = k) := St.hl
      have hls9 : Hid (∀ i, i < Cs.length → (Cs.getD i Bd.nil).L.length ≤ 1048576) := St.ls
      have hnp9 : Hid (∀ i, i < Cs.length → ∀ q, (Cs.getD i Bd.nil).v.ownBlock = some q → (∃ j, j < Bs.length ∧ (Bs.getD j Bd.nil).v.ownBlock = some q) ∨ w.heap.size < q) := fun i hi q e => by
        rcases St.np i hi q e with ⟨_, z⟩ | z
        · exact .inl z
        · exact .inr (by omega)
      clear rf sb St W9
      go_wp2
      obtain ⟨⟨t0, t1⟩, _⟩ := R9
      refine bodyPost_ret (v := .agg #[(.slice (some ⟨g, 0, none⟩) k capB), (.slice adK K.length capK)]) (by simp [results, Try.results107, go_sem, *]) rfl ?_
      rw [← ss] at N9
      exact ⟨Cs, by rw [hln.out], hd.out, hln.out, hls9.out, fun i hi q e => (hnp9.out i hi q e).imp (fun ⟨j, hj, e2⟩ => ⟨j, by have := hn.out; omega, e2⟩) id, by rw [hln.out]; exact N9, G9⟩

end Go.Proofs.Ytdfjfodfnildiaa
