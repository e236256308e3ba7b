/- spec.NetNew, walked. -/
import Derived.Test.YtdfjfodfnildiaaRows
import Derived.WalkKit
import Derived.ProofKit
import Derived.OpenShut
import Derived.ShutString
import Derived.ChangeOld
import Derived.Below
import Derived.Deep.QuietTactic
import Derived.BigQuiet
import Derived.WalkSmall
import Derived.Laws.OwnMore
import Derived.WalkSpells
import Derived.WalkLawsBesides
import Derived.Deep.Cut
import Derived.Maps.AppendAt
import Derived.Laws.StructEq
import Derived.Test.YtdfjfodfnildiaaQM12
import Derived.Test.YtdfjfodfnildiaaQKRe5
import Derived.Test.YtdfjfodfnildiaaQM7
import Derived.Test.YtdfjfodfnildiaaQKNs1
namespace Go.Proofs.Ytdfjfodfnildiaa
open Go.ChangeShapes Go.WideShapes Go.ChangeAt Go.RowKit
open Go.ChangeMaps (open_string shut_string)
set_option linter.unusedVariables false
set_option maxRecDepth 100000

theorem newBg_full {id : Int} {T : Nat → Bool} {p : Nat} (h : p = (newL id 4).length) : newBg id (fun x => decide (x < p) && T x) = newBg id T := by
  unfold newL at h
  by_cases q : nOk id 4 = true
  · rw [if_pos q] at h
    have h : p = 4 := by simpa using h
    exact newBg_congr fun x hx => by simp [h, hx]
  · unfold newBg
    rw [if_neg q, if_neg q]
set_option maxHeartbeats 16000000 in
theorem newNS (adI : Option Addr) (cI : Nat) (ids : List Int) (adK : Option Addr) (capK : Nat) (K : List Lk) (w : World) (hv : ViewI w adI ids.length (fun i => ids.getD i 0)) (hvB : ∀ a, adI = some a → 0 < ids.length → a.block < w.heap.size) (vk : FView lkEnc w adK K) (hl : ids.length ≤ 1048576) (hk : K.length ≤ 1048576) (hcn : adK = none → capK = 0) :
    Calls Try.prog 87 #[.slice adI ids.length cI, .slice adK K.length capK] w fun e w' => NewRet ids K w e w' := by
  have hkB := vk.lt lkEnc_len (by omega)
  obtain ⟨i0, hi, hz0, hz1, hz2⟩ := info_parts brInfo2
  obtain ⟨j0, hj, hj0, hj1, hj2⟩ := info_parts lkInfo
  obtain ⟨y, hy⟩ : ∃ y, y = w.alloc (Obj.cells #[.slice none 0 0, .slice none 0 0] 27) := ⟨_, rfl⟩
  have B0 : Below w.heap.size w y := by rw [hy]; exact below_new _
  have A0 : NeBox y w.heap.size (.slice none 0 0) (.slice none 0 0) := by rw [hy]; exact NeBox.new w _
  have l0 := A0.lt
  have ky : Below y.heap.size y (y.alloc (Obj.cells #[] 64)) := below_new _
  have OE : FOwn lkEnc 4 64 w.heap.size (y.alloc (Obj.cells #[] 64)) (.slice (some ⟨y.heap.size, 0, none⟩) 0 0) ([] : List Lk) := (FOwn.empty y : FOwn lkEnc 4 64 _ _ _ _).base (by omega)
  have vky : FView lkEnc (y.alloc (Obj.cells #[] 64)) adK K := (vk.below B0 hkB).below ky (fun a e p => by have := hkB a e p; omega)
  have hy9 : Hid (y.heap.size = w.heap.size + 1) := by unfold Hid; rw [hy]; simp
  go_enter Try.func87, Try.ntmps87
  go_upto_region 1 with fail
  rw [← hy]
  clear hy
  go_wp2_with (first | (at_builtin; refine fappL lkEnc_len lkEnc_ones rfl _ _ 25 rfl w.heap.size 64 j0 (.agg #[.int .i64 0, .int .i64 0, .int .i64 0, .int .i64 0]) 32 Try.underlying25 hj hj0 hj1 hj2 rfl (by decide) (by decide) _ ([] : List Lk) rfl OE adK capK K rfl hcn vky ?z0 ?z1 ?_) | go_in)
  case z0 => simp; omega
  case z1 => simp; omega
  intro vZ wZ hownZ hgrowZ hvZ
  replace hownZ : FOwn lkEnc 4 64 w.heap.size wZ vZ K := hownZ
  obtain ⟨adL, cL, rfl⟩ := hownZ.open_
  have hgz := hgrowZ.size
  have hKl : ∀ g, (Value.slice adL K.length cL).ownBlock = some g → w.heap.size < g := fun g e => by
    rcases hvZ with q | q
    · rw [q] at e
      have : y.heap.size = g := by simpa [Value.ownBlock] using e
      omega
    · rw [q] at e
      have : y.heap.size + 1 = g := by simpa using e
      omega
  have BZ : Below w.heap.size w wZ := (B0.trans (ky.mono (by omega))).grown hgrowZ (by simp; omega) (fun g e => by
    have : y.heap.size = g := by simpa [Value.ownBlock] using e
    omega)
  have A1 : NeBox wZ w.heap.size (.slice none 0 0) (.slice none 0 0) := (A0.later ky).keep (hgrowZ.block _ (by simp; omega) (fun e => by
    have : y.heap.size = w.heap.size := by simpa [Value.ownBlock] using e.symm
    omega))
  obtain ⟨M, hM⟩ : ∃ M, M = wZ.heap.size := ⟨_, rfl⟩
  obtain ⟨x0, hx0⟩ : ∃ x, x = wZ.alloc (Obj.cells #[.slice none 0 0, (.slice adL K.length cL)] 27) := ⟨_, rfl⟩
  have kx : Below wZ.heap.size wZ x0 := by rw [hx0]; exact below_new _
  have hwZ : w.heap.size < wZ.heap.size := by simp at hgz; omega
  have St : NewSt w.heap.size M ids (ofK K) 0 K adL cL w x0 none 0 [] := by
    refine ⟨A1.later kx, ?_, NOwn.nil, rfl, hownZ.later kx, fun g e => by rw [hM]; exact (hownZ.lt g e).2, by omega, BZ.trans (kx.mono (by omega))⟩
    rw [hM, hx0]
    exact NeBox.new wZ _
  go_upto_region 2 with fail
  rw [← hx0, ← hM]
  clear hx0 kx A0 A1 B0 OE vky ky hownZ hgrowZ hvZ BZ hwZ l0 hgz hj hj0 hj1 hj2
  replace hM : Hid _ := hM
  go_wp2
  go_loopw [7] (fun q wr => ∃ (k : Nat) (adB : Option Addr) (cB : Nat) (Cs : List Bd), k ≤ ids.length ∧ k ≤ 6 ∧ q = .int .i64 k ∧ NewSt w.heap.size M ids (ofK K) k K adL cL w wr adB cB Cs) (fun q _ => ids.length - (intOf q).toNat)
  case atStart => exact ⟨0, _, _, _, Nat.zero_le _, by omega, rfl, St⟩
  case round =>
    clear St
    obtain ⟨k, adB, cB, Cs, hk1, hk6, rfl, St⟩ := hrel
    by_cases hgo : k < ids.length ∧ k ≤ 5
    · obtain ⟨hlt, hk5⟩ := hgo
      have e1 : (k : Int) < (ids.length : Int) := by omega
      have e2 : decide ((k : Int) < (ids.length : Int)) = true := decide_eq_true e1
      have e3 : (k : Int) ≤ 5 := by omega
      have e4 : decide ((k : Int) ≤ 5) = true := decide_eq_true e3
      obtain ⟨b, off, rfl, hc⟩ := hv (by omega)
      have hck : wr.cell? ⟨b, off + k, none⟩ = some (.int .i64 (ids.getD k 0)) := (World.cell?_of_block (a := ⟨b, off + k, none⟩) (St.bel.block b (hvB _ rfl (by omega)))).trans (hc k hlt)
      have hCl : Hid (Cs.length = k) := St.len
      have hCm : Cs.length ≤ 5 := by have := hCl.out; omega
      obtain ⟨id, hid⟩ : ∃ i, ids.getD k 0 = i := ⟨_, rfl⟩
      rw [hid] at hck
      replace hid : Hid _ := hid
      obtain ⟨w0, hw0⟩ : ∃ x, x = wr := ⟨_, rfl⟩
      rw [← hw0] at St hck ⊢
      clear hv hc hw0
      go_wp2_with fail
      go_at_call 104
      refine (newBS id 4 w0).mono ?_
      rintro e x1 ⟨a0, c0, rfl, n1, kq⟩
      have hb0 := newBg_0 id
      have hfl := fun (p : Nat) => newBg_full (id := id) (T := ofK K k) (p := p)
      have hn4 : (newL id 4).length ≤ 4 := by
        have := newBg_len id (fun _ => false)
        rw [hb0] at this
        exact this
      obtain ⟨idn, hin⟩ : ∃ i, newI id 4 = i := ⟨_, rfl⟩
      obtain ⟨L0, hL0⟩ : ∃ L, newL id 4 = L := ⟨_, rfl⟩
      rw [hin, hL0] at hb0
      rw [hL0] at n1 hn4
      simp only [hL0] at hfl
      rw [hin, hL0]
      replace hb0 : Hid _ := hb0
      replace hfl : Hid _ := hfl
      clear hin hL0
      obtain ⟨x2, hx2⟩ : ∃ x, x = x1.alloc (Obj.cells #[.int .i64 idn, .slice a0 L0.length c0] 71) := ⟨_, rfl⟩
      have kx2 : Below x1.heap.size x1 x2 := by rw [hx2]; exact below_new _
      have b2 : BBox x2 x1.heap.size idn (.slice a0 L0.length c0) := by rw [hx2]; exact BBox.new x1 _ _ _
      have k02 : Below w0.heap.size w0 x2 := kq.trans (kx2.mono kq.size)
      have n2 := n1.later kx2
      have hqs := kq.size
      go_upto_region 6 with fail
      rw [← hx2]
      clear hx2 kx2 n1 kq hck e1 e2 e3 e4
      generalize x1.heap.size = q at b2 hqs ⊢
      go_wp2
      go_loopw [10] (fun s wr => ∃ (p : Nat) (a1 : Option Addr) (c1 : Nat) (L1 : List Pt), p ≤ L0.length ∧ s = .int .i64 p ∧ BBox wr q idn (.slice a1 L1.length c1) ∧ FOwn ptEnc 11 68 w0.heap.size wr (.slice a1 L1.length c1) L1 ∧ Hid (L1.length = L0.length) ∧ Hid ((⟨idn, L1⟩ : Bg) = newBg id (fun x => decide (x < p) && ofK K k x)) ∧ Below w0.heap.size w0 wr) (fun s _ => L0.length - (intOf s).toNat)
      case atStart => exact ⟨0, _, _, _, Nat.zero_le _, rfl, b2, n2, rfl, hb0.out.symm.trans (newBg_congr fun x _ => by simp), k02⟩
      case round =>
        clear b2 n2 k02
        obtain ⟨p, a1, c1, L1, hp, rfl, bb, n1, hll, hd, kw⟩ := hrel
        have Sw := St.later kw
        have cc := bb.at_
        obtain ⟨b0, b1⟩ := cc
        have nb := Sw.nb
        obtain ⟨⟨m0, m1⟩, mf⟩ := nb
        clear mf
        have hpl : Hid (p ≤ L1.length) := by have := hll.out; unfold Hid; omega
        have hL4 : L1.length ≤ 4 := by have := hll.out; omega
        by_cases hpt : p < L1.length
        · have hN := Sw.nn (by omega) hk
          go_wp2_with fail
          go_at_call 67
          clear b0 b1 m0 m1
          refine (onceS adB cB Cs adL cL K k p wr hN).mono ?_
          rintro e u1 ⟨rfl, ku⟩
          have kw1 := kw.trans (ku.mono kw.size)
          have bb1 := bb.below ku bb.lt
          have n2 := n1.later ku
          clear ku
          have ho0 := once_nonneg K k p
          have hof : Hid (ofK K k p = decide (0 < onceL K k p)) := rfl
          obtain ⟨o, ho⟩ : ∃ o, onceL K k p = o := ⟨_, rfl⟩
          rw [ho] at ho0 hof ⊢
          clear ho
          by_cases hpos : 0 < o
          · have d1 : decide (0 < o) = true := decide_eq_true hpos
            have hof : Hid (ofK K k p = true) := hof.out.trans d1
            obtain ⟨⟨b0, b1⟩, bf⟩ := bb1
            have bf0 := bf 0
            have bf1 := bf 1
            go_wp2_with fail
            go_at_call 92
            refine (reactS idn a1 c1 L1 (linkIk (p : Int)) u1 n2.view.2 (by omega) (fun e => by subst e; exact own_none n2)).mono ?_
            rintro e u2 ⟨a2, c2, ao, co, rfl, o2, _, _, kv⟩
            have hr : Hid ((⟨idn, reactL idn L1 (linkIk (p : Int))⟩ : Bg) = newBg id (fun x => decide (x < p + 1) && ofK K k x)) := by
              have h1 : idn = (newBg id (fun x => decide (x < p) && ofK K k x)).id := congrArg Bg.id hd.out
              have h2 : L1 = (newBg id (fun x => decide (x < p) && ofK K k x)).L := congrArg Bg.L hd.out
              unfold Hid
              have h3 : p < (newBg id (fun x => decide (x < p) && ofK K k x)).L.length := by rw [← h2]; exact hpt
              have := newBg_raise id (fun x => decide (x < p) && ofK K k x) h3
              rw [← h1, ← h2] at this
              rw [this]
              refine newBg_congr fun x hx => ?_
              by_cases ex : x = p
              · subst ex
                have := hof.out
                simp [this]
              · have e5 : decide (x < p + 1) = decide (x < p) := by
                  by_cases q5 : x < p
                  · rw [decide_eq_true q5, decide_eq_true (show x < p + 1 by omega)]
                  · rw [decide_eq_false q5, decide_eq_false (show ¬ x < p + 1 by omega)]
                simp [ex, e5]
            have hrl : Hid ((reactL idn L1 (linkIk (p : Int))).length = L1.length) := reactL_len _ _ _
            generalize reactL idn L1 (linkIk (p : Int)) = L2 at o2 hr hrl ⊢
            generalize (reactO idn L1 (linkIk (p : Int))).length = no
            have kw2 := kw1.trans (kv.mono kw1.size)
            have hq2 : q < u1.heap.size := World.block_lt_of_cell? u1 _ b0
            have bb2 : BBox u2 q idn (.slice a1 L1.length c1) := (BBox.mk ⟨b0, b1⟩ bf).below kv hq2
            have hu1 := kw1.size
            have n3 : FOwn ptEnc 11 68 w0.heap.size u2 (.slice a2 L2.length c2) L2 := o2.base hu1
            have hqn : ∀ g, (Value.slice a2 L2.length c2).ownBlock = some g → u1.heap.size ≤ g := fun g e => (o2.lt g e).1
            have n4 : FOwn ptEnc 11 68 w0.heap.size ((u2.setCell ⟨q, 0, none⟩ (.int .i64 idn)).setCell ⟨q, 1, none⟩ (.slice a2 L2.length c2)) (.slice a2 L2.length c2) L2 := n3.keep fun g e => by
              have := hqn g e
              rw [Below.heap_setCell _ _ _ _ (by show g ≠ q; omega), Below.heap_setCell _ _ _ _ (by show g ≠ q; omega)]
            have bb3 := bb2.put idn (.slice a2 L2.length c2)
            have kw3 : Below w0.heap.size w0 ((u2.setCell ⟨q, 0, none⟩ (.int .i64 idn)).setCell ⟨q, 1, none⟩ (.slice a2 L2.length c2)) := (kw2.setCell (by show w0.heap.size ≤ q; omega) _).setCell (by show w0.heap.size ≤ q; omega) _
            clear b0 b1 bf bf0 bf1 kv o2 n3 hqn
            obtain ⟨⟨b0, b1⟩, bf⟩ := bb2
            have bf0 := bf 0
            have bf1 := bf 1
            clear bf
            go_wp2
            go_roundw
            case rel => exact ⟨p + 1, _, _, _, by have := hll.out; omega, by go_num, bb3, n4, hrl.out.trans hll.out, hr.out, kw3⟩
            case measure => have := hll.out; simp [intOf]; omega
          · have d1 : decide (0 < o) = false := decide_eq_false hpos
            have hof : Hid (ofK K k p = false) := hof.out.trans d1
            have d2 : o ≤ 0 := by omega
            replace hpos : Hid _ := hpos
            have hr : Hid ((⟨idn, L1⟩ : Bg) = newBg id (fun x => decide (x < p + 1) && ofK K k x)) := by
              unfold Hid
              rw [hd.out]
              refine newBg_congr fun x hx => ?_
              by_cases ex : x = p
              · subst ex
                have := hof.out
                simp [this]
              · have e5 : decide (x < p + 1) = decide (x < p) := by
                  by_cases q5 : x < p
                  · rw [decide_eq_true q5, decide_eq_true (show x < p + 1 by omega)]
                  · rw [decide_eq_false q5, decide_eq_false (show ¬ x < p + 1 by omega)]
                rw [e5]
            go_wp2
            go_roundw
            case rel => exact ⟨p + 1, _, _, _, by have := hll.out; omega, by go_num, bb1, n2, hll, hr.out, kw1⟩
            case measure => have := hll.out; simp [intOf]; omega
        · have hpe : Hid (p = L1.length) := by have := hpl.out; unfold Hid; omega
          rw [hpe.out]
          have V1 := FView.oneB wr 71 ⟨idn, a1, c1, L1⟩
          have kx3 : Below wr.heap.size wr (wr.alloc (Obj.cells #[.int .i64 idn, .slice a1 L1.length c1] 71)) := below_new _
          have O2 := (Sw.later kx3).own.row
          have k03 := kw.trans (kx3.mono kw.size)
          have n3 := n1.later kx3
          have hM2 := Sw.nb.lt
          have hsz := kw.size
          have hx' : (⟨idn, a1, c1, L1⟩ : Bd).d = newBg (ids.getD k 0) (ofK K k) := by
            show (⟨idn, L1⟩ : Bg) = _
            rw [hd.out, hid.out]
            exact hfl.out p (hpe.out.trans hll.out)
          go_wp2_with (first | (at_builtin; refine fappL bdEnc_len bdEnc_ones rfl _ _ 24 rfl (M + 1) 71 i0 (.agg #[.int .i64 0, .slice none 0 0]) 32 Try.underlying24 hi hz0 hz1 hz2 rfl (by decide) (by decide) (.slice adB Cs.length cB) Cs rfl O2 (some ⟨wr.heap.size, 0, none⟩) 1 [(⟨idn, a1, c1, L1⟩ : Bd)] rfl (fun e => by cases e) V1 ?y0 ?y1 ?_) | go_in)
          case y0 => first | omega | (simp; omega)
          case y1 => first | omega | (simp; omega)
          intro vZ wZ hownZ hgrowZ hvZ
          obtain ⟨adZ, cZ, rfl⟩ := hownZ.open_
          have StZ := St.push (x := ⟨idn, a1, c1, L1⟩) k03 n3 hx' hownZ hgrowZ (by rw [World.size_alloc]; exact hvZ)
          have nbZ : NeBox wZ M (.slice adB Cs.length cB) (.slice adL K.length cL) := ((Sw.later kx3).nb.keep (hgrowZ.block M (by have := kx3.size; omega) (fun e => by have := (St.own.row.lt M e.symm).1; omega)))
          obtain ⟨⟨p0, p1⟩, pf⟩ := nbZ
          have pf0 := pf 0
          clear hownZ hgrowZ hvZ V1 O2 kx3 k03 n3 hx' pf m0 m1 b0 b1 Sw St bb n1 hd kw
          generalize Cs ++ [(⟨idn, a1, c1, L1⟩ : Bd)] = Ds at StZ ⊢
          go_wp2
          go_roundw
          case rel => exact ⟨k + 1, _, _, _, by omega, by omega, by go_num, StZ⟩
          case measure => simp [intOf]; omega
    · have hend : Hid (k = ids.length ∨ (6 ≤ ids.length ∧ k = 6)) := by unfold Hid; omega
      have e1 : (decide ((k : Int) < (ids.length : Int)) && decide ((k : Int) ≤ 5)) = false := by
        rw [Bool.and_eq_false_iff]
        simp only [decide_eq_false_iff_not]
        omega
      have nb := St.nb
      obtain ⟨⟨m0, m1⟩, mf⟩ := nb
      clear mf hv hvB
      have hNn := St.nn (by omega) hk
      have next : ∀ (P9 : Prop), P9 → P9 := fun _ h => h
      by_cases hlt : (k : Int) < (ids.length : Int)
      · have e2 : decide ((k : Int) < (ids.length : Int)) = true := decide_eq_true hlt
        have e3 : ¬ (k : Int) ≤ 5 := by omega
        have e4 : decide ((k : Int) ≤ 5) = false := decide_eq_false e3
        have hno : Hid (¬ NewP ids K) := fun h => by have := h.1; omega
        have hno2 : Hid (¬ NetP (dB Cs) K) := fun h => by
          have h1 := h.many.2
          rw [St.d, netN_len] at h1
          omega
        clear hgo e1
        go_wp2_with fail
        go_at_call 42
        refine (netOkS adB cB Cs adL cL K wr hNn).mono ?_
        rintro e v1 ⟨⟨ok, rfl, hok⟩, kv⟩
        obtain rfl := bool_no hok hno2.out
        have S1 := St.later kv
        have R9 := S1.rb.put (.slice none 0 0) (.slice none 0 0)
        have B9 : Below w.heap.size w ((v1.setCell ⟨w.heap.size, 0, none⟩ (.slice none 0 0)).setCell ⟨w.heap.size, 1, none⟩ (.slice none 0 0)) := (S1.bel.setCell (Nat.le_refl _) _).setCell (Nat.le_refl _) _
        have rb := S1.rb
        obtain ⟨⟨r0, r1⟩, rf⟩ := rb
        have rf0 := rf 0
        have rf1 := rf 1
        clear rf S1 kv hok St m0 m1
        go_wp2
        obtain ⟨⟨t0, t1⟩, _⟩ := R9
        refine bodyPost_ret (v := .tuple #[.agg #[.slice none 0 0, .slice none 0 0], .bool false]) (by simp [results, Try.results87, go_sem, *]) rfl ?_
        exact NewRet.no hno.out B9
      have e2 : decide ((k : Int) < (ids.length : Int)) = false := decide_eq_false hlt
      have hke : Hid (k = ids.length) := by unfold Hid; omega
      clear hgo e1
      go_wp2_with fail
      go_at_call 42
      refine (netOkS adB cB Cs adL cL K wr hNn).mono ?_
      rintro e v1 ⟨⟨ok, rfl, hok⟩, kv⟩
      have S1 := St.later kv
      clear St kv m0 m1
      have nb := S1.nb
      obtain ⟨⟨m0, m1⟩, mf⟩ := nb
      have rb := S1.rb
      obtain ⟨⟨r0, r1⟩, rf⟩ := rb
      have rf0 := rf 0
      have rf1 := rf 1
      have hD : Hid (dB Cs = netN ids (ofK K) ids.length) := by unfold Hid; rw [S1.d, hke.out]
      have hP : Hid (NewP ids K ↔ NetP (dB Cs) K) := by
        unfold Hid NewP
        rw [hD.out]
        refine ⟨fun h => h.2, fun h => ⟨?_, h⟩⟩
        have := h.many.2
        rw [netN_len] at this
        exact this
      by_cases hy : NetP (dB Cs) K
      rotate_left
      · obtain rfl := bool_no hok hy
        have hno : Hid (¬ NewP ids K) := fun h => hy (hP.out.1 h)
        have B9 : Below w.heap.size w ((v1.setCell ⟨w.heap.size, 0, none⟩ (.slice none 0 0)).setCell ⟨w.heap.size, 1, none⟩ (.slice none 0 0)) := (S1.bel.setCell (Nat.le_refl _) _).setCell (Nat.le_refl _) _
        have R9 := S1.rb.put (.slice none 0 0) (.slice none 0 0)
        clear hok hy hP S1 mf rf hD
        go_wp2
        obtain ⟨⟨t0, t1⟩, _⟩ := R9
        refine bodyPost_ret (v := .tuple #[.agg #[.slice none 0 0, .slice none 0 0], .bool false]) (by simp [results, Try.results87, go_sem, *]) rfl ?_
        exact NewRet.no hno.out B9
      obtain rfl : ok = true := hok.2 hy
      have hyes : Hid (NewP ids K) := hP.out.2 hy
      have hMl := S1.nb.lt
      have hRM := S1.rm
      have B9 : Below w.heap.size w ((v1.setCell ⟨w.heap.size, 0, none⟩ (.slice adB Cs.length cB)).setCell ⟨w.heap.size, 1, none⟩ (.slice adL K.length cL)) := (S1.bel.setCell (Nat.le_refl _) _).setCell (Nat.le_refl _) _
      have R9 := S1.rb.put (.slice adB Cs.length cB) (.slice adL K.length cL)
      have sb : ∀ j, j ≠ w.heap.size → ((v1.setCell ⟨w.heap.size, 0, none⟩ (.slice adB Cs.length cB)).setCell ⟨w.heap.size, 1, none⟩ (.slice adL K.length cL)).heap[j]? = v1.heap[j]? := fun j hj => by rw [Below.heap_setCell _ _ _ _ hj, Below.heap_setCell _ _ _ _ hj]
      have ss : ((v1.setCell ⟨w.heap.size, 0, none⟩ (.slice adB Cs.length cB)).setCell ⟨w.heap.size, 1, none⟩ (.slice adL K.length cL)).heap.size = v1.heap.size := by simp
      have N9 : NetOwn w.heap.size (M + 1) v1.heap.size ((v1.setCell ⟨w.heap.size, 0, none⟩ (.slice adB Cs.length cB)).setCell ⟨w.heap.size, 1, none⟩ (.slice adL K.length cL)) (.slice adB Cs.length cB) Cs (.slice adL K.length cL) K := by
        refine ⟨S1.own.keep (fun g hg _ => sb g (by omega)), S1.kown.keep (fun g e => sb g (by have := hKl g e; omega)), fun g e => by have := S1.khi g e; omega, by omega, hMl, by rw [ss]; exact Nat.le_refl _⟩
      clear hok hy hP S1 mf rf sb
      go_wp2
      obtain ⟨⟨t0, t1⟩, _⟩ := R9
      refine bodyPost_ret (v := .tuple #[.agg #[.slice adB Cs.length cB, .slice adL K.length cL], .bool true]) (by simp [results, Try.results87, go_sem, *]) rfl ?_
      rw [← ss] at N9
      exact NewRet.yes hyes.out hD.out N9 B9

end Go.Proofs.Ytdfjfodfnildiaa
