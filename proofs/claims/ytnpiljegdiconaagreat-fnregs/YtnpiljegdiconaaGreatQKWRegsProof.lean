/- FnRegs: one minds a drawn register at most; who takes it minds it, and who minded it does not; at every code; no condition. -/
import Derived.Test.YtnpiljegdiconaaGreatQM23
import Derived.Test.YtnpiljegdiconaaGreatQKWRr6
namespace Go.Proofs.YtnpiljegdiconaaGreat.fnRegs
open Go.ChangeShapes Go.WideShapes Go.ChangeAt Go.RowKit
set_option linter.unusedVariables false
theorem own : ownKnob Tryz.prog.godebug = none := by kernel_rfl
theorem laidOut : laidOutB Tryz.prog = true := by kernel_rfl
set_option maxHeartbeats 32000000 in
set_option maxRecDepth 100000 in
theorem walk (ad0 : Option Addr) (len0 cap0 : Nat) (f0 : Nat → Int) (w : World) (I0 : CodeIn w ad0 len0 f0) :
  Calls Tryz.prog 3 #[.slice ad0 len0 cap0] w fun e w' => e = .returned (.bool true) ∧ Below w.heap.size w w' := by
 obtain ⟨lm, hv, hB, hf⟩ := I0;by_cases hbig : 1048576 < len0
 ·
  have hbig' : (1048576 : Int) < (len0 : Int) := by omega
  go_enter Tryz.func3, Tryz.ntmps3
  go_wp2_with fail
  go_at_call 8
  refine (bigYes ad0 len0 cap0 w hbig').mono ?_;rintro e w1 ⟨rfl, h1⟩;rw [h1];clear h1 w1 hbig;go_wp2
  go_ret
  exact ⟨rfl, Below.refl _ _⟩
 have hC : Code0 w ad0 len0 f0 := ⟨hv, hB, by omega, hf⟩;go_enter Tryz.func3, Tryz.ntmps3
 go_wp2_with fail
 go_at_call 8
 refine (bigNo ad0 len0 cap0 w (by omega)).mono ?_;rintro e w1 ⟨rfl, h1⟩;rw [h1];clear h1 w1 hbig hv hB hf lm;have BW : Below w.heap.size w w := Below.refl _ _;have sw := BW.size;go_wp2_with fail
 go_at_call 9
 refine (drawTake ad0 len0 cap0 f0 w (hC.later BW (Nat.le_refl _))).mono ?_;rintro e wd1 ⟨r, s, m, a, c, rfl, rep, sb, hm, O, kq⟩;have swd1 := kq.size;have BW := BW.trans (kq.mono BW.size);clear kq;have iO : ∀ g, (Value.slice a m.lg.length c).ownBlock = some g → w.heap.size ≤ g ∧ g < wd1.heap.size := fun g e => O.lt g e
 obtain ⟨wd2, hwd2⟩ := mk_ ((wd1.alloc (Obj.cells #[.int .i64 r.ep, .int .i64 r.ow, .int .i64 r.pa] 25)).alloc (Obj.cells #[.bool m.up, .int .i64 m.li, .int .i64 m.ep, .slice a m.lg.length c, .int .i64 m.sd, .int .i64 m.ac, .int .i64 m.al] 28));have AR : RgAt wd2 wd1.heap.size r := by rw [hwd2]; constructor <;> simp [go_sem]
 have AM : MiAt wd2 (wd1.heap.size + 1) m (.slice a m.lg.length c) := by rw [hwd2]; constructor <;> simp [go_sem]
 have kq : Below wd1.heap.size wd1 wd2 := by rw [hwd2]; exact ((Below.refl _ _).alloc (Nat.le_refl _) _).alloc (by simp) _
 have lwd2 := AM.lt;have swd2 := kq.size;have O := O.later kq;have BW := BW.trans (kq.mono BW.size);clear kq;go_upto_region 4 with fail
 rw [← hwd2];clear hwd2;obtain ⟨r1, hr1⟩ : ∃ v, takeR r s m = v := ⟨_, rfl⟩;obtain ⟨m1, hm1⟩ : ∃ v, takeMm r s m = v := ⟨_, rfl⟩;obtain ⟨tb, htb⟩ : ∃ v, takeB r s m = v := ⟨_, rfl⟩;replace hr1 : Hid _ := hr1;replace hm1 : Hid _ := hm1;replace htb : Hid _ := htb;obtain ⟨m0_0, m0_1, m0_2⟩ := id AR;obtain ⟨m1_0, m1_1, m1_2, m1_3, m1_4, m1_5, m1_6⟩ := id AM;go_wp2_with fail
 go_at_call 10
 clear m0_0 m0_1 m0_2 m1_0 m1_1 m1_2 m1_3 m1_4 m1_5 m1_6;refine (takeIp r s m a c wd2 O.view.2 (by omega)).mono ?_;rintro e wd3 ⟨aA, cA, rfl, OA, kq⟩;have swd3 := kq.size;have AR := AR.below kq AR.lt;have AM := AM.below kq AM.lt;have O := O.later kq;have BW := BW.trans (kq.mono BW.size);clear kq;have iOA : ∀ g, (Value.slice aA m.lg.length cA).ownBlock = some g → wd2.heap.size ≤ g ∧ g < wd3.heap.size := fun g e => OA.lt g e
 rw [hr1.out, hm1.out, htb.out];obtain ⟨wd4, hwd4⟩ := mk_ ((wd3.alloc (Obj.cells #[.int .i64 r1.ep, .int .i64 r1.ow, .int .i64 r1.pa] 25)).alloc (Obj.cells #[.bool m1.up, .int .i64 m1.li, .int .i64 m1.ep, .slice aA m.lg.length cA, .int .i64 m1.sd, .int .i64 m1.ac, .int .i64 m1.al] 28));have RA : RgAt wd4 wd3.heap.size r1 := by rw [hwd4]; constructor <;> simp [go_sem]
 have MA : MiAt wd4 (wd3.heap.size + 1) m1 (.slice aA m.lg.length cA) := by rw [hwd4]; constructor <;> simp [go_sem]
 have kq : Below wd3.heap.size wd3 wd4 := by rw [hwd4]; exact ((Below.refl _ _).alloc (Nat.le_refl _) _).alloc (by simp) _
 have lwd4 := MA.lt;have swd4 := kq.size;have AR := AR.below kq AR.lt;have AM := AM.below kq AM.lt;have O := O.later kq;have OA := OA.later kq;have BW := BW.trans (kq.mono BW.size);clear kq;go_upto_region 5 with fail
 rw [← hwd4];clear hwd4;obtain ⟨m0_0, m0_1, m0_2⟩ := id AR;obtain ⟨m1_0, m1_1, m1_2, m1_3, m1_4, m1_5, m1_6⟩ := id AM;go_wp2_with fail
 go_at_call 11
 clear m0_0 m0_1 m0_2 m1_0 m1_1 m1_2 m1_3 m1_4 m1_5 m1_6;refine (takeSp r s m a c wd4 O.view.2 (by omega) O.capn).mono ?_;rintro e wd5 ⟨aB, cB, rfl, OB, kq⟩;have swd5 := kq.size;have AR := AR.below kq AR.lt;have RA := RA.below kq RA.lt;have AM := AM.below kq AM.lt;have MA := MA.below kq MA.lt;have O := O.later kq;have OA := OA.later kq;have BW := BW.trans (kq.mono BW.size);clear kq;have iOB : ∀ g, (Value.slice aB m.lg.length cB).ownBlock = some g → wd4.heap.size ≤ g ∧ g < wd5.heap.size := fun g e => OB.lt g e
 rw [hr1.out, hm1.out, htb.out];obtain ⟨wd6, hwd6⟩ := mk_ ((wd5.alloc (Obj.cells #[.int .i64 r1.ep, .int .i64 r1.ow, .int .i64 r1.pa] 25)).alloc (Obj.cells #[.bool m1.up, .int .i64 m1.li, .int .i64 m1.ep, .slice aB m.lg.length cB, .int .i64 m1.sd, .int .i64 m1.ac, .int .i64 m1.al] 28));have RB : RgAt wd6 wd5.heap.size r1 := by rw [hwd6]; constructor <;> simp [go_sem]
 have MB : MiAt wd6 (wd5.heap.size + 1) m1 (.slice aB m.lg.length cB) := by rw [hwd6]; constructor <;> simp [go_sem]
 have kq : Below wd5.heap.size wd5 wd6 := by rw [hwd6]; exact ((Below.refl _ _).alloc (Nat.le_refl _) _).alloc (by simp) _
 have lwd6 := MB.lt;have swd6 := kq.size;have AR := AR.below kq AR.lt;have RA := RA.below kq RA.lt;have AM := AM.below kq AM.lt;have MA := MA.below kq MA.lt;have O := O.later kq;have OA := OA.later kq;have OB := OB.later kq;have BW := BW.trans (kq.mono BW.size);clear kq;go_upto_region 6 with fail
 rw [← hwd6];clear hwd6;go_wp2_with fail
 go_at_call 12
 refine (drawPairs ad0 len0 cap0 f0 wd6 (hC.later BW (Nat.le_refl _))).mono ?_;rintro e wd7 ⟨q, t, p, ap, cp, z, rfl, qep, tb_, hp, OP, kq⟩;have swd7 := kq.size;have AR := AR.below kq AR.lt;have RA := RA.below kq RA.lt;have RB := RB.below kq RB.lt;have AM := AM.below kq AM.lt;have MA := MA.below kq MA.lt;have MB := MB.below kq MB.lt;have O := O.later kq;have OA := OA.later kq;have OB := OB.later kq;have BW := BW.trans (kq.mono BW.size);clear kq;have iOP : ∀ g, (Value.slice ap p.lg.length cp).ownBlock = some g → wd6.heap.size ≤ g ∧ g < wd7.heap.size := fun g e => OP.lt g e
 obtain ⟨wd8, hwd8⟩ := mk_ ((wd7.alloc (Obj.cells #[.int .i64 q.ep, .int .i64 q.ow, .int .i64 q.pa] 25)).alloc (Obj.cells #[.bool p.up, .int .i64 p.li, .int .i64 p.ep, .slice ap p.lg.length cp, .int .i64 p.sd, .int .i64 p.ac, .int .i64 p.al] 28));have AQ : RgAt wd8 wd7.heap.size q := by rw [hwd8]; constructor <;> simp [go_sem]
 have AP : MiAt wd8 (wd7.heap.size + 1) p (.slice ap p.lg.length cp) := by rw [hwd8]; constructor <;> simp [go_sem]
 have kq : Below wd7.heap.size wd7 wd8 := by rw [hwd8]; exact ((Below.refl _ _).alloc (Nat.le_refl _) _).alloc (by simp) _
 have lwd8 := AP.lt;have swd8 := kq.size;have AR := AR.below kq AR.lt;have RA := RA.below kq RA.lt;have RB := RB.below kq RB.lt;have AM := AM.below kq AM.lt;have MA := MA.below kq MA.lt;have MB := MB.below kq MB.lt;have O := O.later kq;have OA := OA.later kq;have OB := OB.later kq;have OP := OP.later kq;have BW := BW.trans (kq.mono BW.size);clear kq;go_upto_region 7 with fail
 rw [← hwd8];clear hwd8;obtain ⟨d, hd⟩ : ∃ v, pairsR q t p z = v := ⟨_, rfl⟩;obtain ⟨pb, hpb⟩ : ∃ v, pairsB q t p z = v := ⟨_, rfl⟩;replace hd : Hid _ := hd;replace hpb : Hid _ := hpb;obtain ⟨m0_0, m0_1, m0_2⟩ := id AQ;obtain ⟨m1_0, m1_1, m1_2, m1_3, m1_4, m1_5, m1_6⟩ := id AP;go_wp2_with fail
 go_at_call 13
 clear m0_0 m0_1 m0_2 m1_0 m1_1 m1_2 m1_3 m1_4 m1_5 m1_6;refine (pairsI q t p ap cp z wd8 OP.view.2 (by omega)).mono ?_;rintro e wd9 ⟨rfl, kq⟩;have swd9 := kq.size;have AR := AR.below kq AR.lt;have RA := RA.below kq RA.lt;have RB := RB.below kq RB.lt;have AQ := AQ.below kq AQ.lt;have AM := AM.below kq AM.lt;have MA := MA.below kq MA.lt;have MB := MB.below kq MB.lt;have AP := AP.below kq AP.lt;have O := O.later kq;have OA := OA.later kq;have OB := OB.later kq;have OP := OP.later kq;have BW := BW.trans (kq.mono BW.size);clear kq;rw [hd.out, hpb.out];obtain ⟨wd10, hwd10⟩ := mk_ (wd9.alloc (Obj.cells #[.int .i64 d.ep, .int .i64 d.ow, .int .i64 d.pa] 25));have AD : RgAt wd10 wd9.heap.size d := by rw [hwd10]; exact RgAt.new wd9 _ _
 have kq : Below wd9.heap.size wd9 wd10 := by rw [hwd10]; exact below_new _
 have lwd10 := AD.lt;have swd10 := kq.size;have AR := AR.below kq AR.lt;have RA := RA.below kq RA.lt;have RB := RB.below kq RB.lt;have AQ := AQ.below kq AQ.lt;have AM := AM.below kq AM.lt;have MA := MA.below kq MA.lt;have MB := MB.below kq MB.lt;have AP := AP.below kq AP.lt;have O := O.later kq;have OA := OA.later kq;have OB := OB.later kq;have OP := OP.later kq;have BW := BW.trans (kq.mono BW.size);clear kq;go_upto_region 8 with fail
 rw [← hwd10];clear hwd10;obtain ⟨m0_0, m0_1, m0_2⟩ := id AQ;obtain ⟨m1_0, m1_1, m1_2, m1_3, m1_4, m1_5, m1_6⟩ := id AP;go_wp2_with fail
 go_at_call 14
 clear m0_0 m0_1 m0_2 m1_0 m1_1 m1_2 m1_3 m1_4 m1_5 m1_6;refine (pairsS q t p ap cp z wd10 OP.view.2 (by omega)).mono ?_;rintro e wd11 ⟨rfl, kq⟩;have swd11 := kq.size;have AR := AR.below kq AR.lt;have RA := RA.below kq RA.lt;have RB := RB.below kq RB.lt;have AQ := AQ.below kq AQ.lt;have AD := AD.below kq AD.lt;have AM := AM.below kq AM.lt;have MA := MA.below kq MA.lt;have MB := MB.below kq MB.lt;have AP := AP.below kq AP.lt;have O := O.later kq;have OA := OA.later kq;have OB := OB.later kq;have OP := OP.later kq;have BW := BW.trans (kq.mono BW.size);clear kq;rw [hd.out, hpb.out];obtain ⟨wd12, hwd12⟩ := mk_ (wd11.alloc (Obj.cells #[.int .i64 d.ep, .int .i64 d.ow, .int .i64 d.pa] 25));have AE : RgAt wd12 wd11.heap.size d := by rw [hwd12]; exact RgAt.new wd11 _ _
 have kq : Below wd11.heap.size wd11 wd12 := by rw [hwd12]; exact below_new _
 have lwd12 := AE.lt;have swd12 := kq.size;have AR := AR.below kq AR.lt;have RA := RA.below kq RA.lt;have RB := RB.below kq RB.lt;have AQ := AQ.below kq AQ.lt;have AD := AD.below kq AD.lt;have AM := AM.below kq AM.lt;have MA := MA.below kq MA.lt;have MB := MB.below kq MB.lt;have AP := AP.below kq AP.lt;have O := O.later kq;have OA := OA.later kq;have OB := OB.later kq;have OP := OP.later kq;have BW := BW.trans (kq.mono BW.size);clear kq;go_upto_region 9 with fail
 rw [← hwd12];clear hwd12;go_wp2_with fail
 go_at_call 15
 refine (drawMinds ad0 len0 cap0 f0 wd12 (hC.later BW (Nat.le_refl _))).mono ?_;rintro e wd13 ⟨u, vv, mm, aw, cw, rfl, uep, vb, hw, OW, kq⟩;have swd13 := kq.size;have AR := AR.below kq AR.lt;have RA := RA.below kq RA.lt;have RB := RB.below kq RB.lt;have AQ := AQ.below kq AQ.lt;have AD := AD.below kq AD.lt;have AE := AE.below kq AE.lt;have AM := AM.below kq AM.lt;have MA := MA.below kq MA.lt;have MB := MB.below kq MB.lt;have AP := AP.below kq AP.lt;have O := O.later kq;have OA := OA.later kq;have OB := OB.later kq;have OP := OP.later kq;have BW := BW.trans (kq.mono BW.size);clear kq;have iOW : ∀ g, (Value.slice aw mm.lg.length cw).ownBlock = some g → wd12.heap.size ≤ g ∧ g < wd13.heap.size := fun g e => OW.lt g e
 obtain ⟨wd14, hwd14⟩ := mk_ ((wd13.alloc (Obj.cells #[.int .i64 u.ep, .int .i64 u.ow, .int .i64 u.pa] 25)).alloc (Obj.cells #[.bool mm.up, .int .i64 mm.li, .int .i64 mm.ep, .slice aw mm.lg.length cw, .int .i64 mm.sd, .int .i64 mm.ac, .int .i64 mm.al] 28));have AU : RgAt wd14 wd13.heap.size u := by rw [hwd14]; constructor <;> simp [go_sem]
 have AW : MiAt wd14 (wd13.heap.size + 1) mm (.slice aw mm.lg.length cw) := by rw [hwd14]; constructor <;> simp [go_sem]
 have kq : Below wd13.heap.size wd13 wd14 := by rw [hwd14]; exact ((Below.refl _ _).alloc (Nat.le_refl _) _).alloc (by simp) _
 have lwd14 := AW.lt;have swd14 := kq.size;have AR := AR.below kq AR.lt;have RA := RA.below kq RA.lt;have RB := RB.below kq RB.lt;have AQ := AQ.below kq AQ.lt;have AD := AD.below kq AD.lt;have AE := AE.below kq AE.lt;have AM := AM.below kq AM.lt;have MA := MA.below kq MA.lt;have MB := MB.below kq MB.lt;have AP := AP.below kq AP.lt;have O := O.later kq;have OA := OA.later kq;have OB := OB.later kq;have OP := OP.later kq;have OW := OW.later kq;have BW := BW.trans (kq.mono BW.size);clear kq;go_upto_region 10 with fail
 rw [← hwd14];clear hwd14;go_wp2_with fail
 go_at_call 16
 refine (drawRegOk ad0 len0 cap0 f0 wd14 (hC.later BW (Nat.le_refl _))).mono ?_;rintro e wd15 ⟨o, rfl, olo, kq⟩;have swd15 := kq.size;have AR := AR.below kq AR.lt;have RA := RA.below kq RA.lt;have RB := RB.below kq RB.lt;have AQ := AQ.below kq AQ.lt;have AD := AD.below kq AD.lt;have AE := AE.below kq AE.lt;have AU := AU.below kq AU.lt;have AM := AM.below kq AM.lt;have MA := MA.below kq MA.lt;have MB := MB.below kq MB.lt;have AP := AP.below kq AP.lt;have AW := AW.below kq AW.lt;have O := O.later kq;have OA := OA.later kq;have OB := OB.later kq;have OP := OP.later kq;have OW := OW.later kq;have BW := BW.trans (kq.mono BW.size);clear kq;clear olo uep qep;obtain ⟨wd16, hwd16⟩ := mk_ (wd15.alloc (Obj.cells #[.int .i64 o.ep, .int .i64 o.ow, .int .i64 o.pa] 25));have AO : RgAt wd16 wd15.heap.size o := by rw [hwd16]; exact RgAt.new wd15 _ _
 have kq : Below wd15.heap.size wd15 wd16 := by rw [hwd16]; exact below_new _
 have lwd16 := AO.lt;have swd16 := kq.size;have AR := AR.below kq AR.lt;have RA := RA.below kq RA.lt;have RB := RB.below kq RB.lt;have AQ := AQ.below kq AQ.lt;have AD := AD.below kq AD.lt;have AE := AE.below kq AE.lt;have AU := AU.below kq AU.lt;have AM := AM.below kq AM.lt;have MA := MA.below kq MA.lt;have MB := MB.below kq MB.lt;have AP := AP.below kq AP.lt;have AW := AW.below kq AW.lt;have O := O.later kq;have OA := OA.later kq;have OB := OB.later kq;have OP := OP.later kq;have OW := OW.later kq;have BW := BW.trans (kq.mono BW.size);clear kq;go_upto_region 11 with fail
 rw [← hwd16];clear hwd16;obtain ⟨mb, hmb⟩ : ∃ v, mindsB u vv mm = v := ⟨_, rfl⟩;obtain ⟨ob, hob⟩ : ∃ v, rgOk o = v := ⟨_, rfl⟩;replace hmb : Hid _ := hmb;replace hob : Hid _ := hob;refine wp_region_held (S := fun Y => Below wd16.heap.size wd16 Y) (by kernel_rfl) ?_;change wpAnyH _ _ _ _ _ _ _ _ (World.drew _);have hb0 : Below wd16.heap.size wd16 wd16.drew := (Below.refl _ _).drew;obtain ⟨u0, hy0⟩ := mk_ wd16.drew;rw [← hy0] at hb0 ⊢;clear hy0;refine tw 0 79 (.bool tb) ?_;refine tw 1 80 (.bool tb) ?_;refine tw 2 81 (.bool false) ?_;refine tw 3 82 (.bool false) ?_;refine tw 4 83 (.agg #[.int .i64 r1.ep, .int .i64 r1.ow, .int .i64 r1.pa]) ?_ (hy := by intro Y hSw; obtain ⟨X0, X1, X2⟩ := RA.below hSw RA.lt; go_simp);refine tw 5 84 (.agg #[.int .i64 r1.ep, .int .i64 r1.ow, .int .i64 r1.pa]) ?_ (hy := by intro Y hSw; obtain ⟨X0, X1, X2⟩ := RB.below hSw RB.lt; go_simp);refine tw 6 85 (.bool false) ?_;refine tw 7 86 (.bool false) ?_;refine tw 8 87 (.bool false) ?_;refine tw 9 88 (.agg #[.bool m1.up, .int .i64 m1.li, .int .i64 m1.ep, .slice aA m.lg.length cA, .int .i64 m1.sd, .int .i64 m1.ac, .int .i64 m1.al]) ?_ (hy := by intro Y hSw; obtain ⟨X0, X1, X2, X3, X4, X5, X6⟩ := MA.below hSw MA.lt; go_simp);refine tw 10 89 (.agg #[.bool m1.up, .int .i64 m1.li, .int .i64 m1.ep, .slice aB m.lg.length cB, .int .i64 m1.sd, .int .i64 m1.ac, .int .i64 m1.al]) ?_ (hy := by intro Y hSw; obtain ⟨X0, X1, X2, X3, X4, X5, X6⟩ := MB.below hSw MB.lt; go_simp);refine Go.Proofs.YtnpiljegdiconaaGreat.w1 11 fun Kz hKz => ?_
 go_simp
 go_at_call 17
 refine (sameMi ⟨m1.up, m1.li, m1.ep, m.lg, m1.sd, m1.ac, m1.al⟩ aA aB cA cB u0 (OA.later hb0).view.2 (OB.later hb0).view.2 (by dsimp only; omega)).mono ?_;rintro e u1 ⟨rfl, kq⟩;have hb1 : Below wd16.heap.size wd16 u1 := hb0.trans (kq.mono hb0.size);clear kq;refine hKz _ _ ⟨hb1, ?_⟩;clear hKz Kz;refine tw 12 91 (.bool false) ?_;refine tw 13 92 (.bool false) ?_;refine tw 14 93 (.bool false) ?_;refine tw 15 94 (.bool pb) ?_;refine tw 16 95 (.bool pb) ?_;refine tw 17 96 (.bool false) ?_;refine tw 18 97 (.bool false) ?_;refine tw 19 98 (.bool false) ?_;refine tw 20 99 (.agg #[.int .i64 d.ep, .int .i64 d.ow, .int .i64 d.pa]) ?_ (hy := by intro Y hSw; obtain ⟨X0, X1, X2⟩ := AD.below hSw AD.lt; go_simp);refine tw 21 100 (.agg #[.int .i64 d.ep, .int .i64 d.ow, .int .i64 d.pa]) ?_ (hy := by intro Y hSw; obtain ⟨X0, X1, X2⟩ := AE.below hSw AE.lt; go_simp);refine tw 22 101 (.bool false) ?_;refine tw 23 102 (.bool false) ?_;refine tw 24 103 (.bool false) ?_;refine tw 25 104 (.agg #[.int .i64 u.ep, .int .i64 u.ow, .int .i64 u.pa]) ?_ (hy := by intro Y hSw; obtain ⟨X0, X1, X2⟩ := AU.below hSw AU.lt; go_simp);refine tw 26 105 (.int .i64 vv) ?_;refine tw 27 106 (.agg #[.bool mm.up, .int .i64 mm.li, .int .i64 mm.ep, .slice aw mm.lg.length cw, .int .i64 mm.sd, .int .i64 mm.ac, .int .i64 mm.al]) ?_ (hy := by intro Y hSw; obtain ⟨X0, X1, X2, X3, X4, X5, X6⟩ := AW.below hSw AW.lt; go_simp);refine tw 29 108 (.agg #[.int .i64 u.ep, .int .i64 u.ow, .int .i64 u.pa]) ?_ (hy := by intro Y hSw; obtain ⟨X0, X1, X2⟩ := AU.below hSw AU.lt; go_simp);refine tw 30 109 (.int .i64 vv) ?_;refine tw 31 110 (.agg #[.bool mm.up, .int .i64 mm.li, .int .i64 mm.ep, .slice aw mm.lg.length cw, .int .i64 mm.sd, .int .i64 mm.ac, .int .i64 mm.al]) ?_ (hy := by intro Y hSw; obtain ⟨X0, X1, X2, X3, X4, X5, X6⟩ := AW.below hSw AW.lt; go_simp);refine Go.Proofs.YtnpiljegdiconaaGreat.w1 28 fun Kz hKz => ?_
 go_simp
 go_at_call 18
 refine (mindsI u vv mm aw cw u1 (OW.later hb1).view.2 (by omega)).mono ?_;rintro e u2 ⟨rfl, kq⟩;have hb2 : Below wd16.heap.size wd16 u2 := hb1.trans (kq.mono hb1.size);clear kq;rw [hmb.out];refine hKz _ _ ⟨hb2, ?_⟩;clear hKz Kz;refine Go.Proofs.YtnpiljegdiconaaGreat.w1 32 fun Kz hKz => ?_
 go_simp
 go_at_call 19
 refine (mindsS u vv mm aw cw u2 (OW.later hb2).view.2 (by omega)).mono ?_;rintro e u3 ⟨rfl, kq⟩;have hb3 : Below wd16.heap.size wd16 u3 := hb2.trans (kq.mono hb2.size);clear kq;rw [hmb.out];refine hKz _ _ ⟨hb3, ?_⟩;clear hKz Kz;refine tw 33 112 (.bool false) ?_;refine tw 34 113 (.bool false) ?_;refine tw 35 114 (.bool false) ?_;refine tw 36 115 (.agg #[.int .i64 o.ep, .int .i64 o.ow, .int .i64 o.pa]) ?_ (hy := by intro Y hSw; obtain ⟨X0, X1, X2⟩ := AO.below hSw AO.lt; go_simp);refine tw 38 117 (.agg #[.int .i64 o.ep, .int .i64 o.ow, .int .i64 o.pa]) ?_ (hy := by intro Y hSw; obtain ⟨X0, X1, X2⟩ := AO.below hSw AO.lt; go_simp);refine Go.Proofs.YtnpiljegdiconaaGreat.w1 37 fun Kz hKz => ?_
 go_simp
 go_at_call 20
 refine (regOkI o u3).mono ?_;rintro e u4 ⟨rfl, kq⟩;have hb4 : Below wd16.heap.size wd16 u4 := hb3.trans (kq.mono hb3.size);clear kq;rw [hob.out];refine hKz _ _ ⟨hb4, ?_⟩;clear hKz Kz;refine Go.Proofs.YtnpiljegdiconaaGreat.w1 39 fun Kz hKz => ?_
 go_simp
 go_at_call 21
 refine (regOkS o u4).mono ?_;rintro e u5 ⟨rfl, kq⟩;have hb5 : Below wd16.heap.size wd16 u5 := hb4.trans (kq.mono hb4.size);clear kq;rw [hob.out];refine hKz _ _ ⟨hb5, ?_⟩;clear hKz Kz;refine tw 40 119 (.bool false) ?_;refine tw 41 120 (.bool false) ?_;refine wpAnyH_done (by kernel_rfl) ?_ _;have su5 := hb5.size;have AR := AR.below hb5 AR.lt;have RA := RA.below hb5 RA.lt;have AQ := AQ.below hb5 AQ.lt;have AD := AD.below hb5 AD.lt;have AU := AU.below hb5 AU.lt;have AM := AM.below hb5 AM.lt;have MA := MA.below hb5 MA.lt;have AP := AP.below hb5 AP.lt;have AW := AW.below hb5 AW.lt;have O := O.later hb5;have OA := OA.later hb5;have OP := OP.later hb5;have OW := OW.later hb5;have BW := BW.trans (hb5.mono BW.size);clear hb5;clear hb0 hb1 hb2 hb3 hb4 hob;go_upto_region 13 with fail
 cases pb
 ·
  have e1 : d = q := by rw [← hd.out]; unfold pairsR; rw [hpb.out]; rfl
  clear hd;subst e1;obtain ⟨x0_, x1_, x2_⟩ := id AD;obtain ⟨y0_, y1_, y2_⟩ := id AQ;go_upto_region 15 with fail
  clear x0_ x1_ x2_ y0_ y1_ y2_;go_upto_region 15 with fail
  obtain ⟨m0_0, m0_1, m0_2⟩ := id AU;obtain ⟨m1_0, m1_1, m1_2, m1_3, m1_4, m1_5, m1_6⟩ := id AW;go_wp2_with fail
  go_at_call 18
  clear m0_0 m0_1 m0_2 m1_0 m1_1 m1_2 m1_3 m1_4 m1_5 m1_6;refine (mindsI u vv mm aw cw u5 OW.view.2 (by omega)).mono ?_;rintro e wd17 ⟨rfl, kq⟩;have swd17 := kq.size;have AR := AR.below kq AR.lt;have RA := RA.below kq RA.lt;have AQ := AQ.below kq AQ.lt;have AD := AD.below kq AD.lt;have AU := AU.below kq AU.lt;have AM := AM.below kq AM.lt;have MA := MA.below kq MA.lt;have AP := AP.below kq AP.lt;have AW := AW.below kq AW.lt;have O := O.later kq;have OA := OA.later kq;have OP := OP.later kq;have OW := OW.later kq;have BW := BW.trans (kq.mono BW.size);clear kq;rw [hmb.out];cases mb
  ·
   go_upto_region 17 with fail
   cases tb
   ·
    have e1 : r1 = r := by rw [← hr1.out]; unfold takeR; rw [htb.out]; rfl
    have e2 : m1 = m := by rw [← hm1.out]; unfold takeMm; rw [htb.out]; rfl
    rw [e1] at RA;rw [e2] at MA;clear hr1 hm1;subst e1;subst e2;obtain ⟨m0_0, m0_1, m0_2⟩ := id RA;obtain ⟨m1_0, m1_1, m1_2⟩ := id AR;obtain ⟨m2_0, m2_1, m2_2, m2_3, m2_4, m2_5, m2_6⟩ := id MA;obtain ⟨m3_0, m3_1, m3_2, m3_3, m3_4, m3_5, m3_6⟩ := id AM;go_wp2_with fail
    go_at_call 17
    clear m0_0 m0_1 m0_2 m1_0 m1_1 m1_2 m2_0 m2_1 m2_2 m2_3 m2_4 m2_5 m2_6 m3_0 m3_1 m3_2 m3_3 m3_4 m3_5 m3_6;refine (sameMi m1 aA a cA c wd17 OA.view.2 O.view.2 (by omega)).mono ?_;rintro e wd18 ⟨rfl, kq⟩;have swd18 := kq.size;have AR := AR.below kq AR.lt;have RA := RA.below kq RA.lt;have AQ := AQ.below kq AQ.lt;have AD := AD.below kq AD.lt;have AU := AU.below kq AU.lt;have AM := AM.below kq AM.lt;have MA := MA.below kq MA.lt;have AP := AP.below kq AP.lt;have AW := AW.below kq AW.lt;have O := O.later kq;have OA := OA.later kq;have OP := OP.later kq;have OW := OW.later kq;have BW := BW.trans (kq.mono BW.size);clear kq;go_wp2
    go_ret
    exact ⟨rfl, BW⟩
   have e1 : r1 = takeN r s := by rw [← hr1.out]; unfold takeR; rw [htb.out]; rfl
   have e2 : m1 = takeM r m := by rw [← hm1.out]; unfold takeMm; rw [htb.out]; rfl
   have hmn : Hid (mindsB r1 s ⟨m1.up, m1.li, m1.ep, m.lg, m1.sd, m1.ac, m1.al⟩ = true) := by unfold Hid; rw [e1, e2]; have h9 : mindsB (takeN r s) s (takeM r m) = true := take_minds htb.out; exact h9
   have hmo : Hid (mindsB r1 (1 - s) ⟨m1.up, m1.li, m1.ep, m.lg, m1.sd, m1.ac, m1.al⟩ = false) := by unfold Hid; exact minds_one hmn.out
   have hep : r1.ep = r.ep + 1 := by rw [e1]; rfl
   have hpa : (r1.pa == 0) = true := by rw [e1]; rfl
   have hwe : IntKind.i64.wrap (r.ep + 1) = r.ep + 1 := by rw [IntKind.wrap_i64]; omega
   have hee : (r1.ep == r.ep + 1) = true := by rw [hep]; simp
   have hws : IntKind.i64.wrap (1 - s) = 1 - s := by rw [IntKind.wrap_i64]; omega
   replace hep : True := trivial;clear e1 e2 hr1 hm1;obtain ⟨m0_0, m0_1, m0_2⟩ := id RA;obtain ⟨m1_0, m1_1, m1_2, m1_3, m1_4, m1_5, m1_6⟩ := id MA;go_wp2_with fail
   go_at_call 18
   clear m0_0 m0_1 m0_2 m1_0 m1_1 m1_2 m1_3 m1_4 m1_5 m1_6;refine (mindsI r1 s ⟨m1.up, m1.li, m1.ep, m.lg, m1.sd, m1.ac, m1.al⟩ aA cA wd17 OA.view.2 (by dsimp only; omega)).mono ?_;rintro e wd19 ⟨rfl, kq⟩;have swd19 := kq.size;have AR := AR.below kq AR.lt;have RA := RA.below kq RA.lt;have AQ := AQ.below kq AQ.lt;have AD := AD.below kq AD.lt;have AU := AU.below kq AU.lt;have AM := AM.below kq AM.lt;have MA := MA.below kq MA.lt;have AP := AP.below kq AP.lt;have AW := AW.below kq AW.lt;have O := O.later kq;have OA := OA.later kq;have OP := OP.later kq;have OW := OW.later kq;have BW := BW.trans (kq.mono BW.size);clear kq;rw [hmn.out];obtain ⟨m0_0, m0_1, m0_2⟩ := id RA;obtain ⟨m1_0, m1_1, m1_2⟩ := id AR;obtain ⟨m2_0, m2_1, m2_2, m2_3, m2_4, m2_5, m2_6⟩ := id MA;go_wp2_with fail
   go_at_call 18
   clear m0_0 m0_1 m0_2 m1_0 m1_1 m1_2 m2_0 m2_1 m2_2 m2_3 m2_4 m2_5 m2_6;refine (mindsI r1 (1 - s) ⟨m1.up, m1.li, m1.ep, m.lg, m1.sd, m1.ac, m1.al⟩ aA cA wd19 OA.view.2 (by dsimp only; omega)).mono ?_;rintro e wd20 ⟨rfl, kq⟩;have swd20 := kq.size;have AR := AR.below kq AR.lt;have RA := RA.below kq RA.lt;have AQ := AQ.below kq AQ.lt;have AD := AD.below kq AD.lt;have AU := AU.below kq AU.lt;have AM := AM.below kq AM.lt;have MA := MA.below kq MA.lt;have AP := AP.below kq AP.lt;have AW := AW.below kq AW.lt;have O := O.later kq;have OA := OA.later kq;have OP := OP.later kq;have OW := OW.later kq;have BW := BW.trans (kq.mono BW.size);clear kq;rw [hmo.out];go_wp2
   go_ret
   exact ⟨rfl, BW⟩
  have hmo_ : Hid (mindsB u (1 - vv) mm = false) := by unfold Hid; exact minds_one hmb.out
  have hwv : IntKind.i64.wrap (1 - vv) = 1 - vv := by rw [IntKind.wrap_i64]; omega
  obtain ⟨m0_0, m0_1, m0_2⟩ := id AU;obtain ⟨m1_0, m1_1, m1_2, m1_3, m1_4, m1_5, m1_6⟩ := id AW;go_wp2_with fail
  go_at_call 18
  clear m0_0 m0_1 m0_2 m1_0 m1_1 m1_2 m1_3 m1_4 m1_5 m1_6;refine (mindsI u (1 - vv) mm aw cw wd17 OW.view.2 (by omega)).mono ?_;rintro e wd21 ⟨rfl, kq⟩;have swd21 := kq.size;have AR := AR.below kq AR.lt;have RA := RA.below kq RA.lt;have AQ := AQ.below kq AQ.lt;have AD := AD.below kq AD.lt;have AU := AU.below kq AU.lt;have AM := AM.below kq AM.lt;have MA := MA.below kq MA.lt;have AP := AP.below kq AP.lt;have AW := AW.below kq AW.lt;have O := O.later kq;have OA := OA.later kq;have OP := OP.later kq;have OW := OW.later kq;have BW := BW.trans (kq.mono BW.size);clear kq;rw [hmo_.out];clear hwv hmo_;go_upto_region 17 with fail
  cases tb
  ·
   have e1 : r1 = r := by rw [← hr1.out]; unfold takeR; rw [htb.out]; rfl
   have e2 : m1 = m := by rw [← hm1.out]; unfold takeMm; rw [htb.out]; rfl
   rw [e1] at RA;rw [e2] at MA;clear hr1 hm1;subst e1;subst e2;obtain ⟨m0_0, m0_1, m0_2⟩ := id RA;obtain ⟨m1_0, m1_1, m1_2⟩ := id AR;obtain ⟨m2_0, m2_1, m2_2, m2_3, m2_4, m2_5, m2_6⟩ := id MA;obtain ⟨m3_0, m3_1, m3_2, m3_3, m3_4, m3_5, m3_6⟩ := id AM;go_wp2_with fail
   go_at_call 17
   clear m0_0 m0_1 m0_2 m1_0 m1_1 m1_2 m2_0 m2_1 m2_2 m2_3 m2_4 m2_5 m2_6 m3_0 m3_1 m3_2 m3_3 m3_4 m3_5 m3_6;refine (sameMi m1 aA a cA c wd21 OA.view.2 O.view.2 (by omega)).mono ?_;rintro e wd22 ⟨rfl, kq⟩;have swd22 := kq.size;have AR := AR.below kq AR.lt;have RA := RA.below kq RA.lt;have AQ := AQ.below kq AQ.lt;have AD := AD.below kq AD.lt;have AU := AU.below kq AU.lt;have AM := AM.below kq AM.lt;have MA := MA.below kq MA.lt;have AP := AP.below kq AP.lt;have AW := AW.below kq AW.lt;have O := O.later kq;have OA := OA.later kq;have OP := OP.later kq;have OW := OW.later kq;have BW := BW.trans (kq.mono BW.size);clear kq;go_wp2
   go_ret
   exact ⟨rfl, BW⟩
  have e1 : r1 = takeN r s := by rw [← hr1.out]; unfold takeR; rw [htb.out]; rfl
  have e2 : m1 = takeM r m := by rw [← hm1.out]; unfold takeMm; rw [htb.out]; rfl
  have hmn : Hid (mindsB r1 s ⟨m1.up, m1.li, m1.ep, m.lg, m1.sd, m1.ac, m1.al⟩ = true) := by unfold Hid; rw [e1, e2]; have h9 : mindsB (takeN r s) s (takeM r m) = true := take_minds htb.out; exact h9
  have hmo : Hid (mindsB r1 (1 - s) ⟨m1.up, m1.li, m1.ep, m.lg, m1.sd, m1.ac, m1.al⟩ = false) := by unfold Hid; exact minds_one hmn.out
  have hep : r1.ep = r.ep + 1 := by rw [e1]; rfl
  have hpa : (r1.pa == 0) = true := by rw [e1]; rfl
  have hwe : IntKind.i64.wrap (r.ep + 1) = r.ep + 1 := by rw [IntKind.wrap_i64]; omega
  have hee : (r1.ep == r.ep + 1) = true := by rw [hep]; simp
  have hws : IntKind.i64.wrap (1 - s) = 1 - s := by rw [IntKind.wrap_i64]; omega
  replace hep : True := trivial;clear e1 e2 hr1 hm1;obtain ⟨m0_0, m0_1, m0_2⟩ := id RA;obtain ⟨m1_0, m1_1, m1_2, m1_3, m1_4, m1_5, m1_6⟩ := id MA;go_wp2_with fail
  go_at_call 18
  clear m0_0 m0_1 m0_2 m1_0 m1_1 m1_2 m1_3 m1_4 m1_5 m1_6;refine (mindsI r1 s ⟨m1.up, m1.li, m1.ep, m.lg, m1.sd, m1.ac, m1.al⟩ aA cA wd21 OA.view.2 (by dsimp only; omega)).mono ?_;rintro e wd23 ⟨rfl, kq⟩;have swd23 := kq.size;have AR := AR.below kq AR.lt;have RA := RA.below kq RA.lt;have AQ := AQ.below kq AQ.lt;have AD := AD.below kq AD.lt;have AU := AU.below kq AU.lt;have AM := AM.below kq AM.lt;have MA := MA.below kq MA.lt;have AP := AP.below kq AP.lt;have AW := AW.below kq AW.lt;have O := O.later kq;have OA := OA.later kq;have OP := OP.later kq;have OW := OW.later kq;have BW := BW.trans (kq.mono BW.size);clear kq;rw [hmn.out];obtain ⟨m0_0, m0_1, m0_2⟩ := id RA;obtain ⟨m1_0, m1_1, m1_2⟩ := id AR;obtain ⟨m2_0, m2_1, m2_2, m2_3, m2_4, m2_5, m2_6⟩ := id MA;go_wp2_with fail
  go_at_call 18
  clear m0_0 m0_1 m0_2 m1_0 m1_1 m1_2 m2_0 m2_1 m2_2 m2_3 m2_4 m2_5 m2_6;refine (mindsI r1 (1 - s) ⟨m1.up, m1.li, m1.ep, m.lg, m1.sd, m1.ac, m1.al⟩ aA cA wd23 OA.view.2 (by dsimp only; omega)).mono ?_;rintro e wd24 ⟨rfl, kq⟩;have swd24 := kq.size;have AR := AR.below kq AR.lt;have RA := RA.below kq RA.lt;have AQ := AQ.below kq AQ.lt;have AD := AD.below kq AD.lt;have AU := AU.below kq AU.lt;have AM := AM.below kq AM.lt;have MA := MA.below kq MA.lt;have AP := AP.below kq AP.lt;have AW := AW.below kq AW.lt;have O := O.later kq;have OA := OA.later kq;have OP := OP.later kq;have OW := OW.later kq;have BW := BW.trans (kq.mono BW.size);clear kq;rw [hmo.out];go_wp2
  go_ret
  exact ⟨rfl, BW⟩
 have hmd : Hid (mindsB d t p = true) := by unfold Hid; rw [← hd.out]; exact (pairs_minds hpb.out).1
 have hz : d.pa = z := by rw [← hd.out]; exact (pairs_minds hpb.out).2
 have hzz : (d.pa != z) = false := by simpa using hz
 replace hz : Hid _ := hz;obtain ⟨m0_0, m0_1, m0_2⟩ := id AD;obtain ⟨m1_0, m1_1, m1_2, m1_3, m1_4, m1_5, m1_6⟩ := id AP;go_wp2_with fail
 go_at_call 18
 clear m0_0 m0_1 m0_2 m1_0 m1_1 m1_2 m1_3 m1_4 m1_5 m1_6;refine (mindsI d t p ap cp u5 OP.view.2 (by omega)).mono ?_;rintro e wd25 ⟨rfl, kq⟩;have swd25 := kq.size;have AR := AR.below kq AR.lt;have RA := RA.below kq RA.lt;have AQ := AQ.below kq AQ.lt;have AD := AD.below kq AD.lt;have AU := AU.below kq AU.lt;have AM := AM.below kq AM.lt;have MA := MA.below kq MA.lt;have AP := AP.below kq AP.lt;have AW := AW.below kq AW.lt;have O := O.later kq;have OA := OA.later kq;have OP := OP.later kq;have OW := OW.later kq;have BW := BW.trans (kq.mono BW.size);clear kq;rw [hmd.out];obtain ⟨x0_, x1_, x2_⟩ := id AD;go_upto_region 15 with fail
 clear x0_ x1_ x2_ hzz hmd hz;go_upto_region 15 with fail
 obtain ⟨m0_0, m0_1, m0_2⟩ := id AU;obtain ⟨m1_0, m1_1, m1_2, m1_3, m1_4, m1_5, m1_6⟩ := id AW;go_wp2_with fail
 go_at_call 18
 clear m0_0 m0_1 m0_2 m1_0 m1_1 m1_2 m1_3 m1_4 m1_5 m1_6;refine (mindsI u vv mm aw cw wd25 OW.view.2 (by omega)).mono ?_;rintro e wd26 ⟨rfl, kq⟩;have swd26 := kq.size;have AR := AR.below kq AR.lt;have RA := RA.below kq RA.lt;have AQ := AQ.below kq AQ.lt;have AD := AD.below kq AD.lt;have AU := AU.below kq AU.lt;have AM := AM.below kq AM.lt;have MA := MA.below kq MA.lt;have AP := AP.below kq AP.lt;have AW := AW.below kq AW.lt;have O := O.later kq;have OA := OA.later kq;have OP := OP.later kq;have OW := OW.later kq;have BW := BW.trans (kq.mono BW.size);clear kq;rw [hmb.out];cases mb
 ·
  go_upto_region 17 with fail
  cases tb
  ·
   have e1 : r1 = r := by rw [← hr1.out]; unfold takeR; rw [htb.out]; rfl
   have e2 : m1 = m := by rw [← hm1.out]; unfold takeMm; rw [htb.out]; rfl
   rw [e1] at RA;rw [e2] at MA;clear hr1 hm1;subst e1;subst e2;obtain ⟨m0_0, m0_1, m0_2⟩ := id RA;obtain ⟨m1_0, m1_1, m1_2⟩ := id AR;obtain ⟨m2_0, m2_1, m2_2, m2_3, m2_4, m2_5, m2_6⟩ := id MA;obtain ⟨m3_0, m3_1, m3_2, m3_3, m3_4, m3_5, m3_6⟩ := id AM;go_wp2_with fail
   go_at_call 17
   clear m0_0 m0_1 m0_2 m1_0 m1_1 m1_2 m2_0 m2_1 m2_2 m2_3 m2_4 m2_5 m2_6 m3_0 m3_1 m3_2 m3_3 m3_4 m3_5 m3_6;refine (sameMi m1 aA a cA c wd26 OA.view.2 O.view.2 (by omega)).mono ?_;rintro e wd27 ⟨rfl, kq⟩;have swd27 := kq.size;have AR := AR.below kq AR.lt;have RA := RA.below kq RA.lt;have AQ := AQ.below kq AQ.lt;have AD := AD.below kq AD.lt;have AU := AU.below kq AU.lt;have AM := AM.below kq AM.lt;have MA := MA.below kq MA.lt;have AP := AP.below kq AP.lt;have AW := AW.below kq AW.lt;have O := O.later kq;have OA := OA.later kq;have OP := OP.later kq;have OW := OW.later kq;have BW := BW.trans (kq.mono BW.size);clear kq;go_wp2
   go_ret
   exact ⟨rfl, BW⟩
  have e1 : r1 = takeN r s := by rw [← hr1.out]; unfold takeR; rw [htb.out]; rfl
  have e2 : m1 = takeM r m := by rw [← hm1.out]; unfold takeMm; rw [htb.out]; rfl
  have hmn : Hid (mindsB r1 s ⟨m1.up, m1.li, m1.ep, m.lg, m1.sd, m1.ac, m1.al⟩ = true) := by unfold Hid; rw [e1, e2]; have h9 : mindsB (takeN r s) s (takeM r m) = true := take_minds htb.out; exact h9
  have hmo : Hid (mindsB r1 (1 - s) ⟨m1.up, m1.li, m1.ep, m.lg, m1.sd, m1.ac, m1.al⟩ = false) := by unfold Hid; exact minds_one hmn.out
  have hep : r1.ep = r.ep + 1 := by rw [e1]; rfl
  have hpa : (r1.pa == 0) = true := by rw [e1]; rfl
  have hwe : IntKind.i64.wrap (r.ep + 1) = r.ep + 1 := by rw [IntKind.wrap_i64]; omega
  have hee : (r1.ep == r.ep + 1) = true := by rw [hep]; simp
  have hws : IntKind.i64.wrap (1 - s) = 1 - s := by rw [IntKind.wrap_i64]; omega
  replace hep : True := trivial;clear e1 e2 hr1 hm1;obtain ⟨m0_0, m0_1, m0_2⟩ := id RA;obtain ⟨m1_0, m1_1, m1_2, m1_3, m1_4, m1_5, m1_6⟩ := id MA;go_wp2_with fail
  go_at_call 18
  clear m0_0 m0_1 m0_2 m1_0 m1_1 m1_2 m1_3 m1_4 m1_5 m1_6;refine (mindsI r1 s ⟨m1.up, m1.li, m1.ep, m.lg, m1.sd, m1.ac, m1.al⟩ aA cA wd26 OA.view.2 (by dsimp only; omega)).mono ?_;rintro e wd28 ⟨rfl, kq⟩;have swd28 := kq.size;have AR := AR.below kq AR.lt;have RA := RA.below kq RA.lt;have AQ := AQ.below kq AQ.lt;have AD := AD.below kq AD.lt;have AU := AU.below kq AU.lt;have AM := AM.below kq AM.lt;have MA := MA.below kq MA.lt;have AP := AP.below kq AP.lt;have AW := AW.below kq AW.lt;have O := O.later kq;have OA := OA.later kq;have OP := OP.later kq;have OW := OW.later kq;have BW := BW.trans (kq.mono BW.size);clear kq;rw [hmn.out];obtain ⟨m0_0, m0_1, m0_2⟩ := id RA;obtain ⟨m1_0, m1_1, m1_2⟩ := id AR;obtain ⟨m2_0, m2_1, m2_2, m2_3, m2_4, m2_5, m2_6⟩ := id MA;go_wp2_with fail
  go_at_call 18
  clear m0_0 m0_1 m0_2 m1_0 m1_1 m1_2 m2_0 m2_1 m2_2 m2_3 m2_4 m2_5 m2_6;refine (mindsI r1 (1 - s) ⟨m1.up, m1.li, m1.ep, m.lg, m1.sd, m1.ac, m1.al⟩ aA cA wd28 OA.view.2 (by dsimp only; omega)).mono ?_;rintro e wd29 ⟨rfl, kq⟩;have swd29 := kq.size;have AR := AR.below kq AR.lt;have RA := RA.below kq RA.lt;have AQ := AQ.below kq AQ.lt;have AD := AD.below kq AD.lt;have AU := AU.below kq AU.lt;have AM := AM.below kq AM.lt;have MA := MA.below kq MA.lt;have AP := AP.below kq AP.lt;have AW := AW.below kq AW.lt;have O := O.later kq;have OA := OA.later kq;have OP := OP.later kq;have OW := OW.later kq;have BW := BW.trans (kq.mono BW.size);clear kq;rw [hmo.out];go_wp2
  go_ret
  exact ⟨rfl, BW⟩
 have hmo_ : Hid (mindsB u (1 - vv) mm = false) := by unfold Hid; exact minds_one hmb.out
 have hwv : IntKind.i64.wrap (1 - vv) = 1 - vv := by rw [IntKind.wrap_i64]; omega
 obtain ⟨m0_0, m0_1, m0_2⟩ := id AU;obtain ⟨m1_0, m1_1, m1_2, m1_3, m1_4, m1_5, m1_6⟩ := id AW;go_wp2_with fail
 go_at_call 18
 clear m0_0 m0_1 m0_2 m1_0 m1_1 m1_2 m1_3 m1_4 m1_5 m1_6;refine (mindsI u (1 - vv) mm aw cw wd26 OW.view.2 (by omega)).mono ?_;rintro e wd30 ⟨rfl, kq⟩;have swd30 := kq.size;have AR := AR.below kq AR.lt;have RA := RA.below kq RA.lt;have AQ := AQ.below kq AQ.lt;have AD := AD.below kq AD.lt;have AU := AU.below kq AU.lt;have AM := AM.below kq AM.lt;have MA := MA.below kq MA.lt;have AP := AP.below kq AP.lt;have AW := AW.below kq AW.lt;have O := O.later kq;have OA := OA.later kq;have OP := OP.later kq;have OW := OW.later kq;have BW := BW.trans (kq.mono BW.size);clear kq;rw [hmo_.out];clear hwv hmo_;go_upto_region 17 with fail
 cases tb
 ·
  have e1 : r1 = r := by rw [← hr1.out]; unfold takeR; rw [htb.out]; rfl
  have e2 : m1 = m := by rw [← hm1.out]; unfold takeMm; rw [htb.out]; rfl
  rw [e1] at RA;rw [e2] at MA;clear hr1 hm1;subst e1;subst e2;obtain ⟨m0_0, m0_1, m0_2⟩ := id RA;obtain ⟨m1_0, m1_1, m1_2⟩ := id AR;obtain ⟨m2_0, m2_1, m2_2, m2_3, m2_4, m2_5, m2_6⟩ := id MA;obtain ⟨m3_0, m3_1, m3_2, m3_3, m3_4, m3_5, m3_6⟩ := id AM;go_wp2_with fail
  go_at_call 17
  clear m0_0 m0_1 m0_2 m1_0 m1_1 m1_2 m2_0 m2_1 m2_2 m2_3 m2_4 m2_5 m2_6 m3_0 m3_1 m3_2 m3_3 m3_4 m3_5 m3_6;refine (sameMi m1 aA a cA c wd30 OA.view.2 O.view.2 (by omega)).mono ?_;rintro e wd31 ⟨rfl, kq⟩;have swd31 := kq.size;have AR := AR.below kq AR.lt;have RA := RA.below kq RA.lt;have AQ := AQ.below kq AQ.lt;have AD := AD.below kq AD.lt;have AU := AU.below kq AU.lt;have AM := AM.below kq AM.lt;have MA := MA.below kq MA.lt;have AP := AP.below kq AP.lt;have AW := AW.below kq AW.lt;have O := O.later kq;have OA := OA.later kq;have OP := OP.later kq;have OW := OW.later kq;have BW := BW.trans (kq.mono BW.size);clear kq;go_wp2
  go_ret
  exact ⟨rfl, BW⟩
 have e1 : r1 = takeN r s := by rw [← hr1.out]; unfold takeR; rw [htb.out]; rfl
 have e2 : m1 = takeM r m := by rw [← hm1.out]; unfold takeMm; rw [htb.out]; rfl
 have hmn : Hid (mindsB r1 s ⟨m1.up, m1.li, m1.ep, m.lg, m1.sd, m1.ac, m1.al⟩ = true) := by unfold Hid; rw [e1, e2]; have h9 : mindsB (takeN r s) s (takeM r m) = true := take_minds htb.out; exact h9
 have hmo : Hid (mindsB r1 (1 - s) ⟨m1.up, m1.li, m1.ep, m.lg, m1.sd, m1.ac, m1.al⟩ = false) := by unfold Hid; exact minds_one hmn.out
 have hep : r1.ep = r.ep + 1 := by rw [e1]; rfl
 have hpa : (r1.pa == 0) = true := by rw [e1]; rfl
 have hwe : IntKind.i64.wrap (r.ep + 1) = r.ep + 1 := by rw [IntKind.wrap_i64]; omega
 have hee : (r1.ep == r.ep + 1) = true := by rw [hep]; simp
 have hws : IntKind.i64.wrap (1 - s) = 1 - s := by rw [IntKind.wrap_i64]; omega
 replace hep : True := trivial;clear e1 e2 hr1 hm1;obtain ⟨m0_0, m0_1, m0_2⟩ := id RA;obtain ⟨m1_0, m1_1, m1_2, m1_3, m1_4, m1_5, m1_6⟩ := id MA;go_wp2_with fail
 go_at_call 18
 clear m0_0 m0_1 m0_2 m1_0 m1_1 m1_2 m1_3 m1_4 m1_5 m1_6;refine (mindsI r1 s ⟨m1.up, m1.li, m1.ep, m.lg, m1.sd, m1.ac, m1.al⟩ aA cA wd30 OA.view.2 (by dsimp only; omega)).mono ?_;rintro e wd32 ⟨rfl, kq⟩;have swd32 := kq.size;have AR := AR.below kq AR.lt;have RA := RA.below kq RA.lt;have AQ := AQ.below kq AQ.lt;have AD := AD.below kq AD.lt;have AU := AU.below kq AU.lt;have AM := AM.below kq AM.lt;have MA := MA.below kq MA.lt;have AP := AP.below kq AP.lt;have AW := AW.below kq AW.lt;have O := O.later kq;have OA := OA.later kq;have OP := OP.later kq;have OW := OW.later kq;have BW := BW.trans (kq.mono BW.size);clear kq;rw [hmn.out];obtain ⟨m0_0, m0_1, m0_2⟩ := id RA;obtain ⟨m1_0, m1_1, m1_2⟩ := id AR;obtain ⟨m2_0, m2_1, m2_2, m2_3, m2_4, m2_5, m2_6⟩ := id MA;go_wp2_with fail
 go_at_call 18
 clear m0_0 m0_1 m0_2 m1_0 m1_1 m1_2 m2_0 m2_1 m2_2 m2_3 m2_4 m2_5 m2_6;refine (mindsI r1 (1 - s) ⟨m1.up, m1.li, m1.ep, m.lg, m1.sd, m1.ac, m1.al⟩ aA cA wd32 OA.view.2 (by dsimp only; omega)).mono ?_;rintro e wd33 ⟨rfl, kq⟩;have swd33 := kq.size;have AR := AR.below kq AR.lt;have RA := RA.below kq RA.lt;have AQ := AQ.below kq AQ.lt;have AD := AD.below kq AD.lt;have AU := AU.below kq AU.lt;have AM := AM.below kq AM.lt;have MA := MA.below kq MA.lt;have AP := AP.below kq AP.lt;have AW := AW.below kq AW.lt;have O := O.later kq;have OA := OA.later kq;have OP := OP.later kq;have OW := OW.later kq;have BW := BW.trans (kq.mono BW.size);clear kq;rw [hmo.out];go_wp2
 go_ret
 exact ⟨rfl, BW⟩
set_option maxRecDepth 100000 in
theorem lifted (os : Os) (started : os.Started) (H : Type) (enc : TypeId × Value → H) :
  ReturnsInHanded {} Tryz.checked os 3 .any (Rows.fnRegsSpec.pre6 enc Tryz.prog Tryz.f3 Rows.fnRegsRow.domain false) (Rows.fnRegsSpec.post enc Tryz.prog Tryz.f3 false true false false) := by
 refine returnsInHanded_of_change (C := Tryz.checked) own started (by kernel_rfl) Tryz.func3
  (ChangeSpec.witness6 (enc := enc) (C := Tryz.checked) false ⟨#[], #[.slice none 0 0], []⟩ 8 (by kernel_rfl) (by kernel_rfl) (by kernel_rfl) (by kernel_rfl)) ?_
 intro W base args ds gs before hval0 hW hcnd _;have hval : ∀ (j : Nat) t v, Tryz.f3.params[j]? = some t → args[j]? = some v → Value.okWide Tryz.prog W .any base t v := hval0;have hW' := hW;obtain ⟨p, q, hA0, hV, rfl, hfz, hnd⟩ := hW;have hA : DataW.TrodAll enc Tryz.prog W 0 (fun _ => true) true Tryz.f3.params.toList args.toList ds p := hA0;rw [Tryz.params3] at hA hval;obtain ⟨v0, vs0, d0, ds0, p0, q0, hargs, rfl, rfl, h0, r0⟩ := trodAll_cons hA;obtain ⟨rfl, rfl, rfl⟩ := trodAll_nil r0;obtain rfl : args = #[v0] := by cases args; simp_all
 obtain ⟨rfl, rfl⟩ := trodVars_none hV;obtain ⟨ad0, len0, cap0, f0, rfl, I0⟩ := codeIn_open (hval 0 22 v0 rfl rfl) h0;have lt0 : ∀ x ∈ p0, x.block < W.heap.size := by obtain ⟨m, hm⟩ := h0; exact DataW.trod_lt m _ _ _ hm
 clear hA0 hval0;refine (walk ad0 len0 cap0 f0 W I0).mono fun e W' ⟨he, bel⟩ => ?_
 subst he;exact ⟨_, rfl, _, _, _, [], _, [], hW', trodAll_mk1 (shut_bool Tryz.underlying4 _), (trodAll_cons_mk (Below.trod laidOut (by kernel_rfl) (of_decide_eq_true (by kernel_rfl)) h0 bel lt0) trodAll_mk0), rfl, bel.frame _, fun h => by cases h⟩
theorem over : Rows.fnRegsRow.holds Tryz.pinned (OpenSpec.ofChange Rows.fnRegsSpec) :=
 OpenClaim.holds_of_wide 3 Tryz.f3 rfl rfl rfl rfl rfl rfl rfl ⟨rfl, rfl, rfl, rfl, rfl⟩ rfl rfl rfl rfl rfl (by kernel_rfl) Tryz.func3 (by kernel_rfl)
  (of_decide_eq_true (by kernel_rfl)) (by unfold Func.isWrapper; first | (rw [if_pos (by decide +kernel)]; kernel_rfl) | (rw [if_neg (by decide +kernel)]; exact ⟨rfl, rfl⟩))
  (fun os started H enc _ => lifted os started H enc)
theorem proved : Rows.FnRegsSaid := over
end Go.Proofs.YtnpiljegdiconaaGreat.fnRegs
namespace Go.Proofs.YtnpiljegdiconaaGreat
theorem regs_holds : Rows.FnRegsSaid := fnRegs.proved
#print axioms regs_holds
end Go.Proofs.YtnpiljegdiconaaGreat
