/- Both PortText. -/
import Derived.Test.YtjholgpjicliaaaDoorRows
import Derived.WalkKit
import Derived.ProofKit
import Derived.OpenShut
import Derived.ShutString
import Derived.ChangeOld
import Derived.Below
import Derived.Deep.QuietTactic
import Derived.BigQuiet
import Derived.WalkSmall
import Derived.Laws.OwnMore
import Derived.WalkSpells
import Derived.WalkLawsBesides
import Derived.Deep.Cut
import Derived.Maps.AppendAt
import Derived.Test.YtjholgpjicliaaaDoorSh1
import Derived.Test.YtjholgpjicliaaaDoorSh2
namespace Go.Proofs.YtjholgpjicliaaaDoor
open Go.ChangeShapes Go.WideShapes Go.ChangeAt Go.RowKit
open Go.ChangeMaps (open_string shut_string)
set_option linter.unusedVariables false
set_option maxRecDepth 100000

set_option maxHeartbeats 4000000 in
theorem ptTI (x : Pt) (w : World) (hw : PtWf x) (htab : TabOk w) : Calls Tryd.prog 15 #[.agg #[.bool x.up, .bool x.has, .int .i64 x.r, .int .i64 x.c, .int .i64 x.b, .int .i64 x.p, .int .i64 x.h, .int .i64 x.l, .int .i64 x.ro, .int .i64 x.wa, .bool x.op]] w fun e w' => e = .returned (.string (ptT x)) ∧ Below w.heap.size w w' := by
  obtain ⟨y, hy⟩ : ∃ y, y = w.alloc (Obj.cells #[.bool x.up, .bool x.has, .int .i64 x.r, .int .i64 x.c, .int .i64 x.b, .int .i64 x.p, .int .i64 x.h, .int .i64 x.l, .int .i64 x.ro, .int .i64 x.wa, .bool x.op] 43) := ⟨_, rfl⟩
  have A0 : PtAt y w.heap.size x := by rw [hy]; exact ptAt_box w _ x
  have B0 : Below w.heap.size w y := by rw [hy]; exact (Below.refl _ _).alloc (Nat.le_refl _) _
  go_enter Tryd.func15, Tryd.ntmps15
  go_upto_region 1 with fail
  rw [← hy]
  clear hy
  obtain ⟨c0, c1, c2, c3, c4, c5, c6, c7, c8, c9, c10⟩ := A0
  go_wp2_with fail
  go_at_call 29
  refine (partsI x y hw (tab_later htab B0)).mono ?_
  rintro e w1 ⟨g, rfl, O1, k1⟩
  have B1 := B0.trans (k1.mono B0.size)
  go_wp2_with fail
  go_at_call 28
  refine (shownI (some ⟨g, 0, none⟩) 4 (ptP x) w1 O1.view.2 (ptP_wf x hw) (by show 4 ≤ 6000000; decide) (tab_later htab B1)).mono ?_
  rintro e w2 ⟨rfl, k2⟩
  rw [shT_port]
  go_wp2
  go_ret
  exact ⟨rfl, B1.trans (k2.mono B1.size)⟩
set_option maxHeartbeats 16000000 in
theorem ptTS (x : Pt) (w : World) (hw : PtWf x) : Calls Tryd.prog 13 #[.agg #[.bool x.up, .bool x.has, .int .i64 x.r, .int .i64 x.c, .int .i64 x.b, .int .i64 x.p, .int .i64 x.h, .int .i64 x.l, .int .i64 x.ro, .int .i64 x.wa, .bool x.op]] w fun e w' => e = .returned (.string (ptT x)) ∧ Below w.heap.size w w' := by
  obtain ⟨y, hy⟩ : ∃ y, y = w.alloc (Obj.cells #[.bool x.up, .bool x.has, .int .i64 x.r, .int .i64 x.c, .int .i64 x.b, .int .i64 x.p, .int .i64 x.h, .int .i64 x.l, .int .i64 x.ro, .int .i64 x.wa, .bool x.op] 43) := ⟨_, rfl⟩
  have A0 : PtAt y w.heap.size x := by rw [hy]; exact ptAt_box w _ x
  have B0 : Below w.heap.size w y := by rw [hy]; exact (Below.refl _ _).alloc (Nat.le_refl _) _
  have S0 := A0.lt
  obtain ⟨T, hT⟩ : ∃ T, ptT x = T := ⟨_, rfl⟩
  rw [hT]
  replace hT : Hid _ := hT
  go_enter Tryd.func13, Tryd.ntmps13
  go_upto_region 1 with fail
  rw [← hy]
  clear hy
  obtain ⟨up, has, r, c, b, p, h, l, ro, wa, op⟩ := x
  obtain ⟨hr, hc, hb, hp, hwa⟩ := hw
  dsimp only at hr hc hb hp hwa A0 ⊢
  have z0 := dig_size hwa.1 hwa.2
  have zV : (vText r c b p).size ≤ 87 := vText_size hr hc hb hp
  generalize hV : vText r c b p = V at zV
  replace hV : Hid _ := hV
  by_cases n0 : ro = 0
  · subst n0
    cases op
    · cases has
      · have e : Hid (ptT ⟨up, false, r, c, b, p, h, l, 0, wa, false⟩ = ⟨#[111, 102, 102]⟩ ++ ⟨#[32, 115, 104, 117, 116, 32]⟩ ++ dig wa ++ ⟨#[32]⟩ ++ ⟨#[45]⟩) := by
          unfold Hid
          apply ByteArray.ext
          simp [ptT, roT, opT, clT, ByteArray.data_append]
        have q1 : ¬ 9223372036854775807 < 9 + (dig wa).size := by omega
        have q2 : ¬ 9223372036854775807 < 9 + (dig wa).size + 1 := by omega
        have q3 : ¬ 9223372036854775807 < 9 + (dig wa).size + 1 + 1 := by omega
        have A1 := A0
        obtain ⟨c0, c1, c2, c3, c4, c5, c6, c7, c8, c9, c10⟩ := A1
        dsimp only at c0 c1 c2 c3 c4 c5 c6 c7 c8 c9 c10
        go_wp2_with fail
        go_at_call 26
        refine (inYes 0 0 3 y ⟨by decide, by decide⟩).mono ?_
        rintro e y1 ⟨rfl, hy1⟩
        rw [hy1]
        clear hy1 y1
        go_wp2_with fail
        go_at_call 22
        obtain ⟨y2, hy2⟩ : ∃ z, z = y.alloc (Obj.cells #[.string ⟨#[111, 102, 102]⟩, .string ⟨#[114, 111, 111, 116]⟩, .string ⟨#[100, 101, 115]⟩, .string ⟨#[97, 108, 116]⟩] 9) := ⟨_, rfl⟩
        have j2 : Below y.heap.size y y2 := by rw [hy2]; exact (Below.refl _ _).alloc (Nat.le_refl _) _
        rw [← hy2]
        clear hy2
        have B2 := (B0.trans (j2.mono B0.size))
        have A2 := (A0.below j2 S0)
        have S2 := A2.lt
        clear c0 c1 c2 c3 c4 c5 c6 c7 c8 c9 c10 A0 B0
        refine (digitsSpec wa y2 hwa.1 hwa.2).mono ?_
        rintro e y3 ⟨rfl, k3⟩
        rw [show (⟨(Lib.itoa wa).toArray⟩ : ByteArray) = dig wa from rfl]
        have B3 := B2.trans (k3.mono B2.size)
        have A3 := A2.below k3 S2
        obtain ⟨c0, c1, c2, c3, c4, c5, c6, c7, c8, c9, c10⟩ := A3
        dsimp only at c0 c1 c2 c3 c4 c5 c6 c7 c8 c9 c10
        go_wp2
        go_ret
        exact ⟨(show Ending.returned (Value.string (⟨#[111, 102, 102]⟩ ++ ⟨#[32, 115, 104, 117, 116, 32]⟩ ++ dig wa ++ ⟨#[32]⟩ ++ ⟨#[45]⟩)) = .returned (.string T) by rw [← hT.out, e.out]), B3⟩
      · have e : Hid (ptT ⟨up, true, r, c, b, p, h, l, 0, wa, false⟩ = ⟨#[111, 102, 102]⟩ ++ ⟨#[32, 115, 104, 117, 116, 32]⟩ ++ dig wa ++ ⟨#[32]⟩ ++ V) := by
          unfold Hid
          rw [← hV.out]
          apply ByteArray.ext
          simp [ptT, roT, opT, clT, ByteArray.data_append]
        have q1 : ¬ 9223372036854775807 < 9 + (dig wa).size := by omega
        have q2 : ¬ 9223372036854775807 < 9 + (dig wa).size + 1 := by omega
        have q3 : ¬ 9223372036854775807 < 9 + (dig wa).size + 1 + V.size := by omega
        have A1 := A0
        obtain ⟨c0, c1, c2, c3, c4, c5, c6, c7, c8, c9, c10⟩ := A1
        dsimp only at c0 c1 c2 c3 c4 c5 c6 c7 c8 c9 c10
        go_wp2_with fail
        go_at_call 26
        refine (inYes 0 0 3 y ⟨by decide, by decide⟩).mono ?_
        rintro e y1 ⟨rfl, hy1⟩
        rw [hy1]
        clear hy1 y1
        go_wp2_with fail
        go_at_call 22
        obtain ⟨y2, hy2⟩ : ∃ z, z = y.alloc (Obj.cells #[.string ⟨#[111, 102, 102]⟩, .string ⟨#[114, 111, 111, 116]⟩, .string ⟨#[100, 101, 115]⟩, .string ⟨#[97, 108, 116]⟩] 9) := ⟨_, rfl⟩
        have j2 : Below y.heap.size y y2 := by rw [hy2]; exact (Below.refl _ _).alloc (Nat.le_refl _) _
        rw [← hy2]
        clear hy2
        have B2 := (B0.trans (j2.mono B0.size))
        have A2 := (A0.below j2 S0)
        have S2 := A2.lt
        clear c0 c1 c2 c3 c4 c5 c6 c7 c8 c9 c10 A0 B0
        refine (digitsSpec wa y2 hwa.1 hwa.2).mono ?_
        rintro e y3 ⟨rfl, k3⟩
        rw [show (⟨(Lib.itoa wa).toArray⟩ : ByteArray) = dig wa from rfl]
        have B3 := B2.trans (k3.mono B2.size)
        have A3 := A2.below k3 S2
        obtain ⟨c0, c1, c2, c3, c4, c5, c6, c7, c8, c9, c10⟩ := A3
        dsimp only at c0 c1 c2 c3 c4 c5 c6 c7 c8 c9 c10
        go_wp2_with fail
        go_at_call 27
        refine (textS r c b p y3 hr hc hb hp).mono ?_
        rintro e y4 ⟨rfl, k4⟩
        rw [hV.out]
        go_wp2
        go_ret
        exact ⟨(show Ending.returned (Value.string (⟨#[111, 102, 102]⟩ ++ ⟨#[32, 115, 104, 117, 116, 32]⟩ ++ dig wa ++ ⟨#[32]⟩ ++ V)) = .returned (.string T) by rw [← hT.out, e.out]), B3.trans (k4.mono B3.size)⟩
    · cases has
      · have e : Hid (ptT ⟨up, false, r, c, b, p, h, l, 0, wa, true⟩ = ⟨#[111, 102, 102]⟩ ++ ⟨#[32, 111, 112, 101, 110, 32]⟩ ++ dig wa ++ ⟨#[32]⟩ ++ ⟨#[45]⟩) := by
          unfold Hid
          apply ByteArray.ext
          simp [ptT, roT, opT, clT, ByteArray.data_append]
        have q1 : ¬ 9223372036854775807 < 9 + (dig wa).size := by omega
        have q2 : ¬ 9223372036854775807 < 9 + (dig wa).size + 1 := by omega
        have q3 : ¬ 9223372036854775807 < 9 + (dig wa).size + 1 + 1 := by omega
        have A1 := A0
        obtain ⟨c0, c1, c2, c3, c4, c5, c6, c7, c8, c9, c10⟩ := A1
        dsimp only at c0 c1 c2 c3 c4 c5 c6 c7 c8 c9 c10
        go_wp2_with fail
        go_at_call 26
        refine (inYes 0 0 3 y ⟨by decide, by decide⟩).mono ?_
        rintro e y1 ⟨rfl, hy1⟩
        rw [hy1]
        clear hy1 y1
        go_wp2_with fail
        go_at_call 22
        obtain ⟨y2, hy2⟩ : ∃ z, z = y.alloc (Obj.cells #[.string ⟨#[111, 102, 102]⟩, .string ⟨#[114, 111, 111, 116]⟩, .string ⟨#[100, 101, 115]⟩, .string ⟨#[97, 108, 116]⟩] 9) := ⟨_, rfl⟩
        have j2 : Below y.heap.size y y2 := by rw [hy2]; exact (Below.refl _ _).alloc (Nat.le_refl _) _
        rw [← hy2]
        clear hy2
        have B2 := (B0.trans (j2.mono B0.size))
        have A2 := (A0.below j2 S0)
        have S2 := A2.lt
        clear c0 c1 c2 c3 c4 c5 c6 c7 c8 c9 c10 A0 B0
        refine (digitsSpec wa y2 hwa.1 hwa.2).mono ?_
        rintro e y3 ⟨rfl, k3⟩
        rw [show (⟨(Lib.itoa wa).toArray⟩ : ByteArray) = dig wa from rfl]
        have B3 := B2.trans (k3.mono B2.size)
        have A3 := A2.below k3 S2
        obtain ⟨c0, c1, c2, c3, c4, c5, c6, c7, c8, c9, c10⟩ := A3
        dsimp only at c0 c1 c2 c3 c4 c5 c6 c7 c8 c9 c10
        go_wp2
        go_ret
        exact ⟨(show Ending.returned (Value.string (⟨#[111, 102, 102]⟩ ++ ⟨#[32, 111, 112, 101, 110, 32]⟩ ++ dig wa ++ ⟨#[32]⟩ ++ ⟨#[45]⟩)) = .returned (.string T) by rw [← hT.out, e.out]), B3⟩
      · have e : Hid (ptT ⟨up, true, r, c, b, p, h, l, 0, wa, true⟩ = ⟨#[111, 102, 102]⟩ ++ ⟨#[32, 111, 112, 101, 110, 32]⟩ ++ dig wa ++ ⟨#[32]⟩ ++ V) := by
          unfold Hid
          rw [← hV.out]
          apply ByteArray.ext
          simp [ptT, roT, opT, clT, ByteArray.data_append]
        have q1 : ¬ 9223372036854775807 < 9 + (dig wa).size := by omega
        have q2 : ¬ 9223372036854775807 < 9 + (dig wa).size + 1 := by omega
        have q3 : ¬ 9223372036854775807 < 9 + (dig wa).size + 1 + V.size := by omega
        have A1 := A0
        obtain ⟨c0, c1, c2, c3, c4, c5, c6, c7, c8, c9, c10⟩ := A1
        dsimp only at c0 c1 c2 c3 c4 c5 c6 c7 c8 c9 c10
        go_wp2_with fail
        go_at_call 26
        refine (inYes 0 0 3 y ⟨by decide, by decide⟩).mono ?_
        rintro e y1 ⟨rfl, hy1⟩
        rw [hy1]
        clear hy1 y1
        go_wp2_with fail
        go_at_call 22
        obtain ⟨y2, hy2⟩ : ∃ z, z = y.alloc (Obj.cells #[.string ⟨#[111, 102, 102]⟩, .string ⟨#[114, 111, 111, 116]⟩, .string ⟨#[100, 101, 115]⟩, .string ⟨#[97, 108, 116]⟩] 9) := ⟨_, rfl⟩
        have j2 : Below y.heap.size y y2 := by rw [hy2]; exact (Below.refl _ _).alloc (Nat.le_refl _) _
        rw [← hy2]
        clear hy2
        have B2 := (B0.trans (j2.mono B0.size))
        have A2 := (A0.below j2 S0)
        have S2 := A2.lt
        clear c0 c1 c2 c3 c4 c5 c6 c7 c8 c9 c10 A0 B0
        refine (digitsSpec wa y2 hwa.1 hwa.2).mono ?_
        rintro e y3 ⟨rfl, k3⟩
        rw [show (⟨(Lib.itoa wa).toArray⟩ : ByteArray) = dig wa from rfl]
        have B3 := B2.trans (k3.mono B2.size)
        have A3 := A2.below k3 S2
        obtain ⟨c0, c1, c2, c3, c4, c5, c6, c7, c8, c9, c10⟩ := A3
        dsimp only at c0 c1 c2 c3 c4 c5 c6 c7 c8 c9 c10
        go_wp2_with fail
        go_at_call 27
        refine (textS r c b p y3 hr hc hb hp).mono ?_
        rintro e y4 ⟨rfl, k4⟩
        rw [hV.out]
        go_wp2
        go_ret
        exact ⟨(show Ending.returned (Value.string (⟨#[111, 102, 102]⟩ ++ ⟨#[32, 111, 112, 101, 110, 32]⟩ ++ dig wa ++ ⟨#[32]⟩ ++ V)) = .returned (.string T) by rw [← hT.out, e.out]), B3.trans (k4.mono B3.size)⟩
  by_cases n1 : ro = 1
  · subst n1
    cases op
    · cases has
      · have e : Hid (ptT ⟨up, false, r, c, b, p, h, l, 1, wa, false⟩ = ⟨#[114, 111, 111, 116]⟩ ++ ⟨#[32, 115, 104, 117, 116, 32]⟩ ++ dig wa ++ ⟨#[32]⟩ ++ ⟨#[45]⟩) := by
          unfold Hid
          apply ByteArray.ext
          simp [ptT, roT, opT, clT, ByteArray.data_append]
        have q1 : ¬ 9223372036854775807 < 10 + (dig wa).size := by omega
        have q2 : ¬ 9223372036854775807 < 10 + (dig wa).size + 1 := by omega
        have q3 : ¬ 9223372036854775807 < 10 + (dig wa).size + 1 + 1 := by omega
        have A1 := A0
        obtain ⟨c0, c1, c2, c3, c4, c5, c6, c7, c8, c9, c10⟩ := A1
        dsimp only at c0 c1 c2 c3 c4 c5 c6 c7 c8 c9 c10
        go_wp2_with fail
        go_at_call 26
        refine (inYes 1 0 3 y ⟨by decide, by decide⟩).mono ?_
        rintro e y1 ⟨rfl, hy1⟩
        rw [hy1]
        clear hy1 y1
        go_wp2_with fail
        go_at_call 22
        obtain ⟨y2, hy2⟩ : ∃ z, z = y.alloc (Obj.cells #[.string ⟨#[111, 102, 102]⟩, .string ⟨#[114, 111, 111, 116]⟩, .string ⟨#[100, 101, 115]⟩, .string ⟨#[97, 108, 116]⟩] 9) := ⟨_, rfl⟩
        have j2 : Below y.heap.size y y2 := by rw [hy2]; exact (Below.refl _ _).alloc (Nat.le_refl _) _
        rw [← hy2]
        clear hy2
        have B2 := (B0.trans (j2.mono B0.size))
        have A2 := (A0.below j2 S0)
        have S2 := A2.lt
        clear c0 c1 c2 c3 c4 c5 c6 c7 c8 c9 c10 A0 B0
        refine (digitsSpec wa y2 hwa.1 hwa.2).mono ?_
        rintro e y3 ⟨rfl, k3⟩
        rw [show (⟨(Lib.itoa wa).toArray⟩ : ByteArray) = dig wa from rfl]
        have B3 := B2.trans (k3.mono B2.size)
        have A3 := A2.below k3 S2
        obtain ⟨c0, c1, c2, c3, c4, c5, c6, c7, c8, c9, c10⟩ := A3
        dsimp only at c0 c1 c2 c3 c4 c5 c6 c7 c8 c9 c10
        go_wp2
        go_ret
        exact ⟨(show Ending.returned (Value.string (⟨#[114, 111, 111, 116]⟩ ++ ⟨#[32, 115, 104, 117, 116, 32]⟩ ++ dig wa ++ ⟨#[32]⟩ ++ ⟨#[45]⟩)) = .returned (.string T) by rw [← hT.out, e.out]), B3⟩
      · have e : Hid (ptT ⟨up, true, r, c, b, p, h, l, 1, wa, false⟩ = ⟨#[114, 111, 111, 116]⟩ ++ ⟨#[32, 115, 104, 117, 116, 32]⟩ ++ dig wa ++ ⟨#[32]⟩ ++ V) := by
          unfold Hid
          rw [← hV.out]
          apply ByteArray.ext
          simp [ptT, roT, opT, clT, ByteArray.data_append]
        have q1 : ¬ 9223372036854775807 < 10 + (dig wa).size := by omega
        have q2 : ¬ 9223372036854775807 < 10 + (dig wa).size + 1 := by omega
        have q3 : ¬ 9223372036854775807 < 10 + (dig wa).size + 1 + V.size := by omega
        have A1 := A0
        obtain ⟨c0, c1, c2, c3, c4, c5, c6, c7, c8, c9, c10⟩ := A1
        dsimp only at c0 c1 c2 c3 c4 c5 c6 c7 c8 c9 c10
        go_wp2_with fail
        go_at_call 26
        refine (inYes 1 0 3 y ⟨by decide, by decide⟩).mono ?_
        rintro e y1 ⟨rfl, hy1⟩
        rw [hy1]
        clear hy1 y1
        go_wp2_with fail
        go_at_call 22
        obtain ⟨y2, hy2⟩ : ∃ z, z = y.alloc (Obj.cells #[.string ⟨#[111, 102, 102]⟩, .string ⟨#[114, 111, 111, 116]⟩, .string ⟨#[100, 101, 115]⟩, .string ⟨#[97, 108, 116]⟩] 9) := ⟨_, rfl⟩
        have j2 : Below y.heap.size y y2 := by rw [hy2]; exact (Below.refl _ _).alloc (Nat.le_refl _) _
        rw [← hy2]
        clear hy2
        have B2 := (B0.trans (j2.mono B0.size))
        have A2 := (A0.below j2 S0)
        have S2 := A2.lt
        clear c0 c1 c2 c3 c4 c5 c6 c7 c8 c9 c10 A0 B0
        refine (digitsSpec wa y2 hwa.1 hwa.2).mono ?_
        rintro e y3 ⟨rfl, k3⟩
        rw [show (⟨(Lib.itoa wa).toArray⟩ : ByteArray) = dig wa from rfl]
        have B3 := B2.trans (k3.mono B2.size)
        have A3 := A2.below k3 S2
        obtain ⟨c0, c1, c2, c3, c4, c5, c6, c7, c8, c9, c10⟩ := A3
        dsimp only at c0 c1 c2 c3 c4 c5 c6 c7 c8 c9 c10
        go_wp2_with fail
        go_at_call 27
        refine (textS r c b p y3 hr hc hb hp).mono ?_
        rintro e y4 ⟨rfl, k4⟩
        rw [hV.out]
        go_wp2
        go_ret
        exact ⟨(show Ending.returned (Value.string (⟨#[114, 111, 111, 116]⟩ ++ ⟨#[32, 115, 104, 117, 116, 32]⟩ ++ dig wa ++ ⟨#[32]⟩ ++ V)) = .returned (.string T) by rw [← hT.out, e.out]), B3.trans (k4.mono B3.size)⟩
    · cases has
      · have e : Hid (ptT ⟨up, false, r, c, b, p, h, l, 1, wa, true⟩ = ⟨#[114, 111, 111, 116]⟩ ++ ⟨#[32, 111, 112, 101, 110, 32]⟩ ++ dig wa ++ ⟨#[32]⟩ ++ ⟨#[45]⟩) := by
          unfold Hid
          apply ByteArray.ext
          simp [ptT, roT, opT, clT, ByteArray.data_append]
        have q1 : ¬ 9223372036854775807 < 10 + (dig wa).size := by omega
        have q2 : ¬ 9223372036854775807 < 10 + (dig wa).size + 1 := by omega
        have q3 : ¬ 9223372036854775807 < 10 + (dig wa).size + 1 + 1 := by omega
        have A1 := A0
        obtain ⟨c0, c1, c2, c3, c4, c5, c6, c7, c8, c9, c10⟩ := A1
        dsimp only at c0 c1 c2 c3 c4 c5 c6 c7 c8 c9 c10
        go_wp2_with fail
        go_at_call 26
        refine (inYes 1 0 3 y ⟨by decide, by decide⟩).mono ?_
        rintro e y1 ⟨rfl, hy1⟩
        rw [hy1]
        clear hy1 y1
        go_wp2_with fail
        go_at_call 22
        obtain ⟨y2, hy2⟩ : ∃ z, z = y.alloc (Obj.cells #[.string ⟨#[111, 102, 102]⟩, .string ⟨#[114, 111, 111, 116]⟩, .string ⟨#[100, 101, 115]⟩, .string ⟨#[97, 108, 116]⟩] 9) := ⟨_, rfl⟩
        have j2 : Below y.heap.size y y2 := by rw [hy2]; exact (Below.refl _ _).alloc (Nat.le_refl _) _
        rw [← hy2]
        clear hy2
        have B2 := (B0.trans (j2.mono B0.size))
        have A2 := (A0.below j2 S0)
        have S2 := A2.lt
        clear c0 c1 c2 c3 c4 c5 c6 c7 c8 c9 c10 A0 B0
        refine (digitsSpec wa y2 hwa.1 hwa.2).mono ?_
        rintro e y3 ⟨rfl, k3⟩
        rw [show (⟨(Lib.itoa wa).toArray⟩ : ByteArray) = dig wa from rfl]
        have B3 := B2.trans (k3.mono B2.size)
        have A3 := A2.below k3 S2
        obtain ⟨c0, c1, c2, c3, c4, c5, c6, c7, c8, c9, c10⟩ := A3
        dsimp only at c0 c1 c2 c3 c4 c5 c6 c7 c8 c9 c10
        go_wp2
        go_ret
        exact ⟨(show Ending.returned (Value.string (⟨#[114, 111, 111, 116]⟩ ++ ⟨#[32, 111, 112, 101, 110, 32]⟩ ++ dig wa ++ ⟨#[32]⟩ ++ ⟨#[45]⟩)) = .returned (.string T) by rw [← hT.out, e.out]), B3⟩
      · have e : Hid (ptT ⟨up, true, r, c, b, p, h, l, 1, wa, true⟩ = ⟨#[114, 111, 111, 116]⟩ ++ ⟨#[32, 111, 112, 101, 110, 32]⟩ ++ dig wa ++ ⟨#[32]⟩ ++ V) := by
          unfold Hid
          rw [← hV.out]
          apply ByteArray.ext
          simp [ptT, roT, opT, clT, ByteArray.data_append]
        have q1 : ¬ 9223372036854775807 < 10 + (dig wa).size := by omega
        have q2 : ¬ 9223372036854775807 < 10 + (dig wa).size + 1 := by omega
        have q3 : ¬ 9223372036854775807 < 10 + (dig wa).size + 1 + V.size := by omega
        have A1 := A0
        obtain ⟨c0, c1, c2, c3, c4, c5, c6, c7, c8, c9, c10⟩ := A1
        dsimp only at c0 c1 c2 c3 c4 c5 c6 c7 c8 c9 c10
        go_wp2_with fail
        go_at_call 26
        refine (inYes 1 0 3 y ⟨by decide, by decide⟩).mono ?_
        rintro e y1 ⟨rfl, hy1⟩
        rw [hy1]
        clear hy1 y1
        go_wp2_with fail
        go_at_call 22
        obtain ⟨y2, hy2⟩ : ∃ z, z = y.alloc (Obj.cells #[.string ⟨#[111, 102, 102]⟩, .string ⟨#[114, 111, 111, 116]⟩, .string ⟨#[100, 101, 115]⟩, .string ⟨#[97, 108, 116]⟩] 9) := ⟨_, rfl⟩
        have j2 : Below y.heap.size y y2 := by rw [hy2]; exact (Below.refl _ _).alloc (Nat.le_refl _) _
        rw [← hy2]
        clear hy2
        have B2 := (B0.trans (j2.mono B0.size))
        have A2 := (A0.below j2 S0)
        have S2 := A2.lt
        clear c0 c1 c2 c3 c4 c5 c6 c7 c8 c9 c10 A0 B0
        refine (digitsSpec wa y2 hwa.1 hwa.2).mono ?_
        rintro e y3 ⟨rfl, k3⟩
        rw [show (⟨(Lib.itoa wa).toArray⟩ : ByteArray) = dig wa from rfl]
        have B3 := B2.trans (k3.mono B2.size)
        have A3 := A2.below k3 S2
        obtain ⟨c0, c1, c2, c3, c4, c5, c6, c7, c8, c9, c10⟩ := A3
        dsimp only at c0 c1 c2 c3 c4 c5 c6 c7 c8 c9 c10
        go_wp2_with fail
        go_at_call 27
        refine (textS r c b p y3 hr hc hb hp).mono ?_
        rintro e y4 ⟨rfl, k4⟩
        rw [hV.out]
        go_wp2
        go_ret
        exact ⟨(show Ending.returned (Value.string (⟨#[114, 111, 111, 116]⟩ ++ ⟨#[32, 111, 112, 101, 110, 32]⟩ ++ dig wa ++ ⟨#[32]⟩ ++ V)) = .returned (.string T) by rw [← hT.out, e.out]), B3.trans (k4.mono B3.size)⟩
  by_cases n2 : ro = 2
  · subst n2
    cases op
    · cases has
      · have e : Hid (ptT ⟨up, false, r, c, b, p, h, l, 2, wa, false⟩ = ⟨#[100, 101, 115]⟩ ++ ⟨#[32, 115, 104, 117, 116, 32]⟩ ++ dig wa ++ ⟨#[32]⟩ ++ ⟨#[45]⟩) := by
          unfold Hid
          apply ByteArray.ext
          simp [ptT, roT, opT, clT, ByteArray.data_append]
        have q1 : ¬ 9223372036854775807 < 9 + (dig wa).size := by omega
        have q2 : ¬ 9223372036854775807 < 9 + (dig wa).size + 1 := by omega
        have q3 : ¬ 9223372036854775807 < 9 + (dig wa).size + 1 + 1 := by omega
        have A1 := A0
        obtain ⟨c0, c1, c2, c3, c4, c5, c6, c7, c8, c9, c10⟩ := A1
        dsimp only at c0 c1 c2 c3 c4 c5 c6 c7 c8 c9 c10
        go_wp2_with fail
        go_at_call 26
        refine (inYes 2 0 3 y ⟨by decide, by decide⟩).mono ?_
        rintro e y1 ⟨rfl, hy1⟩
        rw [hy1]
        clear hy1 y1
        go_wp2_with fail
        go_at_call 22
        obtain ⟨y2, hy2⟩ : ∃ z, z = y.alloc (Obj.cells #[.string ⟨#[111, 102, 102]⟩, .string ⟨#[114, 111, 111, 116]⟩, .string ⟨#[100, 101, 115]⟩, .string ⟨#[97, 108, 116]⟩] 9) := ⟨_, rfl⟩
        have j2 : Below y.heap.size y y2 := by rw [hy2]; exact (Below.refl _ _).alloc (Nat.le_refl _) _
        rw [← hy2]
        clear hy2
        have B2 := (B0.trans (j2.mono B0.size))
        have A2 := (A0.below j2 S0)
        have S2 := A2.lt
        clear c0 c1 c2 c3 c4 c5 c6 c7 c8 c9 c10 A0 B0
        refine (digitsSpec wa y2 hwa.1 hwa.2).mono ?_
        rintro e y3 ⟨rfl, k3⟩
        rw [show (⟨(Lib.itoa wa).toArray⟩ : ByteArray) = dig wa from rfl]
        have B3 := B2.trans (k3.mono B2.size)
        have A3 := A2.below k3 S2
        obtain ⟨c0, c1, c2, c3, c4, c5, c6, c7, c8, c9, c10⟩ := A3
        dsimp only at c0 c1 c2 c3 c4 c5 c6 c7 c8 c9 c10
        go_wp2
        go_ret
        exact ⟨(show Ending.returned (Value.string (⟨#[100, 101, 115]⟩ ++ ⟨#[32, 115, 104, 117, 116, 32]⟩ ++ dig wa ++ ⟨#[32]⟩ ++ ⟨#[45]⟩)) = .returned (.string T) by rw [← hT.out, e.out]), B3⟩
      · have e : Hid (ptT ⟨up, true, r, c, b, p, h, l, 2, wa, false⟩ = ⟨#[100, 101, 115]⟩ ++ ⟨#[32, 115, 104, 117, 116, 32]⟩ ++ dig wa ++ ⟨#[32]⟩ ++ V) := by
          unfold Hid
          rw [← hV.out]
          apply ByteArray.ext
          simp [ptT, roT, opT, clT, ByteArray.data_append]
        have q1 : ¬ 9223372036854775807 < 9 + (dig wa).size := by omega
        have q2 : ¬ 9223372036854775807 < 9 + (dig wa).size + 1 := by omega
        have q3 : ¬ 9223372036854775807 < 9 + (dig wa).size + 1 + V.size := by omega
        have A1 := A0
        obtain ⟨c0, c1, c2, c3, c4, c5, c6, c7, c8, c9, c10⟩ := A1
        dsimp only at c0 c1 c2 c3 c4 c5 c6 c7 c8 c9 c10
        go_wp2_with fail
        go_at_call 26
        refine (inYes 2 0 3 y ⟨by decide, by decide⟩).mono ?_
        rintro e y1 ⟨rfl, hy1⟩
        rw [hy1]
        clear hy1 y1
        go_wp2_with fail
        go_at_call 22
        obtain ⟨y2, hy2⟩ : ∃ z, z = y.alloc (Obj.cells #[.string ⟨#[111, 102, 102]⟩, .string ⟨#[114, 111, 111, 116]⟩, .string ⟨#[100, 101, 115]⟩, .string ⟨#[97, 108, 116]⟩] 9) := ⟨_, rfl⟩
        have j2 : Below y.heap.size y y2 := by rw [hy2]; exact (Below.refl _ _).alloc (Nat.le_refl _) _
        rw [← hy2]
        clear hy2
        have B2 := (B0.trans (j2.mono B0.size))
        have A2 := (A0.below j2 S0)
        have S2 := A2.lt
        clear c0 c1 c2 c3 c4 c5 c6 c7 c8 c9 c10 A0 B0
        refine (digitsSpec wa y2 hwa.1 hwa.2).mono ?_
        rintro e y3 ⟨rfl, k3⟩
        rw [show (⟨(Lib.itoa wa).toArray⟩ : ByteArray) = dig wa from rfl]
        have B3 := B2.trans (k3.mono B2.size)
        have A3 := A2.below k3 S2
        obtain ⟨c0, c1, c2, c3, c4, c5, c6, c7, c8, c9, c10⟩ := A3
        dsimp only at c0 c1 c2 c3 c4 c5 c6 c7 c8 c9 c10
        go_wp2_with fail
        go_at_call 27
        refine (textS r c b p y3 hr hc hb hp).mono ?_
        rintro e y4 ⟨rfl, k4⟩
        rw [hV.out]
        go_wp2
        go_ret
        exact ⟨(show Ending.returned (Value.string (⟨#[100, 101, 115]⟩ ++ ⟨#[32, 115, 104, 117, 116, 32]⟩ ++ dig wa ++ ⟨#[32]⟩ ++ V)) = .returned (.string T) by rw [← hT.out, e.out]), B3.trans (k4.mono B3.size)⟩
    · cases has
      · have e : Hid (ptT ⟨up, false, r, c, b, p, h, l, 2, wa, true⟩ = ⟨#[100, 101, 115]⟩ ++ ⟨#[32, 111, 112, 101, 110, 32]⟩ ++ dig wa ++ ⟨#[32]⟩ ++ ⟨#[45]⟩) := by
          unfold Hid
          apply ByteArray.ext
          simp [ptT, roT, opT, clT, ByteArray.data_append]
        have q1 : ¬ 9223372036854775807 < 9 + (dig wa).size := by omega
        have q2 : ¬ 9223372036854775807 < 9 + (dig wa).size + 1 := by omega
        have q3 : ¬ 9223372036854775807 < 9 + (dig wa).size + 1 + 1 := by omega
        have A1 := A0
        obtain ⟨c0, c1, c2, c3, c4, c5, c6, c7, c8, c9, c10⟩ := A1
        dsimp only at c0 c1 c2 c3 c4 c5 c6 c7 c8 c9 c10
        go_wp2_with fail
        go_at_call 26
        refine (inYes 2 0 3 y ⟨by decide, by decide⟩).mono ?_
        rintro e y1 ⟨rfl, hy1⟩
        rw [hy1]
        clear hy1 y1
        go_wp2_with fail
        go_at_call 22
        obtain ⟨y2, hy2⟩ : ∃ z, z = y.alloc (Obj.cells #[.string ⟨#[111, 102, 102]⟩, .string ⟨#[114, 111, 111, 116]⟩, .string ⟨#[100, 101, 115]⟩, .string ⟨#[97, 108, 116]⟩] 9) := ⟨_, rfl⟩
        have j2 : Below y.heap.size y y2 := by rw [hy2]; exact (Below.refl _ _).alloc (Nat.le_refl _) _
        rw [← hy2]
        clear hy2
        have B2 := (B0.trans (j2.mono B0.size))
        have A2 := (A0.below j2 S0)
        have S2 := A2.lt
        clear c0 c1 c2 c3 c4 c5 c6 c7 c8 c9 c10 A0 B0
        refine (digitsSpec wa y2 hwa.1 hwa.2).mono ?_
        rintro e y3 ⟨rfl, k3⟩
        rw [show (⟨(Lib.itoa wa).toArray⟩ : ByteArray) = dig wa from rfl]
        have B3 := B2.trans (k3.mono B2.size)
        have A3 := A2.below k3 S2
        obtain ⟨c0, c1, c2, c3, c4, c5, c6, c7, c8, c9, c10⟩ := A3
        dsimp only at c0 c1 c2 c3 c4 c5 c6 c7 c8 c9 c10
        go_wp2
        go_ret
        exact ⟨(show Ending.returned (Value.string (⟨#[100, 101, 115]⟩ ++ ⟨#[32, 111, 112, 101, 110, 32]⟩ ++ dig wa ++ ⟨#[32]⟩ ++ ⟨#[45]⟩)) = .returned (.string T) by rw [← hT.out, e.out]), B3⟩
      · have e : Hid (ptT ⟨up, true, r, c, b, p, h, l, 2, wa, true⟩ = ⟨#[100, 101, 115]⟩ ++ ⟨#[32, 111, 112, 101, 110, 32]⟩ ++ dig wa ++ ⟨#[32]⟩ ++ V) := by
          unfold Hid
          rw [← hV.out]
          apply ByteArray.ext
          simp [ptT, roT, opT, clT, ByteArray.data_append]
        have q1 : ¬ 9223372036854775807 < 9 + (dig wa).size := by omega
        have q2 : ¬ 9223372036854775807 < 9 + (dig wa).size + 1 := by omega
        have q3 : ¬ 9223372036854775807 < 9 + (dig wa).size + 1 + V.size := by omega
        have A1 := A0
        obtain ⟨c0, c1, c2, c3, c4, c5, c6, c7, c8, c9, c10⟩ := A1
        dsimp only at c0 c1 c2 c3 c4 c5 c6 c7 c8 c9 c10
        go_wp2_with fail
        go_at_call 26
        refine (inYes 2 0 3 y ⟨by decide, by decide⟩).mono ?_
        rintro e y1 ⟨rfl, hy1⟩
        rw [hy1]
        clear hy1 y1
        go_wp2_with fail
        go_at_call 22
        obtain ⟨y2, hy2⟩ : ∃ z, z = y.alloc (Obj.cells #[.string ⟨#[111, 102, 102]⟩, .string ⟨#[114, 111, 111, 116]⟩, .string ⟨#[100, 101, 115]⟩, .string ⟨#[97, 108, 116]⟩] 9) := ⟨_, rfl⟩
        have j2 : Below y.heap.size y y2 := by rw [hy2]; exact (Below.refl _ _).alloc (Nat.le_refl _) _
        rw [← hy2]
        clear hy2
        have B2 := (B0.trans (j2.mono B0.size))
        have A2 := (A0.below j2 S0)
        have S2 := A2.lt
        clear c0 c1 c2 c3 c4 c5 c6 c7 c8 c9 c10 A0 B0
        refine (digitsSpec wa y2 hwa.1 hwa.2).mono ?_
        rintro e y3 ⟨rfl, k3⟩
        rw [show (⟨(Lib.itoa wa).toArray⟩ : ByteArray) = dig wa from rfl]
        have B3 := B2.trans (k3.mono B2.size)
        have A3 := A2.below k3 S2
        obtain ⟨c0, c1, c2, c3, c4, c5, c6, c7, c8, c9, c10⟩ := A3
        dsimp only at c0 c1 c2 c3 c4 c5 c6 c7 c8 c9 c10
        go_wp2_with fail
        go_at_call 27
        refine (textS r c b p y3 hr hc hb hp).mono ?_
        rintro e y4 ⟨rfl, k4⟩
        rw [hV.out]
        go_wp2
        go_ret
        exact ⟨(show Ending.returned (Value.string (⟨#[100, 101, 115]⟩ ++ ⟨#[32, 111, 112, 101, 110, 32]⟩ ++ dig wa ++ ⟨#[32]⟩ ++ V)) = .returned (.string T) by rw [← hT.out, e.out]), B3.trans (k4.mono B3.size)⟩
  by_cases n3 : ro = 3
  · subst n3
    cases op
    · cases has
      · have e : Hid (ptT ⟨up, false, r, c, b, p, h, l, 3, wa, false⟩ = ⟨#[97, 108, 116]⟩ ++ ⟨#[32, 115, 104, 117, 116, 32]⟩ ++ dig wa ++ ⟨#[32]⟩ ++ ⟨#[45]⟩) := by
          unfold Hid
          apply ByteArray.ext
          simp [ptT, roT, opT, clT, ByteArray.data_append]
        have q1 : ¬ 9223372036854775807 < 9 + (dig wa).size := by omega
        have q2 : ¬ 9223372036854775807 < 9 + (dig wa).size + 1 := by omega
        have q3 : ¬ 9223372036854775807 < 9 + (dig wa).size + 1 + 1 := by omega
        have A1 := A0
        obtain ⟨c0, c1, c2, c3, c4, c5, c6, c7, c8, c9, c10⟩ := A1
        dsimp only at c0 c1 c2 c3 c4 c5 c6 c7 c8 c9 c10
        go_wp2_with fail
        go_at_call 26
        refine (inYes 3 0 3 y ⟨by decide, by decide⟩).mono ?_
        rintro e y1 ⟨rfl, hy1⟩
        rw [hy1]
        clear hy1 y1
        go_wp2_with fail
        go_at_call 22
        obtain ⟨y2, hy2⟩ : ∃ z, z = y.alloc (Obj.cells #[.string ⟨#[111, 102, 102]⟩, .string ⟨#[114, 111, 111, 116]⟩, .string ⟨#[100, 101, 115]⟩, .string ⟨#[97, 108, 116]⟩] 9) := ⟨_, rfl⟩
        have j2 : Below y.heap.size y y2 := by rw [hy2]; exact (Below.refl _ _).alloc (Nat.le_refl _) _
        rw [← hy2]
        clear hy2
        have B2 := (B0.trans (j2.mono B0.size))
        have A2 := (A0.below j2 S0)
        have S2 := A2.lt
        clear c0 c1 c2 c3 c4 c5 c6 c7 c8 c9 c10 A0 B0
        refine (digitsSpec wa y2 hwa.1 hwa.2).mono ?_
        rintro e y3 ⟨rfl, k3⟩
        rw [show (⟨(Lib.itoa wa).toArray⟩ : ByteArray) = dig wa from rfl]
        have B3 := B2.trans (k3.mono B2.size)
        have A3 := A2.below k3 S2
        obtain ⟨c0, c1, c2, c3, c4, c5, c6, c7, c8, c9, c10⟩ := A3
        dsimp only at c0 c1 c2 c3 c4 c5 c6 c7 c8 c9 c10
        go_wp2
        go_ret
        exact ⟨(show Ending.returned (Value.string (⟨#[97, 108, 116]⟩ ++ ⟨#[32, 115, 104, 117, 116, 32]⟩ ++ dig wa ++ ⟨#[32]⟩ ++ ⟨#[45]⟩)) = .returned (.string T) by rw [← hT.out, e.out]), B3⟩
      · have e : Hid (ptT ⟨up, true, r, c, b, p, h, l, 3, wa, false⟩ = ⟨#[97, 108, 116]⟩ ++ ⟨#[32, 115, 104, 117, 116, 32]⟩ ++ dig wa ++ ⟨#[32]⟩ ++ V) := by
          unfold Hid
          rw [← hV.out]
          apply ByteArray.ext
          simp [ptT, roT, opT, clT, ByteArray.data_append]
        have q1 : ¬ 9223372036854775807 < 9 + (dig wa).size := by omega
        have q2 : ¬ 9223372036854775807 < 9 + (dig wa).size + 1 := by omega
        have q3 : ¬ 9223372036854775807 < 9 + (dig wa).size + 1 + V.size := by omega
        have A1 := A0
        obtain ⟨c0, c1, c2, c3, c4, c5, c6, c7, c8, c9, c10⟩ := A1
        dsimp only at c0 c1 c2 c3 c4 c5 c6 c7 c8 c9 c10
        go_wp2_with fail
        go_at_call 26
        refine (inYes 3 0 3 y ⟨by decide, by decide⟩).mono ?_
        rintro e y1 ⟨rfl, hy1⟩
        rw [hy1]
        clear hy1 y1
        go_wp2_with fail
        go_at_call 22
        obtain ⟨y2, hy2⟩ : ∃ z, z = y.alloc (Obj.cells #[.string ⟨#[111, 102, 102]⟩, .string ⟨#[114, 111, 111, 116]⟩, .string ⟨#[100, 101, 115]⟩, .string ⟨#[97, 108, 116]⟩] 9) := ⟨_, rfl⟩
        have j2 : Below y.heap.size y y2 := by rw [hy2]; exact (Below.refl _ _).alloc (Nat.le_refl _) _
        rw [← hy2]
        clear hy2
        have B2 := (B0.trans (j2.mono B0.size))
        have A2 := (A0.below j2 S0)
        have S2 := A2.lt
        clear c0 c1 c2 c3 c4 c5 c6 c7 c8 c9 c10 A0 B0
        refine (digitsSpec wa y2 hwa.1 hwa.2).mono ?_
        rintro e y3 ⟨rfl, k3⟩
        rw [show (⟨(Lib.itoa wa).toArray⟩ : ByteArray) = dig wa from rfl]
        have B3 := B2.trans (k3.mono B2.size)
        have A3 := A2.below k3 S2
        obtain ⟨c0, c1, c2, c3, c4, c5, c6, c7, c8, c9, c10⟩ := A3
        dsimp only at c0 c1 c2 c3 c4 c5 c6 c7 c8 c9 c10
        go_wp2_with fail
        go_at_call 27
        refine (textS r c b p y3 hr hc hb hp).mono ?_
        rintro e y4 ⟨rfl, k4⟩
        rw [hV.out]
        go_wp2
        go_ret
        exact ⟨(show Ending.returned (Value.string (⟨#[97, 108, 116]⟩ ++ ⟨#[32, 115, 104, 117, 116, 32]⟩ ++ dig wa ++ ⟨#[32]⟩ ++ V)) = .returned (.string T) by rw [← hT.out, e.out]), B3.trans (k4.mono B3.size)⟩
    · cases has
      · have e : Hid (ptT ⟨up, false, r, c, b, p, h, l, 3, wa, true⟩ = ⟨#[97, 108, 116]⟩ ++ ⟨#[32, 111, 112, 101, 110, 32]⟩ ++ dig wa ++ ⟨#[32]⟩ ++ ⟨#[45]⟩) := by
          unfold Hid
          apply ByteArray.ext
          simp [ptT, roT, opT, clT, ByteArray.data_append]
        have q1 : ¬ 9223372036854775807 < 9 + (dig wa).size := by omega
        have q2 : ¬ 9223372036854775807 < 9 + (dig wa).size + 1 := by omega
        have q3 : ¬ 9223372036854775807 < 9 + (dig wa).size + 1 + 1 := by omega
        have A1 := A0
        obtain ⟨c0, c1, c2, c3, c4, c5, c6, c7, c8, c9, c10⟩ := A1
        dsimp only at c0 c1 c2 c3 c4 c5 c6 c7 c8 c9 c10
        go_wp2_with fail
        go_at_call 26
        refine (inYes 3 0 3 y ⟨by decide, by decide⟩).mono ?_
        rintro e y1 ⟨rfl, hy1⟩
        rw [hy1]
        clear hy1 y1
        go_wp2_with fail
        go_at_call 22
        obtain ⟨y2, hy2⟩ : ∃ z, z = y.alloc (Obj.cells #[.string ⟨#[111, 102, 102]⟩, .string ⟨#[114, 111, 111, 116]⟩, .string ⟨#[100, 101, 115]⟩, .string ⟨#[97, 108, 116]⟩] 9) := ⟨_, rfl⟩
        have j2 : Below y.heap.size y y2 := by rw [hy2]; exact (Below.refl _ _).alloc (Nat.le_refl _) _
        rw [← hy2]
        clear hy2
        have B2 := (B0.trans (j2.mono B0.size))
        have A2 := (A0.below j2 S0)
        have S2 := A2.lt
        clear c0 c1 c2 c3 c4 c5 c6 c7 c8 c9 c10 A0 B0
        refine (digitsSpec wa y2 hwa.1 hwa.2).mono ?_
        rintro e y3 ⟨rfl, k3⟩
        rw [show (⟨(Lib.itoa wa).toArray⟩ : ByteArray) = dig wa from rfl]
        have B3 := B2.trans (k3.mono B2.size)
        have A3 := A2.below k3 S2
        obtain ⟨c0, c1, c2, c3, c4, c5, c6, c7, c8, c9, c10⟩ := A3
        dsimp only at c0 c1 c2 c3 c4 c5 c6 c7 c8 c9 c10
        go_wp2
        go_ret
        exact ⟨(show Ending.returned (Value.string (⟨#[97, 108, 116]⟩ ++ ⟨#[32, 111, 112, 101, 110, 32]⟩ ++ dig wa ++ ⟨#[32]⟩ ++ ⟨#[45]⟩)) = .returned (.string T) by rw [← hT.out, e.out]), B3⟩
      · have e : Hid (ptT ⟨up, true, r, c, b, p, h, l, 3, wa, true⟩ = ⟨#[97, 108, 116]⟩ ++ ⟨#[32, 111, 112, 101, 110, 32]⟩ ++ dig wa ++ ⟨#[32]⟩ ++ V) := by
          unfold Hid
          rw [← hV.out]
          apply ByteArray.ext
          simp [ptT, roT, opT, clT, ByteArray.data_append]
        have q1 : ¬ 9223372036854775807 < 9 + (dig wa).size := by omega
        have q2 : ¬ 9223372036854775807 < 9 + (dig wa).size + 1 := by omega
        have q3 : ¬ 9223372036854775807 < 9 + (dig wa).size + 1 + V.size := by omega
        have A1 := A0
        obtain ⟨c0, c1, c2, c3, c4, c5, c6, c7, c8, c9, c10⟩ := A1
        dsimp only at c0 c1 c2 c3 c4 c5 c6 c7 c8 c9 c10
        go_wp2_with fail
        go_at_call 26
        refine (inYes 3 0 3 y ⟨by decide, by decide⟩).mono ?_
        rintro e y1 ⟨rfl, hy1⟩
        rw [hy1]
        clear hy1 y1
        go_wp2_with fail
        go_at_call 22
        obtain ⟨y2, hy2⟩ : ∃ z, z = y.alloc (Obj.cells #[.string ⟨#[111, 102, 102]⟩, .string ⟨#[114, 111, 111, 116]⟩, .string ⟨#[100, 101, 115]⟩, .string ⟨#[97, 108, 116]⟩] 9) := ⟨_, rfl⟩
        have j2 : Below y.heap.size y y2 := by rw [hy2]; exact (Below.refl _ _).alloc (Nat.le_refl _) _
        rw [← hy2]
        clear hy2
        have B2 := (B0.trans (j2.mono B0.size))
        have A2 := (A0.below j2 S0)
        have S2 := A2.lt
        clear c0 c1 c2 c3 c4 c5 c6 c7 c8 c9 c10 A0 B0
        refine (digitsSpec wa y2 hwa.1 hwa.2).mono ?_
        rintro e y3 ⟨rfl, k3⟩
        rw [show (⟨(Lib.itoa wa).toArray⟩ : ByteArray) = dig wa from rfl]
        have B3 := B2.trans (k3.mono B2.size)
        have A3 := A2.below k3 S2
        obtain ⟨c0, c1, c2, c3, c4, c5, c6, c7, c8, c9, c10⟩ := A3
        dsimp only at c0 c1 c2 c3 c4 c5 c6 c7 c8 c9 c10
        go_wp2_with fail
        go_at_call 27
        refine (textS r c b p y3 hr hc hb hp).mono ?_
        rintro e y4 ⟨rfl, k4⟩
        rw [hV.out]
        go_wp2
        go_ret
        exact ⟨(show Ending.returned (Value.string (⟨#[97, 108, 116]⟩ ++ ⟨#[32, 111, 112, 101, 110, 32]⟩ ++ dig wa ++ ⟨#[32]⟩ ++ V)) = .returned (.string T) by rw [← hT.out, e.out]), B3.trans (k4.mono B3.size)⟩
  cases op
  · cases has
    · have e : Hid (ptT ⟨up, false, r, c, b, p, h, l, ro, wa, false⟩ = ⟨#[110, 111, 110, 101]⟩ ++ ⟨#[32, 115, 104, 117, 116, 32]⟩ ++ dig wa ++ ⟨#[32]⟩ ++ ⟨#[45]⟩) := by
        unfold Hid
        apply ByteArray.ext
        simp [ptT, roT, opT, clT, ByteArray.data_append, n0, n1, n2, n3]
      have q1 : ¬ 9223372036854775807 < 10 + (dig wa).size := by omega
      have q2 : ¬ 9223372036854775807 < 10 + (dig wa).size + 1 := by omega
      have q3 : ¬ 9223372036854775807 < 10 + (dig wa).size + 1 + 1 := by omega
      have A1 := A0
      obtain ⟨c0, c1, c2, c3, c4, c5, c6, c7, c8, c9, c10⟩ := A1
      dsimp only at c0 c1 c2 c3 c4 c5 c6 c7 c8 c9 c10
      go_wp2_with fail
      go_at_call 26
      refine (inNo ro 0 3 y (by omega)).mono ?_
      rintro e y1 ⟨rfl, hy1⟩
      rw [hy1]
      clear hy1 y1
      go_wp2_with fail
      go_at_call 22
      have B2 := B0
      have A2 := A0
      have S2 := A2.lt
      clear c0 c1 c2 c3 c4 c5 c6 c7 c8 c9 c10 A0 B0
      refine (digitsSpec wa y hwa.1 hwa.2).mono ?_
      rintro e y3 ⟨rfl, k3⟩
      rw [show (⟨(Lib.itoa wa).toArray⟩ : ByteArray) = dig wa from rfl]
      have B3 := B2.trans (k3.mono B2.size)
      have A3 := A2.below k3 S2
      obtain ⟨c0, c1, c2, c3, c4, c5, c6, c7, c8, c9, c10⟩ := A3
      dsimp only at c0 c1 c2 c3 c4 c5 c6 c7 c8 c9 c10
      go_wp2
      go_ret
      exact ⟨(show Ending.returned (Value.string (⟨#[110, 111, 110, 101]⟩ ++ ⟨#[32, 115, 104, 117, 116, 32]⟩ ++ dig wa ++ ⟨#[32]⟩ ++ ⟨#[45]⟩)) = .returned (.string T) by rw [← hT.out, e.out]), B3⟩
    · have e : Hid (ptT ⟨up, true, r, c, b, p, h, l, ro, wa, false⟩ = ⟨#[110, 111, 110, 101]⟩ ++ ⟨#[32, 115, 104, 117, 116, 32]⟩ ++ dig wa ++ ⟨#[32]⟩ ++ V) := by
        unfold Hid
        rw [← hV.out]
        apply ByteArray.ext
        simp [ptT, roT, opT, clT, ByteArray.data_append, n0, n1, n2, n3]
      have q1 : ¬ 9223372036854775807 < 10 + (dig wa).size := by omega
      have q2 : ¬ 9223372036854775807 < 10 + (dig wa).size + 1 := by omega
      have q3 : ¬ 9223372036854775807 < 10 + (dig wa).size + 1 + V.size := by omega
      have A1 := A0
      obtain ⟨c0, c1, c2, c3, c4, c5, c6, c7, c8, c9, c10⟩ := A1
      dsimp only at c0 c1 c2 c3 c4 c5 c6 c7 c8 c9 c10
      go_wp2_with fail
      go_at_call 26
      refine (inNo ro 0 3 y (by omega)).mono ?_
      rintro e y1 ⟨rfl, hy1⟩
      rw [hy1]
      clear hy1 y1
      go_wp2_with fail
      go_at_call 22
      have B2 := B0
      have A2 := A0
      have S2 := A2.lt
      clear c0 c1 c2 c3 c4 c5 c6 c7 c8 c9 c10 A0 B0
      refine (digitsSpec wa y hwa.1 hwa.2).mono ?_
      rintro e y3 ⟨rfl, k3⟩
      rw [show (⟨(Lib.itoa wa).toArray⟩ : ByteArray) = dig wa from rfl]
      have B3 := B2.trans (k3.mono B2.size)
      have A3 := A2.below k3 S2
      obtain ⟨c0, c1, c2, c3, c4, c5, c6, c7, c8, c9, c10⟩ := A3
      dsimp only at c0 c1 c2 c3 c4 c5 c6 c7 c8 c9 c10
      go_wp2_with fail
      go_at_call 27
      refine (textS r c b p y3 hr hc hb hp).mono ?_
      rintro e y4 ⟨rfl, k4⟩
      rw [hV.out]
      go_wp2
      go_ret
      exact ⟨(show Ending.returned (Value.string (⟨#[110, 111, 110, 101]⟩ ++ ⟨#[32, 115, 104, 117, 116, 32]⟩ ++ dig wa ++ ⟨#[32]⟩ ++ V)) = .returned (.string T) by rw [← hT.out, e.out]), B3.trans (k4.mono B3.size)⟩
  · cases has
    · have e : Hid (ptT ⟨up, false, r, c, b, p, h, l, ro, wa, true⟩ = ⟨#[110, 111, 110, 101]⟩ ++ ⟨#[32, 111, 112, 101, 110, 32]⟩ ++ dig wa ++ ⟨#[32]⟩ ++ ⟨#[45]⟩) := by
        unfold Hid
        apply ByteArray.ext
        simp [ptT, roT, opT, clT, ByteArray.data_append, n0, n1, n2, n3]
      have q1 : ¬ 9223372036854775807 < 10 + (dig wa).size := by omega
      have q2 : ¬ 9223372036854775807 < 10 + (dig wa).size + 1 := by omega
      have q3 : ¬ 9223372036854775807 < 10 + (dig wa).size + 1 + 1 := by omega
      have A1 := A0
      obtain ⟨c0, c1, c2, c3, c4, c5, c6, c7, c8, c9, c10⟩ := A1
      dsimp only at c0 c1 c2 c3 c4 c5 c6 c7 c8 c9 c10
      go_wp2_with fail
      go_at_call 26
      refine (inNo ro 0 3 y (by omega)).mono ?_
      rintro e y1 ⟨rfl, hy1⟩
      rw [hy1]
      clear hy1 y1
      go_wp2_with fail
      go_at_call 22
      have B2 := B0
      have A2 := A0
      have S2 := A2.lt
      clear c0 c1 c2 c3 c4 c5 c6 c7 c8 c9 c10 A0 B0
      refine (digitsSpec wa y hwa.1 hwa.2).mono ?_
      rintro e y3 ⟨rfl, k3⟩
      rw [show (⟨(Lib.itoa wa).toArray⟩ : ByteArray) = dig wa from rfl]
      have B3 := B2.trans (k3.mono B2.size)
      have A3 := A2.below k3 S2
      obtain ⟨c0, c1, c2, c3, c4, c5, c6, c7, c8, c9, c10⟩ := A3
      dsimp only at c0 c1 c2 c3 c4 c5 c6 c7 c8 c9 c10
      go_wp2
      go_ret
      exact ⟨(show Ending.returned (Value.string (⟨#[110, 111, 110, 101]⟩ ++ ⟨#[32, 111, 112, 101, 110, 32]⟩ ++ dig wa ++ ⟨#[32]⟩ ++ ⟨#[45]⟩)) = .returned (.string T) by rw [← hT.out, e.out]), B3⟩
    · have e : Hid (ptT ⟨up, true, r, c, b, p, h, l, ro, wa, true⟩ = ⟨#[110, 111, 110, 101]⟩ ++ ⟨#[32, 111, 112, 101, 110, 32]⟩ ++ dig wa ++ ⟨#[32]⟩ ++ V) := by
        unfold Hid
        rw [← hV.out]
        apply ByteArray.ext
        simp [ptT, roT, opT, clT, ByteArray.data_append, n0, n1, n2, n3]
      have q1 : ¬ 9223372036854775807 < 10 + (dig wa).size := by omega
      have q2 : ¬ 9223372036854775807 < 10 + (dig wa).size + 1 := by omega
      have q3 : ¬ 9223372036854775807 < 10 + (dig wa).size + 1 + V.size := by omega
      have A1 := A0
      obtain ⟨c0, c1, c2, c3, c4, c5, c6, c7, c8, c9, c10⟩ := A1
      dsimp only at c0 c1 c2 c3 c4 c5 c6 c7 c8 c9 c10
      go_wp2_with fail
      go_at_call 26
      refine (inNo ro 0 3 y (by omega)).mono ?_
      rintro e y1 ⟨rfl, hy1⟩
      rw [hy1]
      clear hy1 y1
      go_wp2_with fail
      go_at_call 22
      have B2 := B0
      have A2 := A0
      have S2 := A2.lt
      clear c0 c1 c2 c3 c4 c5 c6 c7 c8 c9 c10 A0 B0
      refine (digitsSpec wa y hwa.1 hwa.2).mono ?_
      rintro e y3 ⟨rfl, k3⟩
      rw [show (⟨(Lib.itoa wa).toArray⟩ : ByteArray) = dig wa from rfl]
      have B3 := B2.trans (k3.mono B2.size)
      have A3 := A2.below k3 S2
      obtain ⟨c0, c1, c2, c3, c4, c5, c6, c7, c8, c9, c10⟩ := A3
      dsimp only at c0 c1 c2 c3 c4 c5 c6 c7 c8 c9 c10
      go_wp2_with fail
      go_at_call 27
      refine (textS r c b p y3 hr hc hb hp).mono ?_
      rintro e y4 ⟨rfl, k4⟩
      rw [hV.out]
      go_wp2
      go_ret
      exact ⟨(show Ending.returned (Value.string (⟨#[110, 111, 110, 101]⟩ ++ ⟨#[32, 111, 112, 101, 110, 32]⟩ ++ dig wa ++ ⟨#[32]⟩ ++ V)) = .returned (.string T) by rw [← hT.out, e.out]), B3.trans (k4.mono B3.size)⟩

end Go.Proofs.YtjholgpjicliaaaDoor
