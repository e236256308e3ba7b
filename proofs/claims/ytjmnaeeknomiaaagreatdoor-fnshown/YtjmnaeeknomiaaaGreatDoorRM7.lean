/- Both PortText. Both BridgeText. Bridges drawn: right ones. Bridges drawn.   -/
import Derived.Test.YtjmnaeeknomiaaaGreatDoorRM16
import Derived.Test.YtjmnaeeknomiaaaGreatDoorRKWRe5
import Derived.Test.YtjmnaeeknomiaaaGreatDoorRM20
namespace Go.Proofs.YtjmnaeeknomiaaaGreatDoor
open Go.ChangeShapes Go.WideShapes Go.ChangeAt Go.RowKit
open Go.ChangeMaps (open_string shut_string)
set_option linter.unusedVariables false
set_option maxRecDepth 100000
set_option maxHeartbeats 32000000
set_option linter.unusedSimpArgs false
open Go.Proofs.Tryz
attribute [local go_sem] ji ja
theorem Lg (x : Pt) (w : World) (hw : Cy x) (htab : Dx w) : Calls prog 31 #[.agg #[.bool x.up, .bool x.has, .int .i64 x.r, .int .i64 x.c, .int .i64 x.b, .int .i64 x.p, .int .i64 x.h, .int .i64 x.l, .int .i64 x.ro, .int .i64 x.wa, .bool x.op]] w fun e w' => e = .returned (.string (Ah x)) ∧ Below w.heap.size w w' := by
  obtain ⟨y, hy⟩ : ∃ y, y = w.alloc (Obj.cells #[.bool x.up, .bool x.has, .int .i64 x.r, .int .i64 x.c, .int .i64 x.b, .int .i64 x.p, .int .i64 x.h, .int .i64 x.l, .int .i64 x.ro, .int .i64 x.wa, .bool x.op] 47) := ⟨_, rfl⟩
  have A0 : Bg y w.heap.size x := by rw [hy]; exact EN w _ x
  have B0 : Below w.heap.size w y := by rw [hy]; exact (Below.refl _ _).alloc (Nat.le_refl _) _
  go_enter func31, ntmps31
  go_upto_region 1 with fail
  rw [← hy]
  clear hy
  obtain ⟨c0, c1, c2, c3, c4, c5, c6, c7, c8, c9, c10⟩ := A0
  go_wp2_with fail
  go_at_call 76
  refine (IF x y hw (Dc htab B0)).mono ?_
  rintro e w1 ⟨g, rfl, O1, k1⟩
  have B1 := B0.trans (k1.mono B0.size)
  go_wp2_with fail
  go_at_call 75
  refine (GI (some ⟨g, 0, none⟩) 4 (DA x) w1 O1.view.2 (ID x hw) (by show 4 ≤ 6000000; decide) (Dc htab B1)).mono ?_
  rintro e w2 ⟨rfl, k2⟩
  rw [Jg]
  go_wp2
  go_ret
  exact ⟨rfl, B1.trans (k2.mono B1.size)⟩
theorem In (x : Pt) (w : World) (hw : Cy x) : Calls prog 32 #[.agg #[.bool x.up, .bool x.has, .int .i64 x.r, .int .i64 x.c, .int .i64 x.b, .int .i64 x.p, .int .i64 x.h, .int .i64 x.l, .int .i64 x.ro, .int .i64 x.wa, .bool x.op]] w fun e w' => e = .returned (.string (Ah x)) ∧ Below w.heap.size w w' := by
  obtain ⟨y, hy⟩ : ∃ y, y = w.alloc (Obj.cells #[.bool x.up, .bool x.has, .int .i64 x.r, .int .i64 x.c, .int .i64 x.b, .int .i64 x.p, .int .i64 x.h, .int .i64 x.l, .int .i64 x.ro, .int .i64 x.wa, .bool x.op] 47) := ⟨_, rfl⟩
  have A0 : Bg y w.heap.size x := by rw [hy]; exact EN w _ x
  have B0 : Below w.heap.size w y := by rw [hy]; exact (Below.refl _ _).alloc (Nat.le_refl _) _
  have S0 := A0.lt
  obtain ⟨T, hT⟩ : ∃ T, Ah x = T := ⟨_, rfl⟩
  rw [hT]
  replace hT : Hid _ := hT
  go_enter func32, ntmps32
  go_upto_region 1 with fail
  rw [← hy]
  clear hy
  obtain ⟨up, has, r, c, b, p, h, l, ro, wa, op⟩ := x
  obtain ⟨hr, hc, hb, hp, hwa⟩ := hw
  dsimp only at hr hc hb hp hwa A0 ⊢
  have z0 := Bj hwa.1 hwa.2
  have zV : (EG r c b p).size ≤ 87 := I4 hr hc hb hp
  generalize hV : EG r c b p = V at zV
  replace hV : Hid _ := hV
  by_cases n0 : ro = 0
  · subst n0
    cases op
    · cases has
      · have e : Hid (Ah ⟨up, false, r, c, b, p, h, l, 0, wa, false⟩ = ⟨#[111, 102, 102]⟩ ++ ⟨#[32, 115, 104, 117, 116, 32]⟩ ++ AH wa ++ ⟨#[32]⟩ ++ ⟨#[45]⟩) := by
          unfold Hid
          apply ByteArray.ext
          simp [Ah, BU, Bu, Bi, ByteArray.data_append]
        have q1 : ¬ 9223372036854775807 < 9 + (AH wa).size := by omega
        have q2 : ¬ 9223372036854775807 < 9 + (AH wa).size + 1 := by omega
        have q3 : ¬ 9223372036854775807 < 9 + (AH wa).size + 1 + 1 := by omega
        have A1 := A0
        obtain ⟨c0, c1, c2, c3, c4, c5, c6, c7, c8, c9, c10⟩ := A1
        dsimp only at c0 c1 c2 c3 c4 c5 c6 c7 c8 c9 c10
        go_wp2_with fail
        go_at_call 66
        refine (CN 0 0 3 y ⟨by decide, by decide⟩).mono ?_
        rintro e y1 ⟨rfl, hy1⟩
        rw [hy1]
        clear hy1 y1
        go_wp2_with fail
        go_at_call 64
        obtain ⟨y2, hy2⟩ : ∃ z, z = y.alloc (Obj.cells #[.string ⟨#[111, 102, 102]⟩, .string ⟨#[114, 111, 111, 116]⟩, .string ⟨#[100, 101, 115]⟩, .string ⟨#[97, 108, 116]⟩] 9) := ⟨_, rfl⟩
        have j2 : Below y.heap.size y y2 := by rw [hy2]; exact (Below.refl _ _).alloc (Nat.le_refl _) _
        rw [← hy2]
        clear hy2
        have B2 := (B0.trans (j2.mono B0.size))
        have A2 := (A0.below j2 S0)
        have S2 := A2.lt
        clear c0 c1 c2 c3 c4 c5 c6 c7 c8 c9 c10 A0 B0
        refine (Bm wa y2 hwa.1 hwa.2).mono ?_
        rintro e y3 ⟨rfl, k3⟩
        rw [show (⟨(Lib.itoa wa).toArray⟩ : ByteArray) = AH wa from rfl]
        have B3 := B2.trans (k3.mono B2.size)
        have A3 := A2.below k3 S2
        obtain ⟨c0, c1, c2, c3, c4, c5, c6, c7, c8, c9, c10⟩ := A3
        dsimp only at c0 c1 c2 c3 c4 c5 c6 c7 c8 c9 c10
        go_wp2
        go_ret
        exact ⟨(show Ending.returned (Value.string (⟨#[111, 102, 102]⟩ ++ ⟨#[32, 115, 104, 117, 116, 32]⟩ ++ AH wa ++ ⟨#[32]⟩ ++ ⟨#[45]⟩)) = .returned (.string T) by rw [← hT.out, e.out]), B3⟩
      · have e : Hid (Ah ⟨up, true, r, c, b, p, h, l, 0, wa, false⟩ = ⟨#[111, 102, 102]⟩ ++ ⟨#[32, 115, 104, 117, 116, 32]⟩ ++ AH wa ++ ⟨#[32]⟩ ++ V) := by
          unfold Hid
          rw [← hV.out]
          apply ByteArray.ext
          simp [Ah, BU, Bu, Bi, ByteArray.data_append]
        have q1 : ¬ 9223372036854775807 < 9 + (AH wa).size := by omega
        have q2 : ¬ 9223372036854775807 < 9 + (AH wa).size + 1 := by omega
        have q3 : ¬ 9223372036854775807 < 9 + (AH wa).size + 1 + V.size := by omega
        have A1 := A0
        obtain ⟨c0, c1, c2, c3, c4, c5, c6, c7, c8, c9, c10⟩ := A1
        dsimp only at c0 c1 c2 c3 c4 c5 c6 c7 c8 c9 c10
        go_wp2_with fail
        go_at_call 66
        refine (CN 0 0 3 y ⟨by decide, by decide⟩).mono ?_
        rintro e y1 ⟨rfl, hy1⟩
        rw [hy1]
        clear hy1 y1
        go_wp2_with fail
        go_at_call 64
        obtain ⟨y2, hy2⟩ : ∃ z, z = y.alloc (Obj.cells #[.string ⟨#[111, 102, 102]⟩, .string ⟨#[114, 111, 111, 116]⟩, .string ⟨#[100, 101, 115]⟩, .string ⟨#[97, 108, 116]⟩] 9) := ⟨_, rfl⟩
        have j2 : Below y.heap.size y y2 := by rw [hy2]; exact (Below.refl _ _).alloc (Nat.le_refl _) _
        rw [← hy2]
        clear hy2
        have B2 := (B0.trans (j2.mono B0.size))
        have A2 := (A0.below j2 S0)
        have S2 := A2.lt
        clear c0 c1 c2 c3 c4 c5 c6 c7 c8 c9 c10 A0 B0
        refine (Bm wa y2 hwa.1 hwa.2).mono ?_
        rintro e y3 ⟨rfl, k3⟩
        rw [show (⟨(Lib.itoa wa).toArray⟩ : ByteArray) = AH wa from rfl]
        have B3 := B2.trans (k3.mono B2.size)
        have A3 := A2.below k3 S2
        obtain ⟨c0, c1, c2, c3, c4, c5, c6, c7, c8, c9, c10⟩ := A3
        dsimp only at c0 c1 c2 c3 c4 c5 c6 c7 c8 c9 c10
        go_wp2_with fail
        go_at_call 77
        refine (Ec r c b p y3 hr hc hb hp).mono ?_
        rintro e y4 ⟨rfl, k4⟩
        rw [hV.out]
        go_wp2
        go_ret
        exact ⟨(show Ending.returned (Value.string (⟨#[111, 102, 102]⟩ ++ ⟨#[32, 115, 104, 117, 116, 32]⟩ ++ AH wa ++ ⟨#[32]⟩ ++ V)) = .returned (.string T) by rw [← hT.out, e.out]), B3.trans (k4.mono B3.size)⟩
    · cases has
      · have e : Hid (Ah ⟨up, false, r, c, b, p, h, l, 0, wa, true⟩ = ⟨#[111, 102, 102]⟩ ++ ⟨#[32, 111, 112, 101, 110, 32]⟩ ++ AH wa ++ ⟨#[32]⟩ ++ ⟨#[45]⟩) := by
          unfold Hid
          apply ByteArray.ext
          simp [Ah, BU, Bu, Bi, ByteArray.data_append]
        have q1 : ¬ 9223372036854775807 < 9 + (AH wa).size := by omega
        have q2 : ¬ 9223372036854775807 < 9 + (AH wa).size + 1 := by omega
        have q3 : ¬ 9223372036854775807 < 9 + (AH wa).size + 1 + 1 := by omega
        have A1 := A0
        obtain ⟨c0, c1, c2, c3, c4, c5, c6, c7, c8, c9, c10⟩ := A1
        dsimp only at c0 c1 c2 c3 c4 c5 c6 c7 c8 c9 c10
        go_wp2_with fail
        go_at_call 66
        refine (CN 0 0 3 y ⟨by decide, by decide⟩).mono ?_
        rintro e y1 ⟨rfl, hy1⟩
        rw [hy1]
        clear hy1 y1
        go_wp2_with fail
        go_at_call 64
        obtain ⟨y2, hy2⟩ : ∃ z, z = y.alloc (Obj.cells #[.string ⟨#[111, 102, 102]⟩, .string ⟨#[114, 111, 111, 116]⟩, .string ⟨#[100, 101, 115]⟩, .string ⟨#[97, 108, 116]⟩] 9) := ⟨_, rfl⟩
        have j2 : Below y.heap.size y y2 := by rw [hy2]; exact (Below.refl _ _).alloc (Nat.le_refl _) _
        rw [← hy2]
        clear hy2
        have B2 := (B0.trans (j2.mono B0.size))
        have A2 := (A0.below j2 S0)
        have S2 := A2.lt
        clear c0 c1 c2 c3 c4 c5 c6 c7 c8 c9 c10 A0 B0
        refine (Bm wa y2 hwa.1 hwa.2).mono ?_
        rintro e y3 ⟨rfl, k3⟩
        rw [show (⟨(Lib.itoa wa).toArray⟩ : ByteArray) = AH wa from rfl]
        have B3 := B2.trans (k3.mono B2.size)
        have A3 := A2.below k3 S2
        obtain ⟨c0, c1, c2, c3, c4, c5, c6, c7, c8, c9, c10⟩ := A3
        dsimp only at c0 c1 c2 c3 c4 c5 c6 c7 c8 c9 c10
        go_wp2
        go_ret
        exact ⟨(show Ending.returned (Value.string (⟨#[111, 102, 102]⟩ ++ ⟨#[32, 111, 112, 101, 110, 32]⟩ ++ AH wa ++ ⟨#[32]⟩ ++ ⟨#[45]⟩)) = .returned (.string T) by rw [← hT.out, e.out]), B3⟩
      · have e : Hid (Ah ⟨up, true, r, c, b, p, h, l, 0, wa, true⟩ = ⟨#[111, 102, 102]⟩ ++ ⟨#[32, 111, 112, 101, 110, 32]⟩ ++ AH wa ++ ⟨#[32]⟩ ++ V) := by
          unfold Hid
          rw [← hV.out]
          apply ByteArray.ext
          simp [Ah, BU, Bu, Bi, ByteArray.data_append]
        have q1 : ¬ 9223372036854775807 < 9 + (AH wa).size := by omega
        have q2 : ¬ 9223372036854775807 < 9 + (AH wa).size + 1 := by omega
        have q3 : ¬ 9223372036854775807 < 9 + (AH wa).size + 1 + V.size := by omega
        have A1 := A0
        obtain ⟨c0, c1, c2, c3, c4, c5, c6, c7, c8, c9, c10⟩ := A1
        dsimp only at c0 c1 c2 c3 c4 c5 c6 c7 c8 c9 c10
        go_wp2_with fail
        go_at_call 66
        refine (CN 0 0 3 y ⟨by decide, by decide⟩).mono ?_
        rintro e y1 ⟨rfl, hy1⟩
        rw [hy1]
        clear hy1 y1
        go_wp2_with fail
        go_at_call 64
        obtain ⟨y2, hy2⟩ : ∃ z, z = y.alloc (Obj.cells #[.string ⟨#[111, 102, 102]⟩, .string ⟨#[114, 111, 111, 116]⟩, .string ⟨#[100, 101, 115]⟩, .string ⟨#[97, 108, 116]⟩] 9) := ⟨_, rfl⟩
        have j2 : Below y.heap.size y y2 := by rw [hy2]; exact (Below.refl _ _).alloc (Nat.le_refl _) _
        rw [← hy2]
        clear hy2
        have B2 := (B0.trans (j2.mono B0.size))
        have A2 := (A0.below j2 S0)
        have S2 := A2.lt
        clear c0 c1 c2 c3 c4 c5 c6 c7 c8 c9 c10 A0 B0
        refine (Bm wa y2 hwa.1 hwa.2).mono ?_
        rintro e y3 ⟨rfl, k3⟩
        rw [show (⟨(Lib.itoa wa).toArray⟩ : ByteArray) = AH wa from rfl]
        have B3 := B2.trans (k3.mono B2.size)
        have A3 := A2.below k3 S2
        obtain ⟨c0, c1, c2, c3, c4, c5, c6, c7, c8, c9, c10⟩ := A3
        dsimp only at c0 c1 c2 c3 c4 c5 c6 c7 c8 c9 c10
        go_wp2_with fail
        go_at_call 77
        refine (Ec r c b p y3 hr hc hb hp).mono ?_
        rintro e y4 ⟨rfl, k4⟩
        rw [hV.out]
        go_wp2
        go_ret
        exact ⟨(show Ending.returned (Value.string (⟨#[111, 102, 102]⟩ ++ ⟨#[32, 111, 112, 101, 110, 32]⟩ ++ AH wa ++ ⟨#[32]⟩ ++ V)) = .returned (.string T) by rw [← hT.out, e.out]), B3.trans (k4.mono B3.size)⟩
  by_cases n1 : ro = 1
  · subst n1
    cases op
    · cases has
      · have e : Hid (Ah ⟨up, false, r, c, b, p, h, l, 1, wa, false⟩ = ⟨#[114, 111, 111, 116]⟩ ++ ⟨#[32, 115, 104, 117, 116, 32]⟩ ++ AH wa ++ ⟨#[32]⟩ ++ ⟨#[45]⟩) := by
          unfold Hid
          apply ByteArray.ext
          simp [Ah, BU, Bu, Bi, ByteArray.data_append]
        have q1 : ¬ 9223372036854775807 < 10 + (AH wa).size := by omega
        have q2 : ¬ 9223372036854775807 < 10 + (AH wa).size + 1 := by omega
        have q3 : ¬ 9223372036854775807 < 10 + (AH wa).size + 1 + 1 := by omega
        have A1 := A0
        obtain ⟨c0, c1, c2, c3, c4, c5, c6, c7, c8, c9, c10⟩ := A1
        dsimp only at c0 c1 c2 c3 c4 c5 c6 c7 c8 c9 c10
        go_wp2_with fail
        go_at_call 66
        refine (CN 1 0 3 y ⟨by decide, by decide⟩).mono ?_
        rintro e y1 ⟨rfl, hy1⟩
        rw [hy1]
        clear hy1 y1
        go_wp2_with fail
        go_at_call 64
        obtain ⟨y2, hy2⟩ : ∃ z, z = y.alloc (Obj.cells #[.string ⟨#[111, 102, 102]⟩, .string ⟨#[114, 111, 111, 116]⟩, .string ⟨#[100, 101, 115]⟩, .string ⟨#[97, 108, 116]⟩] 9) := ⟨_, rfl⟩
        have j2 : Below y.heap.size y y2 := by rw [hy2]; exact (Below.refl _ _).alloc (Nat.le_refl _) _
        rw [← hy2]
        clear hy2
        have B2 := (B0.trans (j2.mono B0.size))
        have A2 := (A0.below j2 S0)
        have S2 := A2.lt
        clear c0 c1 c2 c3 c4 c5 c6 c7 c8 c9 c10 A0 B0
        refine (Bm wa y2 hwa.1 hwa.2).mono ?_
        rintro e y3 ⟨rfl, k3⟩
        rw [show (⟨(Lib.itoa wa).toArray⟩ : ByteArray) = AH wa from rfl]
        have B3 := B2.trans (k3.mono B2.size)
        have A3 := A2.below k3 S2
        obtain ⟨c0, c1, c2, c3, c4, c5, c6, c7, c8, c9, c10⟩ := A3
        dsimp only at c0 c1 c2 c3 c4 c5 c6 c7 c8 c9 c10
        go_wp2
        go_ret
        exact ⟨(show Ending.returned (Value.string (⟨#[114, 111, 111, 116]⟩ ++ ⟨#[32, 115, 104, 117, 116, 32]⟩ ++ AH wa ++ ⟨#[32]⟩ ++ ⟨#[45]⟩)) = .returned (.string T) by rw [← hT.out, e.out]), B3⟩
      · have e : Hid (Ah ⟨up, true, r, c, b, p, h, l, 1, wa, false⟩ = ⟨#[114, 111, 111, 116]⟩ ++ ⟨#[32, 115, 104, 117, 116, 32]⟩ ++ AH wa ++ ⟨#[32]⟩ ++ V) := by
          unfold Hid
          rw [← hV.out]
          apply ByteArray.ext
          simp [Ah, BU, Bu, Bi, ByteArray.data_append]
        have q1 : ¬ 9223372036854775807 < 10 + (AH wa).size := by omega
        have q2 : ¬ 9223372036854775807 < 10 + (AH wa).size + 1 := by omega
        have q3 : ¬ 9223372036854775807 < 10 + (AH wa).size + 1 + V.size := by omega
        have A1 := A0
        obtain ⟨c0, c1, c2, c3, c4, c5, c6, c7, c8, c9, c10⟩ := A1
        dsimp only at c0 c1 c2 c3 c4 c5 c6 c7 c8 c9 c10
        go_wp2_with fail
        go_at_call 66
        refine (CN 1 0 3 y ⟨by decide, by decide⟩).mono ?_
        rintro e y1 ⟨rfl, hy1⟩
        rw [hy1]
        clear hy1 y1
        go_wp2_with fail
        go_at_call 64
        obtain ⟨y2, hy2⟩ : ∃ z, z = y.alloc (Obj.cells #[.string ⟨#[111, 102, 102]⟩, .string ⟨#[114, 111, 111, 116]⟩, .string ⟨#[100, 101, 115]⟩, .string ⟨#[97, 108, 116]⟩] 9) := ⟨_, rfl⟩
        have j2 : Below y.heap.size y y2 := by rw [hy2]; exact (Below.refl _ _).alloc (Nat.le_refl _) _
        rw [← hy2]
        clear hy2
        have B2 := (B0.trans (j2.mono B0.size))
        have A2 := (A0.below j2 S0)
        have S2 := A2.lt
        clear c0 c1 c2 c3 c4 c5 c6 c7 c8 c9 c10 A0 B0
        refine (Bm wa y2 hwa.1 hwa.2).mono ?_
        rintro e y3 ⟨rfl, k3⟩
        rw [show (⟨(Lib.itoa wa).toArray⟩ : ByteArray) = AH wa from rfl]
        have B3 := B2.trans (k3.mono B2.size)
        have A3 := A2.below k3 S2
        obtain ⟨c0, c1, c2, c3, c4, c5, c6, c7, c8, c9, c10⟩ := A3
        dsimp only at c0 c1 c2 c3 c4 c5 c6 c7 c8 c9 c10
        go_wp2_with fail
        go_at_call 77
        refine (Ec r c b p y3 hr hc hb hp).mono ?_
        rintro e y4 ⟨rfl, k4⟩
        rw [hV.out]
        go_wp2
        go_ret
        exact ⟨(show Ending.returned (Value.string (⟨#[114, 111, 111, 116]⟩ ++ ⟨#[32, 115, 104, 117, 116, 32]⟩ ++ AH wa ++ ⟨#[32]⟩ ++ V)) = .returned (.string T) by rw [← hT.out, e.out]), B3.trans (k4.mono B3.size)⟩
    · cases has
      · have e : Hid (Ah ⟨up, false, r, c, b, p, h, l, 1, wa, true⟩ = ⟨#[114, 111, 111, 116]⟩ ++ ⟨#[32, 111, 112, 101, 110, 32]⟩ ++ AH wa ++ ⟨#[32]⟩ ++ ⟨#[45]⟩) := by
          unfold Hid
          apply ByteArray.ext
          simp [Ah, BU, Bu, Bi, ByteArray.data_append]
        have q1 : ¬ 9223372036854775807 < 10 + (AH wa).size := by omega
        have q2 : ¬ 9223372036854775807 < 10 + (AH wa).size + 1 := by omega
        have q3 : ¬ 9223372036854775807 < 10 + (AH wa).size + 1 + 1 := by omega
        have A1 := A0
        obtain ⟨c0, c1, c2, c3, c4, c5, c6, c7, c8, c9, c10⟩ := A1
        dsimp only at c0 c1 c2 c3 c4 c5 c6 c7 c8 c9 c10
        go_wp2_with fail
        go_at_call 66
        refine (CN 1 0 3 y ⟨by decide, by decide⟩).mono ?_
        rintro e y1 ⟨rfl, hy1⟩
        rw [hy1]
        clear hy1 y1
        go_wp2_with fail
        go_at_call 64
        obtain ⟨y2, hy2⟩ : ∃ z, z = y.alloc (Obj.cells #[.string ⟨#[111, 102, 102]⟩, .string ⟨#[114, 111, 111, 116]⟩, .string ⟨#[100, 101, 115]⟩, .string ⟨#[97, 108, 116]⟩] 9) := ⟨_, rfl⟩
        have j2 : Below y.heap.size y y2 := by rw [hy2]; exact (Below.refl _ _).alloc (Nat.le_refl _) _
        rw [← hy2]
        clear hy2
        have B2 := (B0.trans (j2.mono B0.size))
        have A2 := (A0.below j2 S0)
        have S2 := A2.lt
        clear c0 c1 c2 c3 c4 c5 c6 c7 c8 c9 c10 A0 B0
        refine (Bm wa y2 hwa.1 hwa.2).mono ?_
        rintro e y3 ⟨rfl, k3⟩
        rw [show (⟨(Lib.itoa wa).toArray⟩ : ByteArray) = AH wa from rfl]
        have B3 := B2.trans (k3.mono B2.size)
        have A3 := A2.below k3 S2
        obtain ⟨c0, c1, c2, c3, c4, c5, c6, c7, c8, c9, c10⟩ := A3
        dsimp only at c0 c1 c2 c3 c4 c5 c6 c7 c8 c9 c10
        go_wp2
        go_ret
        exact ⟨(show Ending.returned (Value.string (⟨#[114, 111, 111, 116]⟩ ++ ⟨#[32, 111, 112, 101, 110, 32]⟩ ++ AH wa ++ ⟨#[32]⟩ ++ ⟨#[45]⟩)) = .returned (.string T) by rw [← hT.out, e.out]), B3⟩
      · have e : Hid (Ah ⟨up, true, r, c, b, p, h, l, 1, wa, true⟩ = ⟨#[114, 111, 111, 116]⟩ ++ ⟨#[32, 111, 112, 101, 110, 32]⟩ ++ AH wa ++ ⟨#[32]⟩ ++ V) := by
          unfold Hid
          rw [← hV.out]
          apply ByteArray.ext
          simp [Ah, BU, Bu, Bi, ByteArray.data_append]
        have q1 : ¬ 9223372036854775807 < 10 + (AH wa).size := by omega
        have q2 : ¬ 9223372036854775807 < 10 + (AH wa).size + 1 := by omega
        have q3 : ¬ 9223372036854775807 < 10 + (AH wa).size + 1 + V.size := by omega
        have A1 := A0
        obtain ⟨c0, c1, c2, c3, c4, c5, c6, c7, c8, c9, c10⟩ := A1
        dsimp only at c0 c1 c2 c3 c4 c5 c6 c7 c8 c9 c10
        go_wp2_with fail
        go_at_call 66
        refine (CN 1 0 3 y ⟨by decide, by decide⟩).mono ?_
        rintro e y1 ⟨rfl, hy1⟩
        rw [hy1]
        clear hy1 y1
        go_wp2_with fail
        go_at_call 64
        obtain ⟨y2, hy2⟩ : ∃ z, z = y.alloc (Obj.cells #[.string ⟨#[111, 102, 102]⟩, .string ⟨#[114, 111, 111, 116]⟩, .string ⟨#[100, 101, 115]⟩, .string ⟨#[97, 108, 116]⟩] 9) := ⟨_, rfl⟩
        have j2 : Below y.heap.size y y2 := by rw [hy2]; exact (Below.refl _ _).alloc (Nat.le_refl _) _
        rw [← hy2]
        clear hy2
        have B2 := (B0.trans (j2.mono B0.size))
        have A2 := (A0.below j2 S0)
        have S2 := A2.lt
        clear c0 c1 c2 c3 c4 c5 c6 c7 c8 c9 c10 A0 B0
        refine (Bm wa y2 hwa.1 hwa.2).mono ?_
        rintro e y3 ⟨rfl, k3⟩
        rw [show (⟨(Lib.itoa wa).toArray⟩ : ByteArray) = AH wa from rfl]
        have B3 := B2.trans (k3.mono B2.size)
        have A3 := A2.below k3 S2
        obtain ⟨c0, c1, c2, c3, c4, c5, c6, c7, c8, c9, c10⟩ := A3
        dsimp only at c0 c1 c2 c3 c4 c5 c6 c7 c8 c9 c10
        go_wp2_with fail
        go_at_call 77
        refine (Ec r c b p y3 hr hc hb hp).mono ?_
        rintro e y4 ⟨rfl, k4⟩
        rw [hV.out]
        go_wp2
        go_ret
        exact ⟨(show Ending.returned (Value.string (⟨#[114, 111, 111, 116]⟩ ++ ⟨#[32, 111, 112, 101, 110, 32]⟩ ++ AH wa ++ ⟨#[32]⟩ ++ V)) = .returned (.string T) by rw [← hT.out, e.out]), B3.trans (k4.mono B3.size)⟩
  by_cases n2 : ro = 2
  · subst n2
    cases op
    · cases has
      · have e : Hid (Ah ⟨up, false, r, c, b, p, h, l, 2, wa, false⟩ = ⟨#[100, 101, 115]⟩ ++ ⟨#[32, 115, 104, 117, 116, 32]⟩ ++ AH wa ++ ⟨#[32]⟩ ++ ⟨#[45]⟩) := by
          unfold Hid
          apply ByteArray.ext
          simp [Ah, BU, Bu, Bi, ByteArray.data_append]
        have q1 : ¬ 9223372036854775807 < 9 + (AH wa).size := by omega
        have q2 : ¬ 9223372036854775807 < 9 + (AH wa).size + 1 := by omega
        have q3 : ¬ 9223372036854775807 < 9 + (AH wa).size + 1 + 1 := by omega
        have A1 := A0
        obtain ⟨c0, c1, c2, c3, c4, c5, c6, c7, c8, c9, c10⟩ := A1
        dsimp only at c0 c1 c2 c3 c4 c5 c6 c7 c8 c9 c10
        go_wp2_with fail
        go_at_call 66
        refine (CN 2 0 3 y ⟨by decide, by decide⟩).mono ?_
        rintro e y1 ⟨rfl, hy1⟩
        rw [hy1]
        clear hy1 y1
        go_wp2_with fail
        go_at_call 64
        obtain ⟨y2, hy2⟩ : ∃ z, z = y.alloc (Obj.cells #[.string ⟨#[111, 102, 102]⟩, .string ⟨#[114, 111, 111, 116]⟩, .string ⟨#[100, 101, 115]⟩, .string ⟨#[97, 108, 116]⟩] 9) := ⟨_, rfl⟩
        have j2 : Below y.heap.size y y2 := by rw [hy2]; exact (Below.refl _ _).alloc (Nat.le_refl _) _
        rw [← hy2]
        clear hy2
        have B2 := (B0.trans (j2.mono B0.size))
        have A2 := (A0.below j2 S0)
        have S2 := A2.lt
        clear c0 c1 c2 c3 c4 c5 c6 c7 c8 c9 c10 A0 B0
        refine (Bm wa y2 hwa.1 hwa.2).mono ?_
        rintro e y3 ⟨rfl, k3⟩
        rw [show (⟨(Lib.itoa wa).toArray⟩ : ByteArray) = AH wa from rfl]
        have B3 := B2.trans (k3.mono B2.size)
        have A3 := A2.below k3 S2
        obtain ⟨c0, c1, c2, c3, c4, c5, c6, c7, c8, c9, c10⟩ := A3
        dsimp only at c0 c1 c2 c3 c4 c5 c6 c7 c8 c9 c10
        go_wp2
        go_ret
        exact ⟨(show Ending.returned (Value.string (⟨#[100, 101, 115]⟩ ++ ⟨#[32, 115, 104, 117, 116, 32]⟩ ++ AH wa ++ ⟨#[32]⟩ ++ ⟨#[45]⟩)) = .returned (.string T) by rw [← hT.out, e.out]), B3⟩
      · have e : Hid (Ah ⟨up, true, r, c, b, p, h, l, 2, wa, false⟩ = ⟨#[100, 101, 115]⟩ ++ ⟨#[32, 115, 104, 117, 116, 32]⟩ ++ AH wa ++ ⟨#[32]⟩ ++ V) := by
          unfold Hid
          rw [← hV.out]
          apply ByteArray.ext
          simp [Ah, BU, Bu, Bi, ByteArray.data_append]
        have q1 : ¬ 9223372036854775807 < 9 + (AH wa).size := by omega
        have q2 : ¬ 9223372036854775807 < 9 + (AH wa).size + 1 := by omega
        have q3 : ¬ 9223372036854775807 < 9 + (AH wa).size + 1 + V.size := by omega
        have A1 := A0
        obtain ⟨c0, c1, c2, c3, c4, c5, c6, c7, c8, c9, c10⟩ := A1
        dsimp only at c0 c1 c2 c3 c4 c5 c6 c7 c8 c9 c10
        go_wp2_with fail
        go_at_call 66
        refine (CN 2 0 3 y ⟨by decide, by decide⟩).mono ?_
        rintro e y1 ⟨rfl, hy1⟩
        rw [hy1]
        clear hy1 y1
        go_wp2_with fail
        go_at_call 64
        obtain ⟨y2, hy2⟩ : ∃ z, z = y.alloc (Obj.cells #[.string ⟨#[111, 102, 102]⟩, .string ⟨#[114, 111, 111, 116]⟩, .string ⟨#[100, 101, 115]⟩, .string ⟨#[97, 108, 116]⟩] 9) := ⟨_, rfl⟩
        have j2 : Below y.heap.size y y2 := by rw [hy2]; exact (Below.refl _ _).alloc (Nat.le_refl _) _
        rw [← hy2]
        clear hy2
        have B2 := (B0.trans (j2.mono B0.size))
        have A2 := (A0.below j2 S0)
        have S2 := A2.lt
        clear c0 c1 c2 c3 c4 c5 c6 c7 c8 c9 c10 A0 B0
        refine (Bm wa y2 hwa.1 hwa.2).mono ?_
        rintro e y3 ⟨rfl, k3⟩
        rw [show (⟨(Lib.itoa wa).toArray⟩ : ByteArray) = AH wa from rfl]
        have B3 := B2.trans (k3.mono B2.size)
        have A3 := A2.below k3 S2
        obtain ⟨c0, c1, c2, c3, c4, c5, c6, c7, c8, c9, c10⟩ := A3
        dsimp only at c0 c1 c2 c3 c4 c5 c6 c7 c8 c9 c10
        go_wp2_with fail
        go_at_call 77
        refine (Ec r c b p y3 hr hc hb hp).mono ?_
        rintro e y4 ⟨rfl, k4⟩
        rw [hV.out]
        go_wp2
        go_ret
        exact ⟨(show Ending.returned (Value.string (⟨#[100, 101, 115]⟩ ++ ⟨#[32, 115, 104, 117, 116, 32]⟩ ++ AH wa ++ ⟨#[32]⟩ ++ V)) = .returned (.string T) by rw [← hT.out, e.out]), B3.trans (k4.mono B3.size)⟩
    · cases has
      · have e : Hid (Ah ⟨up, false, r, c, b, p, h, l, 2, wa, true⟩ = ⟨#[100, 101, 115]⟩ ++ ⟨#[32, 111, 112, 101, 110, 32]⟩ ++ AH wa ++ ⟨#[32]⟩ ++ ⟨#[45]⟩) := by
          unfold Hid
          apply ByteArray.ext
          simp [Ah, BU, Bu, Bi, ByteArray.data_append]
        have q1 : ¬ 9223372036854775807 < 9 + (AH wa).size := by omega
        have q2 : ¬ 9223372036854775807 < 9 + (AH wa).size + 1 := by omega
        have q3 : ¬ 9223372036854775807 < 9 + (AH wa).size + 1 + 1 := by omega
        have A1 := A0
        obtain ⟨c0, c1, c2, c3, c4, c5, c6, c7, c8, c9, c10⟩ := A1
        dsimp only at c0 c1 c2 c3 c4 c5 c6 c7 c8 c9 c10
        go_wp2_with fail
        go_at_call 66
        refine (CN 2 0 3 y ⟨by decide, by decide⟩).mono ?_
        rintro e y1 ⟨rfl, hy1⟩
        rw [hy1]
        clear hy1 y1
        go_wp2_with fail
        go_at_call 64
        obtain ⟨y2, hy2⟩ : ∃ z, z = y.alloc (Obj.cells #[.string ⟨#[111, 102, 102]⟩, .string ⟨#[114, 111, 111, 116]⟩, .string ⟨#[100, 101, 115]⟩, .string ⟨#[97, 108, 116]⟩] 9) := ⟨_, rfl⟩
        have j2 : Below y.heap.size y y2 := by rw [hy2]; exact (Below.refl _ _).alloc (Nat.le_refl _) _
        rw [← hy2]
        clear hy2
        have B2 := (B0.trans (j2.mono B0.size))
        have A2 := (A0.below j2 S0)
        have S2 := A2.lt
        clear c0 c1 c2 c3 c4 c5 c6 c7 c8 c9 c10 A0 B0
        refine (Bm wa y2 hwa.1 hwa.2).mono ?_
        rintro e y3 ⟨rfl, k3⟩
        rw [show (⟨(Lib.itoa wa).toArray⟩ : ByteArray) = AH wa from rfl]
        have B3 := B2.trans (k3.mono B2.size)
        have A3 := A2.below k3 S2
        obtain ⟨c0, c1, c2, c3, c4, c5, c6, c7, c8, c9, c10⟩ := A3
        dsimp only at c0 c1 c2 c3 c4 c5 c6 c7 c8 c9 c10
        go_wp2
        go_ret
        exact ⟨(show Ending.returned (Value.string (⟨#[100, 101, 115]⟩ ++ ⟨#[32, 111, 112, 101, 110, 32]⟩ ++ AH wa ++ ⟨#[32]⟩ ++ ⟨#[45]⟩)) = .returned (.string T) by rw [← hT.out, e.out]), B3⟩
      · have e : Hid (Ah ⟨up, true, r, c, b, p, h, l, 2, wa, true⟩ = ⟨#[100, 101, 115]⟩ ++ ⟨#[32, 111, 112, 101, 110, 32]⟩ ++ AH wa ++ ⟨#[32]⟩ ++ V) := by
          unfold Hid
          rw [← hV.out]
          apply ByteArray.ext
          simp [Ah, BU, Bu, Bi, ByteArray.data_append]
        have q1 : ¬ 9223372036854775807 < 9 + (AH wa).size := by omega
        have q2 : ¬ 9223372036854775807 < 9 + (AH wa).size + 1 := by omega
        have q3 : ¬ 9223372036854775807 < 9 + (AH wa).size + 1 + V.size := by omega
        have A1 := A0
        obtain ⟨c0, c1, c2, c3, c4, c5, c6, c7, c8, c9, c10⟩ := A1
        dsimp only at c0 c1 c2 c3 c4 c5 c6 c7 c8 c9 c10
        go_wp2_with fail
        go_at_call 66
        refine (CN 2 0 3 y ⟨by decide, by decide⟩).mono ?_
        rintro e y1 ⟨rfl, hy1⟩
        rw [hy1]
        clear hy1 y1
        go_wp2_with fail
        go_at_call 64
        obtain ⟨y2, hy2⟩ : ∃ z, z = y.alloc (Obj.cells #[.string ⟨#[111, 102, 102]⟩, .string ⟨#[114, 111, 111, 116]⟩, .string ⟨#[100, 101, 115]⟩, .string ⟨#[97, 108, 116]⟩] 9) := ⟨_, rfl⟩
        have j2 : Below y.heap.size y y2 := by rw [hy2]; exact (Below.refl _ _).alloc (Nat.le_refl _) _
        rw [← hy2]
        clear hy2
        have B2 := (B0.trans (j2.mono B0.size))
        have A2 := (A0.below j2 S0)
        have S2 := A2.lt
        clear c0 c1 c2 c3 c4 c5 c6 c7 c8 c9 c10 A0 B0
        refine (Bm wa y2 hwa.1 hwa.2).mono ?_
        rintro e y3 ⟨rfl, k3⟩
        rw [show (⟨(Lib.itoa wa).toArray⟩ : ByteArray) = AH wa from rfl]
        have B3 := B2.trans (k3.mono B2.size)
        have A3 := A2.below k3 S2
        obtain ⟨c0, c1, c2, c3, c4, c5, c6, c7, c8, c9, c10⟩ := A3
        dsimp only at c0 c1 c2 c3 c4 c5 c6 c7 c8 c9 c10
        go_wp2_with fail
        go_at_call 77
        refine (Ec r c b p y3 hr hc hb hp).mono ?_
        rintro e y4 ⟨rfl, k4⟩
        rw [hV.out]
        go_wp2
        go_ret
        exact ⟨(show Ending.returned (Value.string (⟨#[100, 101, 115]⟩ ++ ⟨#[32, 111, 112, 101, 110, 32]⟩ ++ AH wa ++ ⟨#[32]⟩ ++ V)) = .returned (.string T) by rw [← hT.out, e.out]), B3.trans (k4.mono B3.size)⟩
  by_cases n3 : ro = 3
  · subst n3
    cases op
    · cases has
      · have e : Hid (Ah ⟨up, false, r, c, b, p, h, l, 3, wa, false⟩ = ⟨#[97, 108, 116]⟩ ++ ⟨#[32, 115, 104, 117, 116, 32]⟩ ++ AH wa ++ ⟨#[32]⟩ ++ ⟨#[45]⟩) := by
          unfold Hid
          apply ByteArray.ext
          simp [Ah, BU, Bu, Bi, ByteArray.data_append]
        have q1 : ¬ 9223372036854775807 < 9 + (AH wa).size := by omega
        have q2 : ¬ 9223372036854775807 < 9 + (AH wa).size + 1 := by omega
        have q3 : ¬ 9223372036854775807 < 9 + (AH wa).size + 1 + 1 := by omega
        have A1 := A0
        obtain ⟨c0, c1, c2, c3, c4, c5, c6, c7, c8, c9, c10⟩ := A1
        dsimp only at c0 c1 c2 c3 c4 c5 c6 c7 c8 c9 c10
        go_wp2_with fail
        go_at_call 66
        refine (CN 3 0 3 y ⟨by decide, by decide⟩).mono ?_
        rintro e y1 ⟨rfl, hy1⟩
        rw [hy1]
        clear hy1 y1
        go_wp2_with fail
        go_at_call 64
        obtain ⟨y2, hy2⟩ : ∃ z, z = y.alloc (Obj.cells #[.string ⟨#[111, 102, 102]⟩, .string ⟨#[114, 111, 111, 116]⟩, .string ⟨#[100, 101, 115]⟩, .string ⟨#[97, 108, 116]⟩] 9) := ⟨_, rfl⟩
        have j2 : Below y.heap.size y y2 := by rw [hy2]; exact (Below.refl _ _).alloc (Nat.le_refl _) _
        rw [← hy2]
        clear hy2
        have B2 := (B0.trans (j2.mono B0.size))
        have A2 := (A0.below j2 S0)
        have S2 := A2.lt
        clear c0 c1 c2 c3 c4 c5 c6 c7 c8 c9 c10 A0 B0
        refine (Bm wa y2 hwa.1 hwa.2).mono ?_
        rintro e y3 ⟨rfl, k3⟩
        rw [show (⟨(Lib.itoa wa).toArray⟩ : ByteArray) = AH wa from rfl]
        have B3 := B2.trans (k3.mono B2.size)
        have A3 := A2.below k3 S2
        obtain ⟨c0, c1, c2, c3, c4, c5, c6, c7, c8, c9, c10⟩ := A3
        dsimp only at c0 c1 c2 c3 c4 c5 c6 c7 c8 c9 c10
        go_wp2
        go_ret
        exact ⟨(show Ending.returned (Value.string (⟨#[97, 108, 116]⟩ ++ ⟨#[32, 115, 104, 117, 116, 32]⟩ ++ AH wa ++ ⟨#[32]⟩ ++ ⟨#[45]⟩)) = .returned (.string T) by rw [← hT.out, e.out]), B3⟩
      · have e : Hid (Ah ⟨up, true, r, c, b, p, h, l, 3, wa, false⟩ = ⟨#[97, 108, 116]⟩ ++ ⟨#[32, 115, 104, 117, 116, 32]⟩ ++ AH wa ++ ⟨#[32]⟩ ++ V) := by
          unfold Hid
          rw [← hV.out]
          apply ByteArray.ext
          simp [Ah, BU, Bu, Bi, ByteArray.data_append]
        have q1 : ¬ 9223372036854775807 < 9 + (AH wa).size := by omega
        have q2 : ¬ 9223372036854775807 < 9 + (AH wa).size + 1 := by omega
        have q3 : ¬ 9223372036854775807 < 9 + (AH wa).size + 1 + V.size := by omega
        have A1 := A0
        obtain ⟨c0, c1, c2, c3, c4, c5, c6, c7, c8, c9, c10⟩ := A1
        dsimp only at c0 c1 c2 c3 c4 c5 c6 c7 c8 c9 c10
        go_wp2_with fail
        go_at_call 66
        refine (CN 3 0 3 y ⟨by decide, by decide⟩).mono ?_
        rintro e y1 ⟨rfl, hy1⟩
        rw [hy1]
        clear hy1 y1
        go_wp2_with fail
        go_at_call 64
        obtain ⟨y2, hy2⟩ : ∃ z, z = y.alloc (Obj.cells #[.string ⟨#[111, 102, 102]⟩, .string ⟨#[114, 111, 111, 116]⟩, .string ⟨#[100, 101, 115]⟩, .string ⟨#[97, 108, 116]⟩] 9) := ⟨_, rfl⟩
        have j2 : Below y.heap.size y y2 := by rw [hy2]; exact (Below.refl _ _).alloc (Nat.le_refl _) _
        rw [← hy2]
        clear hy2
        have B2 := (B0.trans (j2.mono B0.size))
        have A2 := (A0.below j2 S0)
        have S2 := A2.lt
        clear c0 c1 c2 c3 c4 c5 c6 c7 c8 c9 c10 A0 B0
        refine (Bm wa y2 hwa.1 hwa.2).mono ?_
        rintro e y3 ⟨rfl, k3⟩
        rw [show (⟨(Lib.itoa wa).toArray⟩ : ByteArray) = AH wa from rfl]
        have B3 := B2.trans (k3.mono B2.size)
        have A3 := A2.below k3 S2
        obtain ⟨c0, c1, c2, c3, c4, c5, c6, c7, c8, c9, c10⟩ := A3
        dsimp only at c0 c1 c2 c3 c4 c5 c6 c7 c8 c9 c10
        go_wp2_with fail
        go_at_call 77
        refine (Ec r c b p y3 hr hc hb hp).mono ?_
        rintro e y4 ⟨rfl, k4⟩
        rw [hV.out]
        go_wp2
        go_ret
        exact ⟨(show Ending.returned (Value.string (⟨#[97, 108, 116]⟩ ++ ⟨#[32, 115, 104, 117, 116, 32]⟩ ++ AH wa ++ ⟨#[32]⟩ ++ V)) = .returned (.string T) by rw [← hT.out, e.out]), B3.trans (k4.mono B3.size)⟩
    · cases has
      · have e : Hid (Ah ⟨up, false, r, c, b, p, h, l, 3, wa, true⟩ = ⟨#[97, 108, 116]⟩ ++ ⟨#[32, 111, 112, 101, 110, 32]⟩ ++ AH wa ++ ⟨#[32]⟩ ++ ⟨#[45]⟩) := by
          unfold Hid
          apply ByteArray.ext
          simp [Ah, BU, Bu, Bi, ByteArray.data_append]
        have q1 : ¬ 9223372036854775807 < 9 + (AH wa).size := by omega
        have q2 : ¬ 9223372036854775807 < 9 + (AH wa).size + 1 := by omega
        have q3 : ¬ 9223372036854775807 < 9 + (AH wa).size + 1 + 1 := by omega
        have A1 := A0
        obtain ⟨c0, c1, c2, c3, c4, c5, c6, c7, c8, c9, c10⟩ := A1
        dsimp only at c0 c1 c2 c3 c4 c5 c6 c7 c8 c9 c10
        go_wp2_with fail
        go_at_call 66
        refine (CN 3 0 3 y ⟨by decide, by decide⟩).mono ?_
        rintro e y1 ⟨rfl, hy1⟩
        rw [hy1]
        clear hy1 y1
        go_wp2_with fail
        go_at_call 64
        obtain ⟨y2, hy2⟩ : ∃ z, z = y.alloc (Obj.cells #[.string ⟨#[111, 102, 102]⟩, .string ⟨#[114, 111, 111, 116]⟩, .string ⟨#[100, 101, 115]⟩, .string ⟨#[97, 108, 116]⟩] 9) := ⟨_, rfl⟩
        have j2 : Below y.heap.size y y2 := by rw [hy2]; exact (Below.refl _ _).alloc (Nat.le_refl _) _
        rw [← hy2]
        clear hy2
        have B2 := (B0.trans (j2.mono B0.size))
        have A2 := (A0.below j2 S0)
        have S2 := A2.lt
        clear c0 c1 c2 c3 c4 c5 c6 c7 c8 c9 c10 A0 B0
        refine (Bm wa y2 hwa.1 hwa.2).mono ?_
        rintro e y3 ⟨rfl, k3⟩
        rw [show (⟨(Lib.itoa wa).toArray⟩ : ByteArray) = AH wa from rfl]
        have B3 := B2.trans (k3.mono B2.size)
        have A3 := A2.below k3 S2
        obtain ⟨c0, c1, c2, c3, c4, c5, c6, c7, c8, c9, c10⟩ := A3
        dsimp only at c0 c1 c2 c3 c4 c5 c6 c7 c8 c9 c10
        go_wp2
        go_ret
        exact ⟨(show Ending.returned (Value.string (⟨#[97, 108, 116]⟩ ++ ⟨#[32, 111, 112, 101, 110, 32]⟩ ++ AH wa ++ ⟨#[32]⟩ ++ ⟨#[45]⟩)) = .returned (.string T) by rw [← hT.out, e.out]), B3⟩
      · have e : Hid (Ah ⟨up, true, r, c, b, p, h, l, 3, wa, true⟩ = ⟨#[97, 108, 116]⟩ ++ ⟨#[32, 111, 112, 101, 110, 32]⟩ ++ AH wa ++ ⟨#[32]⟩ ++ V) := by
          unfold Hid
          rw [← hV.out]
          apply ByteArray.ext
          simp [Ah, BU, Bu, Bi, ByteArray.data_append]
        have q1 : ¬ 9223372036854775807 < 9 + (AH wa).size := by omega
        have q2 : ¬ 9223372036854775807 < 9 + (AH wa).size + 1 := by omega
        have q3 : ¬ 9223372036854775807 < 9 + (AH wa).size + 1 + V.size := by omega
        have A1 := A0
        obtain ⟨c0, c1, c2, c3, c4, c5, c6, c7, c8, c9, c10⟩ := A1
        dsimp only at c0 c1 c2 c3 c4 c5 c6 c7 c8 c9 c10
        go_wp2_with fail
        go_at_call 66
        refine (CN 3 0 3 y ⟨by decide, by decide⟩).mono ?_
        rintro e y1 ⟨rfl, hy1⟩
        rw [hy1]
        clear hy1 y1
        go_wp2_with fail
        go_at_call 64
        obtain ⟨y2, hy2⟩ : ∃ z, z = y.alloc (Obj.cells #[.string ⟨#[111, 102, 102]⟩, .string ⟨#[114, 111, 111, 116]⟩, .string ⟨#[100, 101, 115]⟩, .string ⟨#[97, 108, 116]⟩] 9) := ⟨_, rfl⟩
        have j2 : Below y.heap.size y y2 := by rw [hy2]; exact (Below.refl _ _).alloc (Nat.le_refl _) _
        rw [← hy2]
        clear hy2
        have B2 := (B0.trans (j2.mono B0.size))
        have A2 := (A0.below j2 S0)
        have S2 := A2.lt
        clear c0 c1 c2 c3 c4 c5 c6 c7 c8 c9 c10 A0 B0
        refine (Bm wa y2 hwa.1 hwa.2).mono ?_
        rintro e y3 ⟨rfl, k3⟩
        rw [show (⟨(Lib.itoa wa).toArray⟩ : ByteArray) = AH wa from rfl]
        have B3 := B2.trans (k3.mono B2.size)
        have A3 := A2.below k3 S2
        obtain ⟨c0, c1, c2, c3, c4, c5, c6, c7, c8, c9, c10⟩ := A3
        dsimp only at c0 c1 c2 c3 c4 c5 c6 c7 c8 c9 c10
        go_wp2_with fail
        go_at_call 77
        refine (Ec r c b p y3 hr hc hb hp).mono ?_
        rintro e y4 ⟨rfl, k4⟩
        rw [hV.out]
        go_wp2
        go_ret
        exact ⟨(show Ending.returned (Value.string (⟨#[97, 108, 116]⟩ ++ ⟨#[32, 111, 112, 101, 110, 32]⟩ ++ AH wa ++ ⟨#[32]⟩ ++ V)) = .returned (.string T) by rw [← hT.out, e.out]), B3.trans (k4.mono B3.size)⟩
  cases op
  · cases has
    · have e : Hid (Ah ⟨up, false, r, c, b, p, h, l, ro, wa, false⟩ = ⟨#[110, 111, 110, 101]⟩ ++ ⟨#[32, 115, 104, 117, 116, 32]⟩ ++ AH wa ++ ⟨#[32]⟩ ++ ⟨#[45]⟩) := by
        unfold Hid
        apply ByteArray.ext
        simp [Ah, BU, Bu, Bi, ByteArray.data_append, n0, n1, n2, n3]
      have q1 : ¬ 9223372036854775807 < 10 + (AH wa).size := by omega
      have q2 : ¬ 9223372036854775807 < 10 + (AH wa).size + 1 := by omega
      have q3 : ¬ 9223372036854775807 < 10 + (AH wa).size + 1 + 1 := by omega
      have A1 := A0
      obtain ⟨c0, c1, c2, c3, c4, c5, c6, c7, c8, c9, c10⟩ := A1
      dsimp only at c0 c1 c2 c3 c4 c5 c6 c7 c8 c9 c10
      go_wp2_with fail
      go_at_call 66
      refine (Dz ro 0 3 y (by omega)).mono ?_
      rintro e y1 ⟨rfl, hy1⟩
      rw [hy1]
      clear hy1 y1
      go_wp2_with fail
      go_at_call 64
      have B2 := B0
      have A2 := A0
      have S2 := A2.lt
      clear c0 c1 c2 c3 c4 c5 c6 c7 c8 c9 c10 A0 B0
      refine (Bm wa y hwa.1 hwa.2).mono ?_
      rintro e y3 ⟨rfl, k3⟩
      rw [show (⟨(Lib.itoa wa).toArray⟩ : ByteArray) = AH wa from rfl]
      have B3 := B2.trans (k3.mono B2.size)
      have A3 := A2.below k3 S2
      obtain ⟨c0, c1, c2, c3, c4, c5, c6, c7, c8, c9, c10⟩ := A3
      dsimp only at c0 c1 c2 c3 c4 c5 c6 c7 c8 c9 c10
      go_wp2
      go_ret
      exact ⟨(show Ending.returned (Value.string (⟨#[110, 111, 110, 101]⟩ ++ ⟨#[32, 115, 104, 117, 116, 32]⟩ ++ AH wa ++ ⟨#[32]⟩ ++ ⟨#[45]⟩)) = .returned (.string T) by rw [← hT.out, e.out]), B3⟩
    · have e : Hid (Ah ⟨up, true, r, c, b, p, h, l, ro, wa, false⟩ = ⟨#[110, 111, 110, 101]⟩ ++ ⟨#[32, 115, 104, 117, 116, 32]⟩ ++ AH wa ++ ⟨#[32]⟩ ++ V) := by
        unfold Hid
        rw [← hV.out]
        apply ByteArray.ext
        simp [Ah, BU, Bu, Bi, ByteArray.data_append, n0, n1, n2, n3]
      have q1 : ¬ 9223372036854775807 < 10 + (AH wa).size := by omega
      have q2 : ¬ 9223372036854775807 < 10 + (AH wa).size + 1 := by omega
      have q3 : ¬ 9223372036854775807 < 10 + (AH wa).size + 1 + V.size := by omega
      have A1 := A0
      obtain ⟨c0, c1, c2, c3, c4, c5, c6, c7, c8, c9, c10⟩ := A1
      dsimp only at c0 c1 c2 c3 c4 c5 c6 c7 c8 c9 c10
      go_wp2_with fail
      go_at_call 66
      refine (Dz ro 0 3 y (by omega)).mono ?_
      rintro e y1 ⟨rfl, hy1⟩
      rw [hy1]
      clear hy1 y1
      go_wp2_with fail
      go_at_call 64
      have B2 := B0
      have A2 := A0
      have S2 := A2.lt
      clear c0 c1 c2 c3 c4 c5 c6 c7 c8 c9 c10 A0 B0
      refine (Bm wa y hwa.1 hwa.2).mono ?_
      rintro e y3 ⟨rfl, k3⟩
      rw [show (⟨(Lib.itoa wa).toArray⟩ : ByteArray) = AH wa from rfl]
      have B3 := B2.trans (k3.mono B2.size)
      have A3 := A2.below k3 S2
      obtain ⟨c0, c1, c2, c3, c4, c5, c6, c7, c8, c9, c10⟩ := A3
      dsimp only at c0 c1 c2 c3 c4 c5 c6 c7 c8 c9 c10
      go_wp2_with fail
      go_at_call 77
      refine (Ec r c b p y3 hr hc hb hp).mono ?_
      rintro e y4 ⟨rfl, k4⟩
      rw [hV.out]
      go_wp2
      go_ret
      exact ⟨(show Ending.returned (Value.string (⟨#[110, 111, 110, 101]⟩ ++ ⟨#[32, 115, 104, 117, 116, 32]⟩ ++ AH wa ++ ⟨#[32]⟩ ++ V)) = .returned (.string T) by rw [← hT.out, e.out]), B3.trans (k4.mono B3.size)⟩
  · cases has
    · have e : Hid (Ah ⟨up, false, r, c, b, p, h, l, ro, wa, true⟩ = ⟨#[110, 111, 110, 101]⟩ ++ ⟨#[32, 111, 112, 101, 110, 32]⟩ ++ AH wa ++ ⟨#[32]⟩ ++ ⟨#[45]⟩) := by
        unfold Hid
        apply ByteArray.ext
        simp [Ah, BU, Bu, Bi, ByteArray.data_append, n0, n1, n2, n3]
      have q1 : ¬ 9223372036854775807 < 10 + (AH wa).size := by omega
      have q2 : ¬ 9223372036854775807 < 10 + (AH wa).size + 1 := by omega
      have q3 : ¬ 9223372036854775807 < 10 + (AH wa).size + 1 + 1 := by omega
      have A1 := A0
      obtain ⟨c0, c1, c2, c3, c4, c5, c6, c7, c8, c9, c10⟩ := A1
      dsimp only at c0 c1 c2 c3 c4 c5 c6 c7 c8 c9 c10
      go_wp2_with fail
      go_at_call 66
      refine (Dz ro 0 3 y (by omega)).mono ?_
      rintro e y1 ⟨rfl, hy1⟩
      rw [hy1]
      clear hy1 y1
      go_wp2_with fail
      go_at_call 64
      have B2 := B0
      have A2 := A0
      have S2 := A2.lt
      clear c0 c1 c2 c3 c4 c5 c6 c7 c8 c9 c10 A0 B0
      refine (Bm wa y hwa.1 hwa.2).mono ?_
      rintro e y3 ⟨rfl, k3⟩
      rw [show (⟨(Lib.itoa wa).toArray⟩ : ByteArray) = AH wa from rfl]
      have B3 := B2.trans (k3.mono B2.size)
      have A3 := A2.below k3 S2
      obtain ⟨c0, c1, c2, c3, c4, c5, c6, c7, c8, c9, c10⟩ := A3
      dsimp only at c0 c1 c2 c3 c4 c5 c6 c7 c8 c9 c10
      go_wp2
      go_ret
      exact ⟨(show Ending.returned (Value.string (⟨#[110, 111, 110, 101]⟩ ++ ⟨#[32, 111, 112, 101, 110, 32]⟩ ++ AH wa ++ ⟨#[32]⟩ ++ ⟨#[45]⟩)) = .returned (.string T) by rw [← hT.out, e.out]), B3⟩
    · have e : Hid (Ah ⟨up, true, r, c, b, p, h, l, ro, wa, true⟩ = ⟨#[110, 111, 110, 101]⟩ ++ ⟨#[32, 111, 112, 101, 110, 32]⟩ ++ AH wa ++ ⟨#[32]⟩ ++ V) := by
        unfold Hid
        rw [← hV.out]
        apply ByteArray.ext
        simp [Ah, BU, Bu, Bi, ByteArray.data_append, n0, n1, n2, n3]
      have q1 : ¬ 9223372036854775807 < 10 + (AH wa).size := by omega
      have q2 : ¬ 9223372036854775807 < 10 + (AH wa).size + 1 := by omega
      have q3 : ¬ 9223372036854775807 < 10 + (AH wa).size + 1 + V.size := by omega
      have A1 := A0
      obtain ⟨c0, c1, c2, c3, c4, c5, c6, c7, c8, c9, c10⟩ := A1
      dsimp only at c0 c1 c2 c3 c4 c5 c6 c7 c8 c9 c10
      go_wp2_with fail
      go_at_call 66
      refine (Dz ro 0 3 y (by omega)).mono ?_
      rintro e y1 ⟨rfl, hy1⟩
      rw [hy1]
      clear hy1 y1
      go_wp2_with fail
      go_at_call 64
      have B2 := B0
      have A2 := A0
      have S2 := A2.lt
      clear c0 c1 c2 c3 c4 c5 c6 c7 c8 c9 c10 A0 B0
      refine (Bm wa y hwa.1 hwa.2).mono ?_
      rintro e y3 ⟨rfl, k3⟩
      rw [show (⟨(Lib.itoa wa).toArray⟩ : ByteArray) = AH wa from rfl]
      have B3 := B2.trans (k3.mono B2.size)
      have A3 := A2.below k3 S2
      obtain ⟨c0, c1, c2, c3, c4, c5, c6, c7, c8, c9, c10⟩ := A3
      dsimp only at c0 c1 c2 c3 c4 c5 c6 c7 c8 c9 c10
      go_wp2_with fail
      go_at_call 77
      refine (Ec r c b p y3 hr hc hb hp).mono ?_
      rintro e y4 ⟨rfl, k4⟩
      rw [hV.out]
      go_wp2
      go_ret
      exact ⟨(show Ending.returned (Value.string (⟨#[110, 111, 110, 101]⟩ ++ ⟨#[32, 111, 112, 101, 110, 32]⟩ ++ AH wa ++ ⟨#[32]⟩ ++ V)) = .returned (.string T) by rw [← hT.out, e.out]), B3.trans (k4.mono B3.size)⟩
def Dm (id : Int) (L : List Pt) : ByteArray := L.foldl (fun s x => s ++ Ah x ++ ⟨#[10]⟩) (AH id ++ ⟨#[10]⟩)
def DQ (id : Int) (L : List Pt) : List Be := L.foldl (fun s x => s ++ DA x ++ [.inr none]) [.inr (some id), .inr none]
theorem KA (id : Int) {L : List Pt} {k : Nat} (hk : k < L.length) : Dm id (L.take k) ++ Ah (L.getD k Pt.nil) ++ ⟨#[10]⟩ = Dm id (L.take (k + 1)) := by
  have e : L.getD k Pt.nil = L[k] := by simp [List.getD, List.getElem?_eq_getElem hk]
  rw [e, List.take_add_one, List.getElem?_eq_getElem hk, Dm, Dm, List.foldl_append]
  rfl
theorem KB (id : Int) {L : List Pt} {k : Nat} (hk : k < L.length) : DQ id (L.take k) ++ DA (L.getD k Pt.nil) ++ [.inr none] = DQ id (L.take (k + 1)) := by
  have e : L.getD k Pt.nil = L[k] := by simp [List.getD, List.getElem?_eq_getElem hk]
  rw [e, List.take_add_one, List.getElem?_eq_getElem hk, DQ, DQ, List.foldl_append]
  rfl
theorem Hm (x : Pt) (h : Cy x) : (Ah x).size ≤ 130 := by
  have h1 := Hl x.ro
  have h2 := Hn x.op
  have h3 := Hw x h
  have h4 := Bj h.2.2.2.2.1 h.2.2.2.2.2
  unfold Ah
  simp only [ByteArray.size_append]
  have e : (⟨#[32]⟩ : ByteArray).size = 1 := rfl
  omega
theorem J9 (id : Int) (hid : BK id) (L : List Pt) (h : ∀ x ∈ L, Cy x) : (Dm id L).size ≤ 22 + 131 * L.length := by
  have key : ∀ (L : List Pt), (∀ x ∈ L, Cy x) → ∀ s : ByteArray, (L.foldl (fun s x => s ++ Ah x ++ ⟨#[10]⟩) s).size ≤ s.size + 131 * L.length := by
    intro L
    induction L with
    | nil => intro _ s; simp
    | cons x L ih =>
      intro h s
      have h1 := ih (fun y hy => h y (List.mem_cons_of_mem _ hy)) (s ++ Ah x ++ ⟨#[10]⟩)
      have h2 := Hm x (h x List.mem_cons_self)
      have e : (s ++ Ah x ++ ⟨#[10]⟩).size = s.size + (Ah x).size + 1 := by simp only [ByteArray.size_append]; rfl
      simp only [List.foldl_cons, List.length_cons]
      omega
  have h1 := key L h (AH id ++ ⟨#[10]⟩)
  have h2 := Bj hid.1 hid.2
  have e : (AH id ++ ⟨#[10]⟩).size = (AH id).size + 1 := by simp only [ByteArray.size_append]; rfl
  unfold Dm
  omega
theorem H8 (id : Int) (L : List Pt) : (DQ id L).length = 2 + 5 * L.length := by
  have key : ∀ (L : List Pt) (s : List Be), (L.foldl (fun s x => s ++ DA x ++ [.inr none]) s).length = s.length + 5 * L.length := by
    intro L
    induction L with
    | nil => intro s; simp
    | cons x L ih =>
      intro s
      simp only [List.foldl_cons, List.length_cons]
      rw [ih]
      simp only [List.length_append, DA, List.length_cons, List.length_nil]
      omega
  unfold DQ
  rw [key]
  simp
theorem LB (id : Int) (hid : BK id) (L : List Pt) (h : ∀ x ∈ L, Cy x) : ∀ y ∈ DQ id L, pW y := by
  have key : ∀ (L : List Pt), (∀ x ∈ L, Cy x) → ∀ s : List Be, (∀ y ∈ s, pW y) → ∀ y ∈ L.foldl (fun s x => s ++ DA x ++ [.inr none]) s, pW y := by
    intro L
    induction L with
    | nil => intro _ s hs y hy; exact hs y hy
    | cons x L ih =>
      intro h s hs
      refine ih (fun y hy => h y (List.mem_cons_of_mem _ hy)) _ fun y hy => ?_
      simp only [List.mem_append, List.mem_cons, List.not_mem_nil, or_false] at hy
      rcases hy with (hy | hy) | rfl
      · exact hs y hy
      · exact ID x (h x List.mem_cons_self) y hy
      · trivial
  refine key L h _ fun y hy => ?_
  simp only [List.mem_cons, List.not_mem_nil, or_false] at hy
  rcases hy with rfl | rfl
  · exact hid
  · trivial
theorem I7 (id : Int) (L : List Pt) : Et (DQ id L) = Dm id L := by
  have key : ∀ (L : List Pt) (s : List Be) (B : ByteArray), BI s = (B.data.toList, false) → BI (L.foldl (fun s x => s ++ DA x ++ [.inr none]) s) = ((L.foldl (fun s x => s ++ Ah x ++ ⟨#[10]⟩) B).data.toList, false) := by
    intro L
    induction L with
    | nil => intro s B h; exact h
    | cons x L ih =>
      intro s B h
      refine ih _ _ ?_
      unfold BI at h ⊢
      rw [List.foldl_append, List.foldl_append, h]
      simp [DA, Ce, pE, pT, Ah, ByteArray.data_append]
  have h := key L [.inr (some id), .inr none] (AH id ++ ⟨#[10]⟩) (by simp [BI, Ce, pE, pT, ByteArray.data_append])
  apply ByteArray.ext
  unfold Et DQ Dm
  rw [h]
theorem Lo (id : Int) (ad : Option Addr) (cap : Nat) (L : List Pt) (w : World) (hid : BK id) (hv : AI AK w ad L) (hws : ∀ x ∈ L, Cy x) (hl : L.length ≤ 1048576) :
    Calls prog 34 #[.agg #[.int .i64 id, .slice ad L.length cap]] w fun e w' => e = .returned (.string (Dm id L)) ∧ Below w.heap.size w w' := by
  have hB := hv.lt AV (by omega)
  obtain ⟨y, hy⟩ : ∃ y, y = w.alloc (Obj.cells #[.int .i64 id, .slice ad L.length cap] 51) := ⟨_, rfl⟩
  have B0 : Below w.heap.size w y := by rw [hy]; exact Ax _
  have A0 : Ap y w.heap.size id (.slice ad L.length cap) := by rw [hy]; exact Ap.new _ _ _ _
  have S0 := A0.lt
  have hv1 := hv.below B0 hB
  have hB1 := hv1.lt AV (by omega)
  have z0 := Bj hid.1 hid.2
  have q1 : ¬ 9223372036854775807 < (AH id).size + 1 := by omega
  go_enter func34, ntmps34
  go_upto_region 1 with fail
  rw [← hy]
  clear hy
  have A0' := A0
  obtain ⟨a0, a1⟩ := A0'
  go_wp2_with fail
  go_at_call 64
  clear a0 a1
  refine (Bm id y hid.1 hid.2).mono ?_
  rintro e w1 ⟨rfl, k1⟩
  rw [show (⟨(Lib.itoa id).toArray⟩ : ByteArray) = AH id from rfl]
  have B1 := B0.trans (k1.mono B0.size)
  have A1 := A0.below k1 S0
  have S1 := A1.lt
  have hv2 := hv1.below k1 hB1
  have hB2 := hv2.lt AV (by omega)
  clear A0 B0 S0 hv hB hv1 hB1 k1
  go_wp2
  go_loopw [3, 4] (fun o i wr => ∃ k : Nat, k ≤ L.length ∧ i = .int .i64 k ∧ o = .string (Dm id (L.take k)) ∧ Below w1.heap.size w1 wr) (fun _ i _ => L.length - (intOf i).toNat)
  case atStart => exact ⟨0, Nat.zero_le _, rfl, rfl, Below.refl _ _⟩
  case round =>
    obtain ⟨k, hk, rfl, rfl, B⟩ := hrel
    obtain ⟨a0, a1⟩ := A1.below B S1
    by_cases hlt : k < L.length
    · obtain ⟨b, off, e_b, _⟩ := hv2 (by omega)
      replace e_b : _ = some (⟨b, off, none⟩ : Addr) := e_b
      subst e_b
      have HT : Hid (Dm id (L.take k) ++ Ah (L.getD k Pt.nil) ++ ⟨#[10]⟩ = Dm id (L.take (k + 1))) := KA id hlt
      have hm : (Dm id (L.take k)).size ≤ 200000000 := by
        have h1 := J9 id hid (L.take k) (fun x hx => hws x (List.mem_of_mem_take hx))
        have h2 : (L.take k).length ≤ k := by simp; omega
        omega
      have hx : Cy (L.getD k Pt.nil) := hws _ (by rw [show L.getD k Pt.nil = L[k] by simp [List.getD, List.getElem?_eq_getElem hlt]]; exact List.getElem_mem hlt)
      obtain ⟨x, hxe⟩ : ∃ x, L.getD k Pt.nil = x := ⟨_, rfl⟩
      have hck : CA wr b (off + k * 11) x := by
        rw [← hxe]
        exact CP ((hv2.below B hB2).at_ AV Pt.nil hlt)
      rw [hxe] at HT hx
      clear hxe
      have hbl : b < wr.heap.size := World.block_lt_of_cell? wr _ hck.c0
      obtain ⟨c0, c1, c2, c3, c4, c5, c6, c7, c8, c9, c10⟩ := hck
      generalize Dm id (L.take k) = M at HT hm ⊢
      go_wp2_with fail
      go_at_call 32
      clear c0 c1 c2 c3 c4 c5 c6 c7 c8 c9 c10
      refine (In x wr hx).mono ?_
      rintro e w2 ⟨rfl, k2⟩
      have hT := Hm x hx
      generalize Ah x = T at HT hT ⊢
      have q2 : ¬ 9223372036854775807 < M.size + T.size := by omega
      have q3 : ¬ 9223372036854775807 < M.size + T.size + 1 := by omega
      have B2 := B.trans (k2.mono B.size)
      go_wp2
      go_roundw
      case rel => exact ⟨k + 1, by omega, by go_num, by rw [← HT.out], B2⟩
      case measure => simp [intOf]; omega
    · obtain rfl : k = L.length := by omega
      rw [List.take_length]
      go_wp2
      go_ret
      exact ⟨rfl, B1.trans (B.mono B1.size)⟩
theorem Lp (id : Int) (ad : Option Addr) (cap : Nat) (L : List Pt) (w : World) (hid : BK id) (hv : AI AK w ad L) (hws : ∀ x ∈ L, Cy x) (hl : L.length ≤ 1048576) (htab : Dx w) :
    Calls prog 33 #[.agg #[.int .i64 id, .slice ad L.length cap]] w fun e w' => e = .returned (.string (Dm id L)) ∧ Below w.heap.size w w' := by
  have hB := hv.lt AV (by omega)
  obtain ⟨i0, hi, hz0, hz1, hz2⟩ := info_parts IE
  obtain ⟨y, hy⟩ : ∃ y, y = w.alloc (Obj.cells #[.int .i64 id, .slice ad L.length cap] 51) := ⟨_, rfl⟩
  have B0 : Below w.heap.size w y := by rw [hy]; exact Ax _
  have A0 : Ap y w.heap.size id (.slice ad L.length cap) := by rw [hy]; exact Ap.new _ _ _ _
  have S0 := A0.lt
  go_enter func33, ntmps33
  go_upto_region 1 with fail
  rw [← hy]
  clear hy
  obtain ⟨y1, hy1⟩ : ∃ z, z = y.alloc (Obj.cells #[pV (.inr (some id)), pV (.inr none)] 166) := ⟨_, rfl⟩
  have O1 : AA CI 1 166 w.heap.size y1 (.slice (some ⟨y.heap.size, 0, none⟩) 2 2) (DQ id (L.take 0)) := by rw [hy1]; exact Em [.inr (some id), .inr none] y (by have := B0.size; omega) (by show 2 ≤ 1000; decide)
  have k1 : Below y.heap.size y y1 := by rw [hy1]; exact Ax _
  have A1 := A0.below k1 S0
  have S1 := A1.lt
  have B1 := B0.trans (k1.mono B0.size)
  have C0 := A0
  obtain ⟨a0, a1⟩ := C0
  go_upto_region 2 with fail
  rw [show (y.alloc (Obj.cells #[.iface 115 (.int .i64 id), .iface 117 (.agg #[])] 166)) = y1 from hy1.symm]
  clear hy1 a0 a1 A0 B0 k1
  generalize y.heap.size = gy at O1 ⊢
  obtain ⟨a0, a1⟩ := A1
  have hsb : w.heap.size ≤ y1.heap.size := B1.size
  go_wp2
  go_loopw [3, 15] (fun v i wr => ∃ k : Nat, k ≤ L.length ∧ i = .int .i64 k ∧ AA CI 1 166 w.heap.size wr v (DQ id (L.take k)) ∧ Below w.heap.size w wr) (fun _ i _ => L.length - (intOf i).toNat)
  case atStart => exact ⟨0, Nat.zero_le _, rfl, O1, B1⟩
  case round =>
    obtain ⟨k, hk, rfl, O, B⟩ := hrel
    by_cases hlt : k < L.length
    · have HV := hv.below B hB
      obtain ⟨b, off, e_b, _⟩ := HV (by omega)
      replace e_b : _ = some (⟨b, off, none⟩ : Addr) := e_b
      subst e_b
      have HT : Hid (DQ id (L.take k) ++ DA (L.getD k Pt.nil) ++ [.inr none] = DQ id (L.take (k + 1))) := KB id hlt
      have hm : (DQ id (L.take k)).length ≤ 6000000 := by
        have h1 := H8 id (L.take k)
        have h2 : (L.take k).length ≤ k := by simp; omega
        omega
      have hx : Cy (L.getD k Pt.nil) := hws _ (by rw [show L.getD k Pt.nil = L[k] by simp [List.getD, List.getElem?_eq_getElem hlt]]; exact List.getElem_mem hlt)
      obtain ⟨x, hxe⟩ : ∃ x, L.getD k Pt.nil = x := ⟨_, rfl⟩
      have hck : CA wr b (off + k * 11) x := by
        rw [← hxe]
        exact CP (HV.at_ AV Pt.nil hlt)
      rw [hxe] at HT hx
      clear hxe
      have hbl : b < wr.heap.size := World.block_lt_of_cell? wr _ hck.c0
      obtain ⟨c0, c1, c2, c3, c4, c5, c6, c7, c8, c9, c10⟩ := hck
      generalize DQ id (L.take k) = M at HT hm O ⊢
      obtain ⟨w1, hw1⟩ : ∃ y, y = wr.alloc (Obj.cells #[.bool x.up, .bool x.has, .int .i64 x.r, .int .i64 x.c, .int .i64 x.b, .int .i64 x.p, .int .i64 x.h, .int .i64 x.l, .int .i64 x.ro, .int .i64 x.wa, .bool x.op] 47) := ⟨_, rfl⟩
      have j1 : Below wr.heap.size wr w1 := by rw [hw1]; exact Ax _
      have N1 : Bg w1 wr.heap.size x := by rw [hw1]; exact EN wr _ x
      have O := O.later j1
      have B1 := B.trans (j1.mono B.size)
      go_upto_region 5 with fail
      rw [← hw1]
      clear hw1 c0 c1 c2 c3 c4 c5 c6 c7 c8 c9 c10
      obtain ⟨c0, c1, c2, c3, c4, c5, c6, c7, c8, c9, c10⟩ := N1
      go_wp2_with fail
      go_at_call 76
      clear c0 c1 c2 c3 c4 c5 c6 c7 c8 c9 c10
      refine (IF x w1 hx (Dc htab B1)).mono ?_
      rintro e w2 ⟨g2, rfl, O2, k2⟩
      have V2 := O2.view.2
      have l4 : (DA x).length = 4 := rfl
      have B2 := B1.trans (k2.mono B1.size)
      have O := O.later k2
      have S2 := B2.size
      clear O2
      go_wp2_with (first | (at_builtin; refine Ej Eh E9 rfl _ _ 118 rfl w.heap.size 166 i0 .nilIface 16 underlying118 hi hz0 hz1 hz2 rfl (by decide) _ M rfl O (some ⟨g2, 0, none⟩) 4 (DA x) rfl (fun e => by cases e) V2 ?zl (by decide) ?zb ?_))
      try case zl => omega
      try case zb => exact S2
      intro v3 w3 O3 g3 _
      have B3 : Below w.heap.size w w3 := B2.grown g3 S2 (fun g e => (O.lt g e).1)
      have S3 := B3.size
      obtain ⟨w4, hw4⟩ : ∃ z, z = w3.alloc (Obj.cells #[pV (.inr none)] 166) := ⟨_, rfl⟩
      have j4 : Below w3.heap.size w3 w4 := by rw [hw4]; exact Ax _
      have V4 : AI CI w4 (some ⟨w3.heap.size, 0, none⟩) [.inr none] := by rw [hw4]; exact (Em [.inr none] w3 (Nat.le_refl _) (by show 1 ≤ 1000; decide)).view.2
      have O4 := O3.later j4
      have B4 := B3.trans (j4.mono B3.size)
      have S4 := B4.size
      rw [show (Obj.cells #[pV (.inr none)] 166) = Obj.cells #[.iface 117 (.agg #[])] 166 from rfl] at hw4
      go_wp2_with (first | (at_builtin; refine Ej Eh E9 rfl _ _ 118 rfl w.heap.size 166 i0 .nilIface 16 underlying118 hi hz0 hz1 hz2 rfl (by decide) _ (M ++ DA x) rfl ?zo (some ⟨w3.heap.size, 0, none⟩) 1 [.inr none] rfl (fun e => by cases e) ?zv ?zl (by decide) ?zb ?_))
      case zo => rw [← hw4]; exact O4
      case zv => rw [← hw4]; exact V4
      try case zl => simp only [List.length_append, List.length_cons, List.length_nil]; omega
      try case zb => rw [← hw4]; exact S4
      rw [← hw4]
      clear hw4 V4
      intro v5 w5 O5 g5 _
      have B5 : Below w.heap.size w w5 := B4.grown g5 S4 (fun g e => (O4.lt g e).1)
      have O6 : AA CI 1 166 w.heap.size w5 v5 (DQ id (L.take (k + 1))) := by rw [← HT.out, List.append_assoc]; exact O5
      go_wp2
      go_roundw
      case rel => exact ⟨k + 1, by omega, by go_num, O6, B5⟩
      case measure => simp [intOf]; omega
    · obtain rfl : k = L.length := by omega
      rw [List.take_length] at O
      obtain ⟨a, c, rfl⟩ := O.open_
      go_wp2_with fail
      go_at_call 75
      have hln := H8 id L
      refine (GI a c (DQ id L) wr O.view.2 (LB id hid L hws) (by omega) (Dc htab B)).mono ?_
      rintro e w2 ⟨rfl, k2⟩
      rw [I7]
      go_wp2
      go_ret
      exact ⟨rfl, B.trans (k2.mono B.size)⟩
theorem AA.other {X : Type} {enc : X → List Value} {n : Nat} {T : TypeId} {base q i : Nat} {w : World} {v u : Value} {L : List X} (h : AA enc n T base w v L) (hq : q < base) : AA enc n T base (w.setCell ⟨q, i, none⟩ u) v L :=
  h.keep fun k e => AE (by have := (h.lt k e).1; show k ≠ q; omega)
theorem JR {x : Pt} (h : Ae x = true) : Ci (Aq x) = true := by
  have hf : Ci x = true := (Fq.1 h).2.2.2.2
  unfold Aq
  rw [h]
  cases hh : x.has
  · simpa using hf
  · have hp := FW h hh
    simp only [Bool.and_self, if_true]
    split
    · simp [Ci, Pt.bare]
    · simp only [Ci, if_true, hp.1, hp.2.1, Bool.true_and, Bool.and_eq_true, decide_eq_true_eq]
      omega
theorem KI {x : Pt} {role : Int} (h : Ae x = true) : Ae (Bo x role) = true := by
  unfold Bo
  rw [h]
  cases hu : x.up
  · exact h
  cases hr : E4 role
  · exact h
  simp only [Bool.true_and, if_true]
  unfold Ae at h ⊢
  simp only [Bool.and_eq_true, decide_eq_true_eq] at h ⊢
  obtain ⟨_, _, _, hw, hf⟩ := h
  have hr' : 1 ≤ role ∧ role ≤ 3 := by simpa [E4] using hr
  refine ⟨by simp [GP]; omega, by rw [hr]; rfl, by simp, ?_, ?_⟩
  · unfold Cu; split
    · omega
    · split <;> omega
  · unfold Ci at hf ⊢
    rw [hu] at hf
    exact hf
theorem KL {x : Pt} (h : Ae x = true) : Ae (CF x) = true := by
  obtain ⟨h1, h2, h3, h4, _⟩ := Fq.1 h
  obtain ⟨k1, k2, k3, _⟩ := GW x
  refine Fq.2 ⟨?_, ?_, rfl, ?_, ?_⟩
  · show 0 ≤ (Aq x).ro ∧ (Aq x).ro ≤ 3
    rw [k2]; exact h1
  · show (Aq x).up = E4 (Aq x).ro
    rw [k1, k2]; exact h2
  · show 0 ≤ Dt (Aq x) ∧ Dt (Aq x) ≤ 4
    unfold Dt
    rw [k3]
    split <;> omega
  · exact JR h
theorem JH {x : Pt} {role : Int} (h : Ae x = true) : Ae (EO x role) = true := by
  unfold EO
  split
  · exact KI h
  · exact h
theorem Js {f : Pt → Pt} {L : List Pt} {i : Nat} (hi : i < L.length) : (L.map f).getD i Pt.nil = f (L.getD i Pt.nil) := by simp [List.getD, hi]
theorem JE {id : Int} {L : List Pt} (h : Az id L = true) {i : Nat} (hi : i < L.length) : (BQ id L).getD i Pt.nil = EO (L.getD i Pt.nil) (Do id L i) := by
  unfold BQ
  rw [if_pos h]
  simp [List.getD, hi]
theorem Gz {id : Int} {L : List Pt} (h1 : 1 ≤ id ∧ id ≤ 9) (h2 : 1 ≤ L.length ∧ L.length ≤ 4) (h3 : ∀ i, i < L.length → Ae (L.getD i Pt.nil) = true) : Az id L = true := by
  simp only [Az, Bool.and_eq_true, decide_eq_true_eq, List.all_eq_true]
  refine ⟨h1, h2, fun x hx => ?_⟩
  obtain ⟨i, hi, rfl⟩ := List.getElem_of_mem hx
  have := h3 i hi
  rwa [show L.getD i Pt.nil = L[i] by simp [List.getD, hi]] at this
theorem J5 {x : Pt} {r c b p k : Int} (h : Ae x = true) : Ae (Bf x r c b p k) = true := by
  cases ht : Ek x r c b p k
  · rw [Hd ht]; exact h
  · rw [HO ht]
    unfold Ek at ht
    simp only [Bool.and_eq_true] at ht
    obtain ⟨_, hu, hv, hk, _⟩ := ht
    unfold Ae at h ⊢
    simp only [Bool.and_eq_true] at h ⊢
    refine ⟨h.1, h.2.1, h.2.2.1, h.2.2.2.1, ?_⟩
    simp only [Ci, if_true, hu, hv, hk, Bool.true_and]
    rfl
theorem KX (up : Bool) : Ae (DW up) = true := by cases up <;> decide
theorem H1 {id : Int} {L : List Pt} {y : Nat} {v : Pt} (h : Az id L = true) (hy : y < L.length) (hv : Ae v = true) : Az id (L.set y v) = true := by
  obtain ⟨h1, h2, h3⟩ := DJ h
  refine Gz h1 (by rw [List.length_set]; exact h2) (fun i hi => ?_)
  rw [List.length_set] at hi
  by_cases e : i = y
  · subst e
    rw [show (L.set i v).getD i Pt.nil = v by simp [List.getD, hy]]
    exact hv
  · rw [show (L.set y v).getD i Pt.nil = L.getD i Pt.nil by simp [List.getD, List.getElem?_set_ne (Ne.symm e)]]
    exact h3 i
theorem Je {id : Int} {L : List Pt} (h : Az id L = true) : Az id (L.map CF) = true := by
  obtain ⟨h1, h2, h3⟩ := DJ h
  refine Gz h1 (by simpa using h2) fun i hi => ?_
  rw [Js (by simpa using hi)]
  exact KL (h3 i)
theorem JD {id : Int} {L : List Pt} (h : Az id L = true) : Az id (BQ id L) = true := by
  obtain ⟨h1, h2, h3⟩ := DJ h
  refine Gz h1 (by rw [Fm]; exact h2) fun i hi => ?_
  rw [Fm] at hi
  rw [JE h hi]
  exact JH (h3 i)
theorem Jl {id : Int} {L : List Pt} {x : Ik} (h : Az id L = true) : CG id L x = L ∨ ∃ M, Az id M = true ∧ M.length = L.length ∧ CG id L x = BQ id M := by
  unfold CG
  by_cases g : Da id L x = true
  · rw [if_pos g]
    have hq : 0 ≤ x.q ∧ x.q < (L.length : Int) := by
      unfold Da at g
      simp only [Bool.and_eq_true, decide_eq_true_eq] at g
      exact g.2.2
    have hy : x.q.toNat < L.length := by omega
    have h3 := (DJ h).2.2 x.q.toNat
    unfold Ds
    by_cases k1 : x.k = 1
    · rw [if_pos k1]
      exact .inr ⟨_, H1 h hy (J5 h3), by simp, rfl⟩
    · rw [if_neg k1]
      by_cases k2 : x.k = 2
      · rw [if_pos k2]
        exact .inr ⟨_, Je h, by simp, rfl⟩
      · rw [if_neg k2]
        by_cases u : (L.getD x.q.toNat Pt.nil).up = x.up
        · rw [if_pos u]; exact .inl rfl
        · rw [if_neg u]
          exact .inr ⟨_, H1 h hy (KX _), by simp, rfl⟩
  · rw [if_neg g]; exact .inl rfl
theorem GU {id : Int} {L : List Pt} {x : Ik} (h : Az id L = true) : Az id (CG id L x) = true := by
  rcases Jl (x := x) h with e | ⟨M, hM, _, e⟩
  · rw [e]; exact h
  · rw [e]; exact JD hM
theorem AR.other {w : World} {q q' i : Nat} {id : Int} {v u : Value} (h : AR w q id v) (hne : q ≠ q') : AR (w.setCell ⟨q', i, none⟩ u) q id v := h.keep (AE hne)
theorem AR.grown {w w' : World} {q cb : Nat} {id : Int} {v : Value} (h : AR w q id v) (g : w.grownBy w' (some cb)) (hne : q ≠ cb) : AR w' q id v := h.keep (g.block q h.lt (by simpa using hne))
theorem LO {x : Pt} (h : Ae x = true) : BJ x := by
  unfold Ae at h
  simp only [Bool.and_eq_true, decide_eq_true_eq] at h
  obtain ⟨_, _, _, hw, hf⟩ := h
  unfold Ci at hf
  unfold BJ
  split at hf
  · unfold Bc at hf
    simp only [Bool.and_eq_true, decide_eq_true_eq] at hf
    omega
  · simp only [decide_eq_true_eq] at hf
    omega
def Fw (id : Int) (L : List Pt) : Prop := (∀ x ∈ L, BJ x) ∧ (-1 ≤ id ∧ id ≤ 100)
theorem LC {id : Int} {L : List Pt} (h : Az id L = true) : Fw id L := by
  simp only [Az, Bool.and_eq_true, decide_eq_true_eq, List.all_eq_true] at h
  exact ⟨fun x hx => LO (h.2.2 x hx), by omega⟩
theorem KV {id n : Int} (h : Au id n = true) : Az (Bp id n) (Ao id n) = true := by
  have hn : 1 ≤ n ∧ n ≤ 4 := by unfold Au at h; simp only [Bool.and_eq_true, decide_eq_true_eq] at h; exact h.2
  unfold Bp Ao
  rw [if_pos h, if_pos h, IA, show ((n.toNat : Nat) : Int) = n by omega]
  exact h
def Ij (m : Nat) (w : World) (cb : Nat) (ad : Option Addr) (len cap : Nat) (f : Nat → Int) (e : Ending) (w' : World) : Prop := ∃ id ad' cap' L, e = .returned (.agg #[.int .i64 id, .slice ad' (List.length L) cap']) ∧ (1 ≤ L.length ∧ L.length ≤ m) ∧ Fw id L ∧ AA AK 11 47 w.heap.size w' (.slice ad' L.length cap') L ∧ At w' cb ad len cap f ∧ w.grownBy w' (some cb)
theorem Jq {id n : Int} (h1 : 1 ≤ id) (h2 : id ≤ 9) (h3 : 1 ≤ n) (h4 : n ≤ 4) : (Ao id n).length = n.toNat := by
  unfold Ao
  rw [if_pos (by unfold Au; rw [decide_eq_true (show 1 ≤ id ∧ id ≤ 9 from ⟨h1, h2⟩), decide_eq_true (show 1 ≤ n ∧ n ≤ 4 from ⟨h3, h4⟩)]; rfl), List.length_replicate]
theorem Kr {cb : Nat} {ad : Option Addr} {len cap : Nat} {f : Nat → Int} (w : World) (hs : At w cb ad len cap f) (hcb : cb < w.heap.size) : Calls prog 55 #[.pointer (some ⟨cb, 0, none⟩)] w fun e w' => Ij 4 w cb ad len cap f e w' := by
  obtain ⟨R, hRe⟩ : ∃ R, R = w.heap.size := ⟨_, rfl⟩
  have hR : w.heap.size ≤ R := by omega
  have hRc : R ≠ cb := by omega
  obtain ⟨x0, hx0⟩ : ∃ x, x = w.alloc (Obj.cells #[.int .i64 0, .slice none 0 0] 51) := ⟨_, rfl⟩
  have D0 : DV w cb ad len cap x0 := by rw [hx0]; exact (DV.start hs).alloc _
  have R0 : AR x0 R 0 (.slice none 0 0) := by rw [hx0, hRe]; exact AR.new w _ _ _
  go_enter func55, ntmps55
  go_wp2_with fail
  go_at_call 56
  rw [← hx0, ← hRe]
  clear hx0 hRe
  refine (BD (D0.src hs) 6 (by decide) (by decide)).mono ?_
  rintro e y1 ⟨i1, rfl, i10, i11, s1, g1⟩
  have D1 := D0.step s1 g1
  have R1 := R0.grown g1 hRc
  clear D0 R0 s1 g1
  go_wp2_with fail
  go_at_call 56
  refine (BD (D1.src hs) 4 (by decide) (by decide)).mono ?_
  rintro e y2 ⟨i2, rfl, i20, i21, s2, g2⟩
  have D2 := D1.step s2 g2
  have R2 := R1.grown g2 hRc
  clear D1 R1 s2 g2
  go_wp2_with fail
  go_at_call 96
  refine (GM (1 + i1) (1 + i2) y2).mono ?_
  rintro e y3 ⟨a0, c0, rfl, o3, k3⟩
  have hln := Jq (id := 1 + i1) (n := 1 + i2) (by omega) (by omega) (by omega) (by omega)
  have R2l := R2.lt
  have D3 := D2.later8 k3
  have R3 := R2.below k3 R2.lt
  have z3 := k3.size
  have hb0 : Hid (Az (Bp (1 + i1) (1 + i2)) (Ao (1 + i1) (1 + i2)) = true) := KV (by unfold Au; simp only [Bool.and_eq_true, decide_eq_true_eq]; omega)
  obtain ⟨L0, hL0⟩ : ∃ L, Ao (1 + i1) (1 + i2) = L := ⟨_, rfl⟩
  rw [hL0] at o3 hln hb0 ⊢
  have hl1 : 1 ≤ L0.length ∧ L0.length ≤ 4 := by omega
  obtain ⟨id0, hid⟩ : ∃ v, Bp (1 + i1) (1 + i2) = v := ⟨_, rfl⟩
  obtain ⟨nk, hnk⟩ : ∃ v, Au (1 + i1) (1 + i2) = v := ⟨_, rfl⟩
  rw [hid] at hb0
  rw [hid, hnk]
  clear hid hnk hL0 hln D2 R2 k3
  obtain ⟨y4, hy4⟩ : ∃ y_, y_ = y3.alloc (Obj.cells #[.int .i64 id0, .slice a0 L0.length c0] 51) := ⟨_, rfl⟩
  have kn : Below y3.heap.size y3 y4 := by rw [hy4]; exact Ax _
  have Q4 : AR y4 y3.heap.size id0 (.slice a0 L0.length c0) := by rw [hy4]; exact AR.new y3 _ _ _
  have D4 := D3.later8 kn
  have R4 := R3.below kn R3.lt
  have o4 := o3.later kn
  have og : ∀ g_, (Value.slice a0 L0.length c0).ownBlock = some g_ → y2.heap.size ≤ g_ ∧ g_ < y3.heap.size := fun g_ e => o3.lt g_ e
  go_upto_region 2 with fail
  rw [← hy4]
  clear hy4 kn D3 R3 o3
  generalize hQ : y3.heap.size = Q at Q4 og z3 ⊢
  have hRQ : R < Q := by omega
  clear hQ
  obtain ⟨n, hn⟩ : ∃ n, L0.length = n := ⟨_, rfl⟩
  have o5 : AA AK 11 47 (R + 1) y4 (.slice a0 L0.length c0) L0 := o4.base (by omega)
  have hj : ∀ g_, (Value.slice a0 L0.length c0).ownBlock = some g_ → g_ ≠ Q := fun g_ e => by have := og g_ e; omega
  have hn4 : 1 ≤ n ∧ n ≤ 4 := by omega
  replace hn : Hid _ := hn
  clear og o4
  go_wp2
  go_loopw [5] (fun i wr => ∃ k : Nat, k ≤ n ∧ i = .int .i64 (k : Int) ∧ (∃ id L a c, (1 ≤ List.length L ∧ List.length L ≤ 4 ∧ Hid (Az id L = true)) ∧ AR wr Q id (.slice a (List.length L) c) ∧ AA AK 11 47 (R + 1) wr (.slice a (List.length L) c) L ∧ (∀ g_, (Value.slice a (List.length L) c).ownBlock = some g_ → g_ ≠ Q) ∧ List.length L = n) ∧ AR wr R 0 (.slice none 0 0) ∧ DV w cb ad len cap wr) (fun i _ => n - (intOf i).toNat)
  case atStart => exact ⟨0, Nat.zero_le _, rfl, ⟨id0, L0, a0, c0, ⟨hl1.1, hl1.2, hb0⟩, Q4, o5, hj, hn.out⟩, R4, D4⟩
  case round =>
    clear Q4 R4 D4 o5 hj
    obtain ⟨k, hk, rfl, ⟨id, L, a, c, hL, Q4, o4, hj, hLn⟩, R4, D4⟩ := hrel
    replace hLn : Hid _ := hLn
    have hQl := Q4.lt
    obtain ⟨⟨q0, q1⟩, qf⟩ := Q4
    have Q4 : AR wr Q id (.slice a L.length c) := ⟨⟨q0, q1⟩, qf⟩
    have hQc : Q ≠ cb := by omega
    by_cases hlt : k < n
    · have hltL : k < L.length := by rw [hLn.out]; exact hlt
      go_wp2_with fail
      go_at_call 52
      refine (FV (D4.src hs) 4 (by decide) (by decide)).mono ?_
      rintro e y5 ⟨bo, rfl, s5, g5⟩
      have D5 := D4.step s5 g5
      have R5 := R4.grown g5 hRc
      have Q5 := Q4.grown g5 hQc
      have o5 := o4.grown g5 (by omega)
      clear D4 R4 Q4 o4 s5 g5 q0 q1 qf
      cases bo
      · obtain ⟨⟨q0, q1⟩, qf⟩ := Q5
        have Q5 : AR y5 Q id (.slice a L.length c) := ⟨⟨q0, q1⟩, qf⟩
        have hc := FG id a c L ⟨3, (k : Int), 0, 0, 0, 0, 0, true⟩ y5 o5.view.2 (by omega) o5.capn
        go_wp2_with fail
        go_at_call 54
        refine hc.mono ?_
        rintro e y6 ⟨a6, c6, ao, co, rfl, o6, oo6, dd, k6⟩
        have hrl := Fx id L ⟨3, (k : Int), 0, 0, 0, 0, 0, true⟩
        obtain ⟨L6, hL6⟩ : ∃ L6, CG id L ⟨3, (k : Int), 0, 0, 0, 0, 0, true⟩ = L6 := ⟨_, rfl⟩
        have hb6 : Hid (Az id L6 = true) := by unfold Hid; rw [← hL6]; exact GU hL.2.2.out
        obtain ⟨O6, hO6⟩ : ∃ O6, Cn id L ⟨3, (k : Int), 0, 0, 0, 0, 0, true⟩ = O6 := ⟨_, rfl⟩
        rw [hL6] at o6 hrl ⊢
        rw [hO6] 
        have D6 := D5.later8 k6
        have R6 := R5.below k6 R5.lt
        have Q6 := Q5.below k6 Q5.lt
        have Q5l := Q5.lt
        have j6 : ∀ g_, (Value.slice a6 L6.length c6).ownBlock = some g_ → g_ ≠ Q := fun g_ e => by have := (o6.lt g_ e).1; omega
        have o6 : AA AK 11 47 (R + 1) y6 (.slice a6 L6.length c6) L6 := o6.base (by omega)
        clear hc oo6 dd hL6 hO6 k6 D5 R5 Q5 o5 q0 q1 qf
        have QP := Q6.put id (.slice a6 L6.length c6)
        have RP := (R6.other (q' := Q) (i := 0) (u := .int .i64 id) (by omega)).other (q' := Q) (i := 1) (u := .slice a6 L6.length c6) (by omega)
        have DP := (D6.set (N := Q) (i := 0) (by omega) hcb (.int .i64 id)).set (N := Q) (i := 1) (by omega) hcb (.slice a6 L6.length c6)
        have OP : AA AK 11 47 (R + 1) ((y6.setCell ⟨Q, 0, none⟩ (.int .i64 id)).setCell ⟨Q, 1, none⟩ (.slice a6 L6.length c6)) (.slice a6 L6.length c6) L6 := o6.keep fun g_ e => by
          rw [AE (by show g_ ≠ Q; exact j6 g_ e), AE (by show g_ ≠ Q; exact j6 g_ e)]
        obtain ⟨⟨q0, q1⟩, qf⟩ := Q6
        replace hrl : Hid _ := hrl
        have hl6 : 1 ≤ L6.length ∧ L6.length ≤ 4 := by have := hrl.out; omega
        go_wp2
        go_roundw
        case rel => exact ⟨k + 1, by omega, by go_num, ⟨id, L6, a6, c6, ⟨hl6.1, hl6.2, hb6⟩, QP, OP, j6, by rw [hrl.out, hLn.out]⟩, RP, DP⟩
        case measure => simp [intOf]; omega
      · go_wp2
        go_roundw
        case rel => exact ⟨k + 1, by omega, by go_num, ⟨id, L, a, c, hL, Q5, o5, hj, hLn.out⟩, R5, D5⟩
        case measure => simp [intOf]; omega
    · have hge : ¬ k < L.length := by rw [hLn.out]; exact hlt
      have dL : decide ((k : Int) < (L.length : Int)) = false := decide_eq_false (by omega)
      have dL' : decide (k < L.length) = false := decide_eq_false hge
      replace hge : Hid _ := hge
      replace hlt : Hid _ := hlt
      go_upto_region 7 with fail
      clear q0 q1 qf
      go_wp2
      go_loopw [6] (fun i wr => ∃ k : Nat, k ≤ 10 ∧ i = .int .i64 (k : Int) ∧ (∃ id L a c, (1 ≤ List.length L ∧ List.length L ≤ 4 ∧ Hid (Az id L = true)) ∧ AR wr Q id (.slice a (List.length L) c) ∧ AA AK 11 47 (R + 1) wr (.slice a (List.length L) c) L ∧ (∀ g_, (Value.slice a (List.length L) c).ownBlock = some g_ → g_ ≠ Q)) ∧ AR wr R 0 (.slice none 0 0) ∧ DV w cb ad len cap wr) (fun i _ => 10 - (intOf i).toNat)
      case atStart => exact ⟨0, Nat.zero_le _, rfl, ⟨id, L, a, c, hL, Q4, o4, hj⟩, R4, D4⟩
      case round =>
        clear Q4 R4 D4 o4 hj hL hLn hQl hlt
        obtain ⟨k, hk, rfl, ⟨id, L, a, c, hL, Q4, o4, hj⟩, R4, D4⟩ := hrel
        have hQl := Q4.lt
        go_wp2_with fail
        go_at_call 56
        refine (BD (D4.src hs) 10 (by decide) (by decide)).mono ?_
        rintro e y5 ⟨t, rfl, t0, t1, s5, g5⟩
        have D5 := D4.step s5 g5
        have R5 := R4.grown g5 hRc
        have Q5 := Q4.grown g5 hQc
        have o5 := o4.grown g5 (by omega)
        clear D4 R4 Q4 o4 s5 g5
        by_cases hlt : (k : Int) < t
        · have dl : decide ((k : Int) < t) = true := decide_eq_true hlt
          have hk10 : k < 10 := by omega
          replace hlt : Hid _ := hlt
          go_upto_region 10 with fail
          refine wp_region_held (S := fun _ => True) (by kernel_rfl) ?_
          change wpAnyH _ _ _ _ _ _ _ _ (World.drew _)
          have D6 := D5.drew
          have R6 : AR y5.drew R 0 (.slice none 0 0) := R5.keep rfl
          have Q6 : AR y5.drew Q id (.slice a L.length c) := Q5.keep rfl
          have o6 : AA AK 11 47 (R + 1) y5.drew (.slice a L.length c) L := o5.keep (fun _ _ => rfl)
          have hQd : Q < y5.drew.heap.size := Q6.lt
          obtain ⟨u0, hu0⟩ : ∃ y_, y_ = y5.drew := ⟨_, rfl⟩
          rw [← hu0] at D6 R6 Q6 o6 hQd ⊢
          clear hu0 D5 R5 Q5 o5
          have hT : True := trivial
          refine BN 1 42 (.pointer (some ⟨cb, 0, none⟩)) rfl rfl (by kernel_rfl) (by kernel_rfl) (by kernel_rfl) (fun _ _ _ h => h) (by kernel_rfl) (by (intro w hSw; go_simp)) (by assumption) ?_
          simp only [List.set_cons_zero, List.set_cons_succ]
          refine wpAnyH_all (rs := [0, 2]) (by kernel_rfl) (by simp) ?_
          intro i hi; rcases (by simpa using hi : i = 0 ∨ i = 2) with rfl | rfl
          · refine wpOp_step rfl (fun K hK => ?_)
            rw [if_pos (by kernel_rfl)]
            have cc_ := Q6
            obtain ⟨⟨t0_, t1_⟩, tf_⟩ := cc_
            go_simp
            clear t0_ t1_ tf_
            refine hK _ _ ⟨trivial, ?_⟩
            clear hK K hi
            refine wpAnyH_all (rs := [2]) (by kernel_rfl) (by simp) ?_
            intro i hi; obtain rfl : i = 2 := by simpa using hi
            refine wpOp_step rfl (fun K hK => ?_)
            rw [if_pos (by kernel_rfl)]
            go_simp
            go_at_call 45
            refine (Gw u0 (D6.src hs) D6.cur.lt).mono ?_
            rintro e v1 ⟨x, rfl, s7, g7⟩
            have D6 := D6.step s7 g7
            have R6 := R6.grown g7 hRc
            have Q6 := Q6.grown g7 hQc
            have o6 := o6.grown g7 (by omega)
            clear s7 g7
            refine hK _ _ ⟨trivial, ?_⟩
            clear hK K hi
            refine wpAnyH_all (rs := [3]) (by kernel_rfl) (by simp) ?_
            intro i hi; obtain rfl : i = 3 := by simpa using hi
            refine wpOp_step rfl (fun K hK => ?_)
            rw [if_pos (by kernel_rfl)]
            go_simp
            go_at_call 54
            refine (FG id a c L x v1 o6.view.2 (by omega) o6.capn).mono ?_
            rintro e v2 ⟨a6, c6, ao, co, rfl, o7, oo6, dd, k6⟩
            have hrl := Fx id L x
            obtain ⟨L6, hL6⟩ : ∃ L6, CG id L x = L6 := ⟨_, rfl⟩
            have hb6 : Hid (Az id L6 = true) := by unfold Hid; rw [← hL6]; exact GU hL.2.2.out
            obtain ⟨O6, hO6⟩ : ∃ O6, Cn id L x = O6 := ⟨_, rfl⟩
            rw [hL6] at o7 hrl ⊢
            rw [hO6]
            replace hrl : Hid _ := hrl
            have Q6l := Q6.lt
            have j6 : ∀ g_, (Value.slice a6 L6.length c6).ownBlock = some g_ → g_ ≠ Q := fun g_ e => by have := (o7.lt g_ e).1; omega
            have D6 := D6.later8 k6
            have R6 := R6.below k6 R6.lt
            have Q6 := Q6.below k6 Q6.lt
            have o7 : AA AK 11 47 (R + 1) v2 (.slice a6 L6.length c6) L6 := o7.base (by omega)
            clear oo6 dd hL6 hO6 k6 o6
            refine hK _ _ ⟨trivial, ?_⟩
            clear hK K hi
            refine BN 4 40 (.tuple #[.agg #[.int .i64 id, .slice a6 L6.length c6], .slice ao O6.length co]) rfl rfl (by kernel_rfl) (by kernel_rfl) (by kernel_rfl) (fun _ _ _ h => h) (by kernel_rfl) (by (intro w hSw; go_simp)) (by assumption) ?_
            simp only [List.set_cons_zero, List.set_cons_succ]
            refine BN 5 45 (.agg #[.int .i64 id, .slice a6 L6.length c6]) rfl rfl (by kernel_rfl) (by kernel_rfl) (by kernel_rfl) (fun _ _ _ h => h) (by kernel_rfl) (by (intro w hSw; go_simp)) (by assumption) ?_
            simp only [List.set_cons_zero, List.set_cons_succ]
            refine BN 6 46 (.slice ao O6.length co) rfl rfl (by kernel_rfl) (by kernel_rfl) (by kernel_rfl) (fun _ _ _ h => h) (by kernel_rfl) (by (intro w hSw; go_simp)) (by assumption) ?_
            simp only [List.set_cons_zero, List.set_cons_succ]
            refine wpAnyH_all (rs := [7]) (by kernel_rfl) (by simp) ?_
            intro i hi; obtain rfl : i = 7 := by simpa using hi
            refine wpOp_step rfl (fun K hK => ?_)
            rw [if_pos (by kernel_rfl)]
            have QP := Q6.put id (.slice a6 L6.length c6)
            have RP := (R6.other (q' := Q) (i := 0) (u := .int .i64 id) (by omega)).other (q' := Q) (i := 1) (u := .slice a6 L6.length c6) (by omega)
            have DP := (D6.set (N := Q) (i := 0) (by omega) hcb (.int .i64 id)).set (N := Q) (i := 1) (by omega) hcb (.slice a6 L6.length c6)
            have OP : AA AK 11 47 (R + 1) ((v2.setCell ⟨Q, 0, none⟩ (.int .i64 id)).setCell ⟨Q, 1, none⟩ (.slice a6 L6.length c6)) (.slice a6 L6.length c6) L6 := o7.keep fun g_ e => by
              rw [AE (by show g_ ≠ Q; exact j6 g_ e), AE (by show g_ ≠ Q; exact j6 g_ e)]
            obtain ⟨⟨q0, q1⟩, qf⟩ := Q6
            go_simp
            refine hK _ _ ⟨trivial, ?_⟩
            clear hK K hi
            refine wpAnyH_done (by kernel_rfl) ?_ _
            have hl6 : 1 ≤ L6.length ∧ L6.length ≤ 4 := by have := hrl.out; omega
            go_wp2
            go_roundw
            case rel => exact ⟨k + 1, by omega, by go_num, ⟨id, L6, a6, c6, ⟨hl6.1, hl6.2, hb6⟩, QP, OP, j6⟩, RP, DP⟩
            case measure => simp [intOf]; omega
          · refine wpOp_step rfl (fun K hK => ?_)
            rw [if_pos (by kernel_rfl)]
            go_simp
            go_at_call 45
            refine (Gw u0 (D6.src hs) D6.cur.lt).mono ?_
            rintro e v1 ⟨x, rfl, s7, g7⟩
            have D6 := D6.step s7 g7
            have R6 := R6.grown g7 hRc
            have Q6 := Q6.grown g7 hQc
            have o6 := o6.grown g7 (by omega)
            clear s7 g7
            refine hK _ _ ⟨trivial, ?_⟩
            clear hK K hi
            refine wpAnyH_all (rs := [0]) (by kernel_rfl) (by simp) ?_
            intro i hi; obtain rfl : i = 0 := by simpa using hi
            refine wpOp_step rfl (fun K hK => ?_)
            rw [if_pos (by kernel_rfl)]
            have cc_ := Q6
            obtain ⟨⟨t0_, t1_⟩, tf_⟩ := cc_
            go_simp
            clear t0_ t1_ tf_
            refine hK _ _ ⟨trivial, ?_⟩
            clear hK K hi
            refine wpAnyH_all (rs := [3]) (by kernel_rfl) (by simp) ?_
            intro i hi; obtain rfl : i = 3 := by simpa using hi
            refine wpOp_step rfl (fun K hK => ?_)
            rw [if_pos (by kernel_rfl)]
            go_simp
            go_at_call 54
            refine (FG id a c L x v1 o6.view.2 (by omega) o6.capn).mono ?_
            rintro e v2 ⟨a6, c6, ao, co, rfl, o7, oo6, dd, k6⟩
            have hrl := Fx id L x
            obtain ⟨L6, hL6⟩ : ∃ L6, CG id L x = L6 := ⟨_, rfl⟩
            have hb6 : Hid (Az id L6 = true) := by unfold Hid; rw [← hL6]; exact GU hL.2.2.out
            obtain ⟨O6, hO6⟩ : ∃ O6, Cn id L x = O6 := ⟨_, rfl⟩
            rw [hL6] at o7 hrl ⊢
            rw [hO6]
            replace hrl : Hid _ := hrl
            have Q6l := Q6.lt
            have j6 : ∀ g_, (Value.slice a6 L6.length c6).ownBlock = some g_ → g_ ≠ Q := fun g_ e => by have := (o7.lt g_ e).1; omega
            have D6 := D6.later8 k6
            have R6 := R6.below k6 R6.lt
            have Q6 := Q6.below k6 Q6.lt
            have o7 : AA AK 11 47 (R + 1) v2 (.slice a6 L6.length c6) L6 := o7.base (by omega)
            clear oo6 dd hL6 hO6 k6 o6
            refine hK _ _ ⟨trivial, ?_⟩
            clear hK K hi
            refine BN 4 40 (.tuple #[.agg #[.int .i64 id, .slice a6 L6.length c6], .slice ao O6.length co]) rfl rfl (by kernel_rfl) (by kernel_rfl) (by kernel_rfl) (fun _ _ _ h => h) (by kernel_rfl) (by (intro w hSw; go_simp)) (by assumption) ?_
            simp only [List.set_cons_zero, List.set_cons_succ]
            refine BN 5 45 (.agg #[.int .i64 id, .slice a6 L6.length c6]) rfl rfl (by kernel_rfl) (by kernel_rfl) (by kernel_rfl) (fun _ _ _ h => h) (by kernel_rfl) (by (intro w hSw; go_simp)) (by assumption) ?_
            simp only [List.set_cons_zero, List.set_cons_succ]
            refine BN 6 46 (.slice ao O6.length co) rfl rfl (by kernel_rfl) (by kernel_rfl) (by kernel_rfl) (fun _ _ _ h => h) (by kernel_rfl) (by (intro w hSw; go_simp)) (by assumption) ?_
            simp only [List.set_cons_zero, List.set_cons_succ]
            refine wpAnyH_all (rs := [7]) (by kernel_rfl) (by simp) ?_
            intro i hi; obtain rfl : i = 7 := by simpa using hi
            refine wpOp_step rfl (fun K hK => ?_)
            rw [if_pos (by kernel_rfl)]
            have QP := Q6.put id (.slice a6 L6.length c6)
            have RP := (R6.other (q' := Q) (i := 0) (u := .int .i64 id) (by omega)).other (q' := Q) (i := 1) (u := .slice a6 L6.length c6) (by omega)
            have DP := (D6.set (N := Q) (i := 0) (by omega) hcb (.int .i64 id)).set (N := Q) (i := 1) (by omega) hcb (.slice a6 L6.length c6)
            have OP : AA AK 11 47 (R + 1) ((v2.setCell ⟨Q, 0, none⟩ (.int .i64 id)).setCell ⟨Q, 1, none⟩ (.slice a6 L6.length c6)) (.slice a6 L6.length c6) L6 := o7.keep fun g_ e => by
              rw [AE (by show g_ ≠ Q; exact j6 g_ e), AE (by show g_ ≠ Q; exact j6 g_ e)]
            obtain ⟨⟨q0, q1⟩, qf⟩ := Q6
            go_simp
            refine hK _ _ ⟨trivial, ?_⟩
            clear hK K hi
            refine wpAnyH_done (by kernel_rfl) ?_ _
            have hl6 : 1 ≤ L6.length ∧ L6.length ≤ 4 := by have := hrl.out; omega
            go_wp2
            go_roundw
            case rel => exact ⟨k + 1, by omega, by go_num, ⟨id, L6, a6, c6, ⟨hl6.1, hl6.2, hb6⟩, QP, OP, j6⟩, RP, DP⟩
            case measure => simp [intOf]; omega
        · have dl : decide ((k : Int) < t) = false := decide_eq_false hlt
          replace hlt : Hid _ := hlt
          go_upto_region 11 with fail
          have RP := R5.put id (.slice a L.length c)
          have DZ := (D5.set (N := R) (i := 0) (by omega) hcb (.int .i64 id)).set (N := R) (i := 1) (by omega) hcb (.slice a L.length c)
          have OZ : AA AK 11 47 w.heap.size ((y5.setCell ⟨R, 0, none⟩ (.int .i64 id)).setCell ⟨R, 1, none⟩ (.slice a L.length c)) (.slice a L.length c) L := ((o5.other (q := R) (i := 0) (u := .int .i64 id) (by omega)).other (q := R) (i := 1) (u := .slice a L.length c) (by omega)).base (by omega)
          obtain ⟨⟨r0, r1⟩, rf⟩ := R5
          obtain ⟨⟨q0, q1⟩, qf⟩ := Q5
          obtain ⟨⟨p0, p1⟩, _⟩ := RP
          go_wp2
          refine bodyPost_ret (v := .agg #[.int .i64 id, .slice a L.length c]) (by simp [results, results55, go_sem, *]) rfl ⟨id, a, c, L, rfl, ⟨hL.1, hL.2.1⟩, LC hL.2.2.out, OZ, DZ.src hs, DZ.gr⟩
theorem Kw {cb : Nat} {ad : Option Addr} {len cap : Nat} {f : Nat → Int} (w : World) (hs : At w cb ad len cap f) (hcb : cb < w.heap.size) : Calls prog 69 #[.pointer (some ⟨cb, 0, none⟩)] w fun e w' => Ij 6 w cb ad len cap f e w' := by
  obtain ⟨i0, hi, hz0, hz1, hz2⟩ := info_parts Gs
  obtain ⟨R, hRe⟩ : ∃ R, R = w.heap.size := ⟨_, rfl⟩
  have hR : w.heap.size ≤ R := by omega
  have hRc : R ≠ cb := by omega
  obtain ⟨x0, hx0⟩ : ∃ x, x = w.alloc (Obj.cells #[.int .i64 0, .slice none 0 0] 51) := ⟨_, rfl⟩
  have D0 : DV w cb ad len cap x0 := by rw [hx0]; exact (DV.start hs).alloc _
  have R0 : AR x0 R 0 (.slice none 0 0) := by rw [hx0, hRe]; exact AR.new w _ _ _
  have R0l := R0.lt
  go_enter func69, ntmps69
  go_wp2_with fail
  go_at_call 55
  rw [← hx0, ← hRe]
  clear hx0 hRe
  refine (Kr x0 (D0.src hs) D0.cur.lt).mono ?_
  rintro e y1 ⟨id, a, c, L, rfl, hL, hN, o1, s1, g1⟩
  have D1 := D0.step s1 g1
  have R1 := R0.grown g1 hRc
  have z1 := g1.size
  have og : ∀ g_, (Value.slice a L.length c).ownBlock = some g_ → x0.heap.size ≤ g_ ∧ g_ < y1.heap.size := fun g_ e => o1.lt g_ e
  clear D0 R0 s1 g1
  obtain ⟨y4, hy4⟩ : ∃ y_, y_ = y1.alloc (Obj.cells #[.int .i64 id, .slice a L.length c] 51) := ⟨_, rfl⟩
  have kn : Below y1.heap.size y1 y4 := by rw [hy4]; exact Ax _
  have Q4 : AR y4 y1.heap.size id (.slice a L.length c) := by rw [hy4]; exact AR.new y1 _ _ _
  have D4 := D1.later8 kn
  have R4 := R1.below kn R1.lt
  have o4 : AA AK 11 47 (R + 1) y4 (.slice a L.length c) L := (o1.later kn).base (by omega)
  go_upto_region 2 with fail
  rw [← hy4]
  clear hy4 kn D1 R1 o1
  generalize hQ : y1.heap.size = Q at Q4 og z1 ⊢
  have hRQ : R < Q := by omega
  have hQc : Q ≠ cb := by omega
  have hj : ∀ g_, (Value.slice a L.length c).ownBlock = some g_ → g_ ≠ Q := fun g_ e => by have := og g_ e; omega
  clear hQ og
  go_wp2_with fail
  go_at_call 56
  refine (BD (D4.src hs) 8 (by decide) (by decide)).mono ?_
  rintro e y5 ⟨t, rfl, t0, t1, s5, g5⟩
  have D5 := D4.step s5 g5
  have R5 := R4.grown g5 hRc
  have Q5 := Q4.grown g5 hQc
  have o5 := o4.grown g5 (by omega)
  clear D4 R4 Q4 o4 s5 g5
  by_cases h0 : t = 0
  · subst h0
    obtain ⟨y6, hy6⟩ : ∃ y_, y_ = y5.alloc (Obj.cells #[.int .i64 0, .int .i64 9, .int .i64 10] 3) := ⟨_, rfl⟩
    have kn : Below y5.heap.size y5 y6 := by rw [hy6]; exact Ax _
    have hg : ∀ i, i < 3 → ∃ z, y6.cell? ⟨y5.heap.size, i, none⟩ = some (.int .i64 z) ∧ (-1 ≤ z ∧ z ≤ 100) := by
      intro i h_
      rw [hy6]
      rcases (by omega : i = 0 ∨ i = 1 ∨ i = 2) with rfl | rfl | rfl
      · exact ⟨0, by simp [go_sem], by omega⟩
      · exact ⟨9, by simp [go_sem], by omega⟩
      · exact ⟨10, by simp [go_sem], by omega⟩
    have D6 := D5.later8 kn
    have R6 := R5.below kn R5.lt
    have Q6 := Q5.below kn Q5.lt
    have o6 := o5.later kn
    have hne : y5.heap.size ≠ cb := by have := D5.cur.lt; omega
    go_wp2_with fail
    go_at_call 47
    rw [← hy6]
    clear hy6 kn
    generalize y5.heap.size = E at hg hne ⊢
    refine (Dq (D6.src hs) (fun z => -1 ≤ z ∧ z ≤ 100) E 3 3 hne (by decide) (by decide) hg).mono ?_
    rintro e y7 ⟨v, rfl, hv_, s7, g7⟩
    have D7 := D6.step s7 g7
    have R7 := R6.grown g7 hRc
    have Q7 := Q6.grown g7 hQc
    have o7 := o6.grown g7 (by omega)
    clear D6 R6 Q6 o6 s7 g7 D5 R5 Q5 o5 hg
    obtain ⟨y8, hy8⟩ : ∃ y_, y_ = y7.setCell ⟨Q, 0, none⟩ (.int .i64 v) := ⟨_, rfl⟩
    have Q8 : AR y8 Q v (.slice a L.length c) := by rw [hy8]; exact ⟨⟨Al Q7.at_.c0, (AB (by decide)).trans Q7.at_.c1⟩, fun i => by rw [World.frozen?_setCell]; exact Q7.fr i⟩
    have D8 : DV w cb ad len cap y8 := by rw [hy8]; exact D7.set (by omega) hcb _
    have R8 : AR y8 R 0 (.slice none 0 0) := by rw [hy8]; exact R7.other (by omega)
    have o8 : AA AK 11 47 (R + 1) y8 (.slice a L.length c) L := by rw [hy8]; exact o7.keep fun g_ e => AE (by show g_ ≠ Q; exact hj g_ e)
    obtain ⟨⟨q0, q1⟩, qf⟩ := Q7
    go_upto_region 9 with fail
    rw [← hy8]
    clear hy8 q0 q1 qf D7 R7 o7
    have RP := R8.put v (.slice a L.length c)
    have DZ := (D8.set (N := R) (i := 0) (by omega) hcb (.int .i64 v)).set (N := R) (i := 1) (by omega) hcb (.slice a L.length c)
    have OZ : AA AK 11 47 w.heap.size ((y8.setCell ⟨R, 0, none⟩ (.int .i64 v)).setCell ⟨R, 1, none⟩ (.slice a L.length c)) (.slice a L.length c) L := ((o8.other (q := R) (i := 0) (u := .int .i64 v) (by omega)).other (q := R) (i := 1) (u := .slice a L.length c) (by omega)).base (by omega)
    obtain ⟨⟨r0, r1⟩, rf⟩ := R8
    obtain ⟨⟨q0, q1⟩, qf⟩ := Q8
    obtain ⟨⟨p0, p1⟩, _⟩ := RP
    go_wp2
    refine bodyPost_ret (v := .agg #[.int .i64 v, .slice a L.length c]) (by simp [results, results69, go_sem, *]) rfl ⟨v, _, _, L, rfl, ⟨hL.1, by omega⟩, ⟨hN.1, hv_⟩, OZ, DZ.src hs, DZ.gr⟩
  have e0 : (t == 0) = false := by simpa using h0
  by_cases h1 : t = 1
  · subst h1
    obtain ⟨g, rfl, hg1, hg2⟩ := o5.row (by omega)
    have hgQ : g ≠ Q := hj g rfl
    go_upto_region 6 with fail
    refine wp_region_held (S := fun Y => Ap Y Q id (.slice (some ⟨g, 0, none⟩) L.length c)) (by kernel_rfl) ?_
    change wpAnyH _ _ _ _ _ _ _ _ (World.drew _)
    have D6 := D5.drew
    have R6 : AR y5.drew R 0 (.slice none 0 0) := R5.keep rfl
    have Q6 : AR y5.drew Q id (.slice (some ⟨g, 0, none⟩) L.length c) := Q5.keep rfl
    have o6 : AA AK 11 47 (R + 1) y5.drew (.slice (some ⟨g, 0, none⟩) L.length c) L := o5.keep (fun _ _ => rfl)
    obtain ⟨u0, hu0⟩ : ∃ y_, y_ = y5.drew := ⟨_, rfl⟩
    rw [← hu0] at D6 R6 Q6 o6 ⊢
    clear hu0 D5 R5 Q5 o5
    have hT := Q6.at_
    refine BN 0 16 (.pointer (some ⟨Q, 1, none⟩)) rfl rfl (by kernel_rfl) (by kernel_rfl) (by kernel_rfl) (fun _ _ _ h => h) (by kernel_rfl) (by (intro w hSw; go_simp)) (by assumption) ?_
    simp only [List.set_cons_zero, List.set_cons_succ]
    refine BN 1 17 (.slice (some ⟨g, 0, none⟩) L.length c) rfl rfl (by kernel_rfl) (by kernel_rfl) (by kernel_rfl) (fun _ _ _ h => h) (by kernel_rfl) (by (intro Y hSw; obtain ⟨X0, X1⟩ := hSw; go_simp)) (by assumption) ?_
    simp only [List.set_cons_zero, List.set_cons_succ]
    refine BN 2 18 (.pointer (some ⟨cb, 0, none⟩)) rfl rfl (by kernel_rfl) (by kernel_rfl) (by kernel_rfl) (fun _ _ _ h => h) (by kernel_rfl) (by (intro w hSw; go_simp)) (by assumption) ?_
    simp only [List.set_cons_zero, List.set_cons_succ]
    refine wpAnyH_all (rs := [3]) (by kernel_rfl) (by simp) ?_
    intro i hi; obtain rfl : i = 3 := by simpa using hi
    refine wpOp_step rfl (fun K hK => ?_)
    rw [if_pos (by kernel_rfl)]
    go_simp
    go_at_call 68
    refine (IN u0 (D6.src hs) D6.cur.lt).mono ?_
    rintro e u1 ⟨z, rfl, hzn, s7, g7⟩
    have D6 := D6.step s7 g7
    have R6 := R6.grown g7 hRc
    have Q6 := Q6.grown g7 hQc
    have o6 := o6.grown g7 (by omega)
    have hT := Q6.at_
    clear s7 g7
    refine hK _ _ ⟨hT, ?_⟩
    clear hK K hi
    refine BN 4 20 (.pointer (some ⟨g, 0, none⟩)) rfl rfl (by kernel_rfl) (by kernel_rfl) (by kernel_rfl) (fun _ _ _ h => h) (by kernel_rfl) (by (intro Y hSw; go_simp; intro e; exfalso; have h1_ := hL.1; rw [e] at h1_; simp at h1_)) (by assumption) ?_
    simp only [List.set_cons_zero, List.set_cons_succ]
    refine wpAnyH_all (rs := [5]) (by kernel_rfl) (by simp) ?_
    intro i hi; obtain rfl : i = 5 := by simpa using hi
    refine wpOp_step rfl (fun K hK => ?_)
    rw [if_pos (by kernel_rfl)]
    obtain ⟨t0, t1, t2, t3, t4, t5, t6, t7, t8, t9, t10⟩ : CA u1 g 0 (L.getD 0 Pt.nil) := CP (by have := o6.cell AV Pt.nil (i := 0) (by omega); simpa using this)
    simp only [Nat.zero_add] at t0 t1 t2 t3 t4 t5 t6 t7 t8 t9 t10
    have ff := o6.frozen
    have f0 := ff 0
    have f1 := ff 1
    have f2 := ff 2
    have f3 := ff 3
    have f4 := ff 4
    have f5 := ff 5
    have f6 := ff 6
    have f7 := ff 7
    have f8 := ff 8
    have f9 := ff 9
    have f10 := ff 10
    have MS := o6.set AV (by omega) (i := 0) (by omega) z
    rw [Nat.zero_mul, Ca] at MS
    simp only [Nat.zero_add] at MS
    clear ff
    obtain ⟨uf, huf⟩ : ∃ y_, y_ = (((((((((((u1.setCell ⟨g, 0, none⟩ (.bool z.up)).setCell ⟨g, 1, none⟩ (.bool z.has)).setCell ⟨g, 2, none⟩ (.int .i64 z.r)).setCell ⟨g, 3, none⟩ (.int .i64 z.c)).setCell ⟨g, 4, none⟩ (.int .i64 z.b)).setCell ⟨g, 5, none⟩ (.int .i64 z.p)).setCell ⟨g, 6, none⟩ (.int .i64 z.h)).setCell ⟨g, 7, none⟩ (.int .i64 z.l)).setCell ⟨g, 8, none⟩ (.int .i64 z.ro)).setCell ⟨g, 9, none⟩ (.int .i64 z.wa)).setCell ⟨g, 10, none⟩ (.bool z.op)) := ⟨_, rfl⟩
    rw [← huf] at MS
    have Q7 : AR uf Q id (.slice (some ⟨g, 0, none⟩) L.length c) := by rw [huf]; exact (((((((((((Q6.other (by omega)).other (by omega)).other (by omega)).other (by omega)).other (by omega)).other (by omega)).other (by omega)).other (by omega)).other (by omega)).other (by omega)).other (by omega))
    have R7 : AR uf R 0 (.slice none 0 0) := by rw [huf]; exact (((((((((((R6.other (by omega)).other (by omega)).other (by omega)).other (by omega)).other (by omega)).other (by omega)).other (by omega)).other (by omega)).other (by omega)).other (by omega)).other (by omega))
    have D7 : DV w cb ad len cap uf := by rw [huf]; exact (((((((((((D6.set (by omega) hcb _).set (by omega) hcb _).set (by omega) hcb _).set (by omega) hcb _).set (by omega) hcb _).set (by omega) hcb _).set (by omega) hcb _).set (by omega) hcb _).set (by omega) hcb _).set (by omega) hcb _).set (by omega) hcb _)
    go_simp
    rw [← huf]
    clear huf t0 f0 t1 f1 t2 f2 t3 f3 t4 f4 t5 f5 t6 f6 t7 f7 t8 f8 t9 f9 t10 f10 D6 R6 Q6
    refine hK _ _ ⟨Q7.at_, ?_⟩
    clear hK K hi
    refine wpAnyH_done (by kernel_rfl) ?_ _
    obtain ⟨L6, hL6⟩ : ∃ L6, L6 = L.set 0 z := ⟨_, rfl⟩
    rw [← hL6] at MS
    have hl6 : Hid (L6.length = L.length) := by unfold Hid; rw [hL6, List.length_set]
    have hn6 : Fw id L6 := by rw [hL6]; exact ⟨fun x hx => by rcases List.mem_or_eq_of_mem_set hx with h | h; exact hN.1 x h; rw [h]; exact hzn, hN.2⟩
    have MS2 : AA AK 11 47 (R + 1) uf (.slice (some ⟨g, 0, none⟩) L6.length c) L6 := by rw [hl6.out]; exact MS
    clear hL6
    go_upto_region 9 with fail
    have RP := R7.put id (.slice (some ⟨g, 0, none⟩) L.length c)
    have DZ := (D7.set (N := R) (i := 0) (by omega) hcb (.int .i64 id)).set (N := R) (i := 1) (by omega) hcb (.slice (some ⟨g, 0, none⟩) L.length c)
    have OZ : AA AK 11 47 w.heap.size ((uf.setCell ⟨R, 0, none⟩ (.int .i64 id)).setCell ⟨R, 1, none⟩ (.slice (some ⟨g, 0, none⟩) L.length c)) (.slice (some ⟨g, 0, none⟩) L.length c) L6 := ((MS.other (q := R) (i := 0) (u := .int .i64 id) (by omega)).other (q := R) (i := 1) (u := .slice (some ⟨g, 0, none⟩) L.length c) (by omega)).base (by omega)
    obtain ⟨⟨r0, r1⟩, rf⟩ := R7
    obtain ⟨⟨q0, q1⟩, qf⟩ := Q7
    obtain ⟨⟨p0, p1⟩, _⟩ := RP
    go_wp2
    refine bodyPost_ret (v := .agg #[.int .i64 id, .slice (some ⟨g, 0, none⟩) L.length c]) (by simp [results, results69, go_sem, *]) rfl ⟨id, some ⟨g, 0, none⟩, c, L6, by rw [hl6.out], by rw [hl6.out]; omega, hn6, by rw [hl6.out]; exact OZ, DZ.src hs, DZ.gr⟩
  have e1 : (t == 1) = false := by simpa using h1
  by_cases h2 : t = 2
  · subst h2
    obtain ⟨y6, hy6⟩ : ∃ y_, y_ = y5.alloc (Obj.cells #[.bool false, .bool false, .int .i64 0, .int .i64 0, .int .i64 0, .int .i64 0, .int .i64 0, .int .i64 0, .int .i64 0, .int .i64 0, .bool false, .bool false, .bool false, .int .i64 0, .int .i64 0, .int .i64 0, .int .i64 0, .int .i64 0, .int .i64 0, .int .i64 0, .int .i64 0, .bool false] 47) := ⟨_, rfl⟩
    have kn : Below y5.heap.size y5 y6 := by rw [hy6]; exact Ax _
    have V1 : AI AK y6 (some ⟨y5.heap.size, 0, none⟩) [Pt.nil, Pt.nil] := by
      intro _
      refine ⟨y5.heap.size, 0, rfl, fun j v hv => ?_⟩
      rw [hy6]
      have hj_ : j < 22 := by
        have := (List.getElem?_eq_some_iff.1 hv).1
        simpa [AT, AK] using this
      rcases (by omega : j = 0 ∨ j = 1 ∨ j = 2 ∨ j = 3 ∨ j = 4 ∨ j = 5 ∨ j = 6 ∨ j = 7 ∨ j = 8 ∨ j = 9 ∨ j = 10 ∨ j = 11 ∨ j = 12 ∨ j = 13 ∨ j = 14 ∨ j = 15 ∨ j = 16 ∨ j = 17 ∨ j = 18 ∨ j = 19 ∨ j = 20 ∨ j = 21) with rfl | rfl | rfl | rfl | rfl | rfl | rfl | rfl | rfl | rfl | rfl | rfl | rfl | rfl | rfl | rfl | rfl | rfl | rfl | rfl | rfl | rfl <;> (cases hv; simp [go_sem, Pt.nil])
    have D6 := D5.later8 kn
    have R6 := R5.below kn R5.lt
    have Q6 := Q5.below kn Q5.lt
    have o6 := o5.later kn
    have hcn := o5.capn
    have z6 := Q5.lt
    have cc_ := Q5
    obtain ⟨⟨q0, q1⟩, qf⟩ := cc_
    go_upto_region 8 with fail
    rw [hy6] at V1 D6 R6 Q6 o6
    go_wp2_with (first | (at_builtin; refine En AV Ga rfl _ _ 49 rfl (R + 1) 47 i0 (.agg #[.bool false, .bool false, .int .i64 0, .int .i64 0, .int .i64 0, .int .i64 0, .int .i64 0, .int .i64 0, .int .i64 0, .int .i64 0, .bool false]) 80 underlying49 hi hz0 hz1 hz2 rfl (by decide) (by decide) (.slice a L.length c) L rfl o6 (some ⟨y5.heap.size, 0, none⟩) 2 [Pt.nil, Pt.nil] rfl (fun e => by cases e) V1 ?z0 ?z1 ?_) | go_in)
    case z0 => simp; omega
    case z1 => simp; omega
    intro vZ y7 o7 g7 ho7
    rw [← hy6] at g7 D6 R6 Q6 o6
    have z7 := g7.size
    obtain ⟨aZ, cZ, hvz⟩ := o7.open_
    obtain ⟨L6, hL6⟩ : ∃ L6, L6 = L ++ [Pt.nil, Pt.nil] := ⟨_, rfl⟩
    rw [← hL6] at o7 hvz
    have hl6 : 1 ≤ L6.length ∧ L6.length ≤ 6 := by rw [hL6, List.length_append]; simp; omega
    have hn6 : Fw id L6 := by rw [hL6]; exact ⟨fun x hx => by rcases List.mem_append.1 hx with h | h; exact hN.1 x h; rw [show x = Pt.nil by simpa using h]; unfold BJ Pt.nil; dsimp only; omega, hN.2⟩
    clear hL6
    subst hvz
    have j7 : ∀ g_, (Value.slice aZ L6.length cZ).ownBlock = some g_ → g_ ≠ Q := fun g_ e => by
      rcases ho7 with q | q
      · exact hj g_ (by rw [← q]; exact e)
      · rw [q] at e
        simp at e
        have := kn.size
        omega
    have D7 : DV w cb ad len cap y7 := ⟨D6.cur.carry (g7.block cb D6.cur.lt (fun e => by have := (o6.lt _ e.symm).1; omega)), D6.gr.os.symm ▸ g7.os, D6.gr.tape.symm ▸ g7.tape, D6.gr.output.symm ▸ g7.output, Nat.le_trans D6.gr.size g7.size, fun k hk hn => (g7.block k (by have := D6.gr.size; omega) (fun e => by have := (o6.lt _ e.symm).1; omega)).trans (D6.gr.block k hk hn)⟩
    have R7 := R6.keep (g7.block R R6.lt (fun e => by have := (o6.lt _ e.symm).1; omega))
    have Q7 := Q6.keep (g7.block Q Q6.lt (fun e => hj _ e.symm rfl))
    clear g7 o6 D6 R6 Q6 V1 hy6 ho7 q0 q1 qf
    obtain ⟨y8, hy8⟩ : ∃ y_, y_ = y7.setCell ⟨Q, 1, none⟩ (.slice aZ L6.length cZ) := ⟨_, rfl⟩
    have Q8 : AR y8 Q id (.slice aZ L6.length cZ) := by rw [hy8]; exact ⟨⟨(AB (by decide)).trans Q7.at_.c0, Al Q7.at_.c1⟩, fun i => by rw [World.frozen?_setCell]; exact Q7.fr i⟩
    have D8 : DV w cb ad len cap y8 := by rw [hy8]; exact D7.set (by omega) hcb _
    have R8 : AR y8 R 0 (.slice none 0 0) := by rw [hy8]; exact R7.other (by omega)
    have o8 : AA AK 11 47 (R + 1) y8 (.slice aZ L6.length cZ) L6 := by rw [hy8]; exact o7.keep fun g_ e => AE (by show g_ ≠ Q; exact j7 g_ e)
    obtain ⟨⟨q0, q1⟩, qf⟩ := Q7
    go_upto_region 9 with fail
    rw [← hy8]
    clear hy8 q0 q1 qf D7 R7 o7
    have RP := R8.put id (.slice aZ L6.length cZ)
    have DZ := (D8.set (N := R) (i := 0) (by omega) hcb (.int .i64 id)).set (N := R) (i := 1) (by omega) hcb (.slice aZ L6.length cZ)
    have OZ : AA AK 11 47 w.heap.size ((y8.setCell ⟨R, 0, none⟩ (.int .i64 id)).setCell ⟨R, 1, none⟩ (.slice aZ L6.length cZ)) (.slice aZ L6.length cZ) L6 := ((o8.other (q := R) (i := 0) (u := .int .i64 id) (by omega)).other (q := R) (i := 1) (u := .slice aZ L6.length cZ) (by omega)).base (by omega)
    obtain ⟨⟨r0, r1⟩, rf⟩ := R8
    obtain ⟨⟨q0, q1⟩, qf⟩ := Q8
    obtain ⟨⟨p0, p1⟩, _⟩ := RP
    go_wp2
    refine bodyPost_ret (v := .agg #[.int .i64 id, .slice aZ L6.length cZ]) (by simp [results, results69, go_sem, *]) rfl ⟨id, _, _, L6, rfl, hl6, hn6, OZ, DZ.src hs, DZ.gr⟩
  have e2 : (t == 2) = false := by simpa using h2
  go_upto_region 9 with fail
  have RP := R5.put id (.slice a L.length c)
  have DZ := (D5.set (N := R) (i := 0) (by omega) hcb (.int .i64 id)).set (N := R) (i := 1) (by omega) hcb (.slice a L.length c)
  have OZ : AA AK 11 47 w.heap.size ((y5.setCell ⟨R, 0, none⟩ (.int .i64 id)).setCell ⟨R, 1, none⟩ (.slice a L.length c)) (.slice a L.length c) L := ((o5.other (q := R) (i := 0) (u := .int .i64 id) (by omega)).other (q := R) (i := 1) (u := .slice a L.length c) (by omega)).base (by omega)
  obtain ⟨⟨r0, r1⟩, rf⟩ := R5
  obtain ⟨⟨q0, q1⟩, qf⟩ := Q5
  obtain ⟨⟨p0, p1⟩, _⟩ := RP
  go_wp2
  refine bodyPost_ret (v := .agg #[.int .i64 id, .slice a L.length c]) (by simp [results, results69, go_sem, *]) rfl ⟨id, _, _, L, rfl, ⟨hL.1, by omega⟩, hN, OZ, DZ.src hs, DZ.gr⟩
attribute [local go_sem] mc
def CL (r : Rg) (s : Int) (m : Mi) : Rg := if CM r s m then CH r s else r
def Bv (r : Rg) (s : Int) (m : Mi) : Mi := if CM r s m then BO r m else m
theorem AQ.take {w : World} {q : Nat} {m : Mi} {v : Value} (h : AQ w q m v) (r : Rg) : AQ (((w.setCell (ja q 2) (ji (r.ep + 1))).setCell (ja q 5) (ji 0)).setCell (ja q 6) (ji 0)) q (BO r m) v := by
 obtain ⟨h0, h1, h2, h3, h4, h5, h6, hf⟩ := h;have h0 : (w.setCell (ja q 2) (ji (r.ep + 1))).cell? (ja q 0) = _ := (AB (by decide)).trans h0;have h1 : (w.setCell (ja q 2) (ji (r.ep + 1))).cell? (ja q 1) = _ := (AB (by decide)).trans h1;have h2 : (w.setCell (ja q 2) (ji (r.ep + 1))).cell? (ja q 2) = some (ji (r.ep + 1)) := Al h2;have h3 : (w.setCell (ja q 2) (ji (r.ep + 1))).cell? (ja q 3) = _ := (AB (by decide)).trans h3;have h4 : (w.setCell (ja q 2) (ji (r.ep + 1))).cell? (ja q 4) = _ := (AB (by decide)).trans h4;have h5 : (w.setCell (ja q 2) (ji (r.ep + 1))).cell? (ja q 5) = _ := (AB (by decide)).trans h5;have h6 : (w.setCell (ja q 2) (ji (r.ep + 1))).cell? (ja q 6) = _ := (AB (by decide)).trans h6;have h0 : ((w.setCell (ja q 2) (ji (r.ep + 1))).setCell (ja q 5) (ji 0)).cell? (ja q 0) = _ := (AB (by decide)).trans h0;have h1 : ((w.setCell (ja q 2) (ji (r.ep + 1))).setCell (ja q 5) (ji 0)).cell? (ja q 1) = _ := (AB (by decide)).trans h1;have h2 : ((w.setCell (ja q 2) (ji (r.ep + 1))).setCell (ja q 5) (ji 0)).cell? (ja q 2) = _ := (AB (by decide)).trans h2;have h3 : ((w.setCell (ja q 2) (ji (r.ep + 1))).setCell (ja q 5) (ji 0)).cell? (ja q 3) = _ := (AB (by decide)).trans h3;have h4 : ((w.setCell (ja q 2) (ji (r.ep + 1))).setCell (ja q 5) (ji 0)).cell? (ja q 4) = _ := (AB (by decide)).trans h4;have h5 : ((w.setCell (ja q 2) (ji (r.ep + 1))).setCell (ja q 5) (ji 0)).cell? (ja q 5) = some (ji 0) := Al h5;have h6 : ((w.setCell (ja q 2) (ji (r.ep + 1))).setCell (ja q 5) (ji 0)).cell? (ja q 6) = _ := (AB (by decide)).trans h6;have h0 : (((w.setCell (ja q 2) (ji (r.ep + 1))).setCell (ja q 5) (ji 0)).setCell (ja q 6) (ji 0)).cell? (ja q 0) = _ := (AB (by decide)).trans h0;have h1 : (((w.setCell (ja q 2) (ji (r.ep + 1))).setCell (ja q 5) (ji 0)).setCell (ja q 6) (ji 0)).cell? (ja q 1) = _ := (AB (by decide)).trans h1;have h2 : (((w.setCell (ja q 2) (ji (r.ep + 1))).setCell (ja q 5) (ji 0)).setCell (ja q 6) (ji 0)).cell? (ja q 2) = _ := (AB (by decide)).trans h2;have h3 : (((w.setCell (ja q 2) (ji (r.ep + 1))).setCell (ja q 5) (ji 0)).setCell (ja q 6) (ji 0)).cell? (ja q 3) = _ := (AB (by decide)).trans h3;have h4 : (((w.setCell (ja q 2) (ji (r.ep + 1))).setCell (ja q 5) (ji 0)).setCell (ja q 6) (ji 0)).cell? (ja q 4) = _ := (AB (by decide)).trans h4;have h5 : (((w.setCell (ja q 2) (ji (r.ep + 1))).setCell (ja q 5) (ji 0)).setCell (ja q 6) (ji 0)).cell? (ja q 5) = _ := (AB (by decide)).trans h5;have h6 : (((w.setCell (ja q 2) (ji (r.ep + 1))).setCell (ja q 5) (ji 0)).setCell (ja q 6) (ji 0)).cell? (ja q 6) = some (ji 0) := Al h6;refine ⟨h0, h1, h2, h3, h4, h5, h6, fun i => ?_⟩;rw [World.frozen?_setCell, World.frozen?_setCell, World.frozen?_setCell];exact hf i
theorem Kg (r : Rg) (s : Int) (m : Mi) (ad : Option Addr) (cap : Nat) (w : World) (hv : AI AW w ad m.lg) (hl : m.lg.length ≤ 1048577) (hn : ad = none → cap = 0) :
  Calls prog 164 #[.agg #[ji r.ep, ji r.ow, ji r.pa], ji s, .agg #[.bool m.up, ji m.li, ji m.ep, .slice ad m.lg.length cap, ji m.sd, ji m.ac, ji m.al]] w fun e w' => ∃ a c, e = .returned (.tuple #[.agg #[ji (CL r s m).ep, ji (CL r s m).ow, ji (CL r s m).pa], .agg #[.bool (Bv r s m).up, ji (Bv r s m).li, ji (Bv r s m).ep, .slice a m.lg.length c, ji (Bv r s m).sd, ji (Bv r s m).ac, ji (Bv r s m).al], .bool (CM r s m)]) ∧ AA AW 8 27 w.heap.size w' (.slice a m.lg.length c) m.lg ∧ Bw w w' := by
 have hB := hv.lt Av (by omega);obtain ⟨y, hy⟩ := AC ((((w.alloc (Obj.cells #[ji r.ep, ji r.ow, ji r.pa] 57)).alloc (Obj.cells (mc m ad cap) 54)).alloc (Obj.cells #[ji 0, ji 0, ji 0] 57)).alloc (Obj.cells #[.bool false, ji 0, ji 0, .slice none 0 0, ji 0, ji 0, ji 0] 54));have B0 : Bw w y := by rw [hy]; exact ((((Below.refl _ _).alloc (Nat.le_refl _) _).alloc (by simp) _).alloc (by simp; omega) _).alloc (by simp; omega) _
 have A : Ba y w.heap.size r := by rw [hy]; refine ⟨?_, fun i => ?_⟩; constructor <;> simp [go_sem]; simp [go_sem]
 have M : Ab y (w.heap.size + 1) m (.slice ad m.lg.length cap) := by rw [hy]; constructor <;> simp [go_sem]
 have Z2 : Ba y (w.heap.size + 1 + 1) ⟨0, 0, 0⟩ := by rw [hy]; refine ⟨?_, fun i => ?_⟩; constructor <;> simp [go_sem]; simp [go_sem]
 have Z3 : AQ y (w.heap.size + 1 + 1 + 1) ⟨false, 0, 0, [], 0, 0, 0⟩ (.slice none 0 0) := by rw [hy]; constructor <;> simp [go_sem]
 have S0 := Z3.lt;have hv1 := hv.below B0 hB;have HV : ∀ a, ad = some a → 0 < m.lg.length → a.block < y.heap.size := hv1.lt Av (by omega);clear hv hB;go_enter func164, ntmps164
 have x0 := M.all;go_wp2_with fail
 go_at_call 126
 rw [← hy];clear x0 hy;refine (Ex m ad cap y hv1 hl hn).mono ?_;rintro e u1 ⟨a1, c1, rfl, O1, k1⟩;have B1 := AG B0 k1;have A := A.below k1 A.lt;have M := M.below k1 M.lt;have Z2 := Z2.below k1 Z2.lt;have Z3 := Z3.below k1 Z3.lt;have hv1 := hv1.below k1 (hv1.lt Av (by omega));have s1 := k1.size;have lo1 := O1.lt;clear k1 B0;obtain ⟨u2, hu2, k2⟩ := AM u1 (Obj.cells (mc m a1 c1) 54);have N : AQ u2 u1.heap.size m (.slice a1 m.lg.length c1) := by rw [hu2]; exact AQ.new u1 _ _ _
 have B2 := AG B1 k2;have A := A.below k2 A.lt;have M := M.below k2 M.lt;have Z2 := Z2.below k2 Z2.lt;have Z3 := Z3.below k2 Z3.lt;have O1 := O1.later k2;have hv1 := hv1.below k2 (hv1.lt Av (by omega));have s2 := N.lt;go_upto_region 2 with fail
 rw [← hu2];clear hu2 k2 B1;obtain ⟨q, hq⟩ := AC u1.heap.size;rw [← hq] at N s1 s2 lo1 ⊢;clear hq;obtain ⟨⟨x0, x1, x2⟩, xf⟩ := id A;go_wp2_with fail
 go_at_call 148
 clear x0 x1 x2 xf;refine (GJ r u2).mono ?_;rintro e u3 ⟨rfl, k3⟩;have A := A.below k3 A.lt;have M := M.below k3 M.lt;have Z2 := Z2.below k3 Z2.lt;have Z3 := Z3.below k3 Z3.lt;have N := N.below k3 N.lt;have O1 := O1.later k3;have hv1 := hv1.below k3 (hv1.lt Av (by omega));have B3 := AG B2 k3;have s3 := k3.size;clear k3 B2;cases h1 : CB r
 focus
  have hT : Hid (CM r s m = false) := by unfold Hid CM; rw [show DM r s m = false by unfold DM; rw [h1]; rfl]; rfl
  have hTR : Hid (CL r s m = r) := by unfold Hid CL; rw [hT.out]; rfl
  have hTM : Hid (Bv r s m = m) := by unfold Hid Bv; rw [hT.out]; rfl
  have FR := A.at_;have FM := N.at_;go_upto_region 3 with fail
  refine An (fun Y => Am Y w.heap.size r ∧ Ab Y q m (.slice a1 m.lg.length c1)) fun u0 kd => ?_
  have hs0 : Am u0 w.heap.size r ∧ Ab u0 q m (.slice a1 m.lg.length c1) := ⟨FR.below kd FR.lt, FM.below kd FM.lt⟩;have Z2 := Z2.below kd Z2.lt;have Z3 := Z3.below kd Z3.lt;have O1 := O1.later kd;have Bd := AG B3 kd
 rotate_left;focus
  replace h1 : Hid _ := h1;have n0 := M.all;go_wp2_with fail
  go_at_call 149
  clear n0;refine (Fc m ad cap u3 hv1 hl).mono ?_;rintro e u4 ⟨rfl, k4⟩;have A := A.below k4 A.lt;have M := M.below k4 M.lt;have Z2 := Z2.below k4 Z2.lt;have Z3 := Z3.below k4 Z3.lt;have N := N.below k4 N.lt;have O1 := O1.later k4;have hv1 := hv1.below k4 (hv1.lt Av (by omega));have B4 := AG B3 k4;have s4 := k4.size;clear k4 B3;cases h2 : BM m
  focus
   have hT : Hid (CM r s m = false) := by unfold Hid CM; rw [show DM r s m = false by unfold DM; rw [h1.out, h2]; rfl]; rfl
   have hTR : Hid (CL r s m = r) := by unfold Hid CL; rw [hT.out]; rfl
   have hTM : Hid (Bv r s m = m) := by unfold Hid Bv; rw [hT.out]; rfl
   have FR := A.at_;have FM := N.at_;go_upto_region 3 with fail
   refine An (fun Y => Am Y w.heap.size r ∧ Ab Y q m (.slice a1 m.lg.length c1)) fun u0 kd => ?_
   have hs0 : Am u0 w.heap.size r ∧ Ab u0 q m (.slice a1 m.lg.length c1) := ⟨FR.below kd FR.lt, FM.below kd FM.lt⟩;have Z2 := Z2.below kd Z2.lt;have Z3 := Z3.below kd Z3.lt;have O1 := O1.later kd;have Bd := AG B4 kd
  rotate_left;focus
   replace h2 : Hid _ := h2;cases h3 : m.up
   focus
    have hT : Hid (CM r s m = false) := by unfold Hid CM; rw [show DM r s m = false by unfold DM; rw [h1.out, h2.out, h3]; rfl]; rfl
    have hTR : Hid (CL r s m = r) := by unfold Hid CL; rw [hT.out]; rfl
    have hTM : Hid (Bv r s m = m) := by unfold Hid Bv; rw [hT.out]; rfl
    obtain ⟨n0, n1, n2, n3, n4, n5, n6⟩ := id M;rw [h3] at n0;replace h3 : Hid _ := h3;have FR := A.at_;have FM := N.at_;go_upto_region 3 with fail
    refine An (fun Y => Am Y w.heap.size r ∧ Ab Y q m (.slice a1 m.lg.length c1)) fun u0 kd => ?_
    have hs0 : Am u0 w.heap.size r ∧ Ab u0 q m (.slice a1 m.lg.length c1) := ⟨FR.below kd FR.lt, FM.below kd FM.lt⟩;have Z2 := Z2.below kd Z2.lt;have Z3 := Z3.below kd Z3.lt;have O1 := O1.later kd;have Bd := AG B4 kd
   rotate_left;focus
    obtain ⟨n0, n1, n2, n3, n4, n5, n6⟩ := id M;rw [h3] at n0;go_wp2_with fail
    go_at_call 66
    clear n0 n1 n2 n3 n4 n5 n6;refine (BE s 0 1 u4).mono ?_;rintro e u5 ⟨rfl, hw_⟩;rw [hw_];clear hw_;replace h3 : Hid _ := h3;cases h4 : decide (0 ≤ s ∧ s ≤ 1)
    focus
     have hT : Hid (CM r s m = false) := by unfold Hid CM; rw [show DM r s m = false by unfold DM; rw [h1.out, h2.out, h3.out, h4]; rfl]; rfl
     have hTR : Hid (CL r s m = r) := by unfold Hid CL; rw [hT.out]; rfl
     have hTM : Hid (Bv r s m = m) := by unfold Hid Bv; rw [hT.out]; rfl
     clear h4;have n0 := M.all;obtain ⟨⟨x0, x1, x2⟩, xf⟩ := id A;clear xf;have FR := A.at_;have FM := N.at_;go_upto_region 3 with fail
     refine An (fun Y => Am Y w.heap.size r ∧ Ab Y q m (.slice a1 m.lg.length c1)) fun u0 kd => ?_
     have hs0 : Am u0 w.heap.size r ∧ Ab u0 q m (.slice a1 m.lg.length c1) := ⟨FR.below kd FR.lt, FM.below kd FM.lt⟩;have Z2 := Z2.below kd Z2.lt;have Z3 := Z3.below kd Z3.lt;have O1 := O1.later kd;have Bd := AG B4 kd
    rotate_left;focus
     replace h4 : Hid _ := h4;by_cases h5 : s = r.ow
     focus
      have d5 : (s == r.ow) = true := by simpa using h5
      have hT : Hid (CM r s m = false) := by unfold Hid CM; rw [show DM r s m = false by unfold DM; rw [h1.out, h2.out, h3.out, h4.out, decide_eq_false (show ¬ (s ≠ r.ow) from fun e => e h5)]; rfl]; rfl
      have hTR : Hid (CL r s m = r) := by unfold Hid CL; rw [hT.out]; rfl
      have hTM : Hid (Bv r s m = m) := by unfold Hid Bv; rw [hT.out]; rfl
      replace h5 : Hid _ := h5;have n0 := M.all;obtain ⟨⟨x0, x1, x2⟩, xf⟩ := id A;clear xf;have FR := A.at_;have FM := N.at_;go_upto_region 3 with fail
      refine An (fun Y => Am Y w.heap.size r ∧ Ab Y q m (.slice a1 m.lg.length c1)) fun u0 kd => ?_
      have hs0 : Am u0 w.heap.size r ∧ Ab u0 q m (.slice a1 m.lg.length c1) := ⟨FR.below kd FR.lt, FM.below kd FM.lt⟩;have Z2 := Z2.below kd Z2.lt;have Z3 := Z3.below kd Z3.lt;have O1 := O1.later kd;have Bd := AG B4 kd
     rotate_left;focus
      have d5 : (s == r.ow) = false := by rw [beq_eq_false_iff_ne]; exact h5
      replace h5 : Hid (¬ s = r.ow) := h5;by_cases h6 : 0 < m.li
      focus
       have d6 : decide (m.li ≤ 0) = false := decide_eq_false (by omega);replace h6 : Hid _ := h6;by_cases h7 : m.li = r.pa
       ·
        have d7 : (m.li != r.pa) = false := by simpa using h7
        replace h7 : Hid _ := h7;have n0 := M.all;obtain ⟨⟨x0, x1, x2⟩, xf⟩ := id A;clear xf;go_upto_region 4 with fail
        clear n0 x0 x1 x2;have hG : DM r s m = true := by unfold DM; rw [h1.out, h2.out, h3.out, h4.out, decide_eq_true (show s ≠ r.ow from h5.out), decide_eq_true h6.out, decide_eq_true h7.out]; rfl
        replace hG : Hid _ := hG;have hre := (KP.1 h1.out).1;obtain ⟨hre0, hre1⟩ := hre;obtain ⟨⟨x0, x1, x2⟩, xf⟩ := id A;clear xf;obtain ⟨u5, hu5, k5⟩ := AM u4 (Obj.cells #[ji (r.ep + 1), ji s, ji 0] 57);have X : Am u5 u4.heap.size (CH r s) := by rw [hu5]; exact Am.new u4 _ (CH r s)
        have B5 := AG B4 k5;have A := A.below k5 A.lt;have M := M.below k5 M.lt;have Z2 := Z2.below k5 Z2.lt;have Z3 := Z3.below k5 Z3.lt;have N := N.below k5 N.lt;have O1 := O1.later k5;have hv1 := hv1.below k5 (hv1.lt Av (by omega));have s5 := X.lt;go_upto_region 5 with fail
        rw [← hu5];clear hu5 k5 B4 x0 x1 x2;obtain ⟨qx, hqx⟩ := AC u4.heap.size;rw [← hqx] at X s5 ⊢;have hqq : q < qx := by omega
        clear hqx;obtain ⟨u6, hu6⟩ := AC (((u5.setCell (ja q 2) (ji (r.ep + 1))).setCell (ja q 5) (ji 0)).setCell (ja q 6) (ji 0));have N6 : AQ u6 q (BO r m) (.slice a1 m.lg.length c1) := by rw [hu6]; exact N.take r
        have kp : ∀ k, k ≠ q → u6.heap[k]? = u5.heap[k]? := fun k hk => by rw [hu6, AE hk, AE hk, AE hk]
        have A := A.keep (kp _ (by omega));have M := M.keep (kp _ (by omega));have Z2 := Z2.keep (kp _ (by omega));have Z3 := Z3.keep (kp _ (by omega));have X6 := X.keep (kp _ (by omega));have O1 := O1.keep (fun g e => kp g (by have := lo1 g e; omega));have hv1 := hv1.carry (fun a e p => kp _ (by have := HV a e p; omega));have B6 : Bw w u6 := by rw [hu6]; exact ((B5.setCell (p := (ja q 2)) (by show _ ≤ q; omega) _).setCell (p := (ja q 5)) (by show _ ≤ q; omega) _).setCell (p := (ja q 6)) (by show _ ≤ q; omega) _
        have s6 : u5.heap.size ≤ u6.heap.size := by rw [hu6]; simp
        obtain ⟨x0, x1, x2⟩ := X;obtain ⟨n0, n1, n2, n3, n4, n5, n6, nf⟩ := N;have f2 := nf 2;have f5 := nf 5;have f6 := nf 6;clear nf kp;dsimp only [CH] at x0 x1 x2;go_upto_region 8 with fail
        rw [← hu6];clear hu6 x0 x1 x2 n0 n1 n2 n3 n4 n5 n6 f2 f5 f6 B5;have N := N6;have X := X6;clear N6 X6;have x0 := X.all;go_wp2_with fail
        go_at_call 148
        clear x0;refine (GJ (CH r s) u6).mono ?_;rintro e u7 ⟨rfl, k7⟩;have A := A.below k7 A.lt;have M := M.below k7 M.lt;have Z2 := Z2.below k7 Z2.lt;have Z3 := Z3.below k7 Z3.lt;have N := N.below k7 N.lt;have O1 := O1.later k7;have hv1 := hv1.below k7 (hv1.lt Av (by omega));have X := X.below k7 X.lt;have B7 := AG B6 k7;have s7 := k7.size;clear k7 B6;cases h8 : CB (CH r s)
        focus
         have hT : Hid (CM r s m = false) := by unfold Hid CM; rw [hG.out, h8]; rfl
         have hTR : Hid (CL r s m = r) := by unfold Hid CL; rw [hT.out]; rfl
         have hTM : Hid (Bv r s m = m) := by unfold Hid Bv; rw [hT.out]; rfl
         have FR := A.at_;have FM := M;go_upto_region 9 with fail
         refine An (fun Y => Am Y w.heap.size r ∧ Ab Y (w.heap.size + 1) m (.slice ad m.lg.length cap)) fun u0 kd => ?_
         have hs0 : Am u0 w.heap.size r ∧ Ab u0 (w.heap.size + 1) m (.slice ad m.lg.length cap) := ⟨FR.below kd FR.lt, FM.below kd FM.lt⟩;have Z2 := Z2.below kd Z2.lt;have Z3 := Z3.below kd Z3.lt;have O1 := O1.later kd;have Bd := AG B7 kd
        rotate_left;focus
         replace h8 : Hid _ := h8;have n0 := N.all;go_wp2_with fail
         go_at_call 149
         clear n0;refine (Fc (BO r m) a1 c1 u7 O1.view.2 (by show m.lg.length ≤ _; exact hl)).mono ?_;rintro e u8 ⟨rfl, k8⟩;have A := A.below k8 A.lt;have M := M.below k8 M.lt;have Z2 := Z2.below k8 Z2.lt;have Z3 := Z3.below k8 Z3.lt;have N := N.below k8 N.lt;have O1 := O1.later k8;have hv1 := hv1.below k8 (hv1.lt Av (by omega));have X := X.below k8 X.lt;have B8 := AG B7 k8;have s8 := k8.size;clear k8 B7;cases h9 : BM (BO r m)
         focus
          have hT : Hid (CM r s m = false) := by unfold Hid CM; rw [hG.out, h8.out, h9]; rfl
          have hTR : Hid (CL r s m = r) := by unfold Hid CL; rw [hT.out]; rfl
          have hTM : Hid (Bv r s m = m) := by unfold Hid Bv; rw [hT.out]; rfl
          have FR := A.at_;have FM := M;go_upto_region 9 with fail
          refine An (fun Y => Am Y w.heap.size r ∧ Ab Y (w.heap.size + 1) m (.slice ad m.lg.length cap)) fun u0 kd => ?_
          have hs0 : Am u0 w.heap.size r ∧ Ab u0 (w.heap.size + 1) m (.slice ad m.lg.length cap) := ⟨FR.below kd FR.lt, FM.below kd FM.lt⟩;have Z2 := Z2.below kd Z2.lt;have Z3 := Z3.below kd Z3.lt;have O1 := O1.later kd;have Bd := AG B8 kd
         rotate_left
         ·
          have hT : Hid (CM r s m = true) := by unfold Hid CM; rw [hG.out, h8.out, h9]; rfl
          have hTR : Hid (CL r s m = CH r s) := by unfold Hid CL; rw [hT.out]; rfl
          have hTM : Hid (Bv r s m = BO r m) := by unfold Hid Bv; rw [hT.out]; rfl
          have FR := X;have FM := N.at_;go_upto_region 10 with fail
          refine An (fun Y => Am Y qx (CH r s) ∧ Ab Y q (BO r m) (.slice a1 m.lg.length c1)) fun u0 kd => ?_
          have hs0 : Am u0 qx (CH r s) ∧ Ab u0 q (BO r m) (.slice a1 m.lg.length c1) := ⟨FR.below kd FR.lt, FM.below kd FM.lt⟩;have Z2 := Z2.below kd Z2.lt;have Z3 := Z3.below kd Z3.lt;have O1 := O1.later kd;have Bd := AG B8 kd;have lo := O1.lt;refine tw 0 72 (.agg #[ji (CH r s).ep, ji (CH r s).ow, ji (CH r s).pa]) ?_ (hy := by intro Y hSw; obtain ⟨⟨X0, X1, X2⟩, _⟩ := hSw; go_simp);refine tw 1 73 (.agg #[.bool (BO r m).up, ji (BO r m).li, ji (BO r m).ep, .slice a1 m.lg.length c1, ji (BO r m).sd, ji (BO r m).ac, ji (BO r m).al]) ?_ (hy := by intro Y hSw; obtain ⟨_, X0, X1, X2, X3, X4, X5, X6⟩ := hSw; go_simp);refine w1 2 fun Kz hKz => ?_
          obtain ⟨⟨z0, z1, z2⟩, zf⟩ := id Z2;have g0 := zf 0;have g1 := zf 1;have g2 := zf 2;go_simp
          clear z0 z1 z2 zf g0 g1 g2;obtain ⟨u2, hu2⟩ := AC (((u0.setCell ⟨w.heap.size + 1 + 1, 0, none⟩ (ji (CH r s).ep)).setCell ⟨w.heap.size + 1 + 1, 1, none⟩ (ji (CH r s).ow)).setCell ⟨w.heap.size + 1 + 1, 2, none⟩ (ji (CH r s).pa));have Q2 : Ba u2 (w.heap.size + 1 + 1) (CH r s) := by rw [hu2]; exact Z2.put (CH r s)
          have kp : ∀ k, k ≠ w.heap.size + 1 + 1 → u2.heap[k]? = u0.heap[k]? := fun k hk => by rw [hu2]; exact Gg _ _ _ (CH r s) hk
          have hs2 : Am u2 qx (CH r s) ∧ Ab u2 q (BO r m) (.slice a1 m.lg.length c1) := ⟨hs0.1.keep (kp _ (by omega)), hs0.2.keep (kp _ (by omega))⟩;have Z3 := Z3.keep (kp _ (by omega));have O1 := O1.keep (fun g e => kp g (by have := lo g e; omega));have Bd : Bw w u2 := by rw [hu2]; exact Fp (CH r s) Bd (by omega)
          rw [← hu2];clear hu2 kp;refine hKz _ _ ⟨hs2, ?_⟩;clear hKz Kz;refine w1 3 fun Kz hKz => ?_
          obtain ⟨z0, z1, z2, z3, z4, z5, z6, zf⟩ := id Z3;have g0 := zf 0;have g1 := zf 1;have g2 := zf 2;have g3 := zf 3;have g4 := zf 4;have g5 := zf 5;have g6 := zf 6;go_simp
          clear z0 z1 z2 z3 z4 z5 z6 zf g0 g1 g2 g3 g4 g5 g6;obtain ⟨u3, hu3⟩ := AC (((((((u2.setCell ⟨w.heap.size + 1 + 1 + 1, 0, none⟩ (.bool (BO r m).up)).setCell ⟨w.heap.size + 1 + 1 + 1, 1, none⟩ (ji (BO r m).li)).setCell ⟨w.heap.size + 1 + 1 + 1, 2, none⟩ (ji (BO r m).ep)).setCell ⟨w.heap.size + 1 + 1 + 1, 3, none⟩ (.slice a1 m.lg.length c1)).setCell ⟨w.heap.size + 1 + 1 + 1, 4, none⟩ (ji (BO r m).sd)).setCell ⟨w.heap.size + 1 + 1 + 1, 5, none⟩ (ji (BO r m).ac)).setCell ⟨w.heap.size + 1 + 1 + 1, 6, none⟩ (ji (BO r m).al));have Q3 : AQ u3 (w.heap.size + 1 + 1 + 1) (BO r m) (.slice a1 m.lg.length c1) := by rw [hu3]; exact Z3.put (BO r m) _
          have kp : ∀ k, k ≠ w.heap.size + 1 + 1 + 1 → u3.heap[k]? = u2.heap[k]? := fun k hk => by rw [hu3]; exact Dd _ _ _ (BO r m) _ hk
          have hs3 : Am u3 qx (CH r s) ∧ Ab u3 q (BO r m) (.slice a1 m.lg.length c1) := ⟨hs2.1.keep (kp _ (by omega)), hs2.2.keep (kp _ (by omega))⟩;have Q2 := Q2.keep (kp _ (by omega));have O1 := O1.keep (fun g e => kp g (by have := lo g e; omega));have Bd : Bw w u3 := by rw [hu3]; exact EM (BO r m) _ Bd (by omega)
          rw [← hu3];clear hu3 kp;refine hKz _ _ ⟨hs3, ?_⟩;clear hKz Kz;refine tw 4 8 (.bool true) ?_;refine Ag ?_;have OZ := O1.base (base' := w.heap.size) (by omega);obtain ⟨⟨q0, q1, q2⟩, qf⟩ := Q2;replace Q3 := Q3.all;clear qf hs3 O1;go_wp2
          refine bodyPost_ret (v := .tuple #[.agg #[ji (CH r s).ep, ji (CH r s).ow, ji (CH r s).pa], .agg #[.bool (BO r m).up, ji (BO r m).li, ji (BO r m).ep, .slice a1 m.lg.length c1, ji (BO r m).sd, ji (BO r m).ac, ji (BO r m).al], .bool true]) (by simp [results, results164, go_sem, *]) rfl ⟨a1, c1, by rw [hTR.out, hTM.out, hT.out], OZ, Bd⟩
        rotate_left;all_goals
         have lo := O1.lt;refine tw 0 69 (.agg #[ji r.ep, ji r.ow, ji r.pa]) ?_ (hy := by intro Y hSw; obtain ⟨⟨X0, X1, X2⟩, _⟩ := hSw; go_simp);refine tw 1 70 (.agg (mc m ad cap)) ?_ (hy := by intro Y hSw; obtain ⟨_, X0, X1, X2, X3, X4, X5, X6⟩ := hSw; go_simp);refine w1 2 fun Kz hKz => ?_
         go_simp
         go_at_call 126
         refine (Ex m ad cap u0 (hv1.below kd (hv1.lt Av (by omega))) hl hn).mono ?_;rintro e u1 ⟨a7, c7, rfl, O7, k7⟩;have hs1 : Am u1 w.heap.size r ∧ Ab u1 (w.heap.size + 1) m (.slice ad m.lg.length cap) := ⟨hs0.1.below k7 hs0.1.lt, hs0.2.below k7 hs0.2.lt⟩;have Z2 := Z2.below k7 Z2.lt;have Z3 := Z3.below k7 Z3.lt;have Bd := AG Bd k7;have lo := O7.lt;have kds := kd.size;clear k7;refine hKz _ _ ⟨hs1, ?_⟩;clear hKz Kz;refine w1 3 fun Kz hKz => ?_
         obtain ⟨⟨z0, z1, z2⟩, zf⟩ := id Z2;have g0 := zf 0;have g1 := zf 1;have g2 := zf 2;go_simp
         clear z0 z1 z2 zf g0 g1 g2;obtain ⟨u2, hu2⟩ := AC (((u1.setCell ⟨w.heap.size + 1 + 1, 0, none⟩ (ji r.ep)).setCell ⟨w.heap.size + 1 + 1, 1, none⟩ (ji r.ow)).setCell ⟨w.heap.size + 1 + 1, 2, none⟩ (ji r.pa));have Q2 : Ba u2 (w.heap.size + 1 + 1) r := by rw [hu2]; exact Z2.put r
         have kp : ∀ k, k ≠ w.heap.size + 1 + 1 → u2.heap[k]? = u1.heap[k]? := fun k hk => by rw [hu2]; exact Gg _ _ _ r hk
         have hs2 : Am u2 w.heap.size r ∧ Ab u2 (w.heap.size + 1) m (.slice ad m.lg.length cap) := ⟨hs1.1.keep (kp _ (by omega)), hs1.2.keep (kp _ (by omega))⟩;have Z3 := Z3.keep (kp _ (by omega));have O7 := O7.keep (fun g e => kp g (by have := lo g e; omega));have Bd : Bw w u2 := by rw [hu2]; exact Fp r Bd (by omega)
         rw [← hu2];clear hu2 kp;refine hKz _ _ ⟨hs2, ?_⟩;clear hKz Kz;refine w1 4 fun Kz hKz => ?_
         obtain ⟨z0, z1, z2, z3, z4, z5, z6, zf⟩ := id Z3;have g0 := zf 0;have g1 := zf 1;have g2 := zf 2;have g3 := zf 3;have g4 := zf 4;have g5 := zf 5;have g6 := zf 6;go_simp
         clear z0 z1 z2 z3 z4 z5 z6 zf g0 g1 g2 g3 g4 g5 g6;obtain ⟨u3, hu3⟩ := AC (((((((u2.setCell ⟨w.heap.size + 1 + 1 + 1, 0, none⟩ (.bool m.up)).setCell ⟨w.heap.size + 1 + 1 + 1, 1, none⟩ (ji m.li)).setCell ⟨w.heap.size + 1 + 1 + 1, 2, none⟩ (ji m.ep)).setCell ⟨w.heap.size + 1 + 1 + 1, 3, none⟩ (.slice a7 m.lg.length c7)).setCell ⟨w.heap.size + 1 + 1 + 1, 4, none⟩ (ji m.sd)).setCell ⟨w.heap.size + 1 + 1 + 1, 5, none⟩ (ji m.ac)).setCell ⟨w.heap.size + 1 + 1 + 1, 6, none⟩ (ji m.al));have Q3 : AQ u3 (w.heap.size + 1 + 1 + 1) m (.slice a7 m.lg.length c7) := by rw [hu3]; exact Z3.put m _
         have kp : ∀ k, k ≠ w.heap.size + 1 + 1 + 1 → u3.heap[k]? = u2.heap[k]? := fun k hk => by rw [hu3]; exact Dd _ _ _ m _ hk
         have hs3 : Am u3 w.heap.size r ∧ Ab u3 (w.heap.size + 1) m (.slice ad m.lg.length cap) := ⟨hs2.1.keep (kp _ (by omega)), hs2.2.keep (kp _ (by omega))⟩;have Q2 := Q2.keep (kp _ (by omega));have O7 := O7.keep (fun g e => kp g (by have := lo g e; omega));have Bd : Bw w u3 := by rw [hu3]; exact EM m _ Bd (by omega)
         rw [← hu3];clear hu3 kp;refine hKz _ _ ⟨hs3, ?_⟩;clear hKz Kz;refine tw 5 8 (.bool false) ?_;refine Ag ?_;have OZ := O7.base (base' := w.heap.size) (by omega);obtain ⟨⟨q0, q1, q2⟩, qf⟩ := Q2;replace Q3 := Q3.all;clear qf hs3 O7;go_wp2
         refine bodyPost_ret (v := .tuple #[.agg #[ji r.ep, ji r.ow, ji r.pa], .agg (mc m a7 c7), .bool false]) (by simp [results, results164, go_sem, *]) rfl ⟨a7, c7, by rw [hTR.out, hTM.out, hT.out], OZ, Bd⟩
       focus
        have d7 : (m.li != r.pa) = true := by simpa using h7
        have hT : Hid (CM r s m = false) := by unfold Hid CM; rw [show DM r s m = false by unfold DM; rw [h1.out, h2.out, h3.out, h4.out, decide_eq_true (show s ≠ r.ow from h5.out), decide_eq_true h6.out, decide_eq_false h7]; rfl]; rfl
        have hTR : Hid (CL r s m = r) := by unfold Hid CL; rw [hT.out]; rfl
        have hTM : Hid (Bv r s m = m) := by unfold Hid Bv; rw [hT.out]; rfl
        clear h7;have n0 := M.all;obtain ⟨⟨x0, x1, x2⟩, xf⟩ := id A;clear xf;have FR := A.at_;have FM := N.at_;go_upto_region 3 with fail
        refine An (fun Y => Am Y w.heap.size r ∧ Ab Y q m (.slice a1 m.lg.length c1)) fun u0 kd => ?_
        have hs0 : Am u0 w.heap.size r ∧ Ab u0 q m (.slice a1 m.lg.length c1) := ⟨FR.below kd FR.lt, FM.below kd FM.lt⟩;have Z2 := Z2.below kd Z2.lt;have Z3 := Z3.below kd Z3.lt;have O1 := O1.later kd;have Bd := AG B4 kd
       rotate_left
      rotate_left;focus
       have d6 : decide (m.li ≤ 0) = true := decide_eq_true (by omega);have hT : Hid (CM r s m = false) := by unfold Hid CM; rw [show DM r s m = false by unfold DM; rw [h1.out, h2.out, h3.out, h4.out, decide_eq_true (show s ≠ r.ow from h5.out), decide_eq_false h6]; rfl]; rfl
       have hTR : Hid (CL r s m = r) := by unfold Hid CL; rw [hT.out]; rfl
       have hTM : Hid (Bv r s m = m) := by unfold Hid Bv; rw [hT.out]; rfl
       clear h6;have n0 := M.all;obtain ⟨⟨x0, x1, x2⟩, xf⟩ := id A;clear xf;have FR := A.at_;have FM := N.at_;go_upto_region 3 with fail
       refine An (fun Y => Am Y w.heap.size r ∧ Ab Y q m (.slice a1 m.lg.length c1)) fun u0 kd => ?_
       have hs0 : Am u0 w.heap.size r ∧ Ab u0 q m (.slice a1 m.lg.length c1) := ⟨FR.below kd FR.lt, FM.below kd FM.lt⟩;have Z2 := Z2.below kd Z2.lt;have Z3 := Z3.below kd Z3.lt;have O1 := O1.later kd;have Bd := AG B4 kd
      rotate_left
     rotate_left 2
    rotate_left 3
   rotate_left 4
  rotate_left 5
 rotate_left 6;all_goals
  have lo := O1.lt;refine tw 0 49 (.agg #[ji r.ep, ji r.ow, ji r.pa]) ?_ (hy := by intro Y hSw; obtain ⟨⟨X0, X1, X2⟩, _⟩ := hSw; go_simp);refine tw 1 50 (.agg (mc m a1 c1)) ?_ (hy := by intro Y hSw; obtain ⟨_, X0, X1, X2, X3, X4, X5, X6⟩ := hSw; go_simp);refine w1 2 fun Kz hKz => ?_
  obtain ⟨⟨z0, z1, z2⟩, zf⟩ := id Z2;have g0 := zf 0;have g1 := zf 1;have g2 := zf 2;go_simp
  clear z0 z1 z2 zf g0 g1 g2;obtain ⟨u2, hu2⟩ := AC (((u0.setCell ⟨w.heap.size + 1 + 1, 0, none⟩ (ji r.ep)).setCell ⟨w.heap.size + 1 + 1, 1, none⟩ (ji r.ow)).setCell ⟨w.heap.size + 1 + 1, 2, none⟩ (ji r.pa));have Q2 : Ba u2 (w.heap.size + 1 + 1) r := by rw [hu2]; exact Z2.put r
  have kp : ∀ k, k ≠ w.heap.size + 1 + 1 → u2.heap[k]? = u0.heap[k]? := fun k hk => by rw [hu2]; exact Gg _ _ _ r hk
  have hs2 : Am u2 w.heap.size r ∧ Ab u2 q m (.slice a1 m.lg.length c1) := ⟨hs0.1.keep (kp _ (by omega)), hs0.2.keep (kp _ (by omega))⟩;have Z3 := Z3.keep (kp _ (by omega));have O1 := O1.keep (fun g e => kp g (by have := lo g e; omega));have Bd : Bw w u2 := by rw [hu2]; exact Fp r Bd (by omega)
  rw [← hu2];clear hu2 kp;refine hKz _ _ ⟨hs2, ?_⟩;clear hKz Kz;refine w1 3 fun Kz hKz => ?_
  obtain ⟨z0, z1, z2, z3, z4, z5, z6, zf⟩ := id Z3;have g0 := zf 0;have g1 := zf 1;have g2 := zf 2;have g3 := zf 3;have g4 := zf 4;have g5 := zf 5;have g6 := zf 6;go_simp
  clear z0 z1 z2 z3 z4 z5 z6 zf g0 g1 g2 g3 g4 g5 g6;obtain ⟨u3, hu3⟩ := AC (((((((u2.setCell ⟨w.heap.size + 1 + 1 + 1, 0, none⟩ (.bool m.up)).setCell ⟨w.heap.size + 1 + 1 + 1, 1, none⟩ (ji m.li)).setCell ⟨w.heap.size + 1 + 1 + 1, 2, none⟩ (ji m.ep)).setCell ⟨w.heap.size + 1 + 1 + 1, 3, none⟩ (.slice a1 m.lg.length c1)).setCell ⟨w.heap.size + 1 + 1 + 1, 4, none⟩ (ji m.sd)).setCell ⟨w.heap.size + 1 + 1 + 1, 5, none⟩ (ji m.ac)).setCell ⟨w.heap.size + 1 + 1 + 1, 6, none⟩ (ji m.al));have Q3 : AQ u3 (w.heap.size + 1 + 1 + 1) m (.slice a1 m.lg.length c1) := by rw [hu3]; exact Z3.put m _
  have kp : ∀ k, k ≠ w.heap.size + 1 + 1 + 1 → u3.heap[k]? = u2.heap[k]? := fun k hk => by rw [hu3]; exact Dd _ _ _ m _ hk
  have hs3 : Am u3 w.heap.size r ∧ Ab u3 q m (.slice a1 m.lg.length c1) := ⟨hs2.1.keep (kp _ (by omega)), hs2.2.keep (kp _ (by omega))⟩;have Q2 := Q2.keep (kp _ (by omega));have O1 := O1.keep (fun g e => kp g (by have := lo g e; omega));have Bd : Bw w u3 := by rw [hu3]; exact EM m _ Bd (by omega)
  rw [← hu3];clear hu3 kp;refine hKz _ _ ⟨hs3, ?_⟩;clear hKz Kz;refine tw 4 8 (.bool false) ?_;refine Ag ?_;have OZ := O1.base (base' := w.heap.size) (by omega);obtain ⟨⟨q0, q1, q2⟩, qf⟩ := Q2;replace Q3 := Q3.all;clear qf hs3 O1;go_wp2
  refine bodyPost_ret (v := .tuple #[.agg #[ji r.ep, ji r.ow, ji r.pa], .agg (mc m a1 c1), .bool false]) (by simp [results, results164, go_sem, *]) rfl ⟨a1, c1, by rw [hTR.out, hTM.out, hT.out], OZ, Bd⟩
attribute [local go_sem] bc
theorem BL.lt {w : World} {q o : Nat} {x : AD} (h : BL w q o x) : q < w.heap.size := World.block_lt_of_cell? w _ h.c0
theorem AQ.setSd' {w : World} {q : Nat} {m : Mi} {v : Value} (h : AQ w q m v) (z : Int) : AQ (w.setCell (ja q 4) (ji z)) q ⟨m.up, m.li, m.ep, m.lg, z, m.ac, m.al⟩ v := ⟨(AB (by decide)).trans h.c0, (AB (by decide)).trans h.c1, (AB (by decide)).trans h.c2, (AB (by decide)).trans h.c3, Al h.c4, (AB (by decide)).trans h.c5, (AB (by decide)).trans h.c6, fun i => by rw [World.frozen?_setCell]; exact h.fr i⟩
theorem Lf (x : AF) (d : De) (w : World) (base : Nat) (hO : AL base w x) (hbw : base ≤ w.heap.size) (hb : BA x.p = true) (ha : 0 ≤ d.a ∧ d.a ≤ 1) :
  Calls prog 147 #[.agg (bc x), .agg #[ji d.k, ji d.a, ji d.x.k, ji d.x.q, ji d.x.r, ji d.x.c, ji d.x.b, ji d.x.p, ji d.x.h, .bool d.x.up]] w fun e w' => ∃ x2 : AF, ∃ c : Int, e = .returned (.tuple #[.agg (bc x2), ji c]) ∧ (x2.p, c) = Eo x.p d ∧ AL base w' x2 ∧ Below base w w' ∧ PZ w w' := by
 obtain ⟨y, hy⟩ := AC (((w.alloc (Obj.cells (bc x) 63)).alloc (Obj.cells #[ji d.k, ji d.a, ji d.x.k, ji d.x.q, ji d.x.r, ji d.x.c, ji d.x.b, ji d.x.p, ji d.x.h, .bool d.x.up] 210)).alloc (Obj.cells #[ji 0, ji 0, ji 0, ji 0, ji 0, .slice none 0 0, .slice none 0 0, .slice none 0 0, .slice none 0 0, .slice none 0 0] 63));obtain ⟨S, D, B0, ND⟩ := GY x d w y hO hbw hy;have PZ_ := PZ.of B0;obtain ⟨hl2, hmi, _, _, hli, _⟩ := EL hb;have V := S.O.okV hb;clear hb hO;obtain ⟨k, hk⟩ : ∃ k : Nat, d.a = (k : Int) := ⟨d.a.toNat, by omega⟩;have hk2 : k < 2 := by omega
 have hkl : k < x.two.length := by omega
 obtain ⟨g, hat, _, gl⟩ := S.O.t.blk (by omega);obtain ⟨m, hm⟩ : ∃ m, x.two.getD k AD.nil = m := ⟨_, rfl⟩;have M0 : BL y g (k * 7) m := by have h1 := S.O.t.view.2; rw [hat] at h1; have := CZ (h1.at_ BC AD.nil hkl); rw [hm] at this; simpa using this
 have hmo : AZ x.p d.a = m.m := by rw [Ch, hk]; simp only [Int.toNat_natCast]; rw [hm]
 have hok : BM m.m = true := by have := hmi k hk2; rw [hm] at this; exact this
 have hlg := Ei hok;have hct := V.ct;have hL := S.O.l k hkl;rw [hm] at hL;have hcn := hL.capn;obtain ⟨R, hR⟩ := AC (Eo x.p d);rw [← hR];replace hR : Hid _ := hR;replace hk : Hid _ := hk;replace hat : Hid _ := hat;replace hm : Hid _ := hm;replace hmo : Hid _ := hmo;replace hok : Hid _ := hok;replace hl2 : Hid _ := hl2;clear ha hmi;go_enter func147, ntmps147
 go_upto_region 1 with fail
 rw [← hy];clear hy;obtain ⟨a0, a1, a2, a3, a4, a5, a6, a7, a8, a9⟩ := S.A.at_;rw [hat.out] at a5;have cD := D.c1;rw [hk.out] at cD;obtain ⟨v0, v1, v2, v3, v4, v5, v6⟩ := id M0;go_upto_region 2 with fail
 clear v0 v1 v2 v3 v4 v5 v6 a0 a1 a2 a3 a4 a5 a6 a7 a8 a9 cD;obtain ⟨u1, hu1, kq⟩ := AM y (Obj.cells (mc m.m m.ad m.cap) 54);rw [← hu1];have N : Ab u1 y.heap.size m.m (.slice m.ad m.m.lg.length m.cap) := by rw [hu1]; exact Ab.new y _ m.m _
 have NN : Ai y.heap.size x := S.O.ne (Nat.le_refl _);have nq := S.A.lt;have nd := D.lt;have nz := BR S.Z;clear hu1;have S := S.later kq;have PZ_ := PZ_.later kq;have D := D.below kq D.lt;have V := V.later kq;have hL := hL.later kq;have M0 := M0.below kq gl;obtain ⟨qn, hqn⟩ := AC y.heap.size;rw [← hqn] at N NN nq nz nd gl ⊢;clear hqn kq;have e0 := D.c0;by_cases h9 : d.k = 9
 ·
  go_upto_region 3 with fail
  clear e0;have cD := D.c1;rw [hk.out] at cD;obtain ⟨a0, a1, a2, a3, a4, a5, a6, a7, a8, a9⟩ := S.A.at_;have n0 := N.all;go_wp2_with fail
  go_at_call 164
  clear n0 a0 a1 a2 a3 a4 a5 a6 a7 a8 a9 cD;refine (Kg x.rg (k : Int) m.m m.ad m.cap u1 hL.view.2 (by omega) hcn).mono ?_;rintro e u2 ⟨a7, c7, rfl, O7, kq⟩;have gu := M0.lt;have NEA : ∀ q, u1.heap.size ≤ q → Ai q x := fun q h => S.O.ne h
  have lo7 := O7.lt;have liu := S.O.i.lt;have nq1 := S.A.lt;have nz1 := BR S.Z;have s1 := S.sz;have S := S.later kq;have PZ_ := PZ_.later kq;have D := D.below kq D.lt;have M0 := M0.below kq (by have := M0.lt; omega);have z12 := kq.size;clear kq V;obtain ⟨rr, hrr⟩ := AC (CL x.rg (k : Int) m.m);obtain ⟨mm, hmm⟩ := AC (Bv x.rg (k : Int) m.m);obtain ⟨tb, htb⟩ := AC (CM x.rg (k : Int) m.m);rw [← hrr, ← hmm, ← htb];replace hrr : Hid _ := hrr;replace hmm : Hid _ := hmm;replace htb : Hid _ := htb;go_upto_region 4 with fail
  obtain ⟨v3, hv3, k1⟩ := AM u2 (Obj.cells #[ji rr.ep, ji rr.ow, ji rr.pa] 57);obtain ⟨u3, hu3, k2⟩ := AM v3 (Obj.cells #[.bool mm.up, ji mm.li, ji mm.ep, .slice a7 m.m.lg.length c7, ji mm.sd, ji mm.ac, ji mm.al] 54);rw [← hv3, ← hu3];have sv : v3.heap.size = u2.heap.size + 1 := by rw [hv3]; simp
  have RG : Am v3 u2.heap.size rr := by rw [hv3]; exact Am.new u2 _ rr
  have N7 : AQ u3 v3.heap.size mm (.slice a7 m.m.lg.length c7) := by rw [hu3]; exact AQ.new v3 _ mm _
  have RG := RG.below k2 RG.lt;have kk := k1.trans (k2.mono (by omega));clear hv3 hu3 k1 k2;have S := S.later kk;have PZ_ := PZ_.later kk;have D := D.below kk D.lt;have M0 := M0.below kk (by have := M0.lt; omega);have O7 := O7.later kk;rw [sv] at N7;obtain ⟨q7, hq7⟩ := AC u2.heap.size;rw [← hq7] at RG N7 ⊢;have z27 : u2.heap.size ≤ q7 := by omega
  have lt7 : ∀ g_, (Value.slice a7 m.m.lg.length c7).ownBlock = some g_ → u1.heap.size ≤ g_ ∧ g_ < q7 := fun g_ e => by have := lo7 g_ e; omega
  clear sv kk hq7 lo7;cases tb
  ·
   have hX : Hid ((x.p, (3 : Int)) = R) := by unfold Hid; rw [hR.out]; unfold Eo; rw [if_pos h9, hmo.out, hk.out, show x.p.rg = x.rg from rfl]; rw [if_pos htb.out.symm]
   replace h9 : Hid _ := h9;obtain ⟨O9, B9⟩ := S.ret;have P9 := S.pz PZ_ (by omega);have ZB := S.Z.box;have a0 := S.A.at_.all;have r0 := Ad ZB;clear S;go_wp2
   refine bodyPost_ret (v := .tuple #[AJ x, ji 3]) (by simp [AJ, results, results147, go_sem, *]) rfl ⟨x, 3, rfl, by exact hX.out, O9, B9, P9⟩
  by_cases hl : (m.m.lg.length : Int) < (x.ln.length : Int)
  ·
   have d1 : decide (m.m.lg.length < x.ln.length) = true := decide_eq_true (by omega);have hX : Hid ((x.p, (4 : Int)) = R) := by unfold Hid; rw [hR.out]; unfold Eo; rw [if_pos h9, hmo.out, hk.out, show x.p.rg = x.rg from rfl]; rw [if_neg (by rw [← htb.out]; decide), if_pos (by show m.m.lg.length < x.ln.length; omega)]
   replace h9 : Hid _ := h9;have n0 := N7.all;obtain ⟨O9, B9⟩ := S.ret;have P9 := S.pz PZ_ (by omega);have ZB := S.Z.box;obtain ⟨a0, a1, a2, a3, a4, a5, a6, a7, a8, a9⟩ := S.A.at_;have r0 := Ad ZB;clear S;go_wp2
   refine bodyPost_ret (v := .tuple #[AJ x, ji 4]) (by simp [AJ, results, results147, go_sem, *]) rfl ⟨x, 4, rfl, by exact hX.out, O9, B9, P9⟩
  have d1 : decide (m.m.lg.length < x.ln.length) = false := decide_eq_false (by omega);have hX : Hid ((ES (Ft x.p rr) (k : Int) (⟨⟨mm.up, mm.li, mm.ep, m.m.lg, (x.ln.length : Int), mm.ac, mm.al⟩, a7, c7⟩ : AD).m, (0 : Int)) = R) := by unfold Hid; rw [hR.out]; unfold Eo; rw [if_pos h9, hmo.out, hk.out, show x.p.rg = x.rg from rfl]; rw [if_neg (by rw [← htb.out]; decide), if_neg (by show ¬ m.m.lg.length < x.ln.length; omega), hrr.out, hmm.out]; unfold CL Bv Ib; rw [← htb.out]; rfl
  replace h9 : Hid _ := h9;clear hl;obtain ⟨n0, n1, n2, n3, n4, n5, n6, nf⟩ := id N7;have f4 := nf 4;clear nf;obtain ⟨a0, a1, a2, a3, a4, a5, a6, a7, a8, a9⟩ := S.A.at_;go_upto_region 9 with fail
  clear n0 n1 n2 n3 n4 n5 n6 a0 a1 a2 a3 a4 a5 a6 a7 a8 a9 f4 d1;obtain ⟨u4, hu4⟩ := AC (u3.setCell ⟨q7 + 1, 4, none⟩ (ji (x.ln.length : Int)));rw [← hu4];have N7 : AQ u4 (q7 + 1) ⟨mm.up, mm.li, mm.ep, mm.lg, (x.ln.length : Int), mm.ac, mm.al⟩ (.slice a7 m.m.lg.length c7) := by rw [hu4]; exact N7.setSd' _
  have kp : ∀ g, g ≠ q7 + 1 → u4.heap[g]? = u3.heap[g]? := fun g hg => by rw [hu4]; exact AE hg
  have hqn7 : Ai (q7 + 1) x := NEA _ (by omega);have PZ_ := PZ_.keep (n := q7 + 1) (by omega) kp (by simp [*]);have S := S.keepN hqn7 (by omega) (by omega) kp (by rw [hu4]; exact S.B.setCell (p := ⟨q7 + 1, 4, none⟩) (by show base ≤ q7 + 1; omega) _);have D := D.keep (kp _ (by omega));have M0 := M0.keep (kp _ (by omega));have RG := RG.keep (kp _ (by omega));have O7 := O7.keep (fun g_ e => kp g_ (by have := lt7 g_ e; omega));clear hu4 kp hqn7;obtain ⟨⟨a0, a1, a2, a3, a4, a5, a6, a7, a8, a9⟩, af⟩ := S.A;have f2 := af 2;have f3 := af 3;have f4 := af 4;clear af;replace RG := RG.all;go_upto_region 10 with fail
  clear RG a0 a1 a2 a3 a4 a5 a6 a7 a8 a9 f2 f3 f4;obtain ⟨u5, hu5⟩ := AC (((u4.setCell (ja w.heap.size 2) (ji rr.ep)).setCell (ja w.heap.size 3) (ji rr.ow)).setCell (ja w.heap.size 4) (ji rr.pa));rw [← hu5];have kp : ∀ g, g ≠ w.heap.size → u5.heap[g]? = u4.heap[g]? := fun g hg => by rw [hu5, AE hg, AE hg, AE hg]
  have PZ_ := PZ_.keep (n := w.heap.size) (W2 := u5) (Nat.le_refl _) (fun g hg => by rw [hu5, AE hg, AE hg, AE hg]) (by rw [hu5]; simp);have S := S.setR rr;rw [← hu5] at S;have D := D.keep (kp _ (by omega));have M0 := M0.keep (kp _ (fun e => S.NA.t g (BP hat.out rfl) e));have N7 := N7.keep (kp _ (by omega));have O7 := O7.keep (fun g_ e => kp g_ (by have := lt7 g_ e; omega));clear hu5 kp;have cA := S.A.at_.c5;rw [show ({ x with rg := rr } : AF).aT = x.aT from rfl, hat.out] at cA;have cD := D.c1;rw [hk.out] at cD;have n0 := N7.all;have v0 := M0.all;have ot := S.O.t;rw [show ({ x with rg := rr } : AF).aT = x.aT from rfl, hat.out] at ot;have f0 := ot.frozen (k * 7);have f1 := ot.frozen (k * 7 + 1);have f2 := ot.frozen (k * 7 + 2);have f3 := ot.frozen (k * 7 + 3);have f4 := ot.frozen (k * 7 + 4);have f5 := ot.frozen (k * 7 + 5);have f6 := ot.frozen (k * 7 + 6);clear ot;go_upto_region 11 with fail
  clear v0 n0 cA cD f0 f1 f2 f3 f4 f5 f6;obtain ⟨u6, hu6⟩ := AC (((((((u5.setCell ⟨g, k * 7, none⟩ (.bool mm.up)).setCell ⟨g, k * 7 + 1, none⟩ (ji mm.li)).setCell ⟨g, k * 7 + 2, none⟩ (ji mm.ep)).setCell ⟨g, k * 7 + 3, none⟩ (.slice a7 m.m.lg.length c7)).setCell ⟨g, k * 7 + 4, none⟩ (ji (x.ln.length : Int))).setCell ⟨g, k * 7 + 5, none⟩ (ji mm.ac)).setCell ⟨g, k * 7 + 6, none⟩ (ji mm.al));rw [← hu6];have PZ_ := PZ_.row (W2 := u6) S.O.t (by decide) (BP hat.out rfl) (fun k_ hk_ => by rw [hu6, AE hk_, AE hk_, AE hk_, AE hk_, AE hk_, AE hk_, AE hk_]) (by rw [hu6]; simp);have S : Aa base w.heap.size (w.heap.size + 1 + 1) w u6 (({ x with rg := rr } : AF).setT k (⟨⟨mm.up, mm.li, mm.ep, m.m.lg, (x.ln.length : Int), mm.ac, mm.al⟩, a7, c7⟩ : AD)) := by rw [hu6]; exact S.setT (x := { x with rg := rr }) hat.out hkl (⟨⟨mm.up, mm.li, mm.ep, m.m.lg, (x.ln.length : Int), mm.ac, mm.al⟩, a7, c7⟩ : AD) (O7.base (by omega)) (fun g_ e e2 => by have := (lt7 g_ e).1; have := (liu g_ e2).2; omega) (fun g_ e => by have := (lt7 g_ e).1; omega)
  clear hu6;obtain ⟨z, hz⟩ : ∃ z : AF, z = ({ x with rg := rr } : AF).setT k (⟨⟨mm.up, mm.li, mm.ep, m.m.lg, (x.ln.length : Int), mm.ac, mm.al⟩, a7, c7⟩ : AD) := ⟨_, rfl⟩;rw [← hz] at S;have hP : Hid ((z.p, (0 : Int)) = R) := by unfold Hid; rw [hz, AF.setT_p, ← hX.out]; rfl
  clear hz hX;obtain ⟨O9, B9⟩ := S.ret;have P9 := S.pz PZ_ (by omega);have ZB := S.Z.box;have a0 := S.A.at_.all;have r0 := Ad ZB;clear S;go_wp2
  refine bodyPost_ret (v := .tuple #[AJ z, ji 0]) (by simp [AJ, results, results147, go_sem, *]) rfl ⟨z, 0, rfl, by exact hP.out, O9, B9, P9⟩
 replace h9 : Hid (¬ d.k = 9) := h9;have d9 : (d.k == 9) = false := by simpa using h9.out
 by_cases h10 : d.k = 10
 focus
  have hf : Hid ((if d.k = 10 then (AZ x.p d.a).al else 0) = m.m.al) := by unfold Hid; rw [if_pos h10, hmo.out]
  have d10 : (d.k == 10) = true := by simpa using h10
  replace h10 : Hid _ := h10;have n0 := N.all;go_upto_region 15 with fail
  clear n0 e0 d9 d10;have cD := D.c1;rw [hk.out] at cD;have a0 := S.A.at_.all;have n0 := N.all;go_wp2_with fail
  go_at_call 165
  clear n0 a0 cD;refine (IG x.rg (k : Int) m.m m.ad m.cap m.m.al u1 hL.view.2 (by omega)).mono ?_;rintro e u2 ⟨rfl, kq⟩;have nq1 := S.A.lt;have s1 := S.sz;have S := S.later kq;have PZ_ := PZ_.later kq;have D := D.below kq D.lt;have z12 := kq.size;clear kq V;obtain ⟨rr, hrr⟩ := AC (Df x.rg (k : Int) m.m m.m.al);obtain ⟨tb, htb⟩ := AC (DT x.rg (k : Int) m.m m.m.al)
 rotate_left;focus
  have hf : Hid ((if d.k = 10 then (AZ x.p d.a).al else 0) = 0) := by unfold Hid; rw [if_neg h10]
  have d10 : (d.k == 10) = false := by simpa using h10
  replace h10 : Hid (¬ d.k = 10) := h10;go_upto_region 15 with fail
  clear e0 d9 d10;have cD := D.c1;rw [hk.out] at cD;have a0 := S.A.at_.all;have n0 := N.all;go_wp2_with fail
  go_at_call 165
  clear n0 a0 cD;refine (IG x.rg (k : Int) m.m m.ad m.cap 0 u1 hL.view.2 (by omega)).mono ?_;rintro e u2 ⟨rfl, kq⟩;have nq1 := S.A.lt;have s1 := S.sz;have S := S.later kq;have PZ_ := PZ_.later kq;have D := D.below kq D.lt;have z12 := kq.size;clear kq V;obtain ⟨rr, hrr⟩ := AC (Df x.rg (k : Int) m.m 0);obtain ⟨tb, htb⟩ := AC (DT x.rg (k : Int) m.m 0)
 rotate_left;all_goals
  rw [← hrr, ← htb];replace hrr : Hid _ := hrr;replace htb : Hid _ := htb;go_upto_region 16 with fail
  obtain ⟨u3, hu3, kk⟩ := AM u2 (Obj.cells #[ji rr.ep, ji rr.ow, ji rr.pa] 57);rw [← hu3];have RG : Am u3 u2.heap.size rr := by rw [hu3]; exact Am.new u2 _ rr
  clear hu3;have S := S.later kk;have PZ_ := PZ_.later kk;have D := D.below kk D.lt;obtain ⟨q7, hq7⟩ := AC u2.heap.size;rw [← hq7] at RG ⊢;have z27 : u2.heap.size ≤ q7 := by omega
  clear kk hq7;cases tb
  ·
   have hX : Hid ((x.p, (3 : Int)) = R) := by unfold Hid; rw [hR.out]; unfold Eo; rw [if_neg h9.out, hf.out, hmo.out, hk.out, show x.p.rg = x.rg from rfl]; rw [if_neg (by rw [← htb.out]; decide)]
   obtain ⟨O9, B9⟩ := S.ret;have P9 := S.pz PZ_ (by omega);have ZB := S.Z.box;have a0 := S.A.at_.all;have r0 := Ad ZB;clear S;go_wp2
   refine bodyPost_ret (v := .tuple #[AJ x, ji 3]) (by simp [AJ, results, results147, go_sem, *]) rfl ⟨x, 3, rfl, by exact hX.out, O9, B9, P9⟩
  ·
   have hX : Hid ((Ft x.p rr, (0 : Int)) = R) := by unfold Hid; rw [hR.out]; unfold Eo; rw [if_neg h9.out, hf.out, hmo.out, hk.out, show x.p.rg = x.rg from rfl]; rw [if_pos htb.out.symm, hrr.out]
   obtain ⟨⟨a0, a1, a2, a3, a4, a5, a6, a7, a8, a9⟩, af⟩ := S.A;have f2 := af 2;have f3 := af 3;have f4 := af 4;clear af;replace RG := RG.all;go_upto_region 19 with fail
   clear RG a0 a1 a2 a3 a4 a5 a6 a7 a8 a9 f2 f3 f4;obtain ⟨u5, hu5⟩ := AC (((u3.setCell (ja w.heap.size 2) (ji rr.ep)).setCell (ja w.heap.size 3) (ji rr.ow)).setCell (ja w.heap.size 4) (ji rr.pa));rw [← hu5];have PZ_ := PZ_.keep (n := w.heap.size) (W2 := u5) (Nat.le_refl _) (fun g hg => by rw [hu5, AE hg, AE hg, AE hg]) (by rw [hu5]; simp);have S := S.setR rr;rw [← hu5] at S;clear hu5;obtain ⟨z, hz⟩ : ∃ z : AF, z = { x with rg := rr } := ⟨_, rfl⟩;rw [← hz] at S;have hP : Hid ((z.p, (0 : Int)) = R) := by unfold Hid; rw [hz, ← hX.out]; rfl
   clear hz hX;obtain ⟨O9, B9⟩ := S.ret;have P9 := S.pz PZ_ (by omega);have ZB := S.Z.box;have a0 := S.A.at_.all;have r0 := Ad ZB;clear S;go_wp2
   refine bodyPost_ret (v := .tuple #[AJ z, ji 0]) (by simp [AJ, results, results147, go_sem, *]) rfl ⟨z, 0, rfl, by exact hP.out, O9, B9, P9⟩
end Go.Proofs.YtjmnaeeknomiaaaGreatDoor
