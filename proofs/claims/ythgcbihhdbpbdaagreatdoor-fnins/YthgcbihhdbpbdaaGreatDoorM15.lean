/- Both InText, walked. Both OutText, walked. -/
import Derived.Test.YthgcbihhdbpbdaaGreatDoorRows
import Derived.WalkKit
import Derived.ProofKit
import Derived.OpenShut
import Derived.ShutString
import Derived.ChangeOld
import Derived.Below
import Derived.Deep.QuietTactic
import Derived.BigQuiet
import Derived.WalkSmall
import Derived.Laws.OwnMore
import Derived.WalkSpells
import Derived.WalkLawsBesides
import Derived.Deep.Cut
import Derived.Test.YthgcbihhdbpbdaaGreatDoorKTx
import Derived.Test.YthgcbihhdbpbdaaGreatDoorM6
namespace Go.Proofs.YthgcbihhdbpbdaaGreatDoor
open Go.ChangeShapes Go.WideShapes Go.ChangeAt Go.RowKit
open Go.ChangeMaps (open_string shut_string)
set_option linter.unusedVariables false
set_option maxRecDepth 100000

/-- What InText tells. -/
def iText (x : Ik) : ByteArray :=
  if x.k = 1 then cText x.q x.r x.c x.b x.p x.h else if x.k = 2 then ⟨#[116, 105, 99, 107]⟩ else if x.k = 3 then sText ⟨#[108, 105, 110, 107]⟩ x.q (if x.up then ⟨#[117, 112]⟩ else ⟨#[100, 111, 119, 110]⟩) else ⟨#[110, 111, 110, 101]⟩
theorem iText_up (q : Int) : ⟨#[108, 105, 110, 107, 32]⟩ ++ dig q ++ ⟨#[32, 117, 112]⟩ = sText ⟨#[108, 105, 110, 107]⟩ q ⟨#[117, 112]⟩ := by
  apply ByteArray.ext
  unfold sText
  simp [ByteArray.data_append]
theorem iText_down (q : Int) : ⟨#[108, 105, 110, 107, 32]⟩ ++ dig q ++ ⟨#[32, 100, 111, 119, 110]⟩ = sText ⟨#[108, 105, 110, 107]⟩ q ⟨#[100, 111, 119, 110]⟩ := by
  apply ByteArray.ext
  unfold sText
  simp [ByteArray.data_append]
set_option maxHeartbeats 4000000 in
theorem inTextS (x : Ik) (w : World) (hq : I64 x.q) (hr : I64 x.r) (hc : I64 x.c) (hb : I64 x.b) (hp : I64 x.p) (hh : I64 x.h) :
    Calls Tryz.prog 21 #[.agg #[.int .i64 x.k, .int .i64 x.q, .int .i64 x.r, .int .i64 x.c, .int .i64 x.b, .int .i64 x.p, .int .i64 x.h, .bool x.up]] w fun e w' => e = .returned (.string (iText x)) ∧ Below w.heap.size w w' := by
  obtain ⟨k, q, r, c, b, p, h, up⟩ := x
  dsimp only at hq hr hc hb hp hh ⊢
  by_cases h1 : k = 1
  · subst h1
    rw [show iText ⟨1, q, r, c, b, p, h, up⟩ = cText q r c b p h from rfl]
    obtain ⟨y, hy⟩ : ∃ y, y = w.alloc (Obj.cells #[.int .i64 1, .int .i64 q, .int .i64 r, .int .i64 c, .int .i64 b, .int .i64 p, .int .i64 h, .bool up] 27) := ⟨_, rfl⟩
    have A0 : InAt y w.heap.size ⟨1, q, r, c, b, p, h, up⟩ := by rw [hy]; exact InAt.new w _ ⟨1, q, r, c, b, p, h, up⟩
    have B0 : Below w.heap.size w y := by rw [hy]; exact below_box w _
    obtain ⟨a0, a1, a2, a3, a4, a5, a6, a7⟩ := A0
    go_enter Tryz.func21, Tryz.ntmps21
    go_upto_region 1 with fail
    rw [← hy]
    clear hy
    go_wp2_with fail
    go_at_call 63
    refine (l9ClaimS q r c b p h y hq hr hc hb hp hh).mono ?_
    rintro e y1 ⟨rfl, k1⟩
    go_wp2
    go_ret
    exact ⟨rfl, B0.trans (k1.mono B0.size)⟩
  have d1 : (k == 1) = false := by simpa using h1
  by_cases h2 : k = 2
  · subst h2
    rw [show iText ⟨2, q, r, c, b, p, h, up⟩ = ⟨#[116, 105, 99, 107]⟩ from rfl]
    obtain ⟨y, hy⟩ : ∃ y, y = w.alloc (Obj.cells #[.int .i64 2, .int .i64 q, .int .i64 r, .int .i64 c, .int .i64 b, .int .i64 p, .int .i64 h, .bool up] 27) := ⟨_, rfl⟩
    have A0 : InAt y w.heap.size ⟨2, q, r, c, b, p, h, up⟩ := by rw [hy]; exact InAt.new w _ ⟨2, q, r, c, b, p, h, up⟩
    have B0 : Below w.heap.size w y := by rw [hy]; exact below_box w _
    obtain ⟨a0, a1, a2, a3, a4, a5, a6, a7⟩ := A0
    go_enter Tryz.func21, Tryz.ntmps21
    go_upto_region 1 with fail
    rw [← hy]
    clear hy
    go_wp2
    go_ret
    exact ⟨rfl, B0⟩
  have d2 : (k == 2) = false := by simpa using h2
  by_cases h3 : k = 3
  · subst h3
    cases up
    · rw [show iText ⟨3, q, r, c, b, p, h, false⟩ = sText ⟨#[108, 105, 110, 107]⟩ q ⟨#[100, 111, 119, 110]⟩ from rfl, ← iText_down]
      have z0 := dig_size hq.1 hq.2
      have q1 : ¬ 9223372036854775807 < 5 + (dig q).size := by omega
      have q2 : ¬ 9223372036854775807 < 5 + (dig q).size + 5 := by omega
      obtain ⟨y, hy⟩ : ∃ y, y = w.alloc (Obj.cells #[.int .i64 3, .int .i64 q, .int .i64 r, .int .i64 c, .int .i64 b, .int .i64 p, .int .i64 h, .bool false] 27) := ⟨_, rfl⟩
      have A0 : InAt y w.heap.size ⟨3, q, r, c, b, p, h, false⟩ := by rw [hy]; exact InAt.new w _ ⟨3, q, r, c, b, p, h, false⟩
      have B0 : Below w.heap.size w y := by rw [hy]; exact below_box w _
      obtain ⟨a0, a1, a2, a3, a4, a5, a6, a7⟩ := A0
      go_enter Tryz.func21, Tryz.ntmps21
      go_upto_region 1 with fail
      rw [← hy]
      clear hy
      go_wp2_with fail
      go_at_call 64
      refine (digitsSpec q y hq.1 hq.2).mono ?_
      rintro e y1 ⟨rfl, k1⟩
      rw [show (⟨(Lib.itoa q).toArray⟩ : ByteArray) = dig q from rfl]
      go_wp2
      go_ret
      exact ⟨rfl, B0.trans (k1.mono B0.size)⟩
    · rw [show iText ⟨3, q, r, c, b, p, h, true⟩ = sText ⟨#[108, 105, 110, 107]⟩ q ⟨#[117, 112]⟩ from rfl, ← iText_up]
      have z0 := dig_size hq.1 hq.2
      have q1 : ¬ 9223372036854775807 < 5 + (dig q).size := by omega
      have q2 : ¬ 9223372036854775807 < 5 + (dig q).size + 3 := by omega
      obtain ⟨y, hy⟩ : ∃ y, y = w.alloc (Obj.cells #[.int .i64 3, .int .i64 q, .int .i64 r, .int .i64 c, .int .i64 b, .int .i64 p, .int .i64 h, .bool true] 27) := ⟨_, rfl⟩
      have A0 : InAt y w.heap.size ⟨3, q, r, c, b, p, h, true⟩ := by rw [hy]; exact InAt.new w _ ⟨3, q, r, c, b, p, h, true⟩
      have B0 : Below w.heap.size w y := by rw [hy]; exact below_box w _
      obtain ⟨a0, a1, a2, a3, a4, a5, a6, a7⟩ := A0
      go_enter Tryz.func21, Tryz.ntmps21
      go_upto_region 1 with fail
      rw [← hy]
      clear hy
      go_wp2_with fail
      go_at_call 64
      refine (digitsSpec q y hq.1 hq.2).mono ?_
      rintro e y1 ⟨rfl, k1⟩
      rw [show (⟨(Lib.itoa q).toArray⟩ : ByteArray) = dig q from rfl]
      go_wp2
      go_ret
      exact ⟨rfl, B0.trans (k1.mono B0.size)⟩
  have d3 : (k == 3) = false := by simpa using h3
  have e : iText ⟨k, q, r, c, b, p, h, up⟩ = ⟨#[110, 111, 110, 101]⟩ := by unfold iText; simp only; rw [if_neg h1, if_neg h2, if_neg h3]
  rw [e]
  clear e
  obtain ⟨y, hy⟩ : ∃ y, y = w.alloc (Obj.cells #[.int .i64 k, .int .i64 q, .int .i64 r, .int .i64 c, .int .i64 b, .int .i64 p, .int .i64 h, .bool up] 27) := ⟨_, rfl⟩
  have A0 : InAt y w.heap.size ⟨k, q, r, c, b, p, h, up⟩ := by rw [hy]; exact InAt.new w _ ⟨k, q, r, c, b, p, h, up⟩
  have B0 : Below w.heap.size w y := by rw [hy]; exact below_box w _
  obtain ⟨a0, a1, a2, a3, a4, a5, a6, a7⟩ := A0
  go_enter Tryz.func21, Tryz.ntmps21
  go_upto_region 1 with fail
  rw [← hy]
  clear hy
  go_wp2
  go_ret
  exact ⟨rfl, B0⟩
set_option maxHeartbeats 4000000 in
theorem inTextI (x : Ik) (w : World) (hq : I64 x.q) (hr : I64 x.r) (hc : I64 x.c) (hb : I64 x.b) (hp : I64 x.p) (hh : I64 x.h) (htab : TabOk w) :
    Calls Tryz.prog 20 #[.agg #[.int .i64 x.k, .int .i64 x.q, .int .i64 x.r, .int .i64 x.c, .int .i64 x.b, .int .i64 x.p, .int .i64 x.h, .bool x.up]] w fun e w' => e = .returned (.string (iText x)) ∧ Below w.heap.size w w' := by
  obtain ⟨k, q, r, c, b, p, h, up⟩ := x
  dsimp only at hq hr hc hb hp hh ⊢
  by_cases h1 : k = 1
  · subst h1
    rw [show iText ⟨1, q, r, c, b, p, h, up⟩ = cText q r c b p h from rfl]
    obtain ⟨y, hy⟩ : ∃ y, y = w.alloc (Obj.cells #[.int .i64 1, .int .i64 q, .int .i64 r, .int .i64 c, .int .i64 b, .int .i64 p, .int .i64 h, .bool up] 27) := ⟨_, rfl⟩
    have A0 : InAt y w.heap.size ⟨1, q, r, c, b, p, h, up⟩ := by rw [hy]; exact InAt.new w _ ⟨1, q, r, c, b, p, h, up⟩
    have B0 : Below w.heap.size w y := by rw [hy]; exact below_box w _
    obtain ⟨a0, a1, a2, a3, a4, a5, a6, a7⟩ := A0
    go_enter Tryz.func20, Tryz.ntmps20
    go_upto_region 1 with fail
    rw [← hy]
    clear hy
    go_wp2_with fail
    go_at_call 61
    refine (claimTI q r c b p h y hq hr hc hb hp hh (tab_later htab B0)).mono ?_
    rintro e y1 ⟨rfl, k1⟩
    go_wp2
    go_ret
    exact ⟨rfl, B0.trans (k1.mono B0.size)⟩
  have d1 : (k == 1) = false := by simpa using h1
  by_cases h2 : k = 2
  · subst h2
    rw [show iText ⟨2, q, r, c, b, p, h, up⟩ = ⟨#[116, 105, 99, 107]⟩ from rfl]
    obtain ⟨y, hy⟩ : ∃ y, y = w.alloc (Obj.cells #[.int .i64 2, .int .i64 q, .int .i64 r, .int .i64 c, .int .i64 b, .int .i64 p, .int .i64 h, .bool up] 27) := ⟨_, rfl⟩
    have A0 : InAt y w.heap.size ⟨2, q, r, c, b, p, h, up⟩ := by rw [hy]; exact InAt.new w _ ⟨2, q, r, c, b, p, h, up⟩
    have B0 : Below w.heap.size w y := by rw [hy]; exact below_box w _
    obtain ⟨a0, a1, a2, a3, a4, a5, a6, a7⟩ := A0
    go_enter Tryz.func20, Tryz.ntmps20
    go_upto_region 1 with fail
    rw [← hy]
    clear hy
    go_wp2
    go_ret
    exact ⟨rfl, B0⟩
  have d2 : (k == 2) = false := by simpa using h2
  by_cases h3 : k = 3
  · subst h3
    cases up
    · rw [show iText ⟨3, q, r, c, b, p, h, false⟩ = sText ⟨#[108, 105, 110, 107]⟩ q ⟨#[100, 111, 119, 110]⟩ from rfl]
      obtain ⟨y, hy⟩ : ∃ y, y = w.alloc (Obj.cells #[.int .i64 3, .int .i64 q, .int .i64 r, .int .i64 c, .int .i64 b, .int .i64 p, .int .i64 h, .bool false] 27) := ⟨_, rfl⟩
      have A0 : InAt y w.heap.size ⟨3, q, r, c, b, p, h, false⟩ := by rw [hy]; exact InAt.new w _ ⟨3, q, r, c, b, p, h, false⟩
      have B0 : Below w.heap.size w y := by rw [hy]; exact below_box w _
      obtain ⟨a0, a1, a2, a3, a4, a5, a6, a7⟩ := A0
      go_enter Tryz.func20, Tryz.ntmps20
      go_upto_region 1 with fail
      rw [← hy]
      clear hy
      go_wp2_with fail
      go_at_call 62
      refine (stateTI ⟨#[108, 105, 110, 107]⟩ ⟨#[117, 112]⟩ ⟨#[100, 111, 119, 110]⟩ q false y (by decide) (by decide) (by decide) hq (tab_later htab B0)).mono ?_
      rintro e y1 ⟨rfl, k1⟩
      rw [if_neg (by simp)]
      go_wp2
      go_ret
      exact ⟨rfl, B0.trans (k1.mono B0.size)⟩
    · rw [show iText ⟨3, q, r, c, b, p, h, true⟩ = sText ⟨#[108, 105, 110, 107]⟩ q ⟨#[117, 112]⟩ from rfl]
      obtain ⟨y, hy⟩ : ∃ y, y = w.alloc (Obj.cells #[.int .i64 3, .int .i64 q, .int .i64 r, .int .i64 c, .int .i64 b, .int .i64 p, .int .i64 h, .bool true] 27) := ⟨_, rfl⟩
      have A0 : InAt y w.heap.size ⟨3, q, r, c, b, p, h, true⟩ := by rw [hy]; exact InAt.new w _ ⟨3, q, r, c, b, p, h, true⟩
      have B0 : Below w.heap.size w y := by rw [hy]; exact below_box w _
      obtain ⟨a0, a1, a2, a3, a4, a5, a6, a7⟩ := A0
      go_enter Tryz.func20, Tryz.ntmps20
      go_upto_region 1 with fail
      rw [← hy]
      clear hy
      go_wp2_with fail
      go_at_call 62
      refine (stateTI ⟨#[108, 105, 110, 107]⟩ ⟨#[117, 112]⟩ ⟨#[100, 111, 119, 110]⟩ q true y (by decide) (by decide) (by decide) hq (tab_later htab B0)).mono ?_
      rintro e y1 ⟨rfl, k1⟩
      rw [if_pos rfl]
      go_wp2
      go_ret
      exact ⟨rfl, B0.trans (k1.mono B0.size)⟩
  have d3 : (k == 3) = false := by simpa using h3
  have e : iText ⟨k, q, r, c, b, p, h, up⟩ = ⟨#[110, 111, 110, 101]⟩ := by unfold iText; simp only; rw [if_neg h1, if_neg h2, if_neg h3]
  rw [e]
  clear e
  obtain ⟨y, hy⟩ : ∃ y, y = w.alloc (Obj.cells #[.int .i64 k, .int .i64 q, .int .i64 r, .int .i64 c, .int .i64 b, .int .i64 p, .int .i64 h, .bool up] 27) := ⟨_, rfl⟩
  have A0 : InAt y w.heap.size ⟨k, q, r, c, b, p, h, up⟩ := by rw [hy]; exact InAt.new w _ ⟨k, q, r, c, b, p, h, up⟩
  have B0 : Below w.heap.size w y := by rw [hy]; exact below_box w _
  obtain ⟨a0, a1, a2, a3, a4, a5, a6, a7⟩ := A0
  go_enter Tryz.func20, Tryz.ntmps20
  go_upto_region 1 with fail
  rw [← hy]
  clear hy
  go_wp2
  go_ret
  exact ⟨rfl, B0⟩

end Go.Proofs.YthgcbihhdbpbdaaGreatDoor
namespace Go.Proofs.YthgcbihhdbpbdaaGreatDoor
open Go.ChangeShapes Go.WideShapes Go.ChangeAt Go.RowKit
open Go.ChangeMaps (open_string shut_string)
set_option linter.unusedVariables false
set_option maxRecDepth 100000

/-- What OutText tells. -/
def oText (x : Ik) : ByteArray :=
  if x.k = 1 then cText x.q x.r x.c x.b x.p x.h else if x.k = 2 then sText ⟨#[103, 97, 116, 101]⟩ x.q (if x.up then ⟨#[111, 112, 101, 110]⟩ else ⟨#[115, 104, 117, 116]⟩) else ⟨#[110, 111, 110, 101]⟩
theorem oText_open (q : Int) : ⟨#[103, 97, 116, 101, 32]⟩ ++ dig q ++ ⟨#[32, 111, 112, 101, 110]⟩ = sText ⟨#[103, 97, 116, 101]⟩ q ⟨#[111, 112, 101, 110]⟩ := by
  apply ByteArray.ext
  unfold sText
  simp [ByteArray.data_append]
theorem oText_shut (q : Int) : ⟨#[103, 97, 116, 101, 32]⟩ ++ dig q ++ ⟨#[32, 115, 104, 117, 116]⟩ = sText ⟨#[103, 97, 116, 101]⟩ q ⟨#[115, 104, 117, 116]⟩ := by
  apply ByteArray.ext
  unfold sText
  simp [ByteArray.data_append]
set_option maxHeartbeats 4000000 in
theorem outTextS (x : Ik) (w : World) (hq : I64 x.q) (hr : I64 x.r) (hc : I64 x.c) (hb : I64 x.b) (hp : I64 x.p) (hh : I64 x.h) :
    Calls Tryz.prog 23 #[.agg #[.int .i64 x.k, .int .i64 x.q, .int .i64 x.r, .int .i64 x.c, .int .i64 x.b, .int .i64 x.p, .int .i64 x.h, .bool x.up]] w fun e w' => e = .returned (.string (oText x)) ∧ Below w.heap.size w w' := by
  obtain ⟨k, q, r, c, b, p, h, up⟩ := x
  dsimp only at hq hr hc hb hp hh ⊢
  by_cases h1 : k = 1
  · subst h1
    rw [show oText ⟨1, q, r, c, b, p, h, up⟩ = cText q r c b p h from rfl]
    obtain ⟨y, hy⟩ : ∃ y, y = w.alloc (Obj.cells #[.int .i64 1, .int .i64 q, .int .i64 r, .int .i64 c, .int .i64 b, .int .i64 p, .int .i64 h, .bool up] 41) := ⟨_, rfl⟩
    have A0 : InAt y w.heap.size ⟨1, q, r, c, b, p, h, up⟩ := by rw [hy]; exact InAt.new w _ ⟨1, q, r, c, b, p, h, up⟩
    have B0 : Below w.heap.size w y := by rw [hy]; exact below_box w _
    obtain ⟨a0, a1, a2, a3, a4, a5, a6, a7⟩ := A0
    go_enter Tryz.func23, Tryz.ntmps23
    go_upto_region 1 with fail
    rw [← hy]
    clear hy
    go_wp2_with fail
    go_at_call 63
    refine (l9ClaimS q r c b p h y hq hr hc hb hp hh).mono ?_
    rintro e y1 ⟨rfl, k1⟩
    go_wp2
    go_ret
    exact ⟨rfl, B0.trans (k1.mono B0.size)⟩
  have d1 : (k == 1) = false := by simpa using h1
  by_cases h3 : k = 2
  · subst h3
    cases up
    · rw [show oText ⟨2, q, r, c, b, p, h, false⟩ = sText ⟨#[103, 97, 116, 101]⟩ q ⟨#[115, 104, 117, 116]⟩ from rfl, ← oText_shut]
      have z0 := dig_size hq.1 hq.2
      have q1 : ¬ 9223372036854775807 < 5 + (dig q).size := by omega
      have q2 : ¬ 9223372036854775807 < 5 + (dig q).size + 5 := by omega
      obtain ⟨y, hy⟩ : ∃ y, y = w.alloc (Obj.cells #[.int .i64 2, .int .i64 q, .int .i64 r, .int .i64 c, .int .i64 b, .int .i64 p, .int .i64 h, .bool false] 41) := ⟨_, rfl⟩
      have A0 : InAt y w.heap.size ⟨2, q, r, c, b, p, h, false⟩ := by rw [hy]; exact InAt.new w _ ⟨2, q, r, c, b, p, h, false⟩
      have B0 : Below w.heap.size w y := by rw [hy]; exact below_box w _
      obtain ⟨a0, a1, a2, a3, a4, a5, a6, a7⟩ := A0
      go_enter Tryz.func23, Tryz.ntmps23
      go_upto_region 1 with fail
      rw [← hy]
      clear hy
      go_wp2_with fail
      go_at_call 64
      refine (digitsSpec q y hq.1 hq.2).mono ?_
      rintro e y1 ⟨rfl, k1⟩
      rw [show (⟨(Lib.itoa q).toArray⟩ : ByteArray) = dig q from rfl]
      go_wp2
      go_ret
      exact ⟨rfl, B0.trans (k1.mono B0.size)⟩
    · rw [show oText ⟨2, q, r, c, b, p, h, true⟩ = sText ⟨#[103, 97, 116, 101]⟩ q ⟨#[111, 112, 101, 110]⟩ from rfl, ← oText_open]
      have z0 := dig_size hq.1 hq.2
      have q1 : ¬ 9223372036854775807 < 5 + (dig q).size := by omega
      have q2 : ¬ 9223372036854775807 < 5 + (dig q).size + 5 := by omega
      obtain ⟨y, hy⟩ : ∃ y, y = w.alloc (Obj.cells #[.int .i64 2, .int .i64 q, .int .i64 r, .int .i64 c, .int .i64 b, .int .i64 p, .int .i64 h, .bool true] 41) := ⟨_, rfl⟩
      have A0 : InAt y w.heap.size ⟨2, q, r, c, b, p, h, true⟩ := by rw [hy]; exact InAt.new w _ ⟨2, q, r, c, b, p, h, true⟩
      have B0 : Below w.heap.size w y := by rw [hy]; exact below_box w _
      obtain ⟨a0, a1, a2, a3, a4, a5, a6, a7⟩ := A0
      go_enter Tryz.func23, Tryz.ntmps23
      go_upto_region 1 with fail
      rw [← hy]
      clear hy
      go_wp2_with fail
      go_at_call 64
      refine (digitsSpec q y hq.1 hq.2).mono ?_
      rintro e y1 ⟨rfl, k1⟩
      rw [show (⟨(Lib.itoa q).toArray⟩ : ByteArray) = dig q from rfl]
      go_wp2
      go_ret
      exact ⟨rfl, B0.trans (k1.mono B0.size)⟩
  have d3 : (k == 2) = false := by simpa using h3
  have e : oText ⟨k, q, r, c, b, p, h, up⟩ = ⟨#[110, 111, 110, 101]⟩ := by unfold oText; simp only; rw [if_neg h1, if_neg h3]
  rw [e]
  clear e
  obtain ⟨y, hy⟩ : ∃ y, y = w.alloc (Obj.cells #[.int .i64 k, .int .i64 q, .int .i64 r, .int .i64 c, .int .i64 b, .int .i64 p, .int .i64 h, .bool up] 41) := ⟨_, rfl⟩
  have A0 : InAt y w.heap.size ⟨k, q, r, c, b, p, h, up⟩ := by rw [hy]; exact InAt.new w _ ⟨k, q, r, c, b, p, h, up⟩
  have B0 : Below w.heap.size w y := by rw [hy]; exact below_box w _
  obtain ⟨a0, a1, a2, a3, a4, a5, a6, a7⟩ := A0
  go_enter Tryz.func23, Tryz.ntmps23
  go_upto_region 1 with fail
  rw [← hy]
  clear hy
  go_wp2
  go_ret
  exact ⟨rfl, B0⟩
set_option maxHeartbeats 4000000 in
theorem outTextI (x : Ik) (w : World) (hq : I64 x.q) (hr : I64 x.r) (hc : I64 x.c) (hb : I64 x.b) (hp : I64 x.p) (hh : I64 x.h) (htab : TabOk w) :
    Calls Tryz.prog 22 #[.agg #[.int .i64 x.k, .int .i64 x.q, .int .i64 x.r, .int .i64 x.c, .int .i64 x.b, .int .i64 x.p, .int .i64 x.h, .bool x.up]] w fun e w' => e = .returned (.string (oText x)) ∧ Below w.heap.size w w' := by
  obtain ⟨k, q, r, c, b, p, h, up⟩ := x
  dsimp only at hq hr hc hb hp hh ⊢
  by_cases h1 : k = 1
  · subst h1
    rw [show oText ⟨1, q, r, c, b, p, h, up⟩ = cText q r c b p h from rfl]
    obtain ⟨y, hy⟩ : ∃ y, y = w.alloc (Obj.cells #[.int .i64 1, .int .i64 q, .int .i64 r, .int .i64 c, .int .i64 b, .int .i64 p, .int .i64 h, .bool up] 41) := ⟨_, rfl⟩
    have A0 : InAt y w.heap.size ⟨1, q, r, c, b, p, h, up⟩ := by rw [hy]; exact InAt.new w _ ⟨1, q, r, c, b, p, h, up⟩
    have B0 : Below w.heap.size w y := by rw [hy]; exact below_box w _
    obtain ⟨a0, a1, a2, a3, a4, a5, a6, a7⟩ := A0
    go_enter Tryz.func22, Tryz.ntmps22
    go_upto_region 1 with fail
    rw [← hy]
    clear hy
    go_wp2_with fail
    go_at_call 61
    refine (claimTI q r c b p h y hq hr hc hb hp hh (tab_later htab B0)).mono ?_
    rintro e y1 ⟨rfl, k1⟩
    go_wp2
    go_ret
    exact ⟨rfl, B0.trans (k1.mono B0.size)⟩
  have d1 : (k == 1) = false := by simpa using h1
  by_cases h3 : k = 2
  · subst h3
    cases up
    · rw [show oText ⟨2, q, r, c, b, p, h, false⟩ = sText ⟨#[103, 97, 116, 101]⟩ q ⟨#[115, 104, 117, 116]⟩ from rfl]
      obtain ⟨y, hy⟩ : ∃ y, y = w.alloc (Obj.cells #[.int .i64 2, .int .i64 q, .int .i64 r, .int .i64 c, .int .i64 b, .int .i64 p, .int .i64 h, .bool false] 41) := ⟨_, rfl⟩
      have A0 : InAt y w.heap.size ⟨2, q, r, c, b, p, h, false⟩ := by rw [hy]; exact InAt.new w _ ⟨2, q, r, c, b, p, h, false⟩
      have B0 : Below w.heap.size w y := by rw [hy]; exact below_box w _
      obtain ⟨a0, a1, a2, a3, a4, a5, a6, a7⟩ := A0
      go_enter Tryz.func22, Tryz.ntmps22
      go_upto_region 1 with fail
      rw [← hy]
      clear hy
      go_wp2_with fail
      go_at_call 62
      refine (stateTI ⟨#[103, 97, 116, 101]⟩ ⟨#[111, 112, 101, 110]⟩ ⟨#[115, 104, 117, 116]⟩ q false y (by decide) (by decide) (by decide) hq (tab_later htab B0)).mono ?_
      rintro e y1 ⟨rfl, k1⟩
      rw [if_neg (by simp)]
      go_wp2
      go_ret
      exact ⟨rfl, B0.trans (k1.mono B0.size)⟩
    · rw [show oText ⟨2, q, r, c, b, p, h, true⟩ = sText ⟨#[103, 97, 116, 101]⟩ q ⟨#[111, 112, 101, 110]⟩ from rfl]
      obtain ⟨y, hy⟩ : ∃ y, y = w.alloc (Obj.cells #[.int .i64 2, .int .i64 q, .int .i64 r, .int .i64 c, .int .i64 b, .int .i64 p, .int .i64 h, .bool true] 41) := ⟨_, rfl⟩
      have A0 : InAt y w.heap.size ⟨2, q, r, c, b, p, h, true⟩ := by rw [hy]; exact InAt.new w _ ⟨2, q, r, c, b, p, h, true⟩
      have B0 : Below w.heap.size w y := by rw [hy]; exact below_box w _
      obtain ⟨a0, a1, a2, a3, a4, a5, a6, a7⟩ := A0
      go_enter Tryz.func22, Tryz.ntmps22
      go_upto_region 1 with fail
      rw [← hy]
      clear hy
      go_wp2_with fail
      go_at_call 62
      refine (stateTI ⟨#[103, 97, 116, 101]⟩ ⟨#[111, 112, 101, 110]⟩ ⟨#[115, 104, 117, 116]⟩ q true y (by decide) (by decide) (by decide) hq (tab_later htab B0)).mono ?_
      rintro e y1 ⟨rfl, k1⟩
      rw [if_pos rfl]
      go_wp2
      go_ret
      exact ⟨rfl, B0.trans (k1.mono B0.size)⟩
  have d3 : (k == 2) = false := by simpa using h3
  have e : oText ⟨k, q, r, c, b, p, h, up⟩ = ⟨#[110, 111, 110, 101]⟩ := by unfold oText; simp only; rw [if_neg h1, if_neg h3]
  rw [e]
  clear e
  obtain ⟨y, hy⟩ : ∃ y, y = w.alloc (Obj.cells #[.int .i64 k, .int .i64 q, .int .i64 r, .int .i64 c, .int .i64 b, .int .i64 p, .int .i64 h, .bool up] 41) := ⟨_, rfl⟩
  have A0 : InAt y w.heap.size ⟨k, q, r, c, b, p, h, up⟩ := by rw [hy]; exact InAt.new w _ ⟨k, q, r, c, b, p, h, up⟩
  have B0 : Below w.heap.size w y := by rw [hy]; exact below_box w _
  obtain ⟨a0, a1, a2, a3, a4, a5, a6, a7⟩ := A0
  go_enter Tryz.func22, Tryz.ntmps22
  go_upto_region 1 with fail
  rw [← hy]
  clear hy
  go_wp2
  go_ret
  exact ⟨rfl, B0⟩

end Go.Proofs.YthgcbihhdbpbdaaGreatDoor
