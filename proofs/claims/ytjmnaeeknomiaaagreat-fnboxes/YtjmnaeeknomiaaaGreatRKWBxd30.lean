import Derived.Test.YtjmnaeeknomiaaaGreatRM29
import Derived.Test.YtjmnaeeknomiaaaGreatRKWBxd27
namespace Go.Proofs.YtjmnaeeknomiaaaGreat
open Go.ChangeShapes Go.WideShapes Go.ChangeAt Go.RowKit
open Go.ChangeMaps (open_string shut_string)
set_option linter.unusedVariables false
set_option maxRecDepth 100000
set_option maxHeartbeats 32000000
set_option linter.unusedSimpArgs false
open Go.Proofs.Tryz
attribute [local go_sem] ji ja bc
theorem BL.bent {x : AG} (h : DJ x) : BL 61 x.p := by
 refine ⟨by show (x.two.map AD.m).length = 2; rw [List.length_map]; exact h.t, fun k hk => ?_, by have := h.n; show x.net.length ≤ 61; omega, by have := h.g; show x.ga.length ≤ 61; omega, h.i, by have := h.s; show x.sd.length ≤ 61; omega⟩
 have e := Br x (k : Int)
 unfold Ab at e
 simp only [Int.toNat_natCast] at e
 rw [e]
 exact h.l k hk
theorem EE.smV {lo mid hi n : Nat} {w : World} {x : AG} (h : EE lo mid hi w x) (hs : BL n x.p) (hn : n ≤ 1000) : BT w x := by
 obtain ⟨h1, h2, h3, h4, h5, h6⟩ := hs
 have e2 : x.two.length = 2 := by have h1 : (x.two.map AD.m).length = 2 := h1; simpa using h1
 have hv := h.t.view.2
 refine ⟨hv.row, hv.nest, h.n.view.2, h.g.view.2, h.i.view.2, h.s.view, by omega, fun i hi => ?_, by have h3 : x.net.length ≤ n := h3; omega, by have h4 : x.ga.length ≤ n := h4; omega, by have h5 : x.ln.length ≤ n := h5; omega, by have h6 : x.sd.length ≤ n := h6; omega, h.t.1.capM⟩
 have := h2 i (by omega)
 have e := Br x (i : Int)
 unfold Ab at e
 simp only [Int.toNat_natCast] at e
 rw [e] at this
 omega
theorem Kj (x : AG) (w : World) (hl : x.ln.length ≤ 1048576) :
  Calls prog 19 #[.agg (bc x)] w fun e w' => e = .returned (ji (x.ln.length : Int)) ∧ Bw w w' := by
 go_enter func19, ntmps19
 go_wp2
 go_ret
 exact ⟨rfl, Ae _⟩
end Go.Proofs.YtjmnaeeknomiaaaGreat
