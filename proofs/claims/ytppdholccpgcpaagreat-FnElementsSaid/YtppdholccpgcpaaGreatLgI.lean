/-
  The program's gradient of a linear function, for three valid values.
-/
import Derived.Test.YtppdholccpgcpaaGreatWp
import Derived.Test.YtppdholccpgcpaaGreatGrM
import Derived.Test.YtppdholccpgcpaaGreatElW
import Derived.Test.YtppdholccpgcpaaGreatWg
import Derived.Test.YtppdholccpgcpaaGreatShM0
import Derived.Test.YtppdholccpgcpaaGreatTriC
import Derived.Test.YtppdholccpgcpaaGreatTriS
import Derived.Test.YtppdholccpgcpaaGreatPtJ
import Derived.Test.YtppdholccpgcpaaGreatPkH
import Derived.Test.YtppdholccpgcpaaGreatPkI
import Derived.Test.YtppdholccpgcpaaGreatRl
import Derived.Test.YtppdholccpgcpaaGreatPkF
import Derived.Test.YtppdholccpgcpaaGreatGrB
namespace Go.Proofs.YtppdholccpgcpaaGreat
open Go.ChangeShapes Go.WideShapes Go.ChangeAt Go.RowKit
set_option linter.unusedVariables false
set_option linter.unusedSimpArgs false
set_option maxRecDepth 4000
theorem run_idx3 (g0 g1 g2 : PV) {j : Nat} {x : PV} (h : [g0, g1, g2][j]? = some x) (w : World) : (Instr.index 80 (.agg (p18 g0 g1 g2)) (.int .i64 (j : Int))).run Tryz.prog w = .ok (.agg (p6 x)) w := by
  match j, h with
  | 0, h => obtain rfl : g0 = x := by simpa using h
            simp [Instr.index, asIntOf, run_underlying Tryz.underlying80, Go.part, pt_agg, run_size pt_size]
  | 1, h => obtain rfl : g1 = x := by simpa using h
            simp [Instr.index, asIntOf, run_underlying Tryz.underlying80, Go.part, pt_agg, run_size pt_size]
  | 2, h => obtain rfl : g2 = x := by simpa using h
            simp [Instr.index, asIntOf, run_underlying Tryz.underlying80, Go.part, pt_agg, run_size pt_size]
theorem gD_nice (p q r : PV) : ∀ (j : Nat) (x y : R3), (gD p q r)[j]? = some (x, y) → (x = ofO (valx x) ∧ y = ofO (valx y)) ∧ (valx x = none ∨ valx y = none → valx x = none ∧ valx y = none) := by
  have K : ∀ j, (ofO (gU p q r j) = ofO (valx (ofO (gU p q r j))) ∧ ofO (gV p q r j) = ofO (valx (ofO (gV p q r j)))) ∧ (valx (ofO (gU p q r j)) = none ∨ valx (ofO (gV p q r j)) = none → valx (ofO (gU p q r j)) = none ∧ valx (ofO (gV p q r j)) = none) := fun j => by
    rw [valx_ofO (gU_fit p q r j), valx_ofO (gV_fit p q r j)]
    refine ⟨⟨rfl, rfl⟩, ?_⟩
    unfold gU gV tX tY
    generalize binQ mulQ _ (nX _ _) = a
    generalize binQ mulQ _ (nY _ _) = b
    intro h
    cases a with
    | none => rw [(both_n1 b).1, (both_n1 b).2]; exact ⟨rfl, rfl⟩
    | some a =>
      cases b with
      | none => rw [(both_n2 (some a)).1, (both_n2 (some a)).2]; exact ⟨rfl, rfl⟩
      | some b => rcases h with h | h <;> cases h
  intro j x y h
  have hj : j < 3 := (List.getElem?_eq_some_iff.1 h).1
  have hc : j = 0 ∨ j = 1 ∨ j = 2 := by omega
  rcases hc with rfl | rfl | rfl
  · have e : (x, y) = (ofO (gU p q r 0), ofO (gV p q r 0)) := Option.some.inj (h.symm.trans rfl)
    rw [(Prod.mk.inj e).1, (Prod.mk.inj e).2]; exact K 0
  · have e : (x, y) = (ofO (gU p q r 1), ofO (gV p q r 1)) := Option.some.inj (h.symm.trans rfl)
    rw [(Prod.mk.inj e).1, (Prod.mk.inj e).2]; exact K 1
  · have e : (x, y) = (ofO (gU p q r 2), ofO (gV p q r 2)) := Option.some.inj (h.symm.trans rfl)
    rw [(Prod.mk.inj e).1, (Prod.mk.inj e).2]; exact K 2
attribute [local go_sem ↓] Go.wp_at_zero Go.wp_at_succ
end Go.Proofs.YtppdholccpgcpaaGreat
namespace Go.Proofs.YtppdholccpgcpaaGreat
open Go.ChangeShapes Go.WideShapes Go.ChangeAt Go.RowKit
set_option linter.unusedVariables false
set_option linter.unusedSimpArgs false
set_option maxRecDepth 4000
theorem lg_zero : Lg 1 0 := ⟨by decide, by decide⟩
end Go.Proofs.YtppdholccpgcpaaGreat
namespace Go.Proofs.YtppdholccpgcpaaGreat
open Go.ChangeShapes Go.WideShapes Go.ChangeAt Go.RowKit
set_option linter.unusedVariables false
set_option linter.unusedSimpArgs false
set_option maxRecDepth 4000
theorem len_none {x : R3} (hx : x = ofO (valx x)) (h : ¬ 0 < x.m.length) : valx x = none := by
  cases hv : valx x with
  | none => rfl
  | some r =>
    have h1 := len_pos (some r)
    rw [hv] at hx
    rw [← hx, decide_eq_false h] at h1
    cases h1
attribute [local go_sem ↓] Go.wp_at_zero Go.wp_at_succ
end Go.Proofs.YtppdholccpgcpaaGreat
