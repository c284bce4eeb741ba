/-
  An array of three points: words.
-/
import Derived.Test.YtppdholccpgcpaaGreatLawP
import Derived.Test.YtppdholccpgcpaaGreatGrB
namespace Go.Proofs.YtppdholccpgcpaaGreat
open Go.ChangeShapes Go.WideShapes Go.ChangeAt Go.RowKit
set_option linter.unusedVariables false
set_option linter.unusedSimpArgs false
set_option maxRecDepth 4000
theorem a3_agg (w : World) : (isAgg 80).run Tryz.prog w = .ok true w := by simp [isAgg, run_underlying Tryz.underlying80]
theorem a3_size : (Tryz.prog.info? 80).map (·.size) = some 18 := by kernel_rfl
def MadeP3 (B : Nat) (D : List (R3 × R3)) (w : World) (e : Ending) (w' : World) : Prop :=
  ∃ (g0 g1 g2 : PV), e = .returned (.agg (p18 g0 g1 g2)) ∧ dat [g0, g1, g2] = D ∧ (∀ p, p ∈ [g0, g1, g2] → CapP p) ∧ Owns B w'.heap.size w' (lrow [g0, g1, g2]) ∧ Aparts (lrow [g0, g1, g2]) ∧ Below w.heap.size w w'
def gjk (p q r : PV) : Nat → PV × PV
  | 0 => (q, r)
  | 1 => (r, p)
  | _ => (p, q)
def gU (p q r : PV) (j : Nat) : Option Rat := tX (gjk p q r j).1 (gjk p q r j).2 (invO (aV p q r))
def gV (p q r : PV) (j : Nat) : Option Rat := tY (gjk p q r j).1 (gjk p q r j).2 (invO (aV p q r))
def gD (p q r : PV) : List (R3 × R3) := [(ofO (gU p q r 0), ofO (gV p q r 0)), (ofO (gU p q r 1), ofO (gV p q r 1)), (ofO (gU p q r 2), ofO (gV p q r 2))]
theorem gU_fit (p q r : PV) (j : Nat) : FitO (gU p q r j) := tX_fit _ _ _
theorem gV_fit (p q r : PV) (j : Nat) : FitO (gV p q r j) := tY_fit _ _ _
theorem three_take (U V : Nat → R3) {j : Nat} (h : j < 3) : [(U 0, V 0), (U 1, V 1), (U 2, V 2)].take (j + 1) = [(U 0, V 0), (U 1, V 1), (U 2, V 2)].take j ++ [(U j, V j)] := by
  have : j = 0 ∨ j = 1 ∨ j = 2 := by omega
  rcases this with rfl | rfl | rfl <;> rfl
theorem three_pv {M : List PV} (h : M.length = 3) : ∃ a b c, M = [a, b, c] := by
  match M, h with
  | [a, b, c], _ => exact ⟨a, b, c, rfl⟩
end Go.Proofs.YtppdholccpgcpaaGreat
