/-
  Indices and the corners of a triangle of a mesh.
-/
import Derived.Test.YtjcbaiphkchehaaMs
import Derived.Test.YtjcbaiphkchehaaPkA
namespace Go.Proofs.Ytjcbaiphkchehaa
open Go.ChangeShapes Go.WideShapes Go.ChangeAt Go.RowKit
open Go.ChangeMaps (open_string shut_string)
set_option linter.unusedVariables false
set_option linter.unusedSimpArgs false
set_option maxRecDepth 4000

def inI (i n : Int) : Bool := decide (0 ≤ i) && decide (i < n)
theorem inI_yes {i n : Int} (h : inI i n = true) : 0 ≤ i ∧ i < n := by simpa [inI] using h
set_option maxHeartbeats 400000 in
theorem l01In_r (i l h : Int) (w : World) : Calls Try.prog 12 #[.int .i64 i, .int .i64 l, .int .i64 h] w (fun e w' => e = .returned (.bool (decide (l ≤ i) && decide (i ≤ h))) ∧ Below w.heap.size w w') := by
  by_cases h0 : l ≤ i <;> by_cases h1 : i ≤ h
  all_goals
    go_enter Try.func12, Try.ntmps12
    go_wp2
    go_ret
    exact ⟨by simp [h0, h1], Below.refl _ _⟩
/-- All corners of a triangle are points. -/
def okT (n : Int) (t : TV) : Bool := inI t.a n && (inI t.b n && inI t.c n)
theorem run_index3_0 (a b c : Int) (w : World) : (Instr.index 52 (.agg #[.int .i64 a, .int .i64 b, .int .i64 c]) (.int .i64 0)).run Try.prog w = .ok (.int .i64 a) w := by
  simp [Instr.index, asIntOf, run_underlying Try.underlying52, Go.part, Try.isAgg3, Try.sizeOf3]
theorem run_index3_1 (a b c : Int) (w : World) : (Instr.index 52 (.agg #[.int .i64 a, .int .i64 b, .int .i64 c]) (.int .i64 1)).run Try.prog w = .ok (.int .i64 b) w := by
  simp [Instr.index, asIntOf, run_underlying Try.underlying52, Go.part, Try.isAgg3, Try.sizeOf3]
theorem run_index3_2 (a b c : Int) (w : World) : (Instr.index 52 (.agg #[.int .i64 a, .int .i64 b, .int .i64 c]) (.int .i64 2)).run Try.prog w = .ok (.int .i64 c) w := by
  simp [Instr.index, asIntOf, run_underlying Try.underlying52, Go.part, Try.isAgg3, Try.sizeOf3]
end Go.Proofs.Ytjcbaiphkchehaa
