/-
  Indices and the corners of a triangle of a mesh.
-/
import Derived.Test.YtenjjojbjpmhbaaMs
import Derived.Test.YtenjjojbjpmhbaaPkA
namespace Go.Proofs.Ytenjjojbjpmhbaa
open Go.ChangeShapes Go.WideShapes Go.ChangeAt Go.RowKit
open Go.ChangeMaps (open_string shut_string)
set_option linter.unusedVariables false
set_option linter.unusedSimpArgs false
set_option maxRecDepth 4000

def inI (i n : Int) : Bool := decide (0 ≤ i) && decide (i < n)
theorem inI_yes {i n : Int} (h : inI i n = true) : 0 ≤ i ∧ i < n := by simpa [inI] using h
set_option maxHeartbeats 400000 in
theorem isIndex_r (i n : Int) (w : World) : Calls Try.prog 23 #[.int .i64 i, .int .i64 n] w (fun e w' => e = .returned (.bool (inI i n)) ∧ Below w.heap.size w w') := by
  by_cases h0 : 0 ≤ i <;> by_cases h1 : i < n
  all_goals
    go_enter Try.func23, Try.ntmps23
    go_wp2
    go_ret
    exact ⟨by simp [inI, h0, h1], Below.refl _ _⟩
set_option maxHeartbeats 400000 in
theorem l01In_r (i l h : Int) (w : World) : Calls Try.prog 18 #[.int .i64 i, .int .i64 l, .int .i64 h] w (fun e w' => e = .returned (.bool (decide (l ≤ i) && decide (i ≤ h))) ∧ Below w.heap.size w w') := by
  by_cases h0 : l ≤ i <;> by_cases h1 : i ≤ h
  all_goals
    go_enter Try.func18, Try.ntmps18
    go_wp2
    go_ret
    exact ⟨by simp [h0, h1], Below.refl _ _⟩
set_option maxHeartbeats 400000 in
theorem corners_r (t : TV) (w : World) : Calls Try.prog 40 #[.agg #[.int .i64 t.a, .int .i64 t.b, .int .i64 t.c, .int .i64 t.r, .int .i64 t.l]] w (fun e w' => e = .returned (.agg #[.int .i64 t.a, .int .i64 t.b, .int .i64 t.c]) ∧ Below w.heap.size w w') := by
  go_enter Try.func40, Try.ntmps40
  go_wp2
  exact bodyPost_ret (v := .agg #[.int .i64 t.a, .int .i64 t.b, .int .i64 t.c]) (by simp [results, Try.results40, go_sem]) rfl ⟨rfl, ba2 _ _ _⟩
set_option maxHeartbeats 400000 in
theorem l07Tri_r (t : TV) (w : World) : Calls Try.prog 19 #[.agg #[.int .i64 t.a, .int .i64 t.b, .int .i64 t.c, .int .i64 t.r, .int .i64 t.l]] w (fun e w' => ∃ g, e = .returned (.slice (some ⟨g, 0, none⟩) 3 3) ∧ Owns w.heap.size w'.heap.size w' [(some ⟨g, 0, none⟩, vi [t.a, t.b, t.c])] ∧ Below w.heap.size w w') := by
  go_enter Try.func19, Try.ntmps19
  go_wp2
  go_ret
  have hb := (blocks2 w (.cells #[.int .i64 t.a, .int .i64 t.b, .int .i64 t.c, .int .i64 t.r, .int .i64 t.l] 45) (.cells #[.int .i64 t.a, .int .i64 t.b, .int .i64 t.c] 3)).2
  have h := OwnS.of_row hb (Nat.le_succ w.heap.size)
  exact ⟨_, rfl, Owns.cons h (fun g hg => by simp [rowOf, vi] at hg; subst hg; simp) (Owns.nil _ _ _), ba2 _ _ _⟩
/-- All corners of a triangle are points. -/
def okT (n : Int) (t : TV) : Bool := inI t.a n && (inI t.b n && inI t.c n)
theorem run_index3_0 (a b c : Int) (w : World) : (Instr.index 76 (.agg #[.int .i64 a, .int .i64 b, .int .i64 c]) (.int .i64 0)).run Try.prog w = .ok (.int .i64 a) w := by
  simp [Instr.index, asIntOf, run_underlying Try.underlying76, Go.part, Try.isAgg3, Try.sizeOf3]
theorem run_index3_1 (a b c : Int) (w : World) : (Instr.index 76 (.agg #[.int .i64 a, .int .i64 b, .int .i64 c]) (.int .i64 1)).run Try.prog w = .ok (.int .i64 b) w := by
  simp [Instr.index, asIntOf, run_underlying Try.underlying76, Go.part, Try.isAgg3, Try.sizeOf3]
theorem run_index3_2 (a b c : Int) (w : World) : (Instr.index 76 (.agg #[.int .i64 a, .int .i64 b, .int .i64 c]) (.int .i64 2)).run Try.prog w = .ok (.int .i64 c) w := by
  simp [Instr.index, asIntOf, run_underlying Try.underlying76, Go.part, Try.isAgg3, Try.sizeOf3]
end Go.Proofs.Ytenjjojbjpmhbaa
