/-
  A triangle with one corner replaced.
-/
import Derived.Test.YtppdholccpgcpaaGreatLawP
import Derived.Test.YtppdholccpgcpaaGreatTriC
namespace Go.Proofs.YtppdholccpgcpaaGreat
set_option maxHeartbeats 2000000
open Go.ChangeShapes Go.WideShapes Go.ChangeAt Go.RowKit
set_option linter.unusedVariables false
set_option linter.unusedSimpArgs false
set_option maxRecDepth 4000
attribute [local go_sem ↓] Go.wp_at_zero Go.wp_at_succ
theorem replaced_0 (p q r u : PV) (w : World) :
    Calls Tryz.prog 130 #[.agg (p18 p q r), .int .i64 0, .agg (p6 u)] w (fun e w' => e = .returned (.agg (p18 u q r)) ∧ Below w.heap.size w w') := by
  obtain ⟨P_t, P_u, P_o⟩ := blocks3 w (.cells (p18 p q r) 81) (.cells (p6 u) 31) (.cells #[.bool false, .slice none 0 0, .slice none 0 0, .bool false, .slice none 0 0, .slice none 0 0, .bool false, .slice none 0 0, .slice none 0 0, .bool false, .slice none 0 0, .slice none 0 0, .bool false, .slice none 0 0, .slice none 0 0, .bool false, .slice none 0 0, .slice none 0 0] 81)
  have hkb := ba3 w (.cells (p18 p q r) 81) (.cells (p6 u) 31) (.cells #[.bool false, .slice none 0 0, .slice none 0 0, .bool false, .slice none 0 0, .slice none 0 0, .bool false, .slice none 0 0, .slice none 0 0, .bool false, .slice none 0 0, .slice none 0 0, .bool false, .slice none 0 0, .slice none 0 0, .bool false, .slice none 0 0, .slice none 0 0] 81)
  go_enter Tryz.func130, Tryz.ntmps130
  go_upto_region 1 with fail
  generalize ((w.alloc (.cells (p18 p q r) 81)).alloc (.cells (p6 u) 31)).alloc (.cells #[.bool false, .slice none 0 0, .slice none 0 0, .bool false, .slice none 0 0, .slice none 0 0, .bool false, .slice none 0 0, .slice none 0 0, .bool false, .slice none 0 0, .slice none 0 0, .bool false, .slice none 0 0, .slice none 0 0, .bool false, .slice none 0 0, .slice none 0 0] 81) = W1 at P_t P_u P_o hkb ⊢
  have ecs : (((p18 p q r) : Array Value).toList.take 0 ++ (((p6 u) : Array Value).toList ++ ((p18 p q r) : Array Value).toList.drop (0 + ((p6 u) : Array Value).size))).toArray = (p18 u q r) := rfl
  have P_t2 := rowV_set P_t (p18 u q r)
  have P_o2 := rowV_other P_o (show w.heap.size ≠ w.heap.size + 1 + 1 by omega) (p18 u q r)
  have kb2 := below_setRow hkb (Nat.le_refl _) (p18 u q r)
  have hld := cells_row P_t2
  have u0 := rblk_cell P_u 0
  have u1 := rblk_cell P_u 1
  have u2 := rblk_cell P_u 2
  have u3 := rblk_cell P_u 3
  have u4 := rblk_cell P_u 4
  have u5 := rblk_cell P_u 5
  go_wp2_with (first | (refine wpList_store_at rfl 31 (.tmp 9) (.tmp 8) rfl (w.heap.size) 0 (p6 u) rfl rfl 81 _ P_t pt_size (by simp) (by simp [Value.oneCell', p18, p6]) ?_; rw [ecs]) | refine wpList_load_at rfl 81 (.tmp 3) rfl (w.heap.size) 0 (p18 u q r) rfl tri_agg (run_size tri_size) hld ?_ | refine wpList_store_row rfl 81 (.tmp 6) (.tmp 10) rfl (w.heap.size + 1 + 1) (p18 u q r) rfl rfl 81 _ P_o2 tri_size rfl (by simp [Value.oneCell', p18, p6]) ?_)
  exact bodyPost_ret (v := .agg (p18 u q r)) (results_row Tryz.results130 _ _ (w.heap.size + 1 + 1) (p18 u q r) rfl tri_agg (run_size tri_size) (rowV_set P_o2 (p18 u q r))) rfl ⟨rfl, below_setRow kb2 (by omega) _⟩
theorem replaced_1 (p q r u : PV) (w : World) :
    Calls Tryz.prog 130 #[.agg (p18 p q r), .int .i64 1, .agg (p6 u)] w (fun e w' => e = .returned (.agg (p18 p u r)) ∧ Below w.heap.size w w') := by
  obtain ⟨P_t, P_u, P_o⟩ := blocks3 w (.cells (p18 p q r) 81) (.cells (p6 u) 31) (.cells #[.bool false, .slice none 0 0, .slice none 0 0, .bool false, .slice none 0 0, .slice none 0 0, .bool false, .slice none 0 0, .slice none 0 0, .bool false, .slice none 0 0, .slice none 0 0, .bool false, .slice none 0 0, .slice none 0 0, .bool false, .slice none 0 0, .slice none 0 0] 81)
  have hkb := ba3 w (.cells (p18 p q r) 81) (.cells (p6 u) 31) (.cells #[.bool false, .slice none 0 0, .slice none 0 0, .bool false, .slice none 0 0, .slice none 0 0, .bool false, .slice none 0 0, .slice none 0 0, .bool false, .slice none 0 0, .slice none 0 0, .bool false, .slice none 0 0, .slice none 0 0, .bool false, .slice none 0 0, .slice none 0 0] 81)
  go_enter Tryz.func130, Tryz.ntmps130
  go_upto_region 1 with fail
  generalize ((w.alloc (.cells (p18 p q r) 81)).alloc (.cells (p6 u) 31)).alloc (.cells #[.bool false, .slice none 0 0, .slice none 0 0, .bool false, .slice none 0 0, .slice none 0 0, .bool false, .slice none 0 0, .slice none 0 0, .bool false, .slice none 0 0, .slice none 0 0, .bool false, .slice none 0 0, .slice none 0 0, .bool false, .slice none 0 0, .slice none 0 0] 81) = W1 at P_t P_u P_o hkb ⊢
  have ecs : (((p18 p q r) : Array Value).toList.take 6 ++ (((p6 u) : Array Value).toList ++ ((p18 p q r) : Array Value).toList.drop (6 + ((p6 u) : Array Value).size))).toArray = (p18 p u r) := rfl
  have P_t2 := rowV_set P_t (p18 p u r)
  have P_o2 := rowV_other P_o (show w.heap.size ≠ w.heap.size + 1 + 1 by omega) (p18 p u r)
  have kb2 := below_setRow hkb (Nat.le_refl _) (p18 p u r)
  have hld := cells_row P_t2
  have u0 := rblk_cell P_u 0
  have u1 := rblk_cell P_u 1
  have u2 := rblk_cell P_u 2
  have u3 := rblk_cell P_u 3
  have u4 := rblk_cell P_u 4
  have u5 := rblk_cell P_u 5
  go_wp2_with (first | (refine wpList_store_at rfl 31 (.tmp 9) (.tmp 8) rfl (w.heap.size) 6 (p6 u) rfl rfl 81 _ P_t pt_size (by simp) (by simp [Value.oneCell', p18, p6]) ?_; rw [ecs]) | refine wpList_load_at rfl 81 (.tmp 3) rfl (w.heap.size) 0 (p18 p u r) rfl tri_agg (run_size tri_size) hld ?_ | refine wpList_store_row rfl 81 (.tmp 6) (.tmp 10) rfl (w.heap.size + 1 + 1) (p18 p u r) rfl rfl 81 _ P_o2 tri_size rfl (by simp [Value.oneCell', p18, p6]) ?_)
  exact bodyPost_ret (v := .agg (p18 p u r)) (results_row Tryz.results130 _ _ (w.heap.size + 1 + 1) (p18 p u r) rfl tri_agg (run_size tri_size) (rowV_set P_o2 (p18 p u r))) rfl ⟨rfl, below_setRow kb2 (by omega) _⟩
theorem replaced_2 (p q r u : PV) (w : World) :
    Calls Tryz.prog 130 #[.agg (p18 p q r), .int .i64 2, .agg (p6 u)] w (fun e w' => e = .returned (.agg (p18 p q u)) ∧ Below w.heap.size w w') := by
  obtain ⟨P_t, P_u, P_o⟩ := blocks3 w (.cells (p18 p q r) 81) (.cells (p6 u) 31) (.cells #[.bool false, .slice none 0 0, .slice none 0 0, .bool false, .slice none 0 0, .slice none 0 0, .bool false, .slice none 0 0, .slice none 0 0, .bool false, .slice none 0 0, .slice none 0 0, .bool false, .slice none 0 0, .slice none 0 0, .bool false, .slice none 0 0, .slice none 0 0] 81)
  have hkb := ba3 w (.cells (p18 p q r) 81) (.cells (p6 u) 31) (.cells #[.bool false, .slice none 0 0, .slice none 0 0, .bool false, .slice none 0 0, .slice none 0 0, .bool false, .slice none 0 0, .slice none 0 0, .bool false, .slice none 0 0, .slice none 0 0, .bool false, .slice none 0 0, .slice none 0 0, .bool false, .slice none 0 0, .slice none 0 0] 81)
  go_enter Tryz.func130, Tryz.ntmps130
  go_upto_region 1 with fail
  generalize ((w.alloc (.cells (p18 p q r) 81)).alloc (.cells (p6 u) 31)).alloc (.cells #[.bool false, .slice none 0 0, .slice none 0 0, .bool false, .slice none 0 0, .slice none 0 0, .bool false, .slice none 0 0, .slice none 0 0, .bool false, .slice none 0 0, .slice none 0 0, .bool false, .slice none 0 0, .slice none 0 0, .bool false, .slice none 0 0, .slice none 0 0] 81) = W1 at P_t P_u P_o hkb ⊢
  have ecs : (((p18 p q r) : Array Value).toList.take 12 ++ (((p6 u) : Array Value).toList ++ ((p18 p q r) : Array Value).toList.drop (12 + ((p6 u) : Array Value).size))).toArray = (p18 p q u) := rfl
  have P_t2 := rowV_set P_t (p18 p q u)
  have P_o2 := rowV_other P_o (show w.heap.size ≠ w.heap.size + 1 + 1 by omega) (p18 p q u)
  have kb2 := below_setRow hkb (Nat.le_refl _) (p18 p q u)
  have hld := cells_row P_t2
  have u0 := rblk_cell P_u 0
  have u1 := rblk_cell P_u 1
  have u2 := rblk_cell P_u 2
  have u3 := rblk_cell P_u 3
  have u4 := rblk_cell P_u 4
  have u5 := rblk_cell P_u 5
  go_wp2_with (first | (refine wpList_store_at rfl 31 (.tmp 9) (.tmp 8) rfl (w.heap.size) 12 (p6 u) rfl rfl 81 _ P_t pt_size (by simp) (by simp [Value.oneCell', p18, p6]) ?_; rw [ecs]) | refine wpList_load_at rfl 81 (.tmp 3) rfl (w.heap.size) 0 (p18 p q u) rfl tri_agg (run_size tri_size) hld ?_ | refine wpList_store_row rfl 81 (.tmp 6) (.tmp 10) rfl (w.heap.size + 1 + 1) (p18 p q u) rfl rfl 81 _ P_o2 tri_size rfl (by simp [Value.oneCell', p18, p6]) ?_)
  exact bodyPost_ret (v := .agg (p18 p q u)) (results_row Tryz.results130 _ _ (w.heap.size + 1 + 1) (p18 p q u) rfl tri_agg (run_size tri_size) (rowV_set P_o2 (p18 p q u))) rfl ⟨rfl, below_setRow kb2 (by omega) _⟩
end Go.Proofs.YtppdholccpgcpaaGreat
