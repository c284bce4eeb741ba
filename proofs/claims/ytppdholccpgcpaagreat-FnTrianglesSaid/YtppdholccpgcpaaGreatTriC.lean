/-
  The corners of a triangle, counted on.
-/
import Derived.Test.YtppdholccpgcpaaGreatWg
import Derived.Test.YtppdholccpgcpaaGreatLawP
import Derived.Test.YtppdholccpgcpaaGreatTriI
import Derived.Test.YtppdholccpgcpaaGreatTk
import Derived.Deep.MidRow
import Derived.Deep.RegionHeld3
namespace Go.Proofs.YtppdholccpgcpaaGreat
set_option maxHeartbeats 1000000
open Go.ChangeShapes Go.WideShapes Go.ChangeAt Go.RowKit
set_option linter.unusedVariables false
set_option linter.unusedSimpArgs false
set_option maxRecDepth 4000
attribute [local go_sem ↓] Go.wp_at_zero Go.wp_at_succ
theorem range_row {w : World} {g : Nat} {T : TypeId} {c : Array Value} (hg : w.heap[g]? = some (.cells c T (0, 0))) : w.rangeAt g 0 c.toList := fun j v hj => by
  rw [Nat.zero_add, cell_of_row w g j c T (0, 0) hg]
  simpa using hj
theorem corner_1 (p q r : PV) (w : World) :
    Calls Tryz.prog 178 #[.agg (p18 p q r), .int .i64 1] w (fun e w' => e = .returned (.agg (p6 q)) ∧ Below w.heap.size w w') := by
  obtain ⟨P_t, P_o⟩ := blocks2 w (.cells (p18 p q r) 81) (.cells z6 31)
  have hkb := ba2 w (.cells (p18 p q r) 81) (.cells z6 31)
  have P2 := rowV_set P_o (p6 q)
  go_enter Tryz.func178, Tryz.ntmps178
  go_wp2_with (refine wpList_store_row rfl 31 (.tmp 4) (.tmp 8) rfl (w.heap.size + 1) (p6 q) rfl rfl 31 _ P_o pt_size rfl (by simp [Value.oneCell', p18, p6, z6]) ?_)
  exact bodyPost_ret (v := .agg (p6 q)) (results_row Tryz.results178 _ _ (w.heap.size + 1) (p6 q) rfl pt_agg (run_size pt_size) P2) rfl ⟨rfl, below_setRow hkb (Nat.le_succ _) _⟩
theorem corner_2 (p q r : PV) (w : World) :
    Calls Tryz.prog 178 #[.agg (p18 p q r), .int .i64 2] w (fun e w' => e = .returned (.agg (p6 r)) ∧ Below w.heap.size w w') := by
  obtain ⟨P_t, P_o⟩ := blocks2 w (.cells (p18 p q r) 81) (.cells z6 31)
  have hkb := ba2 w (.cells (p18 p q r) 81) (.cells z6 31)
  have P2 := rowV_set P_o (p6 r)
  go_enter Tryz.func178, Tryz.ntmps178
  go_wp2_with (refine wpList_store_row rfl 31 (.tmp 4) (.tmp 8) rfl (w.heap.size + 1) (p6 r) rfl rfl 31 _ P_o pt_size rfl (by simp [Value.oneCell', p18, p6, z6]) ?_)
  exact bodyPost_ret (v := .agg (p6 r)) (results_row Tryz.results178 _ _ (w.heap.size + 1) (p6 r) rfl pt_agg (run_size pt_size) P2) rfl ⟨rfl, below_setRow hkb (Nat.le_succ _) _⟩
theorem corner_3 (p q r : PV) (w : World) :
    Calls Tryz.prog 178 #[.agg (p18 p q r), .int .i64 3] w (fun e w' => e = .returned (.agg (p6 p)) ∧ Below w.heap.size w w') := by
  obtain ⟨P_t, P_o⟩ := blocks2 w (.cells (p18 p q r) 81) (.cells z6 31)
  have hkb := ba2 w (.cells (p18 p q r) 81) (.cells z6 31)
  have P2 := rowV_set P_o (p6 p)
  go_enter Tryz.func178, Tryz.ntmps178
  go_wp2_with (refine wpList_store_row rfl 31 (.tmp 4) (.tmp 8) rfl (w.heap.size + 1) (p6 p) rfl rfl 31 _ P_o pt_size rfl (by simp [Value.oneCell', p18, p6, z6]) ?_)
  exact bodyPost_ret (v := .agg (p6 p)) (results_row Tryz.results178 _ _ (w.heap.size + 1) (p6 p) rfl pt_agg (run_size pt_size) P2) rfl ⟨rfl, below_setRow hkb (Nat.le_succ _) _⟩
theorem corner_4 (p q r : PV) (w : World) :
    Calls Tryz.prog 178 #[.agg (p18 p q r), .int .i64 4] w (fun e w' => e = .returned (.agg (p6 q)) ∧ Below w.heap.size w w') := by
  obtain ⟨P_t, P_o⟩ := blocks2 w (.cells (p18 p q r) 81) (.cells z6 31)
  have hkb := ba2 w (.cells (p18 p q r) 81) (.cells z6 31)
  have P2 := rowV_set P_o (p6 q)
  go_enter Tryz.func178, Tryz.ntmps178
  go_wp2_with (refine wpList_store_row rfl 31 (.tmp 4) (.tmp 8) rfl (w.heap.size + 1) (p6 q) rfl rfl 31 _ P_o pt_size rfl (by simp [Value.oneCell', p18, p6, z6]) ?_)
  exact bodyPost_ret (v := .agg (p6 q)) (results_row Tryz.results178 _ _ (w.heap.size + 1) (p6 q) rfl pt_agg (run_size pt_size) P2) rfl ⟨rfl, below_setRow hkb (Nat.le_succ _) _⟩
end Go.Proofs.YtppdholccpgcpaaGreat
