/-
  The program's massShare.
-/
import Derived.Test.YtppdholccpgcpaaGreatWg
import Derived.Test.YtppdholccpgcpaaGreatWp
import Derived.Test.YtppdholccpgcpaaGreatArQ
import Derived.Test.YtppdholccpgcpaaGreatPtJ
namespace Go.Proofs.YtppdholccpgcpaaGreat
open Go.ChangeShapes Go.WideShapes Go.ChangeAt Go.RowKit
set_option linter.unusedVariables false
set_option linter.unusedSimpArgs false
set_option maxRecDepth 4000
attribute [local go_sem ↓] Go.wp_at_zero Go.wp_at_succ
set_option maxHeartbeats 1000000 in
theorem share_y (i j : Nat) (w : World) (h : i = j) :
    Calls Tryz.prog 152 #[.int .i64 (i : Int), .int .i64 (j : Int)] w (MadeQ w.heap.size (ofO (ofQ 1 6)) w) := by
  have HO := Lib.hid (fun W => show Calls Tryz.prog 82 #[.int .i64 1, .int .i64 6] W (MadeQ W.heap.size (ofO (ofQ 1 6)) W) from (impl_rof 1 6 W (by decide) (by decide)).mono fun e w' k => MadeR.toQ (x := ofO (ofQ 1 6)) k)
  have q : ((i : Int) == (j : Int)) = true := by simp [h]
  generalize ofO (ofQ 1 6) = U at HO ⊢
  unfold MadeQ at HO
  clear h
  have P_o := heap_alloc_new w (.cells z3 29)
  have kb := ba1 w (.cells z3 29)
  go_enter Tryz.func152, Tryz.ntmps152
  go_wp2_with fail
  generalize w.alloc (.cells z3 29) = W1 at P_o kb ⊢
  have hlt := rblk_lt P_o
  refine (HO.out _).mono ?_
  rintro e W2 ⟨a3, rfl, hx, hy, o3, hap, hb⟩
  replace P_o := rblk_below P_o hb
  replace kb := bt kb hb
  clear hb
  have c0 := rblk_cell P_o 0
  have c1 := rblk_cell P_o 1
  have c2 := rblk_cell P_o 2
  have f0 := rblk_free P_o 0
  have f1 := rblk_free P_o 1
  have f2 := rblk_free P_o 2
  go_wp2
  exact bodyPost_ret (v := .agg (r3 U a3)) (by simp [results, Tryz.results152, go_sem, c0, c1, c2]) rfl ⟨a3, rfl, hx, hy, owns_end3 o3 (.inl hlt) (Nat.le_of_lt hlt) (Nat.le_refl _) _ _ _, hap, below_put3 kb (Nat.le_refl _) _ _ _⟩
set_option maxHeartbeats 1000000 in
theorem share_n (i j : Nat) (w : World) (h : ¬ i = j) :
    Calls Tryz.prog 152 #[.int .i64 (i : Int), .int .i64 (j : Int)] w (MadeQ w.heap.size (ofO (ofQ 1 12)) w) := by
  have HO := Lib.hid (fun W => show Calls Tryz.prog 82 #[.int .i64 1, .int .i64 12] W (MadeQ W.heap.size (ofO (ofQ 1 12)) W) from (impl_rof 1 12 W (by decide) (by decide)).mono fun e w' k => MadeR.toQ (x := ofO (ofQ 1 12)) k)
  have q : ((i : Int) == (j : Int)) = false := by rw [beq_eq_false_iff_ne]; omega
  generalize ofO (ofQ 1 12) = U at HO ⊢
  unfold MadeQ at HO
  clear h
  have P_o := heap_alloc_new w (.cells z3 29)
  have kb := ba1 w (.cells z3 29)
  go_enter Tryz.func152, Tryz.ntmps152
  go_wp2_with fail
  generalize w.alloc (.cells z3 29) = W1 at P_o kb ⊢
  have hlt := rblk_lt P_o
  refine (HO.out _).mono ?_
  rintro e W2 ⟨a3, rfl, hx, hy, o3, hap, hb⟩
  replace P_o := rblk_below P_o hb
  replace kb := bt kb hb
  clear hb
  have c0 := rblk_cell P_o 0
  have c1 := rblk_cell P_o 1
  have c2 := rblk_cell P_o 2
  have f0 := rblk_free P_o 0
  have f1 := rblk_free P_o 1
  have f2 := rblk_free P_o 2
  go_wp2
  exact bodyPost_ret (v := .agg (r3 U a3)) (by simp [results, Tryz.results152, go_sem, c0, c1, c2]) rfl ⟨a3, rfl, hx, hy, owns_end3 o3 (.inl hlt) (Nat.le_of_lt hlt) (Nat.le_refl _) _ _ _, hap, below_put3 kb (Nat.le_refl _) _ _ _⟩
theorem share_any (i j : Nat) (w : World) : Calls Tryz.prog 152 #[.int .i64 (i : Int), .int .i64 (j : Int)] w (MadeQ w.heap.size (ofO (ofQ 1 (if i = j then 6 else 12))) w) := by
  by_cases h : i = j
  · rw [if_pos h]; exact share_y i j w h
  · rw [if_neg h]; exact share_n i j w h
end Go.Proofs.YtppdholccpgcpaaGreat
