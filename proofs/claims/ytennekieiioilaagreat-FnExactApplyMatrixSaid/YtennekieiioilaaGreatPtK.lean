/-
  Points of the program: negation and differences that may be none; 'minus', 'cross', 'middle', 'doubleArea'; 'SubtractPoints', 'Cross', 'Middle', 'DoubleArea'.
-/
import Derived.Test.YtennekieiioilaaGreatPtJ
namespace Go.Proofs.YtennekieiioilaaGreat
open Go.ChangeShapes Go.WideShapes Go.ChangeAt Go.RowKit
open Go.ChangeMaps (open_string shut_string)
set_option linter.unusedVariables false
set_option linter.unusedSimpArgs false
set_option maxRecDepth 4000

attribute [local go_sem ↓] Go.wp_at_zero Go.wp_at_succ

theorem cut_at (a : Prop) : a → a := id
/-- The negative of a fraction that may be none. -/
def negO : Option Rat → Option Rat
  | none => none
  | some r => some (-r)
theorem negO_fit {x : Option Rat} (h : FitO x) : FitO (negO x) := by
  cases x with
  | none => exact fitO_none
  | some r => exact fitO_some (neg_fit (h r rfl))
theorem add_negO (x y : Option Rat) : binQ addQ x (negO y) = binQ subQ x y := by
  cases x with
  | none => cases y <;> rfl
  | some r =>
    cases y with
    | none => rfl
    | some s => show addQ r (-s) = subQ r s; unfold addQ subQ; rw [Rat.sub_eq_add_neg]
theorem blocks4 (w : World) (o1 o2 o3 o4 : Obj) : ((((w.alloc o1).alloc o2).alloc o3).alloc o4).heap[w.heap.size]? = some o1 ∧ ((((w.alloc o1).alloc o2).alloc o3).alloc o4).heap[w.heap.size + 1]? = some o2 ∧ ((((w.alloc o1).alloc o2).alloc o3).alloc o4).heap[w.heap.size + 1 + 1]? = some o3 ∧ ((((w.alloc o1).alloc o2).alloc o3).alloc o4).heap[w.heap.size + 1 + 1 + 1]? = some o4 := by
  obtain ⟨h1, h2, h3⟩ := blocks3 w o1 o2 o3
  have hb := ba1 (((w.alloc o1).alloc o2).alloc o3) o4
  have h4 := heap_alloc_new (((w.alloc o1).alloc o2).alloc o3) o4
  rw [sz1, sz1, sz1] at h4
  exact ⟨rblk_below h1 hb, rblk_below h2 hb, rblk_below h3 hb, h4⟩
theorem ba4 (w : World) (o1 o2 o3 o4 : Obj) : Below w.heap.size w ((((w.alloc o1).alloc o2).alloc o3).alloc o4) := (ba3 w o1 o2 o3).alloc (ba3 w o1 o2 o3).size _

theorem mid_no {x y u v : R3} (h : (okx x && okx y && (okx u && okx v)) = false) : (bothX (binQ mulQ (ofQ 1 2) (bothX (binQ addQ (valx x) (valx u)) (binQ addQ (valx y) (valx v)))) (binQ mulQ (ofQ 1 2) (bothY (binQ addQ (valx x) (valx u)) (binQ addQ (valx y) (valx v))))) = none ∧ (bothY (binQ mulQ (ofQ 1 2) (bothX (binQ addQ (valx x) (valx u)) (binQ addQ (valx y) (valx v)))) (binQ mulQ (ofQ 1 2) (bothY (binQ addQ (valx x) (valx u)) (binQ addQ (valx y) (valx v))))) = none := by
  rw [(both_no h).1, (both_no h).2, bin_n2]
  exact both_n1 none

theorem area_no {x y u v s t : R3} (h : (okx x && okx y && ((okx u && okx v) && (okx s && okx t))) = false) : binQ subQ (binQ mulQ (bothX (binQ subQ (valx u) (valx x)) (binQ subQ (valx v) (valx y))) (bothY (binQ subQ (valx s) (valx x)) (binQ subQ (valx t) (valx y)))) (binQ mulQ (bothY (binQ subQ (valx u) (valx x)) (binQ subQ (valx v) (valx y))) (bothX (binQ subQ (valx s) (valx x)) (binQ subQ (valx t) (valx y)))) = none := by
  by_cases k1 : (okx x && okx y && (okx u && okx v)) = true
  · have k2 : (okx s && okx t) = false := by
      rw [Bool.and_eq_true] at k1
      rw [k1.1, k1.2] at h
      simpa using h
    have k3 : (okx s && okx t && (okx x && okx y)) = false := by rw [k2]; rfl
    rw [(both_no k3).1, (both_no k3).2, bin_n2, bin_n2]; try rfl
  · have k1' : (okx u && okx v && (okx x && okx y)) = false := by rw [Bool.and_comm]; simpa using k1
    rw [(both_no k1').1, (both_no k1').2, bin_n1, bin_n1]; try rfl
end Go.Proofs.YtennekieiioilaaGreat
