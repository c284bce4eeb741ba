/-
  Points of the program: 'IsValidPoint', 'SamePoint', 'PointAt', 'HalfPoint', 'AddPoints', 'ScalePoint', 'Inner'.
-/
import Derived.Test.YtennekieiioilaaGreatPtI
import Derived.Test.YtennekieiioilaaGreatPkI
namespace Go.Proofs.YtennekieiioilaaGreat
open Go.ChangeShapes Go.WideShapes Go.ChangeAt Go.RowKit
open Go.ChangeMaps (open_string shut_string)
set_option linter.unusedVariables false
set_option linter.unusedSimpArgs false
set_option maxRecDepth 4000

attribute [local go_sem ↓] Go.wp_at_zero Go.wp_at_succ

/-- Where an argument is not valid there is no answer. -/
theorem both_no {F G : Rat → Rat → Option Rat} {x y u v : R3} (h : (okx x && okx y && (okx u && okx v)) = false) : bothX (binQ F (valx x) (valx u)) (binQ G (valx y) (valx v)) = none ∧ bothY (binQ F (valx x) (valx u)) (binQ G (valx y) (valx v)) = none := by
  have n1 : ∀ (F : Rat → Rat → Option Rat) (o : Option Rat), binQ F none o = none := fun F o => by cases o <;> rfl
  have n2 : ∀ (F : Rat → Rat → Option Rat) (o : Option Rat), binQ F o none = none := fun F o => by cases o <;> rfl
  simp only [Bool.and_eq_false_iff] at h
  rcases h with (h | h) | h | h
  · rw [valx_no h, n1]; exact both_n1 _
  · rw [valx_no h, n1]; exact both_n2 _
  · rw [valx_no h, n2]; exact both_n1 _
  · rw [valx_no h, n2]; exact both_n2 _
theorem bin_n1 (F : Rat → Rat → Option Rat) (o : Option Rat) : binQ F none o = none := by cases o <;> rfl
theorem bin_n2 (F : Rat → Rat → Option Rat) (o : Option Rat) : binQ F o none = none := by cases o <;> rfl
theorem inner_no {x y u v : R3} (h : (okx x && okx y && (okx u && okx v)) = false) : binQ addQ (binQ mulQ (valx x) (valx u)) (binQ mulQ (valx y) (valx v)) = none := by
  simp only [Bool.and_eq_false_iff] at h
  rcases h with (h | h) | h | h
  · rw [valx_no h, bin_n1, bin_n1]
  · rw [valx_no h, bin_n1, bin_n2]
  · rw [valx_no h, bin_n2, bin_n1]
  · rw [valx_no h, bin_n2, bin_n2]
theorem cross_no {x y u v : R3} (h : (okx x && okx y && (okx u && okx v)) = false) : binQ subQ (binQ mulQ (valx x) (valx v)) (binQ mulQ (valx y) (valx u)) = none := by
  simp only [Bool.and_eq_false_iff] at h
  rcases h with (h | h) | h | h
  · rw [valx_no h, bin_n1, bin_n1]
  · rw [valx_no h, bin_n1, bin_n2]
  · rw [valx_no h, bin_n2, bin_n2]
  · rw [valx_no h, bin_n2, bin_n1]

theorem below_put6a {B r : Nat} {w w1 : World} (h : Below B w w1) (hr : B ≤ r) (hB : B ≤ w1.heap.size) (o : Obj) (u0 u1 u2 u3 u4 u5 : Value) : Below B w (((((((w1.setCell ⟨r, 0, none⟩ u0).setCell ⟨r, 1, none⟩ u1).setCell ⟨r, 2, none⟩ u2).setCell ⟨r, 3, none⟩ u3).setCell ⟨r, 4, none⟩ u4).setCell ⟨r, 5, none⟩ u5).alloc o) := (below_put6 h hr u0 u1 u2 u3 u4 u5).alloc (by rw [size_put6]; exact hB) o
theorem below_put3a {B r : Nat} {w w1 : World} (h : Below B w w1) (hr : B ≤ r) (hB : B ≤ w1.heap.size) (o : Obj) (u0 u1 u2 : Value) : Below B w ((((w1.setCell ⟨r, 0, none⟩ u0).setCell ⟨r, 1, none⟩ u1).setCell ⟨r, 2, none⟩ u2).alloc o) := (below_put3 h hr u0 u1 u2).alloc (by rw [size_put3]; exact hB) o
/-- A whole number's data. -/
def rfi (x : Int) : R3 := ⟨zn x, zm x, nd 1⟩
theorem rfi_short (x : Int) (h : -9223372036854775808 ≤ x ∧ x ≤ 9223372036854775807) : Short (rfi x) := by
  have := ln_word (show x.natAbs ≤ 9223372036854775808 by omega)
  refine ⟨?_, ?_⟩
  · show (zm x).length ≤ 1048576
    rw [zm_length]; omega
  · show (nd 1).length ≤ 1048576
    rw [nd_one]; decide
theorem ofQ_fit (x y : Int) : FitO (ofQ x y) := by
  unfold ofQ makQ
  split
  · exact fun r h => lowQ_fit h
  · exact fitO_none

end Go.Proofs.YtennekieiioilaaGreat
