/-
  Fractions of the model: 'l04Copy', 'RatMin', 'RatMax'.
-/
import Derived.Test.YtdoimhnhafmcaaaGreatPkI
namespace Go.Proofs.YtdoimhnhafmcaaaGreat
open Go.ChangeShapes Go.WideShapes Go.ChangeAt Go.RowKit
open Go.ChangeMaps (open_string shut_string)
set_option linter.unusedVariables false
set_option linter.unusedSimpArgs false
set_option maxRecDepth 4000

attribute [local go_sem ↓] Go.wp_at_zero Go.wp_at_succ

theorem new_drew2a (w : World) (o1 o2 : Obj) : ((w.alloc o1).alloc o2).drew.heap[w.heap.size]? = some o1 := (blocks2 w o1 o2).1
theorem new_drew2b (w : World) (o1 o2 : Obj) : ((w.alloc o1).alloc o2).drew.heap[w.heap.size + 1]? = some o2 := (blocks2 w o1 o2).2
theorem keep_e {w w' : World} {g g2 : Nat} {o : Obj} (h : w.heap[g2]? = some o) (hg : w.grownBy w' (some g)) (hne : g2 ≠ g) : w'.heap[g2]? = some o :=
  (hg.block g2 (rblk_lt h) (fun e => hne (by injection e))).trans h

theorem cmpQ_zero {r s : Rat} (h : cmpQ r s = 0) : r = s := by
  unfold cmpQ at h
  by_cases h1 : r < s
  · rw [if_pos h1] at h; exact absurd h (by decide)
  · rw [if_neg h1] at h
    by_cases h2 : s < r
    · rw [if_pos h2] at h; exact absurd h (by decide)
    · exact Rat.le_antisymm (Rat.not_lt.1 h2) (Rat.not_lt.1 h1)

theorem spec_rmin_q1 (r s : Rat) (h : cmpQ r s ≤ 0) : minQ r s = some r := by
  unfold minQ
  by_cases h0 : cmpQ r s < 0
  · rw [if_pos h0]
  · rw [if_neg h0, cmpQ_zero (show cmpQ r s = 0 by omega)]
theorem spec_rmin_q2 (r s : Rat) (h : ¬ cmpQ r s ≤ 0) : minQ r s = some s := by
  unfold minQ
  rw [if_neg (by omega)]
theorem spec_rmax_q1 (r s : Rat) (h : 0 ≤ cmpQ r s) : maxQ r s = some r := by
  unfold maxQ
  by_cases h0 : 0 < cmpQ r s
  · rw [if_pos h0]
  · rw [if_neg h0, cmpQ_zero (show cmpQ r s = 0 by omega)]
theorem spec_rmax_q2 (r s : Rat) (h : ¬ 0 ≤ cmpQ r s) : maxQ r s = some s := by
  unfold maxQ
  rw [if_neg (by omega)]
end Go.Proofs.YtdoimhnhafmcaaaGreat

