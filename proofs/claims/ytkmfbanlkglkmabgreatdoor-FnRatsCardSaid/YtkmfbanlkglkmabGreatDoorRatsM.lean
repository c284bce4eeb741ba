/-
  What the law of small fractions asks, over Lean's own rationals. Plain mathematics.
-/
import Derived.Test.YtkmfbanlkglkmabGreatDoorDkD
import Derived.Test.YtkmfbanlkglkmabGreatDoorDkE
namespace Go.Proofs.YtkmfbanlkglkmabGreatDoor
open Go.ChangeShapes Go.WideShapes Go.ChangeAt Go.RowKit
open Go.ChangeMaps (open_string shut_string)
set_option linter.unusedVariables false
set_option linter.unusedSimpArgs false
set_option maxRecDepth 4000

/-- Small parts. -/
def Sm (k : Nat) (r : Rat) : Prop := r.num.natAbs ≤ k ∧ r.den ≤ k
theorem Sm.fit {k : Nat} {r : Rat} (h : Sm k r) (hk : k ≤ 1000000) : Fit r := by
  have h1 := ln_word (show r.num.natAbs ≤ 9223372036854775808 by have := h.1; omega)
  have h2 := ln_word (show r.den ≤ 9223372036854775808 by have := h.2; omega)
  exact ⟨by omega, by omega⟩
theorem mk_small (z : Int) (d : Nat) (hd : 0 < d) : (mkRat z d).num.natAbs ≤ z.natAbs ∧ (mkRat z d).den ≤ d := by
  obtain ⟨h1, h2, _⟩ := low_parts z d hd
  rw [h1, h2]
  exact ⟨Nat.div_le_self _ _, Nat.div_le_self _ _⟩
theorem Sm.mk {z : Int} {d k : Nat} (hd : 0 < d) (hz : z.natAbs ≤ k) (hk : d ≤ k) : Sm k (mkRat z d) := by
  have h := mk_small z d hd
  exact ⟨by omega, by omega⟩
theorem prod_le {a b x y : Nat} (h : a ≤ x) (h' : b ≤ y) : a * b ≤ x * y := Nat.mul_le_mul h h'
theorem Sm.add {r s : Rat} (h : Sm 10 r) (h' : Sm 10 s) : Sm 200 (r + s) := by
  rw [Rat.add_def']
  have h1 : (r.num * s.den).natAbs ≤ 10 * 10 := by rw [Int.natAbs_mul]; exact prod_le h.1 h'.2
  have h2 : (s.num * r.den).natAbs ≤ 10 * 10 := by rw [Int.natAbs_mul]; exact prod_le h'.1 h.2
  have h3 : r.den * s.den ≤ 10 * 10 := prod_le h.2 h'.2
  exact Sm.mk (Nat.mul_pos r.den_pos s.den_pos) (by omega) (by omega)
theorem Sm.neg {k : Nat} {r : Rat} (h : Sm k r) : Sm k (-r) := ⟨by rw [Rat.neg_num, Int.natAbs_neg]; exact h.1, h.2⟩
theorem Sm.sub {r s : Rat} (h : Sm 10 r) (h' : Sm 10 s) : Sm 200 (r - s) := by
  rw [Rat.sub_eq_add_neg]; exact h.add h'.neg
theorem Sm.div {r s : Rat} (h : Sm 10 r) (h' : Sm 10 s) (h0 : s.num ≠ 0) : Sm 200 (r / s) := by
  rw [div_q h0]
  have h1 : (r.num * s.den).natAbs ≤ 10 * 10 := by rw [Int.natAbs_mul]; exact prod_le h.1 h'.2
  have h3 : r.den * s.num.natAbs ≤ 10 * 10 := prod_le h.2 h'.1
  refine Sm.mk (Nat.mul_pos r.den_pos (by omega)) ?_ (by omega)
  split
  · rw [Int.natAbs_neg]; omega
  · omega
theorem Sm.more {k m : Nat} {r : Rat} (h : Sm k r) (hk : k ≤ m) : Sm m r := ⟨Nat.le_trans h.1 hk, Nat.le_trans h.2 hk⟩
theorem add_small {q t : Rat} (h : Sm 10 q) (h' : Sm 10 t) : addQ q t = some (q + t) := cutQ_in ((h.add h').fit (by omega))
theorem sub_small {q t : Rat} (h : Sm 10 q) (h' : Sm 10 t) : subQ q t = some (q - t) := cutQ_in ((h.sub h').fit (by omega))
theorem back_small {q t : Rat} (h : Sm 10 q) : subQ (q + t) t = some q := by
  unfold subQ
  rw [show q + t - t = q by rw [Rat.sub_eq_add_neg, Rat.add_assoc, Rat.add_neg_cancel, Rat.add_zero]]
  exact cutQ_in (h.fit (by omega))
theorem quo_small {q t : Rat} (h : Sm 10 q) (h' : Sm 10 t) (h0 : t.num ≠ 0) : quoQ q t = some (q / t) := by
  unfold quoQ
  rw [if_neg h0]
  exact cutQ_in ((h.div h' h0).fit (by omega))
theorem num_ne {t : Rat} (h0 : t.num ≠ 0) : t ≠ 0 := by rintro rfl; exact h0 rfl
theorem mul_small {q t : Rat} (h : Sm 10 q) (h0 : t.num ≠ 0) : mulQ (q / t) t = some q := by
  unfold mulQ
  rw [Rat.div_mul_cancel (num_ne h0)]
  exact cutQ_in (h.fit (by omega))
theorem cmp_zero {q t : Rat} (h1 : ¬ cmpQ q t < 0) (h2 : ¬ 0 < cmpQ q t) : q = t := by
  unfold cmpQ at h1 h2
  by_cases h3 : q < t
  · rw [if_pos h3] at h1; omega
  · rw [if_neg h3] at h2
    by_cases h4 : t < q
    · rw [if_pos h4] at h2; omega
    · exact Rat.le_antisymm (Rat.not_lt.1 h4) (Rat.not_lt.1 h3)
theorem min_max {q t : Rat} : ∃ a b, minQ q t = some a ∧ maxQ q t = some b ∧ a + b = q + t ∧ (a = q ∨ a = t) ∧ (b = q ∨ b = t) := by
  unfold minQ maxQ
  by_cases h1 : cmpQ q t < 0
  · rw [if_pos h1, if_neg (by omega)]; exact ⟨q, t, rfl, rfl, rfl, .inl rfl, .inr rfl⟩
  · rw [if_neg h1]
    by_cases h2 : 0 < cmpQ q t
    · rw [if_pos h2]; exact ⟨t, q, rfl, rfl, Rat.add_comm _ _, .inr rfl, .inl rfl⟩
    · rw [if_neg h2]
      exact ⟨t, t, rfl, rfl, by rw [cmp_zero h1 h2], .inr rfl, .inr rfl⟩
theorem cmp_sub (q t : Rat) : cmpQ q t = cmpQ (q - t) 0 := by
  unfold cmpQ
  rw [Rat.sub_eq_add_neg]
  have e1 : (q + -t < 0) ↔ q < t := by
    rw [← Rat.add_lt_add_right (c := t), Rat.add_assoc, Rat.neg_add_cancel, Rat.add_zero, Rat.zero_add]
  have e2 : (0 < q + -t) ↔ t < q := by
    rw [← Rat.add_lt_add_right (c := t), Rat.add_assoc, Rat.neg_add_cancel, Rat.add_zero, Rat.zero_add]
  simp only [e1, e2]
end Go.Proofs.YtkmfbanlkglkmabGreatDoor
