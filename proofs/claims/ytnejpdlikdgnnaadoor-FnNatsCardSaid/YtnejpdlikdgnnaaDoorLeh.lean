/-
  Arithmetic of long division (the quotient guessed from the highest limbs) and of Lehmer's steps for the greatest common divisor. No program.
-/
import Derived.Test.YtnejpdlikdgnnaaDoorNum
namespace Go.Proofs.YtnejpdlikdgnnaaDoor
set_option linter.unusedVariables false
set_option linter.unusedSimpArgs false

/-! The quotient guessed from the highest limbs. -/
theorem guess_ge {P b S : Nat} (hS : 0 < S) (hd : 0 < b / S) : P / b ≤ P / S / (b / S) := by
  rw [Nat.le_div_iff_mul_le hd, Nat.le_div_iff_mul_le hS, Nat.mul_assoc]
  exact Nat.le_trans (Nat.mul_le_mul_left _ (Nat.div_mul_le_self b S)) (Nat.div_mul_le_self P b)
theorem guess_B {P b S : Nat} (hS : 0 < S) (hd : 1000000000 ≤ b / S) (hP : P < 1000000000 * b) : P / S / (b / S) ≤ 1000000000 := by
  have h1 : b < (b / S + 1) * S := by
    have := Nat.div_add_mod b S
    have h2 := Nat.mod_lt b hS
    rw [Nat.add_mul, Nat.mul_comm (b / S)]
    omega
  have h3 : P / S < 1000000000 * (b / S + 1) := by
    rw [Nat.div_lt_iff_lt_mul hS, Nat.mul_assoc]
    exact Nat.lt_trans hP (Nat.mul_lt_mul_of_pos_left h1 (by decide))
  have h4 : P / S / (b / S) < 1000000001 := by
    rw [Nat.div_lt_iff_lt_mul (by omega)]
    omega
  omega
theorem guess_le {P b S : Nat} (hS : 0 < S) (hb : 0 < b) (hd : 1000000000 ≤ b / S) (hP : P < 1000000000 * b) : P / S / (b / S) ≤ P / b + 1 := by
  have hB := guess_B hS hd hP
  rcases Nat.eq_zero_or_pos (P / S / (b / S)) with h0 | h0
  · rw [h0]; exact Nat.zero_le _
  · obtain ⟨k, hk⟩ : ∃ k, P / S / (b / S) = k + 1 := ⟨P / S / (b / S) - 1, by omega⟩
    rw [hk]
    refine Nat.succ_le_succ ?_
    rw [Nat.le_div_iff_mul_le hb]
    have h1 : b ≤ (b / S + 1) * S := by
      have := Nat.div_add_mod b S
      have h2 := Nat.mod_lt b hS
      rw [Nat.add_mul, Nat.mul_comm (b / S)]
      omega
    have h2 : (k + 1) * (b / S) ≤ P / S := by rw [← hk]; exact Nat.div_mul_le_self _ _
    have h3 : k * (b / S + 1) ≤ (k + 1) * (b / S) := by
      rw [Nat.mul_add, Nat.add_mul]
      omega
    calc k * b ≤ k * ((b / S + 1) * S) := Nat.mul_le_mul_left _ h1
      _ = (k * (b / S + 1)) * S := (Nat.mul_assoc _ _ _).symm
      _ ≤ P / S * S := Nat.mul_le_mul_right _ (Nat.le_trans h3 h2)
      _ ≤ P := Nat.div_mul_le_self _ _
/-- The number of the three highest places. -/
theorem top3 (T : Int) (i : Nat) : (dgt T (i + 2) * 1000000000 + dgt T (i + 1)) * 1000000000 + dgt T i = T / pw i - T / pw (i + 3) * 1000000000000000000000000000 := by
  have h1 := div_split T i
  have h2 : T / pw (i + 1) = T / pw (i + 2) * 1000000000 + dgt T (i + 1) := div_split T (i + 1)
  have h3 : T / pw (i + 2) = T / pw (i + 3) * 1000000000 + dgt T (i + 2) := div_split T (i + 2)
  omega

/-! Lehmer's steps. -/
theorem leh_low {xa yb D p r s t q α β : Int} (hD : 0 < D) (hp : 0 ≤ p) (hr : 0 ≤ r) (hs : 0 ≤ s) (ht : 0 ≤ t) (hq : 0 ≤ q) (hα : 0 ≤ α) (hβ : β ≤ D)
    (h : q * (yb + t) ≤ xa - r) : 0 ≤ (xa - q * yb) * D + (p + q * s) * α - (r + q * t) * β := by
  have h1 : 0 ≤ (p + q * s) * α := Int.mul_nonneg (Int.add_nonneg hp (Int.mul_nonneg hq hs)) hα
  have h2 : (r + q * t) * β ≤ (r + q * t) * D := Int.mul_le_mul_of_nonneg_left hβ (Int.add_nonneg hr (Int.mul_nonneg hq ht))
  have h3 : 0 ≤ (xa - q * yb - (r + q * t)) * D := Int.mul_nonneg (by rw [Int.mul_add] at h; omega) (Int.le_of_lt hD)
  rw [Int.sub_mul] at h3
  omega
theorem leh_high {xa yb D p r s t q α β : Int} (hD : 0 < D) (hp : 0 ≤ p) (hr : 0 ≤ r) (hs : 0 ≤ s) (ht : 0 ≤ t) (hq : 0 ≤ q) (hα : α ≤ D) (hβ : 0 ≤ β)
    (h : xa + p < (q + 1) * (yb - s)) : (xa - (q + 1) * yb) * D + (p + (q + 1) * s) * α - (r + (q + 1) * t) * β < 0 := by
  have h1 : 0 ≤ (r + (q + 1) * t) * β := Int.mul_nonneg (Int.add_nonneg hr (Int.mul_nonneg (by omega) ht)) hβ
  have h2 : (p + (q + 1) * s) * α ≤ (p + (q + 1) * s) * D := Int.mul_le_mul_of_nonneg_left hα (Int.add_nonneg hp (Int.mul_nonneg (by omega) hs))
  have h3 : 0 < ((q + 1) * yb - xa - (p + (q + 1) * s)) * D := Int.mul_pos (by rw [Int.mul_sub] at h; omega) hD
  rw [Int.sub_mul, Int.sub_mul] at h3
  rw [Int.sub_mul]
  omega
/-- What successive common steps keep: (fa fb | na nb) are the coefficients, xa and yb what is left of the heads x and y, X and Y of the numbers A and B. -/
structure Leh (x y A B fa fb na nb xa yb X Y : Int) : Prop where
  par : (0 ≤ fa ∧ fb ≤ 0 ∧ na ≤ 0 ∧ 1 ≤ nb ∧ x = nb * xa - fb * yb ∧ y = fa * yb - na * xa) ∨ (fa ≤ 0 ∧ 0 ≤ fb ∧ 0 ≤ na ∧ nb ≤ -1 ∧ x = fb * yb - nb * xa ∧ y = na * xa - fa * yb)
  exa : xa = fa * x + fb * y
  eyb : yb = na * x + nb * y
  eX : X = fa * A + fb * B
  eY : Y = na * A + nb * B
  ord : 0 ≤ yb ∧ yb ≤ xa
  pos : 0 ≤ Y ∧ Y ≤ X ∧ X ≤ A
  gcd : Int.gcd X Y = Int.gcd A B
  less : Y ≤ B ∧ (fb ≠ 0 → Y < B)

theorem Leh.start {x y A B : Int} (hy : 0 ≤ y) (hxy : y ≤ x) (hB : 0 ≤ B) (hAB : B ≤ A) : Leh x y A B 1 0 0 1 x y A B :=
  { par := .inl ⟨by omega, by omega, by omega, by omega, by omega, by omega⟩, exa := by omega, eyb := by omega, eX := by omega, eY := by omega
    ord := ⟨hy, hxy⟩, pos := ⟨hB, hAB, Int.le_refl _⟩, gcd := rfl, less := ⟨Int.le_refl _, fun h => absurd rfl h⟩ }

theorem gcd_step (X Y q : Int) : Int.gcd Y (X - q * Y) = Int.gcd X Y := by
  rw [Int.gcd_comm X Y, show X - q * Y = X + (-q) * Y by rw [Int.neg_mul]; omega]
  simp
theorem par_step {fb nb xa yb q : Int} : nb * (xa - q * yb) - (fb - q * nb) * yb = nb * xa - fb * yb := by
  rw [Int.mul_sub, Int.sub_mul]
  have : nb * (q * yb) = q * nb * yb := by rw [← Int.mul_assoc, Int.mul_comm nb q]
  omega
theorem lin_step (a b c d q x y : Int) : (a * x + b * y) - q * (c * x + d * y) = (a - q * c) * x + (b - q * d) * y := by
  rw [Int.sub_mul, Int.sub_mul, Int.mul_add, Int.mul_assoc, Int.mul_assoc]
  omega
/-- The numbers in terms of the heads: A = x D + α, B = y D + β. -/
theorem in_heads {x y D α β fa fb : Int} : fa * (x * D + α) + fb * (y * D + β) = (fa * x + fb * y) * D + fa * α + fb * β := by
  rw [Int.mul_add, Int.mul_add, Int.add_mul, Int.mul_assoc, Int.mul_assoc]
  omega

theorem le_div_both {q n d : Int} (hd : 0 < d) (h : q = n / d) : q * d ≤ n ∧ n < (q + 1) * d := by
  have h1 := Int.mul_ediv_add_emod n d
  have h2 := Int.emod_nonneg n (show d ≠ 0 by omega)
  have h3 := Int.emod_lt_of_pos n hd
  rw [← h] at h1
  rw [Int.add_mul, Int.mul_comm q d]
  omega

theorem Leh.step {x y A B D α β fa fb na nb xa yb X Y q : Int} (h : Leh x y A B fa fb na nb xa yb X Y) (hA : A = x * D + α) (hB : B = y * D + β) (hD : 0 < D)
    (ha0 : 0 ≤ α) (ha1 : α ≤ D) (hb0 : 0 ≤ β) (hb1 : β ≤ D) (hda : 0 < yb + na) (hdb : 0 < yb + nb)
    (hq1 : q = (xa + fa) / (yb + na)) (hq2 : q = (xa + fb) / (yb + nb)) :
    Leh x y A B na nb (fa - q * na) (fb - q * nb) yb (xa - q * yb) Y (X - q * Y) ∧ 1 ≤ q ∧ 0 ≤ X - q * Y ∧ X - q * Y < Y := by
  obtain ⟨l1, u1⟩ := le_div_both hda hq1
  obtain ⟨l2, u2⟩ := le_div_both hdb hq2
  have hXe : X = xa * D + fa * α + fb * β := by rw [h.eX, h.exa, hA, hB, in_heads]
  have hYe : Y = yb * D + na * α + nb * β := by rw [h.eY, h.eyb, hA, hB, in_heads]
  have hq : 1 ≤ q := by
    have h0 := h.ord
    rcases h.par with ⟨p1, p2, p3, p4, _⟩ | ⟨p1, p2, p3, p4, _⟩
    · rw [hq1, Int.le_ediv_iff_mul_le hda]; omega
    · rw [hq2, Int.le_ediv_iff_mul_le hdb]; omega
  have e1 : X - q * Y = (xa - q * yb) * D + (fa - q * na) * α + (fb - q * nb) * β := by
    rw [hXe, hYe]
    simp only [Int.sub_mul, Int.mul_add, Int.mul_assoc]
    omega
  have e2 : X - q * Y - Y = (xa - (q + 1) * yb) * D + (fa - (q + 1) * na) * α + (fb - (q + 1) * nb) * β := by
    rw [hXe, hYe]
    simp only [Int.sub_mul, Int.mul_add, Int.add_mul, Int.mul_assoc, Int.one_mul]
    omega
  have hlow : 0 ≤ X - q * Y := by
    rw [e1]
    rcases h.par with ⟨p1, p2, p3, p4, _⟩ | ⟨p1, p2, p3, p4, _⟩
    · have := leh_low (xa := xa) (yb := yb) (D := D) (p := fa) (r := -fb) (s := -na) (t := nb) (q := q) (α := α) (β := β) hD p1 (by omega) (by omega) (by omega) (by omega) ha0 hb1 (by omega)
      rw [show fa + q * -na = fa - q * na by rw [Int.mul_neg]; omega, show -fb + q * nb = -(fb - q * nb) by omega, Int.neg_mul] at this
      omega
    · have := leh_low (xa := xa) (yb := yb) (D := D) (p := fb) (r := -fa) (s := -nb) (t := na) (q := q) (α := β) (β := α) hD p2 (by omega) (by omega) (by omega) (by omega) hb0 ha1 (by omega)
      rw [show fb + q * -nb = fb - q * nb by rw [Int.mul_neg]; omega, show -fa + q * na = -(fa - q * na) by omega, Int.neg_mul] at this
      omega
  have hhigh : X - q * Y - Y < 0 := by
    rw [e2]
    rcases h.par with ⟨p1, p2, p3, p4, _⟩ | ⟨p1, p2, p3, p4, _⟩
    · have := leh_high (xa := xa) (yb := yb) (D := D) (p := fa) (r := -fb) (s := -na) (t := nb) (q := q) (α := α) (β := β) hD p1 (by omega) (by omega) (by omega) (by omega) ha1 hb0 (by rw [show yb - -na = yb + na by omega]; exact u1)
      rw [show fa + (q + 1) * -na = fa - (q + 1) * na by rw [Int.mul_neg]; omega, show -fb + (q + 1) * nb = -(fb - (q + 1) * nb) by omega, Int.neg_mul] at this
      omega
    · have := leh_high (xa := xa) (yb := yb) (D := D) (p := fb) (r := -fa) (s := -nb) (t := na) (q := q) (α := β) (β := α) hD p2 (by omega) (by omega) (by omega) (by omega) hb1 ha0 (by rw [show yb - -nb = yb + nb by omega]; exact u2)
      rw [show fb + (q + 1) * -nb = fb - (q + 1) * nb by rw [Int.mul_neg]; omega, show -fa + (q + 1) * na = -(fa - (q + 1) * na) by omega, Int.neg_mul] at this
      omega
  have hqs : ∀ z : Int, 0 ≤ z → 0 ≤ q * z := fun z hz => Int.mul_nonneg (by omega) hz
  have hqy : 0 ≤ xa - q * yb ∧ xa - q * yb ≤ yb := by
    rcases h.par with ⟨p1, p2, p3, p4, _⟩ | ⟨p1, p2, p3, p4, _⟩
    · have hz := hqs nb (by omega)
      have hz2 := hqs (-na) (by omega)
      rw [Int.mul_neg] at hz2
      rw [Int.mul_add] at l1 l2 u1 u2
      rw [Int.add_mul, Int.one_mul] at u1
      rw [Int.add_mul] at u1
      constructor <;> omega
    · have hz := hqs na (by omega)
      have hz2 := hqs (-nb) (by omega)
      rw [Int.mul_neg] at hz2
      rw [Int.mul_add] at l1 l2 u1 u2
      rw [Int.add_mul, Int.one_mul] at u2
      rw [Int.add_mul] at u2
      constructor <;> omega
  refine ⟨{ par := ?_, exa := h.eyb, eyb := by rw [h.exa, h.eyb]; exact lin_step _ _ _ _ _ _ _, eX := h.eY, eY := by rw [h.eX, h.eY]; exact lin_step _ _ _ _ _ _ _,
            ord := hqy, pos := ⟨hlow, by omega, by have := h.pos; omega⟩, gcd := by rw [gcd_step]; exact h.gcd, less := by have := h.less; constructor <;> omega }, hq, hlow, by omega⟩
  rcases h.par with ⟨p1, p2, p3, p4, p5, p6⟩ | ⟨p1, p2, p3, p4, p5, p6⟩
  · have hz := hqs nb (by omega)
    have hz2 := hqs (-na) (by omega)
    rw [Int.mul_neg] at hz2
    have k1 := par_step (fb := fb) (nb := nb) (xa := xa) (yb := yb) (q := q)
    have k2 := par_step (fb := fa) (nb := na) (xa := xa) (yb := yb) (q := q)
    have hn : q * 1 ≤ q * nb := Int.mul_le_mul_of_nonneg_left p4 (by omega)
    exact .inr ⟨p3, by omega, by omega, by omega, by omega, by omega⟩
  · have hz := hqs na (by omega)
    have hz2 := hqs (-nb) (by omega)
    rw [Int.mul_neg] at hz2
    have k1 := par_step (fb := fb) (nb := nb) (xa := xa) (yb := yb) (q := q)
    have k2 := par_step (fb := fa) (nb := na) (xa := xa) (yb := yb) (q := q)
    have hn : q * 1 ≤ q * (-nb) := Int.mul_le_mul_of_nonneg_left (by omega) (by omega)
    rw [Int.mul_neg] at hn
    exact .inl ⟨p3, by omega, by omega, by omega, by omega, by omega⟩

end Go.Proofs.YtnejpdlikdgnnaaDoor
