/-
  Sizes of fractions by powers of ten, and squares: plain mathematics over Lean's own rationals.
-/
import Derived.Test.YtppdholccpgcpaaGreatPkD
namespace Go.Proofs.YtppdholccpgcpaaGreat
open Go.ChangeShapes Go.WideShapes Go.ChangeAt Go.RowKit
set_option linter.unusedVariables false
set_option linter.unusedSimpArgs false
def Lg (e : Nat) (r : Rat) : Prop := r.num.natAbs < 10 ^ e ∧ r.den < 10 ^ e
theorem Lg.more {e f : Nat} {r : Rat} (h : Lg e r) (hf : e ≤ f) : Lg f r :=
  ⟨Nat.lt_of_lt_of_le h.1 (Nat.pow_le_pow_right (by decide) hf), Nat.lt_of_lt_of_le h.2 (Nat.pow_le_pow_right (by decide) hf)⟩
theorem lg_mk {z : Int} {d e : Nat} (hd : 0 < d) (hz : z.natAbs < 10 ^ e) (h : d < 10 ^ e) : Lg e (mkRat z d) := by
  have hd' : d ≠ 0 := by omega
  unfold Lg
  rw [Rat.num_mkRat, Rat.den_mkRat, if_neg hd', if_neg hd']
  refine ⟨?_, Nat.lt_of_le_of_lt (Nat.div_le_self _ _) h⟩
  rw [Int.natAbs_ediv_of_dvd (by rw [← Int.dvd_natAbs, Int.ofNat_dvd]; exact Nat.gcd_dvd_right _ _), Int.natAbs_natCast]
  exact Nat.lt_of_le_of_lt (Nat.div_le_self _ _) hz
theorem lg_lt_mul {a b e f : Nat} (h : a < 10 ^ e) (h' : b < 10 ^ f) : a * b < 10 ^ (e + f) := by
  rw [Nat.pow_add]
  rcases Nat.eq_zero_or_pos b with h0 | h0
  · rw [h0, Nat.mul_zero]; exact Nat.mul_pos (Nat.pow_pos (by decide)) (Nat.pow_pos (by decide))
  · exact Nat.lt_of_lt_of_le (Nat.mul_lt_mul_of_pos_right h h0) (Nat.mul_le_mul_left _ (Nat.le_of_lt h'))
theorem Lg.mul {e f : Nat} {r s : Rat} (h : Lg e r) (h' : Lg f s) : Lg (e + f) (r * s) := by
  rw [Rat.mul_def']
  exact lg_mk (Nat.mul_pos r.den_pos s.den_pos) (by rw [Int.natAbs_mul]; exact lg_lt_mul h.1 h'.1) (lg_lt_mul h.2 h'.2)
theorem Lg.add {e f : Nat} {r s : Rat} (h : Lg e r) (h' : Lg f s) : Lg (e + f + 1) (r + s) := by
  rw [Rat.add_def']
  have a1 := lg_lt_mul h.1 h'.2
  have a2 := lg_lt_mul h'.1 h.2
  have a3 := lg_lt_mul h.2 h'.2
  have e1 : 10 ^ (e + f + 1) = 10 ^ (e + f) * 10 := Nat.pow_succ ..
  rw [show f + e = e + f by omega] at a2
  refine lg_mk (Nat.mul_pos r.den_pos s.den_pos) ?_ (by omega)
  have b1 : (r.num * s.den).natAbs = r.num.natAbs * s.den := by rw [Int.natAbs_mul, Int.natAbs_natCast]
  have b2 : (s.num * r.den).natAbs = s.num.natAbs * r.den := by rw [Int.natAbs_mul, Int.natAbs_natCast]
  omega
theorem Lg.neg {e : Nat} {r : Rat} (h : Lg e r) : Lg e (-r) := ⟨by rw [Rat.neg_num, Int.natAbs_neg]; exact h.1, h.2⟩
theorem Lg.sub {e f : Nat} {r s : Rat} (h : Lg e r) (h' : Lg f s) : Lg (e + f + 1) (r - s) := by
  rw [Rat.sub_eq_add_neg]; exact h.add h'.neg
theorem Lg.inv {e : Nat} {r : Rat} (h : Lg e r) : Lg e r⁻¹ := by
  rw [Rat.inv_def]
  by_cases h0 : r.num = 0
  · rw [h0]
    have e1 : Rat.divInt (r.den : Int) 0 = 0 := by simp
    rw [e1]
    exact ⟨Nat.pow_pos (by decide), Nat.lt_of_le_of_lt r.den_pos h.2⟩
  · have : Rat.divInt (r.den : Int) r.num = mkRat (r.num.sign * r.den) r.num.natAbs := by
      rw [← Rat.divInt_ofNat]
      rw [Rat.divInt_eq_divInt_iff h0 (by omega)]
      have := Int.sign_mul_natAbs r.num
      have h3 : (r.num.natAbs : Int) = r.num.sign * r.num := by
        rcases Int.lt_or_gt_of_ne h0 with h | h
        · rw [Int.sign_eq_neg_one_of_neg h]; omega
        · rw [Int.sign_eq_one_of_pos h]; omega
      rw [h3]; ac_rfl
    rw [this]
    refine lg_mk (by omega) ?_ h.1
    rw [Int.natAbs_mul, Int.natAbs_natCast, Int.natAbs_sign_of_ne_zero h0, Nat.one_mul]
    exact h.2
theorem Lg.div {e f : Nat} {r s : Rat} (h : Lg e r) (h' : Lg f s) : Lg (e + f) (r / s) := by
  rw [Rat.div_def]; exact h.mul h'.inv
theorem pw24_ten : pw 24 = ((10 ^ 216 : Nat) : Int) := by unfold pw; decide +kernel
theorem Lg.fit {e : Nat} {r : Rat} (h : Lg e r) (he : e ≤ 216) : Fit r := by
  obtain ⟨h1, h2⟩ := h.more he
  unfold Fit
  rw [ln_le_iff, ln_le_iff, pw24_ten]
  exact ⟨Int.ofNat_lt.2 h1, Int.ofNat_lt.2 h2⟩
theorem Lg.cut {e : Nat} {r : Rat} (h : Lg e r) (he : e ≤ 216) : cutQ r = some r := cutQ_in (h.fit he)
end Go.Proofs.YtppdholccpgcpaaGreat
