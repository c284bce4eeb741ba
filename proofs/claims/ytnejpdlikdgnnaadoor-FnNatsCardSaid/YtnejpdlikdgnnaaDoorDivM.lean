/-
  Long division, limb by limb: plain arithmetic.
-/
import Derived.Test.YtnejpdlikdgnnaaDoorTop
import Derived.Test.YtnejpdlikdgnnaaDoorArM
namespace Go.Proofs.YtnejpdlikdgnnaaDoor
set_option linter.unusedVariables false
set_option linter.unusedSimpArgs false

/-- The base's powers among the natural numbers. -/
def pn (k : Nat) : Nat := 1000000000 ^ k
theorem pn_pw (k : Nat) : pw k = ((pn k : Nat) : Int) := by unfold pw pn; rw [Int.natCast_pow]; rfl
theorem pn_pos (k : Nat) : 0 < pn k := Nat.pow_pos (by decide)
theorem pn_succ (k : Nat) : pn (k + 1) = pn k * 1000000000 := by unfold pn; rw [Nat.pow_succ]
theorem lt_pn {v n : Nat} (h : ln v ≤ n) : v < pn n := by
  have := ln_le_iff.1 h
  rw [pn_pw] at this
  omega
theorem pn_lt {v n : Nat} (h : v < pn n) : ln v ≤ n := by rw [ln_le_iff, pn_pw]; omega
/-- What is left when the limbs of the quotient from place k on are found. -/
def rest (a b k : Nat) : Nat := a % (b * pn k)
/-- Limb k of the quotient. -/
def quo (a b k : Nat) : Nat := a / b / pn k % 1000000000
theorem rest_step (a b k : Nat) : rest a b (k + 1) / pn k / b = quo a b k := by
  unfold rest quo
  rw [Nat.div_div_eq_div_mul, pn_succ, ← Nat.mul_assoc, Nat.mul_comm (pn k) b, Nat.mod_mul_right_div_self, Nat.div_div_eq_div_mul a b]
theorem rest_rest (a b k : Nat) : rest a b k = rest a b (k + 1) - quo a b k * b * pn k := by
  have h1 : rest a b k = rest a b (k + 1) % (b * pn k) := by
    unfold rest
    rw [pn_succ, ← Nat.mul_assoc, Nat.mod_mod_of_dvd _ (Nat.dvd_mul_right _ _)]
  have h2 := Nat.div_add_mod (rest a b (k + 1)) (b * pn k)
  have h3 : rest a b (k + 1) / (b * pn k) = quo a b k := by rw [← rest_step, Nat.div_div_eq_div_mul, Nat.mul_comm b]
  rw [h3] at h2
  rw [h1]
  have h4 : b * pn k * quo a b k = quo a b k * b * pn k := by rw [Nat.mul_comm, Nat.mul_assoc]
  omega
theorem rest_le (a b k : Nat) : quo a b k * b * pn k ≤ rest a b (k + 1) := by
  have h2 := Nat.div_mul_le_self (rest a b (k + 1)) (pn k * b)
  rw [← Nat.div_div_eq_div_mul, rest_step] at h2
  rw [Nat.mul_assoc, Nat.mul_comm b]
  exact h2
theorem rest_lt {a b k : Nat} (hb : 0 < b) : rest a b k < b * pn k := Nat.mod_lt _ (Nat.mul_pos hb (pn_pos k))
theorem rest_zero (a b : Nat) : rest a b 0 = a % b := by unfold rest pn; rw [Nat.pow_zero, Nat.mul_one]
theorem rest_all {a b k : Nat} (h : a < b * pn k) : rest a b k = a := Nat.mod_eq_of_lt h
theorem quo_dgt (a b k : Nat) : ((quo a b k : Nat) : Int) = dgt ((a / b : Nat) : Int) k := by
  unfold quo dgt
  rw [pn_pw]
  omega
theorem top_lt {a b k : Nat} (hb : 0 < b) : rest a b (k + 1) / pn k < 1000000000 * b := by
  rw [Nat.div_lt_iff_lt_mul (pn_pos k)]
  have := rest_lt (a := a) (k := k + 1) hb
  rw [pn_succ, ← Nat.mul_assoc] at this
  rw [Nat.mul_comm 1000000000, Nat.mul_right_comm]
  exact this

/-- The highest limbs as quotients by a power. -/
theorem dgt_div {T : Int} {i : Nat} (h : T / pw (i + 1) = 0) : T / pw i = dgt T i := by
  have := div_split T i
  rw [h] at this
  omega
theorem top2_div {b n : Nat} (hn : ln b = n) (h : 2 ≤ n) : top2 b n = b / pn (n - 2) := by
  obtain ⟨m, rfl⟩ : ∃ m, n = m + 2 := ⟨n - 2, by omega⟩
  have h0 : (b : Int) / pw (m + 2) = 0 := div_small (by omega) (ln_lt' hn)
  have h1 := dgt_div (T := b) (i := m + 1) h0
  have h2 := div_split (b : Int) m
  have h3 : dgz (b : Int) (((m + 2 : Nat) : Int) - 2) = dgt b m := by
    unfold dgz
    rw [if_neg (by omega), show (((m + 2 : Nat) : Int) - 2).toNat = m by omega]
  unfold top2
  rw [h3, show m + 2 - 1 = m + 1 by omega, ← h1, ← h2, show m + 2 - 2 = m by omega, pn_pw, ← Int.natCast_ediv, Int.toNat_natCast]
theorem top2_one {b : Nat} (hn : ln b = 1) : top2 b 1 = b * 1000000000 := by
  have h0 : (b : Int) / pw 1 = 0 := div_small (by omega) (ln_lt' hn)
  have h1 := dgt_div (T := b) (i := 0) h0
  rw [div_zero] at h1
  unfold top2 dgz
  rw [show 1 - 1 = 0 from rfl, ← h1]
  have : ((1 : Nat) : Int) - 2 < 0 := by decide
  rw [if_pos this]
  omega
theorem top3_div {T n : Nat} (h : ln T ≤ n + 1) (h2 : 2 ≤ n) : top3N T n = T / pn (n - 2) := by
  obtain ⟨m, rfl⟩ : ∃ m, n = m + 2 := ⟨n - 2, by omega⟩
  have h0 : (T : Int) / pw (m + 2 + 1) = 0 := div_small (by omega) (ln_le_iff.1 h)
  have h1 := dgt_div (T := T) (i := m + 2) h0
  have h3 : (T : Int) / pw (m + 1) = (T : Int) / pw (m + 2) * 1000000000 + dgt T (m + 1) := div_split (T : Int) (m + 1)
  have h4 := div_split (T : Int) m
  have e0 : dgz (T : Int) ((m + 2 : Nat) : Int) = dgt T (m + 2) := by unfold dgz; rw [if_neg (by omega), Int.toNat_natCast]
  have e1 : dgz (T : Int) (((m + 2 : Nat) : Int) - 1) = dgt T (m + 1) := by unfold dgz; rw [if_neg (by omega), show (((m + 2 : Nat) : Int) - 1).toNat = m + 1 by omega]
  have e2 : dgz (T : Int) (((m + 2 : Nat) : Int) - 2) = dgt T m := by unfold dgz; rw [if_neg (by omega), show (((m + 2 : Nat) : Int) - 2).toNat = m by omega]
  unfold top3N
  rw [e0, e1, e2, ← h1, ← h3, ← h4, show m + 2 - 2 = m by omega, pn_pw, ← Int.natCast_ediv, Int.toNat_natCast]
theorem top3_one {T : Nat} (h : ln T ≤ 2) : top3N T 1 = T * 1000000000 := by
  have h0 : (T : Int) / pw (1 + 1) = 0 := div_small (by omega) (ln_le_iff.1 h)
  have h1 := dgt_div (T := T) (i := 1) h0
  have h4 := div_split (T : Int) 0
  rw [div_zero] at h4
  have e0 : dgz (T : Int) ((1 : Nat) : Int) = dgt T 1 := by unfold dgz; rw [if_neg (by omega), Int.toNat_natCast]
  have e1 : dgz (T : Int) (((1 : Nat) : Int) - 1) = dgt T 0 := by unfold dgz; rw [if_neg (by omega)]; rfl
  have e2 : dgz (T : Int) (((1 : Nat) : Int) - 2) = 0 := if_pos (by decide)
  unfold top3N
  rw [e0, e1, e2]
  rw [show (0 : Nat) + 1 = 1 from rfl] at h4
  omega
theorem ln_big {b n : Nat} (hn : ln b = n) (h0 : 0 < n) : pn (n - 1) ≤ b := by
  have hb : 0 < b := by
    rcases Nat.eq_zero_or_pos b with h | h
    · subst h; rw [ln_zero] at hn; omega
    · exact h
  have := ln_ge b hb
  rw [hn, pn_pw] at this
  omega
/-- The guess is the limb, or one more; and it is no more than the base. -/
theorem guess_facts {T b n : Nat} (hn : ln b = n) (h0 : 0 < n) (hT : T < 1000000000 * b) (hTn : ln T ≤ n + 1) :
    0 < top2 b n ∧ T / b ≤ top3N T n / top2 b n ∧ top3N T n / top2 b n ≤ T / b + 1 ∧ top3N T n / top2 b n ≤ 1000000000 := by
  have hbb := ln_big hn h0
  have hp := pn_pos (n - 1)
  have hb : 0 < b := by omega
  by_cases h1 : n = 1
  · subst h1
    rw [top2_one hn, top3_one hTn, Nat.mul_div_mul_right _ _ (by decide : 0 < 1000000000)]
    have hq : T / b < 1000000000 := by rw [Nat.div_lt_iff_lt_mul hb]; exact hT
    exact ⟨by omega, Nat.le_refl _, by omega, by omega⟩
  · have h2 : 2 ≤ n := by omega
    rw [top2_div hn h2, top3_div hTn h2]
    have hS := pn_pos (n - 2)
    have hd : 1000000000 ≤ b / pn (n - 2) := by
      rw [Nat.le_div_iff_mul_le hS, Nat.mul_comm, ← pn_succ, show n - 2 + 1 = n - 1 by omega]
      exact hbb
    exact ⟨by omega, guess_ge hS (by omega), guess_le hS hb hd hT, guess_B hS hd hT⟩

theorem row_set {K j : Nat} {X d : Int} (hj : j < K) (hX : X % pw (j + 1) = 0) (hd0 : 0 ≤ d) (hd1 : d < 1000000000) : (row K X).set j d = row K (X + d * pw j) := by
  have h1 := Int.mul_ediv_add_emod X (pw (j + 1))
  rw [hX, Int.add_zero] at h1
  generalize X / pw (j + 1) = Z at h1
  subst h1
  have hY : (pw (j + 1) * Z + d * pw j) / pw (j + 1) = Z := by
    rw [Int.add_comm, Int.mul_comm (pw (j + 1)) Z, Int.add_mul_ediv_right _ _ (pw_ne _), div_small (Int.mul_nonneg hd0 (Int.le_of_lt (pw_pos j)))]
    · omega
    · rw [pw_succ, Int.mul_comm]
      exact Int.mul_lt_mul_of_pos_left hd1 (pw_pos j)
  have hX' : pw (j + 1) * Z / pw (j + 1) = Z := Int.mul_ediv_cancel_left _ (pw_ne _)
  apply List.ext_getElem?
  intro t
  rw [List.getElem?_set, row_length]
  by_cases h2 : j = t
  · subst h2
    rw [if_pos rfl, if_pos hj, row_get _ hj]
    have h3 := div_split (pw (j + 1) * Z + d * pw j) j
    rw [hY, pw_succ, show pw j * 1000000000 * Z + d * pw j = (1000000000 * Z + d) * pw j by rw [Int.add_mul, Int.mul_comm (pw j), Int.mul_right_comm], Int.mul_ediv_cancel _ (pw_ne _)] at h3
    congr 1
    have h4 := dgt_nonneg ((1000000000 * Z + d) * pw j) j
    rw [pw_succ, show pw j * 1000000000 * Z + d * pw j = (1000000000 * Z + d) * pw j by rw [Int.add_mul, Int.mul_comm (pw j), Int.mul_right_comm]]
    omega
  · rw [if_neg h2]
    rcases Nat.lt_or_ge t K with h5 | h5
    · rw [row_get _ h5, row_get _ h5]
      congr 1
      rcases Nat.lt_or_ge t j with h6 | h6
      · refine dgt_congr (n := j) ?_ h6
        rw [Int.add_mul_emod_self_right]
      · obtain ⟨e, rfl⟩ : ∃ e, t = j + 1 + e := ⟨t - j - 1, by omega⟩
        rw [← dgt_shift, ← dgt_shift, hX', hY]
    · rw [List.getElem?_eq_none (by rw [row_length]; exact h5), List.getElem?_eq_none (by rw [row_length]; exact h5)]
/-- The quotient with its limbs from place k on. -/
def quoTo (a b k : Nat) : Int := ((a / b / pn k * pn k : Nat) : Int)
theorem quoTo_step (a b k : Nat) : quoTo a b k = quoTo a b (k + 1) + (quo a b k : Int) * pw k := by
  unfold quoTo quo
  rw [pn_pw, ← Int.natCast_mul, ← Int.natCast_add]
  congr 1
  have h1 := Nat.div_add_mod (a / b / pn k) 1000000000
  rw [pn_succ, ← Nat.div_div_eq_div_mul]
  generalize a / b / pn k = q at h1 ⊢
  conv => lhs; rw [← h1]
  rw [Nat.add_mul, Nat.mul_comm (pn k), ← Nat.mul_assoc, Nat.mul_comm 1000000000]
theorem quoTo_mod (a b k : Nat) : quoTo a b k % pw k = 0 := by
  unfold quoTo
  rw [pn_pw, Int.natCast_mul]
  exact Int.mul_emod_left _ _
theorem quoTo_zero (a b : Nat) : quoTo a b 0 = ((a / b : Nat) : Int) := by unfold quoTo pn; rw [Nat.pow_zero, Nat.div_one, Nat.mul_one]
theorem quoTo_all {a b k : Nat} (h : a < b * pn k) : quoTo a b k = 0 := by
  unfold quoTo
  have : a / b / pn k = 0 := by
    rw [Nat.div_div_eq_div_mul]
    exact Nat.div_eq_of_lt h
  rw [this, Nat.zero_mul]
  rfl
end Go.Proofs.YtnejpdlikdgnnaaDoor
