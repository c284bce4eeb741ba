/-
  Natural numbers in the base 1,000,000,000: digits, rows of digits, lengths, order, and one pass of 'row + factor * number'. Plain arithmetic; no program.
-/
import Derived.Test.YtmmgcdfifcbabaaGreatDoorKit
namespace Go.Proofs.YtmmgcdfifcbabaaGreatDoor
set_option linter.unusedVariables false
set_option linter.unusedSimpArgs false

/-- The power of the base with exponent i. -/
def pw (i : Nat) : Int := 1000000000 ^ i
theorem pw_zero : pw 0 = 1 := rfl
theorem pw_succ (i : Nat) : pw (i + 1) = pw i * 1000000000 := by unfold pw; rw [Int.pow_succ]
theorem pw_pos (i : Nat) : 0 < pw i := by unfold pw; exact Int.pow_pos (by decide)
theorem pw_ne (i : Nat) : pw i ≠ 0 := by have := pw_pos i; omega
theorem pw_add (i j : Nat) : pw (i + j) = pw i * pw j := by unfold pw; rw [Int.pow_add]
theorem le_mul_pos {a b : Int} (ha : 0 < a) (hb : 0 < b) : a ≤ a * b := by
  have := Int.mul_le_mul_of_nonneg_left (show 1 ≤ b by omega) (Int.le_of_lt ha)
  rw [Int.mul_one] at this
  exact this
theorem pw_le {i j : Nat} (h : i ≤ j) : pw i ≤ pw j := by
  obtain ⟨k, rfl⟩ := Nat.exists_eq_add_of_le h
  rw [pw_add]
  exact le_mul_pos (pw_pos i) (pw_pos k)

/-- Digit i of T in the base: also of a negative T (as if it had a row of the highest digits without end). -/
def dgt (T : Int) (i : Nat) : Int := T / pw i % 1000000000
theorem dgt_nonneg (T : Int) (i : Nat) : 0 ≤ dgt T i := Int.emod_nonneg _ (by decide)
theorem dgt_lt (T : Int) (i : Nat) : dgt T i < 1000000000 := Int.emod_lt_of_pos _ (by decide)
theorem div_succ (T : Int) (i : Nat) : T / pw (i + 1) = T / pw i / 1000000000 := by
  rw [pw_succ, Int.ediv_ediv_of_nonneg (Int.le_of_lt (pw_pos i))]
theorem div_split (T : Int) (i : Nat) : T / pw i = T / pw (i + 1) * 1000000000 + dgt T i := by
  rw [div_succ]
  unfold dgt
  have := Int.mul_ediv_add_emod (T / pw i) 1000000000
  omega
theorem mod_succ (T : Int) (i : Nat) : T % pw (i + 1) = T % pw i + dgt T i * pw i := by
  have h1 := Int.mul_ediv_add_emod T (pw (i + 1))
  have h2 := Int.mul_ediv_add_emod T (pw i)
  have h3 := div_split T i
  rw [h3, Int.mul_add] at h2
  rw [pw_succ] at h1 ⊢
  rw [Int.mul_comm (dgt T i)]
  have h4 : pw i * (T / pw (i + 1) * 1000000000) = pw i * 1000000000 * (T / (pw i * 1000000000)) := by
    rw [pw_succ, Int.mul_comm (T / _), Int.mul_assoc]
  rw [h4] at h2
  omega
theorem mod_zero (T : Int) : T % pw 0 = 0 := by rw [pw_zero]; exact Int.emod_one T
theorem div_zero (T : Int) : T / pw 0 = T := by rw [pw_zero]; exact Int.ediv_one T
theorem mod_nonneg (T : Int) (i : Nat) : 0 ≤ T % pw i := Int.emod_nonneg _ (pw_ne i)
theorem mod_lt (T : Int) (i : Nat) : T % pw i < pw i := Int.emod_lt_of_pos _ (pw_pos i)
theorem mod_self_of {T : Int} {i : Nat} (h0 : 0 ≤ T) (h : T < pw i) : T % pw i = T := Int.emod_eq_of_lt h0 h
theorem div_small {T : Int} {i : Nat} (h0 : 0 ≤ T) (h : T < pw i) : T / pw i = 0 := Int.ediv_eq_zero_of_lt h0 h
theorem dgt_small {T : Int} {n i : Nat} (h0 : 0 ≤ T) (h : T < pw n) (hi : n ≤ i) : dgt T i = 0 := by
  unfold dgt
  rw [div_small h0 (Int.lt_of_lt_of_le h (pw_le hi))]
  rfl
theorem dgt_shift (T : Int) (i j : Nat) : dgt (T / pw i) j = dgt T (i + j) := by
  unfold dgt
  rw [pw_add, Int.ediv_ediv_of_nonneg (Int.le_of_lt (pw_pos i))]
/-- Digits hang on the rest alone. -/
theorem dgt_congr {T U : Int} {n i : Nat} (h : T % pw n = U % pw n) (hi : i < n) : dgt T i = dgt U i := by
  have key : ∀ X : Int, dgt X i = dgt (X % pw n) i := by
    intro X
    obtain ⟨k, rfl⟩ := Nat.exists_eq_add_of_le (show i + 1 ≤ n by omega)
    have h1 := Int.mul_ediv_add_emod X (pw (i + 1 + k))
    unfold dgt
    conv => lhs; rw [← h1]
    have h2 : ∀ Y : Int, pw (i + 1 + k) * Y = (1000000000 * (pw k * Y)) * pw i := by
      intro Y
      rw [pw_add, pw_succ, Int.mul_assoc, Int.mul_assoc, Int.mul_comm (pw i)]
    rw [h2, Int.add_comm, Int.add_mul_ediv_right _ _ (pw_ne i), Int.add_mul_emod_self_left]
  rw [key T, key U, h]
theorem mod_of_dgt {T U : Int} : ∀ {n : Nat}, (∀ i, i < n → dgt T i = dgt U i) → T % pw n = U % pw n
  | 0, _ => by rw [mod_zero, mod_zero]
  | n + 1, h => by rw [mod_succ, mod_succ, mod_of_dgt (fun i hi => h i (by omega)), h n (by omega)]

/-- The lowest n digits. -/
def row (n : Nat) (T : Int) : List Int := (List.range n).map (dgt T)
theorem row_length (n : Nat) (T : Int) : (row n T).length = n := by simp [row]
theorem row_get {n i : Nat} (T : Int) (h : i < n) : (row n T)[i]? = some (dgt T i) := by simp [row, h]
theorem row_congr {n : Nat} {T U : Int} (h : T % pw n = U % pw n) : row n T = row n U := by
  apply List.map_congr_left
  intro i hi
  exact dgt_congr h (by simpa using hi)
theorem row_take {n m : Nat} (T : Int) (h : m ≤ n) : (row n T).take m = row m T := by
  unfold row
  rw [← List.map_take, List.take_range, Nat.min_eq_left h]
theorem row_cons (n : Nat) (T : Int) : row (n + 1) T = T % 1000000000 :: row n (T / 1000000000) := by
  unfold row
  rw [List.range_succ_eq_map, List.map_cons, List.map_map]
  congr 1
  · unfold dgt; rw [pw_zero, Int.ediv_one]
  · apply List.map_congr_left
    intro i _
    have := dgt_shift T 1 i
    rw [show pw 1 = 1000000000 from rfl] at this
    rw [this, Nat.add_comm]
    rfl
theorem row_inj {n : Nat} {T U : Int} (hT : 0 ≤ T) (hT' : T < pw n) (hU : 0 ≤ U) (hU' : U < pw n) (h : row n T = row n U) : T = U := by
  have : T % pw n = U % pw n := mod_of_dgt (fun i hi => by
    have h1 := row_get T hi
    have h2 := row_get U hi
    rw [h, h2] at h1
    injection h1 with h1
    exact h1.symm)
  rwa [mod_self_of hT hT', mod_self_of hU hU'] at this

/-- The number of digits. -/
def ln (v : Nat) : Nat := if h : v = 0 then 0 else ln (v / 1000000000) + 1
termination_by v
decreasing_by omega
theorem ln_zero : ln 0 = 0 := by rw [ln]; rfl
theorem ln_pos {v : Nat} (h : 0 < v) : ln v = ln (v / 1000000000) + 1 := by rw [ln, dif_neg (by omega)]
theorem ln_lt (v : Nat) : (v : Int) < pw (ln v) := by
  induction v using Nat.strongRecOn with
  | _ v ih =>
    by_cases h : 0 < v
    · have := ih (v / 1000000000) (by omega)
      rw [ln_pos h, pw_succ]
      omega
    · obtain rfl : v = 0 := by omega
      rw [ln_zero]
      decide
theorem ln_ge (v : Nat) (h : 0 < v) : pw (ln v - 1) ≤ v := by
  induction v using Nat.strongRecOn with
  | _ v ih =>
    rw [ln_pos h, Nat.add_sub_cancel]
    by_cases h1 : 0 < v / 1000000000
    · have h2 := ih (v / 1000000000) (by omega) h1
      rw [ln_pos h1, Nat.add_sub_cancel] at h2
      rw [ln_pos h1, pw_succ]
      omega
    · rw [show v / 1000000000 = 0 by omega, ln_zero]
      rw [pw_zero]
      omega
theorem ln_le_iff {v n : Nat} : ln v ≤ n ↔ (v : Int) < pw n := by
  constructor
  · intro h; exact Int.lt_of_lt_of_le (ln_lt v) (pw_le h)
  · intro h
    by_cases h0 : 0 < v
    · rcases Nat.lt_or_ge n (ln v) with h1 | h1
      · have h2 := ln_ge v h0
        have h3 := pw_le (show n ≤ ln v - 1 by omega)
        omega
      · exact h1
    · obtain rfl : v = 0 := by omega
      rw [ln_zero]; exact Nat.zero_le _
theorem ln_eq_zero {v : Nat} : ln v = 0 ↔ v = 0 := by
  constructor
  · intro h
    by_cases h0 : 0 < v
    · rw [ln_pos h0] at h; omega
    · omega
  · rintro rfl; exact ln_zero
theorem ln_mono {u v : Nat} (h : u ≤ v) : ln u ≤ ln v := ln_le_iff.2 (by have := ln_lt v; omega)
/-- The row has no digit above: one step of the loop that cuts zeros. -/
theorem trim_step {v n : Nat} (hn : 0 < n) (hv : ln v ≤ n) (h0 : dgt v (n - 1) = 0) : ln v ≤ n - 1 := by
  rw [ln_le_iff] at hv ⊢
  have h1 := div_split v (n - 1)
  rw [h0, Nat.sub_add_cancel hn, div_small (by omega) hv] at h1
  have h2 := Int.mul_ediv_add_emod (v : Int) (pw (n - 1))
  rw [h1] at h2
  have h3 := mod_lt v (n - 1)
  omega
theorem trim_stop {v n : Nat} (hn : 0 < n) (hv : ln v ≤ n) (h0 : dgt v (n - 1) ≠ 0) : ln v = n := by
  rcases Nat.lt_or_ge (ln v) n with h | h
  · exact absurd (dgt_small (n := ln v) (by omega) (ln_lt v) (by omega)) h0
  · omega
theorem top_ne {v : Nat} (h : 0 < v) : dgt v (ln v - 1) ≠ 0 := by
  have hl : 0 < ln v := by rw [ln_pos h]; omega
  intro e
  have := trim_step hl (Nat.le_refl _) e
  omega

/-- The digits of v, none of them a zero at the end. -/
def nd (v : Nat) : List Int := row (ln v) v
theorem nd_length (v : Nat) : (nd v).length = ln v := row_length _ _
theorem nd_zero : nd 0 = [] := by unfold nd; rw [ln_zero]; rfl
theorem nd_get {v i : Nat} (h : i < ln v) : (nd v)[i]? = some (dgt v i) := row_get _ h
theorem nd_inj {u v : Nat} (h : nd u = nd v) : u = v := by
  have hl : ln u = ln v := by rw [← nd_length, ← nd_length, h]
  have h1 : row (ln u) u = row (ln u) v := by
    show nd u = _
    rw [h, hl]
    rfl
  have := row_inj (n := ln u) (by omega) (ln_lt u) (by omega) (by rw [hl]; exact ln_lt v) h1
  omega

/-- Every element is a digit. -/
def Digs (l : List Int) : Prop := ∀ x ∈ l, 0 ≤ x ∧ x < 1000000000
/-- The value of a list of digits. -/
def val : List Int → Nat
  | [] => 0
  | x :: l => x.toNat + 1000000000 * val l
theorem row_val : ∀ (l : List Int), Digs l → row l.length (val l) = l ∧ (val l : Int) < pw l.length
  | [], _ => ⟨rfl, by decide⟩
  | x :: l, h => by
    obtain ⟨h1, h2⟩ := row_val l (fun y hy => h y (List.mem_cons_of_mem _ hy))
    have hx := h x List.mem_cons_self
    have hv : ((val (x :: l) : Nat) : Int) = x + 1000000000 * (val l : Int) := by
      show ((x.toNat + 1000000000 * val l : Nat) : Int) = _
      omega
    constructor
    · rw [List.length_cons, row_cons, hv]
      congr 1
      · omega
      · rw [show (x + 1000000000 * (val l : Int)) / 1000000000 = (val l : Int) by omega]
        exact h1
    · rw [hv, List.length_cons, pw_succ]
      omega
/-- What 'NatOk' asks. -/
def ok (l : List Int) : Bool := decide (l.length ≤ 60) && (l.all fun x => decide (0 ≤ x) && decide (x < 1000000000)) && (decide (l = []) || decide (l.getD (l.length - 1) 0 ≠ 0))
theorem ok_nd {l : List Int} (h : ok l = true) : ∃ v, l = nd v ∧ ln v ≤ 60 := by
  unfold ok at h
  simp only [Bool.and_eq_true, Bool.or_eq_true, decide_eq_true_eq, List.all_eq_true] at h
  obtain ⟨⟨h1, h2⟩, h3⟩ := h
  obtain ⟨h4, h5⟩ := row_val l h2
  have h6 : ln (val l) = l.length := by
    by_cases h0 : l = []
    · subst h0; exact ln_zero
    · have hl : 0 < l.length := List.length_pos_iff.2 h0
      refine trim_stop hl (ln_le_iff.2 h5) ?_
      have h7 := row_get (n := l.length) (val l) (show l.length - 1 < l.length by omega)
      rw [h4] at h7
      rcases h3 with h3 | h3
      · exact absurd h3 h0
      · rw [List.getD_eq_getElem?_getD, h7] at h3
        exact h3
  exact ⟨val l, by unfold nd; rw [h6, h4], by omega⟩
theorem nd_ok {v : Nat} (h : ln v ≤ 60) : ok (nd v) = true := by
  unfold ok
  simp only [Bool.and_eq_true, Bool.or_eq_true, decide_eq_true_eq, List.all_eq_true]
  refine ⟨⟨by rw [nd_length]; exact h, fun x hx => ?_⟩, ?_⟩
  · obtain ⟨i, _, rfl⟩ := List.mem_map.1 hx
    exact ⟨dgt_nonneg _ _, dgt_lt _ _⟩
  · by_cases h0 : 0 < v
    · right
      have hl : 0 < ln v := by rw [ln_pos h0]; omega
      rw [nd_length, List.getD_eq_getElem?_getD, nd_get (by omega)]
      exact top_ne h0
    · left
      obtain rfl : v = 0 := by omega
      exact nd_zero
theorem nd_ok_iff (v : Nat) : ok (nd v) = decide (ln v ≤ 60) := by
  by_cases h : ln v ≤ 60
  · rw [nd_ok h, decide_eq_true h]
  · rw [decide_eq_false h]
    unfold ok
    rw [nd_length, decide_eq_false h]
    rfl

/-- The answer of the operations: nothing if it would be too long. -/
def cap60 (v : Nat) : List Int := if ln v ≤ 60 then nd v else []

/-! Order. -/
def cmpN (a b : Nat) : Int := if a < b then -1 else if b < a then 1 else 0
theorem cmp_len_lt {a b : Nat} (h : ln a < ln b) : a < b := by
  rcases Nat.lt_or_ge a b with h1 | h1
  · exact h1
  · have := ln_mono h1
    omega
theorem cmp_at {a b : Nat} {i : Nat} (he : (a : Int) / pw (i + 1) = (b : Int) / pw (i + 1)) (hd : dgt a i < dgt b i) : a < b := by
  have h1 := div_split a i
  have h2 := div_split b i
  rcases Nat.lt_or_ge a b with h | h
  · exact h
  · have h3 : (b : Int) / pw i ≤ (a : Int) / pw i := Int.ediv_le_ediv (pw_pos i) (by omega)
    omega
theorem cmp_eq {a b : Nat} {i : Nat} (he : (a : Int) / pw (i + 1) = (b : Int) / pw (i + 1)) (hd : dgt a i = dgt b i) : (a : Int) / pw i = (b : Int) / pw i := by
  rw [div_split a i, div_split b i, he, hd]
theorem cmp_start {a b : Nat} (h : ln a = ln b) : (a : Int) / pw (ln a) = (b : Int) / pw (ln a) := by
  rw [div_small (by omega) (ln_lt a), div_small (by omega) (by rw [h]; exact ln_lt b)]
theorem cmp_end {a b : Nat} (he : (a : Int) / pw 0 = (b : Int) / pw 0) : a = b := by
  rw [div_zero, div_zero] at he; omega

/-! One pass over a row: 'v + f w' digit by digit. -/
/-- The carry ahead of digit i. -/
def car (v w f : Int) (i : Nat) : Int := (v % pw i + f * (w % pw i)) / pw i
theorem car_zero (v w f : Int) : car v w f 0 = 0 := by unfold car; rw [mod_zero, mod_zero, Int.mul_zero, pw_zero]; rfl
theorem pass_split (v w f : Int) (i : Nat) : (v % pw (i + 1) + f * (w % pw (i + 1))) / pw i = car v w f i + dgt v i + f * dgt w i := by
  rw [mod_succ, mod_succ, Int.mul_add, ← Int.mul_assoc]
  rw [show v % pw i + dgt v i * pw i + (f * (w % pw i) + f * dgt w i * pw i) = (v % pw i + f * (w % pw i)) + (dgt v i + f * dgt w i) * pw i by rw [Int.add_mul]; omega]
  rw [Int.add_mul_ediv_right _ _ (pw_ne i)]
  unfold car
  omega
theorem car_succ (v w f : Int) (i : Nat) : car v w f (i + 1) = (car v w f i + dgt v i + f * dgt w i) / 1000000000 := by
  rw [← pass_split]
  conv => lhs; unfold car
  rw [div_succ]
theorem mod_lin (v w f : Int) (n : Nat) : (v + f * w) % pw n = (v % pw n + f * (w % pw n)) % pw n := by
  rw [Int.add_emod, Int.mul_emod]
  rw [Int.add_emod (v % pw n) (f * (w % pw n)), Int.mul_emod f (w % pw n), Int.emod_emod, Int.emod_emod]
theorem dgt_pass (v w f : Int) (i : Nat) : dgt (v + f * w) i = (car v w f i + dgt v i + f * dgt w i) % 1000000000 := by
  rw [dgt_congr (mod_lin v w f (i + 1)) (Nat.lt_succ_self i)] 
  have : ∀ X : Int, dgt (X % pw (i + 1)) i = dgt X i := fun X => dgt_congr (n := i + 1) (by rw [Int.emod_emod]) (Nat.lt_succ_self i)
  rw [← pass_split]
  rfl
theorem car_bound {v w f : Int} (hf : -1000000000 ≤ f) (hf' : f ≤ 1000000000) : ∀ i : Nat, -1000000000 ≤ car v w f i ∧ car v w f i ≤ 1000000000
  | 0 => by rw [car_zero]; decide
  | i + 1 => by
    obtain ⟨h1, h2⟩ := car_bound (v := v) (w := w) hf hf' i
    have h3 := dgt_nonneg v i
    have h4 := dgt_lt v i
    have h5 := dgt_nonneg w i
    have h6 := dgt_lt w i
    have h7 : f * dgt w i ≤ 1000000000 * 999999999 := Int.le_trans (Int.mul_le_mul_of_nonneg_right hf' h5) (Int.mul_le_mul_of_nonneg_left (by omega) (by decide))
    have h8 : -(1000000000 * 999999999) ≤ f * dgt w i := by
      have h9 : (-f) * dgt w i ≤ 1000000000 * 999999999 := Int.le_trans (Int.mul_le_mul_of_nonneg_right (by omega) h5) (Int.mul_le_mul_of_nonneg_left (by omega) (by decide))
      rw [Int.neg_mul] at h9
      omega
    rw [car_succ]
    constructor <;> omega
theorem prod_bound {w f : Int} (hf : -1000000000 ≤ f) (hf' : f ≤ 1000000000) (i : Nat) : -999999999000000000 ≤ f * dgt w i ∧ f * dgt w i ≤ 999999999000000000 := by
  have h5 := dgt_nonneg w i
  have h6 := dgt_lt w i
  have h7 : f * dgt w i ≤ 1000000000 * 999999999 := Int.le_trans (Int.mul_le_mul_of_nonneg_right hf' h5) (Int.mul_le_mul_of_nonneg_left (by omega) (by decide))
  have h9 : (-f) * dgt w i ≤ 1000000000 * 999999999 := Int.le_trans (Int.mul_le_mul_of_nonneg_right (by omega) h5) (Int.mul_le_mul_of_nonneg_left (by omega) (by decide))
  rw [Int.neg_mul] at h9
  omega
theorem car_all {v w f : Int} {n : Nat} (h0 : 0 ≤ v) (hv : v < pw n) (h1 : 0 ≤ w) (hw : w < pw n) : car v w f n = (v + f * w) / pw n := by
  unfold car
  rw [mod_self_of h0 hv, mod_self_of h1 hw]
end Go.Proofs.YtmmgcdfifcbabaaGreatDoor
