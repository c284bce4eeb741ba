/-
  'math/bits.Div64': the quotient and the remainder of a number of two words.
-/
import Derived.Test.YtoknolholccamaaPkA
import Derived.Test.YtoknolholccamaaShelf
import Derived.Outline
import Derived.IntWalk
import Derived.WalkSmall
import Derived.Lib.ItoaNum
import Derived.Laws.Bits64b
import Derived.Shelf.Spec.BitsCarry
namespace Go.Proofs.Ytoknolholccamaa
open Go.ChangeShapes Go.WideShapes Go.ChangeAt Go.RowKit
open Go.ChangeMaps (open_string shut_string)
set_option linter.unusedVariables false
set_option linter.unusedSimpArgs false
set_option maxRecDepth 4000

theorem kn_lt {u w Y : Nat} (hu : u < Y) (hw : w < 4294967296) : (u * 4294967296 + w) / Y < 4294967296 := by
  rw [Nat.div_lt_iff_lt_mul (by omega)]
  have : (u + 1) * 4294967296 ≤ Y * 4294967296 := Nat.mul_le_mul_right _ hu
  omega
theorem kn_start {u w Y1 Y0 : Nat} (hu : u < Y1 * 4294967296 + Y0) (hY1 : 2147483648 ≤ Y1) (hY0 : Y0 < 4294967296) (hw : w < 4294967296) :
    (u * 4294967296 + w) / (Y1 * 4294967296 + Y0) ≤ u / Y1 ∧ u / Y1 ≤ 4294967297 := by
  constructor
  · rw [Nat.le_div_iff_mul_le (by omega)]
    have h := Nat.div_mul_le_self (u * 4294967296 + w) (Y1 * 4294967296 + Y0)
    generalize (u * 4294967296 + w) / (Y1 * 4294967296 + Y0) = t at h ⊢
    rw [Nat.mul_add, ← Nat.mul_assoc] at h
    have : 0 ≤ t * Y0 := Nat.zero_le _
    omega
  · have : u / Y1 < 4294967298 := by
      rw [Nat.div_lt_iff_lt_mul (by omega)]
      omega
    omega
theorem kn_split {q Y1 Y0 : Nat} : q * (Y1 * 4294967296 + Y0) = q * Y1 * 4294967296 + q * Y0 := by rw [Nat.mul_add, Nat.mul_assoc]
theorem kn_true {u w q r Y1 Y0 : Nat} (h : q * Y1 + r = u) (hu : u < Y1 * 4294967296 + Y0) (hw : w < 4294967296) (hc : 4294967296 ≤ q ∨ 4294967296 * r + w < q * Y0) :
    (u * 4294967296 + w) / (Y1 * 4294967296 + Y0) < q := by
  rcases hc with hc | hc
  · exact Nat.lt_of_lt_of_le (kn_lt hu hw) hc
  · rw [Nat.div_lt_iff_lt_mul (by omega), kn_split]
    omega
theorem kn_false {u w q r Y1 Y0 : Nat} (h : q * Y1 + r = u) (hY : 0 < Y1) (ht : (u * 4294967296 + w) / (Y1 * 4294967296 + Y0) ≤ q) (hc : q * Y0 ≤ 4294967296 * r + w) :
    q = (u * 4294967296 + w) / (Y1 * 4294967296 + Y0) := by
  refine Nat.le_antisymm ?_ ht
  rw [Nat.le_div_iff_mul_le (by omega), kn_split]
  omega
theorem kn_break {w q r Y0 : Nat} (hq : q ≤ 4294967296) (hY0 : Y0 < 4294967296) (hr : 4294967296 ≤ r) : q * Y0 ≤ 4294967296 * r + w := by
  have h1 : q * Y0 ≤ 4294967296 * 4294967296 := Nat.mul_le_mul hq (by omega)
  omega
/-- The number laid into two words, shifted. -/
theorem shifted {hi lo P P' C : Nat} (hP : P * P' = C) (hP0 : 0 < P) (hP0' : 0 < P') :
    (hi * C + lo) * P = (hi * P + lo / P') * C + lo * P % C := by
  have h1 := Nat.div_add_mod lo P'
  have h2 : lo * P = lo / P' * C + lo % P' * P := by
    conv => lhs; rw [← h1]
    rw [Nat.add_mul, ← hP, Nat.mul_comm P' (lo / P'), Nat.mul_assoc, Nat.mul_comm P' P]
  have h3 : lo % P' * P < C := by
    rw [← hP, Nat.mul_comm P]
    exact Nat.mul_lt_mul_of_pos_right (Nat.mod_lt _ hP0') hP0
  have h4 : lo * P % C = lo % P' * P := by rw [h2, Nat.add_comm, Nat.add_mul_mod_self_right, Nat.mod_eq_of_lt h3]
  rw [Nat.add_mul, h4, Nat.add_mul, h2, Nat.mul_right_comm hi, Nat.add_assoc]
theorem two_digits {U V Y B : Nat} (hY : 0 < Y) : (U * (B * B) + V) / Y = (U * B + V / B) / Y * B + ((U * B + V / B) % Y * B + V % B) / Y ∧
    (U * (B * B) + V) % Y = ((U * B + V / B) % Y * B + V % B) % Y := by
  have h1 := Nat.div_add_mod (U * B + V / B) Y
  have h3 := Nat.div_add_mod V B
  generalize (U * B + V / B) / Y = q1 at h1 ⊢
  generalize (U * B + V / B) % Y = r1 at h1 ⊢
  have h2 : U * (B * B) + V = (r1 * B + V % B) + Y * (q1 * B) := by
    have h4 : U * (B * B) + B * (V / B) = (U * B + V / B) * B := by rw [Nat.add_mul, Nat.mul_assoc, Nat.mul_comm B (V / B)]
    rw [← h1, Nat.add_mul, Nat.mul_assoc] at h4
    omega
  rw [h2, Nat.add_mul_div_left _ _ hY, Nat.add_mul_mod_self_left]
  exact ⟨Nat.add_comm _ _, rfl⟩

theorem wrapU (a : Nat) (h : a < 18446744073709551616) : IntKind.u64.wrap (a : Int) = (a : Int) := by rw [IntKind.wrap_u64]; omega
theorem wrapUM (a : Nat) : IntKind.u64.wrap (a : Int) = ((a % 18446744073709551616 : Nat) : Int) := by rw [IntKind.wrap_u64]; omega
theorem mask32 (a : Nat) (ha : a < 18446744073709551616) : bits .and .u64 (a : Int) 4294967295 = ((a % 4294967296 : Nat) : Int) := by
  have h := bits_and_u64_nat a 4294967295 ha (by omega)
  have e : a &&& 4294967295 = a % 4294967296 := Nat.and_two_pow_sub_one_eq_mod a 32
  rw [e] at h
  exact h
theorem or_low {a b s : Nat} (hb : b < 2 ^ s) (h1 : a * 2 ^ s < 18446744073709551616) (h2 : b < 18446744073709551616) : bits .or .u64 ((a * 2 ^ s : Nat) : Int) (b : Int) = ((a * 2 ^ s + b : Nat) : Int) := by
  rw [bits_or_u64_nat _ _ h1 h2, Nat.mul_comm a, Nat.two_pow_add_eq_or_of_lt hb]
theorem u64_sub (A B C R q : Nat) (hA : A * 4294967296 + B = C + R) (hC : C = q) (hR : R < 18446744073709551616) :
    IntKind.u64.wrap (IntKind.u64.wrap (IntKind.u64.wrap ((A : Int) * 4294967296) + (B : Int)) - IntKind.u64.wrap ((C : Nat) : Int)) = (R : Int) := by
  simp only [IntKind.wrap_u64]
  omega
theorem div_mod_sum (A Y : Nat) : A = A / Y * Y + A % Y := by rw [Nat.mul_comm]; exact (Nat.div_add_mod A Y).symm
theorem ret_q2 {a b c : Int} (h : a = b) : Ending.returned (.tuple #[.int .u64 a, .int .u64 c]) = .returned (.tuple #[.int .u64 b, .int .u64 c]) := by rw [h]
theorem ret_quo {a b c d : Nat} (h1 : a = c) (h2 : b = d) : Ending.returned (.tuple #[.int .u64 (a : Int), .int .u64 (b : Int)]) = .returned (.tuple #[.int .u64 (c : Int), .int .u64 (d : Int)]) := by rw [h1, h2]

end Go.Proofs.Ytoknolholccamaa

namespace Go.Proofs.Ytoknolholccamaa
open Go.ChangeShapes Go.WideShapes Go.ChangeAt Go.RowKit
open Go.ChangeMaps (open_string shut_string)
set_option linter.unusedVariables false
set_option linter.unusedSimpArgs false
set_option maxRecDepth 4000

theorem pow_fact {s : Nat} (h : s ≤ 64) : 2 ^ s * 2 ^ (64 - s) = 18446744073709551616 := by
  rw [← Nat.pow_add, show s + (64 - s) = 64 by omega]

/-- Limb i, 0 outside. -/
def dgz (T : Int) (i : Int) : Int := if i < 0 then 0 else dgt T i.toNat
end Go.Proofs.Ytoknolholccamaa

namespace Go.Proofs.Ytoknolholccamaa
open Go.ChangeShapes Go.WideShapes Go.ChangeAt Go.RowKit
open Go.ChangeMaps (open_string shut_string)
set_option linter.unusedVariables false
set_option linter.unusedSimpArgs false
set_option maxRecDepth 4000

theorem dgz_nonneg (T : Int) (i : Int) : 0 ≤ dgz T i := by unfold dgz; split; exact Int.le_refl _; exact dgt_nonneg _ _
theorem dgz_lt (T : Int) (i : Int) : dgz T i < 1000000000 := by unfold dgz; split; decide; exact dgt_lt _ _

theorem held_one {wr W w1 : World} {a : Addr} {v : Value} (hl : a.block < wr.heap.size) (h1 : W.cell? a = some v) (h2 : Below wr.heap.size wr W) (hb : Below W.heap.size W w1) : w1.cell? a = some v ∧ Below wr.heap.size wr w1 :=
  ⟨by rw [hb.cell (p := a) (Nat.lt_of_lt_of_le hl h2.size)]; exact h1, h2.trans (hb.mono h2.size)⟩

/-- The two highest limbs of b, and the number of the three highest places of T. -/
def top2 (b n : Nat) : Nat := (dgt b (n - 1) * 1000000000 + dgz b ((n : Int) - 2)).toNat
def top3N (T n : Nat) : Nat := ((dgz T n * 1000000000 + dgz T ((n : Int) - 1)) * 1000000000 + dgz T ((n : Int) - 2)).toNat

end Go.Proofs.Ytoknolholccamaa

namespace Go.Proofs.Ytoknolholccamaa
set_option linter.unusedVariables false
set_option linter.unusedSimpArgs false

/-- The base's powers among the natural numbers. -/
def pn (k : Nat) : Nat := 1000000000 ^ k
theorem pn_pw (k : Nat) : pw k = ((pn k : Nat) : Int) := by unfold pw pn; rw [Int.natCast_pow]; rfl
theorem pn_pos (k : Nat) : 0 < pn k := Nat.pow_pos (by decide)
theorem pn_succ (k : Nat) : pn (k + 1) = pn k * 1000000000 := by unfold pn; rw [Nat.pow_succ]
theorem lt_pn {v n : Nat} (h : ln v ≤ n) : v < pn n := by
  have := ln_le_iff.1 h
  rw [pn_pw] at this
  omega
theorem pn_lt {v n : Nat} (h : v < pn n) : ln v ≤ n := by rw [ln_le_iff, pn_pw]; omega
/-- What is left when the limbs of the quotient from place k on are found. -/
def rest (a b k : Nat) : Nat := a % (b * pn k)
/-- Limb k of the quotient. -/
def quo (a b k : Nat) : Nat := a / b / pn k % 1000000000
theorem rest_step (a b k : Nat) : rest a b (k + 1) / pn k / b = quo a b k := by
  unfold rest quo
  rw [Nat.div_div_eq_div_mul, pn_succ, ← Nat.mul_assoc, Nat.mul_comm (pn k) b, Nat.mod_mul_right_div_self, Nat.div_div_eq_div_mul a b]
theorem rest_rest (a b k : Nat) : rest a b k = rest a b (k + 1) - quo a b k * b * pn k := by
  have h1 : rest a b k = rest a b (k + 1) % (b * pn k) := by
    unfold rest
    rw [pn_succ, ← Nat.mul_assoc, Nat.mod_mod_of_dvd _ (Nat.dvd_mul_right _ _)]
  have h2 := Nat.div_add_mod (rest a b (k + 1)) (b * pn k)
  have h3 : rest a b (k + 1) / (b * pn k) = quo a b k := by rw [← rest_step, Nat.div_div_eq_div_mul, Nat.mul_comm b]
  rw [h3] at h2
  rw [h1]
  have h4 : b * pn k * quo a b k = quo a b k * b * pn k := by rw [Nat.mul_comm, Nat.mul_assoc]
  omega
theorem rest_le (a b k : Nat) : quo a b k * b * pn k ≤ rest a b (k + 1) := by
  have h2 := Nat.div_mul_le_self (rest a b (k + 1)) (pn k * b)
  rw [← Nat.div_div_eq_div_mul, rest_step] at h2
  rw [Nat.mul_assoc, Nat.mul_comm b]
  exact h2
theorem rest_lt {a b k : Nat} (hb : 0 < b) : rest a b k < b * pn k := Nat.mod_lt _ (Nat.mul_pos hb (pn_pos k))
theorem rest_zero (a b : Nat) : rest a b 0 = a % b := by unfold rest pn; rw [Nat.pow_zero, Nat.mul_one]
theorem rest_all {a b k : Nat} (h : a < b * pn k) : rest a b k = a := Nat.mod_eq_of_lt h
theorem quo_dgt (a b k : Nat) : ((quo a b k : Nat) : Int) = dgt ((a / b : Nat) : Int) k := by
  unfold quo dgt
  rw [pn_pw]
  omega
theorem top_lt {a b k : Nat} (hb : 0 < b) : rest a b (k + 1) / pn k < 1000000000 * b := by
  rw [Nat.div_lt_iff_lt_mul (pn_pos k)]
  have := rest_lt (a := a) (k := k + 1) hb
  rw [pn_succ, ← Nat.mul_assoc] at this
  rw [Nat.mul_comm 1000000000, Nat.mul_right_comm]
  exact this

/-- The highest limbs as quotients by a power. -/
theorem dgt_div {T : Int} {i : Nat} (h : T / pw (i + 1) = 0) : T / pw i = dgt T i := by
  have := div_split T i
  rw [h] at this
  omega
theorem top2_div {b n : Nat} (hn : ln b = n) (h : 2 ≤ n) : top2 b n = b / pn (n - 2) := by
  obtain ⟨m, rfl⟩ : ∃ m, n = m + 2 := ⟨n - 2, by omega⟩
  have h0 : (b : Int) / pw (m + 2) = 0 := div_small (by omega) (ln_lt' hn)
  have h1 := dgt_div (T := b) (i := m + 1) h0
  have h2 := div_split (b : Int) m
  have h3 : dgz (b : Int) (((m + 2 : Nat) : Int) - 2) = dgt b m := by
    unfold dgz
    rw [if_neg (by omega), show (((m + 2 : Nat) : Int) - 2).toNat = m by omega]
  unfold top2
  rw [h3, show m + 2 - 1 = m + 1 by omega, ← h1, ← h2, show m + 2 - 2 = m by omega, pn_pw, ← Int.natCast_ediv, Int.toNat_natCast]
theorem top2_one {b : Nat} (hn : ln b = 1) : top2 b 1 = b * 1000000000 := by
  have h0 : (b : Int) / pw 1 = 0 := div_small (by omega) (ln_lt' hn)
  have h1 := dgt_div (T := b) (i := 0) h0
  rw [div_zero] at h1
  unfold top2 dgz
  rw [show 1 - 1 = 0 from rfl, ← h1]
  have : ((1 : Nat) : Int) - 2 < 0 := by decide
  rw [if_pos this]
  omega
theorem top3_div {T n : Nat} (h : ln T ≤ n + 1) (h2 : 2 ≤ n) : top3N T n = T / pn (n - 2) := by
  obtain ⟨m, rfl⟩ : ∃ m, n = m + 2 := ⟨n - 2, by omega⟩
  have h0 : (T : Int) / pw (m + 2 + 1) = 0 := div_small (by omega) (ln_le_iff.1 h)
  have h1 := dgt_div (T := T) (i := m + 2) h0
  have h3 : (T : Int) / pw (m + 1) = (T : Int) / pw (m + 2) * 1000000000 + dgt T (m + 1) := div_split (T : Int) (m + 1)
  have h4 := div_split (T : Int) m
  have e0 : dgz (T : Int) ((m + 2 : Nat) : Int) = dgt T (m + 2) := by unfold dgz; rw [if_neg (by omega), Int.toNat_natCast]
  have e1 : dgz (T : Int) (((m + 2 : Nat) : Int) - 1) = dgt T (m + 1) := by unfold dgz; rw [if_neg (by omega), show (((m + 2 : Nat) : Int) - 1).toNat = m + 1 by omega]
  have e2 : dgz (T : Int) (((m + 2 : Nat) : Int) - 2) = dgt T m := by unfold dgz; rw [if_neg (by omega), show (((m + 2 : Nat) : Int) - 2).toNat = m by omega]
  unfold top3N
  rw [e0, e1, e2, ← h1, ← h3, ← h4, show m + 2 - 2 = m by omega, pn_pw, ← Int.natCast_ediv, Int.toNat_natCast]
theorem top3_one {T : Nat} (h : ln T ≤ 2) : top3N T 1 = T * 1000000000 := by
  have h0 : (T : Int) / pw (1 + 1) = 0 := div_small (by omega) (ln_le_iff.1 h)
  have h1 := dgt_div (T := T) (i := 1) h0
  have h4 := div_split (T : Int) 0
  rw [div_zero] at h4
  have e0 : dgz (T : Int) ((1 : Nat) : Int) = dgt T 1 := by unfold dgz; rw [if_neg (by omega), Int.toNat_natCast]
  have e1 : dgz (T : Int) (((1 : Nat) : Int) - 1) = dgt T 0 := by unfold dgz; rw [if_neg (by omega)]; rfl
  have e2 : dgz (T : Int) (((1 : Nat) : Int) - 2) = 0 := if_pos (by decide)
  unfold top3N
  rw [e0, e1, e2]
  rw [show (0 : Nat) + 1 = 1 from rfl] at h4
  omega
theorem ln_big {b n : Nat} (hn : ln b = n) (h0 : 0 < n) : pn (n - 1) ≤ b := by
  have hb : 0 < b := by
    rcases Nat.eq_zero_or_pos b with h | h
    · subst h; rw [ln_zero] at hn; omega
    · exact h
  have := ln_ge b hb
  rw [hn, pn_pw] at this
  omega
/-- The guess is the limb, or one more; and it is no more than the base. -/
theorem guess_facts {T b n : Nat} (hn : ln b = n) (h0 : 0 < n) (hT : T < 1000000000 * b) (hTn : ln T ≤ n + 1) :
    0 < top2 b n ∧ T / b ≤ top3N T n / top2 b n ∧ top3N T n / top2 b n ≤ T / b + 1 ∧ top3N T n / top2 b n ≤ 1000000000 := by
  have hbb := ln_big hn h0
  have hp := pn_pos (n - 1)
  have hb : 0 < b := by omega
  by_cases h1 : n = 1
  · subst h1
    rw [top2_one hn, top3_one hTn, Nat.mul_div_mul_right _ _ (by decide : 0 < 1000000000)]
    have hq : T / b < 1000000000 := by rw [Nat.div_lt_iff_lt_mul hb]; exact hT
    exact ⟨by omega, Nat.le_refl _, by omega, by omega⟩
  · have h2 : 2 ≤ n := by omega
    rw [top2_div hn h2, top3_div hTn h2]
    have hS := pn_pos (n - 2)
    have hd : 1000000000 ≤ b / pn (n - 2) := by
      rw [Nat.le_div_iff_mul_le hS, Nat.mul_comm, ← pn_succ, show n - 2 + 1 = n - 1 by omega]
      exact hbb
    exact ⟨by omega, guess_ge hS (by omega), guess_le hS hb hd hT, guess_B hS hd hT⟩

theorem row_set {K j : Nat} {X d : Int} (hj : j < K) (hX : X % pw (j + 1) = 0) (hd0 : 0 ≤ d) (hd1 : d < 1000000000) : (row K X).set j d = row K (X + d * pw j) := by
  have h1 := Int.mul_ediv_add_emod X (pw (j + 1))
  rw [hX, Int.add_zero] at h1
  generalize X / pw (j + 1) = Z at h1
  subst h1
  have hY : (pw (j + 1) * Z + d * pw j) / pw (j + 1) = Z := by
    rw [Int.add_comm, Int.mul_comm (pw (j + 1)) Z, Int.add_mul_ediv_right _ _ (pw_ne _), div_small (Int.mul_nonneg hd0 (Int.le_of_lt (pw_pos j)))]
    · omega
    · rw [pw_succ, Int.mul_comm]
      exact Int.mul_lt_mul_of_pos_left hd1 (pw_pos j)
  have hX' : pw (j + 1) * Z / pw (j + 1) = Z := Int.mul_ediv_cancel_left _ (pw_ne _)
  apply List.ext_getElem?
  intro t
  rw [List.getElem?_set, row_length]
  by_cases h2 : j = t
  · subst h2
    rw [if_pos rfl, if_pos hj, row_get _ hj]
    have h3 := div_split (pw (j + 1) * Z + d * pw j) j
    rw [hY, pw_succ, show pw j * 1000000000 * Z + d * pw j = (1000000000 * Z + d) * pw j by rw [Int.add_mul, Int.mul_comm (pw j), Int.mul_right_comm], Int.mul_ediv_cancel _ (pw_ne _)] at h3
    congr 1
    have h4 := dgt_nonneg ((1000000000 * Z + d) * pw j) j
    rw [pw_succ, show pw j * 1000000000 * Z + d * pw j = (1000000000 * Z + d) * pw j by rw [Int.add_mul, Int.mul_comm (pw j), Int.mul_right_comm]]
    omega
  · rw [if_neg h2]
    rcases Nat.lt_or_ge t K with h5 | h5
    · rw [row_get _ h5, row_get _ h5]
      congr 1
      rcases Nat.lt_or_ge t j with h6 | h6
      · refine dgt_congr (n := j) ?_ h6
        rw [Int.add_mul_emod_self_right]
      · obtain ⟨e, rfl⟩ : ∃ e, t = j + 1 + e := ⟨t - j - 1, by omega⟩
        rw [← dgt_shift, ← dgt_shift, hX', hY]
    · rw [List.getElem?_eq_none (by rw [row_length]; exact h5), List.getElem?_eq_none (by rw [row_length]; exact h5)]
/-- The quotient with its limbs from place k on. -/
def quoTo (a b k : Nat) : Int := ((a / b / pn k * pn k : Nat) : Int)
theorem quoTo_step (a b k : Nat) : quoTo a b k = quoTo a b (k + 1) + (quo a b k : Int) * pw k := by
  unfold quoTo quo
  rw [pn_pw, ← Int.natCast_mul, ← Int.natCast_add]
  congr 1
  have h1 := Nat.div_add_mod (a / b / pn k) 1000000000
  rw [pn_succ, ← Nat.div_div_eq_div_mul]
  generalize a / b / pn k = q at h1 ⊢
  conv => lhs; rw [← h1]
  rw [Nat.add_mul, Nat.mul_comm (pn k), ← Nat.mul_assoc, Nat.mul_comm 1000000000]
theorem quoTo_mod (a b k : Nat) : quoTo a b k % pw k = 0 := by
  unfold quoTo
  rw [pn_pw, Int.natCast_mul]
  exact Int.mul_emod_left _ _
theorem quoTo_zero (a b : Nat) : quoTo a b 0 = ((a / b : Nat) : Int) := by unfold quoTo pn; rw [Nat.pow_zero, Nat.div_one, Nat.mul_one]
theorem quoTo_all {a b k : Nat} (h : a < b * pn k) : quoTo a b k = 0 := by
  unfold quoTo
  have : a / b / pn k = 0 := by
    rw [Nat.div_div_eq_div_mul]
    exact Nat.div_eq_of_lt h
  rw [this, Nat.zero_mul]
  rfl
end Go.Proofs.Ytoknolholccamaa

namespace Go.Proofs.Ytoknolholccamaa
open Go.ChangeShapes Go.WideShapes Go.ChangeAt Go.RowKit
open Go.ChangeMaps (open_string shut_string)
set_option linter.unusedVariables false
set_option linter.unusedSimpArgs false
set_option maxRecDepth 4000

theorem grown_set_new {w w1 : World} {row : Option Nat} {g : Nat} (h : w.grownBy w1 row) (hg : w.heap.size ≤ g) (o : Nat) (u : Value) : w.grownBy (w1.setCell ⟨g, o, none⟩ u) row :=
  ⟨h.os, h.tape, h.output, by simpa [World.setCell] using h.size, fun i hi hne => (Below.heap_setCell w1 ⟨g, o, none⟩ u i (by intro e; simp at e; omega)).trans (h.block i hi hne)⟩
theorem grown_trans {w w1 w2 : World} {row : Option Nat} (h : w.grownBy w1 row) (k : w1.grownBy w2 row) : w.grownBy w2 row :=
  ⟨k.os.trans h.os, k.tape.trans h.tape, k.output.trans h.output, Nat.le_trans h.size k.size, fun i hi hne => (k.block i (Nat.lt_of_lt_of_le hi h.size) hne).trans (h.block i hi hne)⟩
theorem Blk.kept {w w' : World} {g g' : Nat} {L : List Int} (h : Blk w g L) (hne : g ≠ g') (hg : w.grownBy w' (some g')) : Blk w' g L := by
  unfold Blk
  rw [hg.block g h.lt (by intro e; injection e with e; exact hne e)]
  exact h
theorem Blk.kept_set {w : World} {g g' o : Nat} {L : List Int} {u : Value} (h : Blk w g L) (hne : g ≠ g') : Blk (w.setCell ⟨g', o, none⟩ u) g L := by
  unfold Blk
  rw [Below.heap_setCell w ⟨g', o, none⟩ u g (by intro e; exact hne e)]
  exact h
theorem Blk.rd_at {w : World} {g N j n : Nat} {X T : Int} (h : Blk w g (row N X)) (hT : ∀ t, t < n → dgt T t = dgt X (j + t)) (hN : j + n ≤ N) : RdS w (some ⟨g, j, none⟩) (vi (row n T)) :=
  .inr ⟨g, j, rfl, h.lt, fun t ht => by
    rw [vi_length, row_length] at ht
    rw [h.cell (row_get X (by omega)), vi_get? (row_get T ht), hT t ht]⟩

theorem rest_pw {a b k n m : Nat} (hb : 0 < b) (hbn : b < pn n) (h : k + n ≤ m) : ((rest a b k : Nat) : Int) < pw m := by
  rw [pn_pw]
  have h1 := rest_lt (a := a) (k := k) hb
  have h2 : b * pn k ≤ pn n * pn k := Nat.mul_le_mul_right _ (Nat.le_of_lt hbn)
  have h3 : pn n * pn k = pn (n + k) := by unfold pn; rw [Nat.pow_add]
  have h4 : pn (n + k) ≤ pn m := Nat.pow_le_pow_right (by decide) (by omega)
  omega

/-- What 'divideRow' leaves. -/
def DivPost (a b N n g : Nat) (w : World) (e : Ending) (w' : World) : Prop :=
  ∃ gq, w.heap.size ≤ gq ∧ e = .returned (.slice (some ⟨gq, 0, none⟩) (N - n) (N - n)) ∧ Blk w' gq (row (N - n) ((a / b : Nat) : Int)) ∧ Blk w' g (row N ((a % b : Nat) : Int)) ∧ w.grownBy w' (some g)

end Go.Proofs.Ytoknolholccamaa

namespace Go.Proofs.Ytoknolholccamaa
open Go.ChangeShapes Go.WideShapes Go.ChangeAt Go.RowKit
open Go.ChangeMaps (open_string shut_string)
set_option linter.unusedVariables false
set_option linter.unusedSimpArgs false
set_option maxRecDepth 4000

/-- As MadeI; and it is known in which block the row lies. -/
def MadeAt (B g : Nat) (L : List Int) (w : World) (e : Ending) (w' : World) : Prop :=
  ∃ A c, e = .returned (.slice A L.length c) ∧ L.length ≤ c ∧ OwnS B w' A (vi L) ∧ Below w.heap.size w w' ∧ (L = [] ∨ A = some ⟨g, 0, none⟩)

/-- Two rows of the call's own, in two blocks. -/
def Pair2 (B : Nat) (L M : List Int) (w : World) (e : Ending) (w' : World) : Prop :=
  ∃ A c D d, e = .returned (.tuple #[.slice A L.length c, .slice D M.length d]) ∧ L.length ≤ c ∧ M.length ≤ d ∧ OwnS B w' A (vi L) ∧ OwnS B w' D (vi M) ∧ Below w.heap.size w w' ∧ (∀ g g', rowOf L.length A = some g → rowOf M.length D = some g' → g ≠ g')
theorem Pair2.nil (B : Nat) (w : World) : Pair2 B [] [] w (.returned (.tuple #[.slice none 0 0, .slice none 0 0])) w :=
  ⟨none, 0, none, 0, rfl, Nat.le_refl _, Nat.le_refl _, .inl rfl, .inl rfl, Below.refl _ _, fun g g' h => by simp [rowOf] at h⟩
theorem rowOf_at {L : List Int} {A : Option Addr} {g g' : Nat} (h : L = [] ∨ A = some ⟨g, 0, none⟩) (hr : rowOf L.length A = some g') : g' = g := by
  rcases h with h | h
  · subst h; simp [rowOf] at hr
  · subst h
    unfold rowOf at hr
    split at hr
    · cases hr
    · simp at hr; exact hr.symm

end Go.Proofs.Ytoknolholccamaa

namespace Go.Proofs.Ytoknolholccamaa
open Go.ChangeShapes Go.WideShapes Go.ChangeAt Go.RowKit
open Go.ChangeMaps (open_string shut_string)
set_option linter.unusedVariables false
set_option linter.unusedSimpArgs false
set_option maxRecDepth 4000

/-- As MadeI; and the slice has an address. -/
def MadeS (B : Nat) (L : List Int) (w : World) (e : Ending) (w' : World) : Prop :=
  ∃ ad c, e = .returned (.slice (some ad) L.length c) ∧ L.length ≤ c ∧ OwnS B w' (some ad) (vi L) ∧ Below w.heap.size w w'
theorem MadeS.after {B : Nat} {L : List Int} {w w1 w2 : World} {e : Ending} (h : MadeS B L w1 e w2) (hb : Below w.heap.size w w1) : MadeS B L w e w2 := by
  obtain ⟨A, c, he, hc, ho, hb2⟩ := h
  exact ⟨A, c, he, hc, ho, bt hb hb2⟩

end Go.Proofs.Ytoknolholccamaa

namespace Go.Proofs.Ytoknolholccamaa
open Go.ChangeShapes Go.WideShapes Go.ChangeAt Go.RowKit
open Go.ChangeMaps (open_string shut_string)
set_option linter.unusedVariables false
set_option linter.unusedSimpArgs false
set_option maxRecDepth 4000

theorem small_gen {A x z d B : Nat} (h : A = z + d * (x * B)) (hd : 0 < d) (h7 : z / d < B) : A / d % B = z / d ∧ A % d = z % d := by
  subst h
  exact ⟨by rw [Nat.add_mul_div_left _ _ hd, Nat.add_mul_mod_self_right, Nat.mod_eq_of_lt h7], by rw [Nat.add_mul_mod_self_left]⟩
/-- One limb more of the number: its quotient's limb and what is left. -/
theorem small_step {a d j : Nat} (hd : 0 < d) :
    ((a / pn (j + 1) % d) * 1000000000 + a / pn j % 1000000000) / d = quo a d j ∧ ((a / pn (j + 1) % d) * 1000000000 + a / pn j % 1000000000) % d = a / pn j % d := by
  have h1 : a / pn (j + 1) = a / pn j / 1000000000 := by rw [pn_succ, Nat.div_div_eq_div_mul]
  have h2 := Nat.div_add_mod (a / pn j) 1000000000
  have h3 := Nat.div_add_mod (a / pn (j + 1)) d
  have h4 := Nat.mod_lt (a / pn (j + 1)) hd
  rw [← h1] at h2
  generalize a / pn (j + 1) / d = x at h3
  generalize a / pn (j + 1) % d = r at h3 h4 ⊢
  generalize a / pn (j + 1) = A' at h2 h3
  have h5 : a / pn j = (r * 1000000000 + a / pn j % 1000000000) + d * (x * 1000000000) := by
    have : d * (x * 1000000000) = d * x * 1000000000 := (Nat.mul_assoc _ _ _).symm
    omega
  have h6 : quo a d j = (a / pn j) / d % 1000000000 := by unfold quo; rw [Nat.div_div_eq_div_mul, Nat.div_div_eq_div_mul, Nat.mul_comm]
  have h7 : (r * 1000000000 + a / pn j % 1000000000) / d < 1000000000 := by
    rw [Nat.div_lt_iff_lt_mul hd]
    have h8 := Nat.mod_lt (a / pn j) (show 0 < 1000000000 by decide)
    have h9 : (r + 1) * 1000000000 ≤ d * 1000000000 := Nat.mul_le_mul_right _ h4
    rw [Nat.mul_comm 1000000000]
    omega
  have h8 := small_gen h5 hd h7
  rw [h6]
  exact ⟨h8.1.symm, h8.2.symm⟩

end Go.Proofs.Ytoknolholccamaa

namespace Go.Proofs.Ytoknolholccamaa
open Go.ChangeShapes Go.WideShapes Go.ChangeAt Go.RowKit
open Go.ChangeMaps (open_string shut_string)
set_option linter.unusedVariables false
set_option linter.unusedSimpArgs false
set_option maxRecDepth 4000

end Go.Proofs.Ytoknolholccamaa

namespace Go.Proofs.Ytoknolholccamaa
open Go.ChangeShapes Go.WideShapes Go.ChangeAt Go.RowKit
open Go.ChangeMaps (open_string shut_string)
set_option linter.unusedVariables false
set_option linter.unusedSimpArgs false
set_option maxRecDepth 4000

theorem OwnS.set_low {B g o : Nat} {w : World} {A : Option Addr} {l : List Value} {u : Value} (h : OwnS B w A l) (hg : g < B) : OwnS B (w.setCell ⟨g, o, none⟩ u) A l :=
  h.far (C := w.heap.size) (fun k hk _ => Below.heap_setCell w ⟨g, o, none⟩ u k (by intro e; simp at e; omega)) (Nat.le_refl _) (by simp [World.setCell])
theorem lit_int (B : Nat) (w : World) (x : Int) (hB : B ≤ w.heap.size) : (w.alloc (.cells #[.int .i64 x] 3)).ownsRow B 3 1 (.slice (some ⟨w.heap.size, 0, none⟩) 1 1) 1 (vi [x]) :=
  ⟨rfl, .inr ⟨w.heap.size, 1, #[.int .i64 x], rfl, hB, heap_alloc_new w _, Nat.le_refl _, by simp [maxLen], rfl, rfl⟩⟩
theorem cons_row {R z : Nat} (hz : z < 1000000000) : [(z : Int)] ++ nd R = row (1 + ln R) ((R * 1000000000 + z : Nat) : Int) := by
  rw [Nat.add_comm, row_cons]
  have h1 : ((R * 1000000000 + z : Nat) : Int) % 1000000000 = (z : Int) := by omega
  have h2 : ((R * 1000000000 + z : Nat) : Int) / 1000000000 = (R : Int) := by omega
  rw [h1, h2]
  rfl
theorem cons_ln {R z : Nat} (hz : z < 1000000000) : ln (R * 1000000000 + z) ≤ 1 + ln R := by
  refine pn_lt ?_
  have h := lt_pn (Nat.le_refl (ln R))
  have e : pn (1 + ln R) = pn (ln R) * 1000000000 := by rw [Nat.add_comm]; exact pn_succ _
  rw [e]
  omega
/-- Two rows as the model's division answers. -/
def PairS (L M : List Int) (w : World) (e : Ending) (w' : World) : Prop :=
  ∃ A c D d, e = .returned (.tuple #[.slice A L.length c, .slice D M.length d]) ∧ L.length ≤ c ∧ OwnS w.heap.size w' A (vi L) ∧ OwnS w.heap.size w' D (vi M) ∧ Below w.heap.size w w'

end Go.Proofs.Ytoknolholccamaa

namespace Go.Proofs.Ytoknolholccamaa
open Go.ChangeShapes Go.WideShapes Go.ChangeAt Go.RowKit
open Go.ChangeMaps (open_string shut_string)
set_option linter.unusedVariables false
set_option linter.unusedSimpArgs false
set_option maxRecDepth 4000

/-- Whether 'NatDiv' has an answer. -/
def okD (l m : List Int) : Bool := ok l && ok m && decide (m ≠ [])
def divQ (l m : List Int) : List Int := if okD l m then nd (val l / val m) else []
def divR (l m : List Int) : List Int := if okD l m then nd (val l % val m) else []
theorem div_no {l m : List Int} (h : okD l m = false) : divQ l m = [] ∧ divR l m = [] := by unfold divQ divR; rw [h]; exact ⟨rfl, rfl⟩
theorem div_yes {a b : Nat} (h : okD (nd a) (nd b) = true) : divQ (nd a) (nd b) = nd (a / b) ∧ divR (nd a) (nd b) = nd (a % b) := by unfold divQ divR; rw [h, val_nd, val_nd]; exact ⟨rfl, rfl⟩
theorem PairS.nil (w : World) : PairS [] [] w (.returned (.tuple #[.slice none 0 0, .slice none 0 0])) w := ⟨none, 0, none, 0, rfl, Nat.le_refl _, .inl rfl, .inl rfl, Below.refl _ _⟩
theorem div_len (l m : List Int) : (divQ l m).length ≤ 60 ∧ (divR l m).length ≤ 60 := by
  by_cases h : okD l m = true
  · have h' := h
    unfold okD at h'
    simp only [Bool.and_eq_true] at h'
    obtain ⟨a, rfl, ha⟩ := ok_nd h'.1.1
    obtain ⟨b, rfl, hb⟩ := ok_nd h'.1.2
    rw [(div_yes h).1, (div_yes h).2, nd_length, nd_length]
    have h1 := ln_mono (Nat.div_le_self a b)
    have h2 := ln_mono (Nat.mod_le a b)
    omega
  · have h' : okD l m = false := by simpa using h
    rw [(div_no h').1, (div_no h').2]
    simp

end Go.Proofs.Ytoknolholccamaa

namespace Go.Proofs.Ytoknolholccamaa
open Go.ChangeShapes Go.WideShapes Go.ChangeAt Go.RowKit
open Go.ChangeMaps (open_string shut_string)
set_option linter.unusedVariables false
set_option linter.unusedSimpArgs false
set_option maxRecDepth 4000

/-- All four coefficients stay within the base. -/
def Coef (fa fb na nb : Int) : Prop := (-1000000000 ≤ fa ∧ fa ≤ 1000000000) ∧ (-1000000000 ≤ fb ∧ fb ≤ 1000000000) ∧ (-1000000000 ≤ na ∧ na ≤ 1000000000) ∧ (-1000000000 ≤ nb ∧ nb ≤ 1000000000)
theorem small_of {k xa x : Int} (h0 : 0 ≤ k) (hxa : 1000000000 < xa) (h : k * xa ≤ x) (hx : x < 1000000000000000000) : k ≤ 1000000000 := by
  have h1 : k * 1000000000 ≤ k * xa := Int.mul_le_mul_of_nonneg_left (by omega) h0
  omega
theorem Leh.bounds {x y A B fa fb na nb xa yb X Y : Int} (h : Leh x y A B fa fb na nb xa yb X Y) (hxa : 1000000000 < xa) (hx : x < 1000000000000000000) (hyx : y ≤ x) :
    (-1000000000 ≤ na ∧ na ≤ 1000000000) ∧ (-1000000000 ≤ nb ∧ nb ≤ 1000000000) := by
  have hyb := h.ord.1
  rcases h.par with ⟨p1, p2, p3, p4, p5, p6⟩ | ⟨p1, p2, p3, p4, p5, p6⟩
  · have m1 : 0 ≤ (-fb) * yb := Int.mul_nonneg (by omega) hyb
    have m2 : 0 ≤ fa * yb := Int.mul_nonneg p1 hyb
    rw [Int.neg_mul] at m1
    have b1 := small_of (k := nb) (by omega) hxa (by omega) hx
    have b2 := small_of (k := -na) (x := y) (by omega) hxa (by rw [Int.neg_mul]; omega) (by omega)
    omega
  · have m1 : 0 ≤ fb * yb := Int.mul_nonneg p2 hyb
    have m2 : 0 ≤ (-fa) * yb := Int.mul_nonneg (by omega) hyb
    rw [Int.neg_mul] at m2
    have b1 := small_of (k := -nb) (x := x) (by omega) hxa (by rw [Int.neg_mul]; omega) hx
    have b2 := small_of (k := na) (x := y) (by omega) hxa (by omega) (by omega)
    omega

theorem Leh.strict {x y A B fa fb na nb xa yb X Y q : Int} (h : Leh x y A B fa fb na nb xa yb X Y) (hda : 0 < yb + na) (hdb : 0 < yb + nb) (h0 : 0 ≤ q) (h1 : q = (xa + fa) / (yb + na)) (h2 : q = (xa + fb) / (yb + nb)) : xa - q * yb < yb := by
  obtain ⟨_, u1⟩ := le_div_both hda h1
  obtain ⟨_, u2⟩ := le_div_both hdb h2
  rw [Int.mul_add, Int.add_mul, Int.one_mul] at u1 u2
  rcases h.par with ⟨p1, p2, p3, p4, _⟩ | ⟨p1, p2, p3, p4, _⟩
  · have : 0 ≤ (q + 1) * (-na) := Int.mul_nonneg (by omega) (by omega)
    rw [Int.mul_neg] at this
    omega
  · have : 0 ≤ (q + 1) * (-nb) := Int.mul_nonneg (by omega) (by omega)
    rw [Int.mul_neg] at this
    omega
theorem row_setCell {w : World} {g : Nat} {t : TypeId} {cs : Array Value} (h : w.heap[g]? = some (.cells cs t (0, 0))) (i : Nat) (u : Value) : (w.setCell ⟨g, i, none⟩ u).heap[g]? = some (.cells (cs.setIfInBounds i u) t (0, 0)) := by
  simp [World.setCell, Array.getElem?_modify, h]
theorem row_four {w : World} {g : Nat} {t : TypeId} {a b c d a' b' c' d' : Value} (h : w.heap[g]? = some (.cells #[a, b, c, d] t (0, 0))) :
    ((((w.setCell ⟨g, 0, none⟩ a').setCell ⟨g, 1, none⟩ b').setCell ⟨g, 2, none⟩ c').setCell ⟨g, 3, none⟩ d').heap[g]? = some (.cells #[a', b', c', d'] t (0, 0)) :=
  row_setCell (row_setCell (row_setCell (row_setCell h 0 a') 1 b') 2 c') 3 d'
/-- What 'certainSteps' answers. -/
def CertPost (x y A B : Int) (w : World) (e : Ending) (w' : World) : Prop :=
  ∃ fa fb na nb xa yb X Y : Int, e = .returned (.agg #[.int .i64 fa, .int .i64 fb, .int .i64 na, .int .i64 nb]) ∧ Leh x y A B fa fb na nb xa yb X Y ∧ Coef fa fb na nb ∧ Below w.heap.size w w'

end Go.Proofs.Ytoknolholccamaa

namespace Go.Proofs.Ytoknolholccamaa
open Go.ChangeShapes Go.WideShapes Go.ChangeAt Go.RowKit
open Go.ChangeMaps (open_string shut_string)
set_option linter.unusedVariables false
set_option linter.unusedSimpArgs false
set_option maxRecDepth 4000

end Go.Proofs.Ytoknolholccamaa

namespace Go.Proofs.Ytoknolholccamaa
open Go.ChangeShapes Go.WideShapes Go.ChangeAt Go.RowKit
open Go.ChangeMaps (open_string shut_string)
set_option linter.unusedVariables false
set_option linter.unusedSimpArgs false
set_option maxRecDepth 4000

/-- Two rows to be read. -/
def EucPost (a b : Nat) (w : World) (e : Ending) (w' : World) : Prop :=
  ∃ (X Y cx cy : Nat) (AX AY : Option Addr), e = .returned (.tuple #[.slice AX (nd X).length cx, .slice AY (nd Y).length cy]) ∧ RdS w' AX (vi (nd X)) ∧ RdS w' AY (vi (nd Y)) ∧ Nat.gcd X Y = Nat.gcd a b ∧ Y ≤ X ∧ Y < b ∧ X ≤ a ∧ Below w.heap.size w w'

theorem top3_lt {T n : Nat} (h : 1 ≤ n) : top3N T n < ((dgz T n).toNat + 1) * 1000000000000000000 := by
  have := dgz_nonneg T n
  have := dgz_nonneg T ((n : Int) - 1)
  have := dgz_nonneg T ((n : Int) - 2)
  have := dgz_lt T ((n : Int) - 1)
  have := dgz_lt T ((n : Int) - 2)
  unfold top3N
  omega

theorem held_four {wr W w1 : World} {g : Nat} {a b c d : Value} (hg : g < wr.heap.size) (h0 : W.cell? ⟨g, 0, none⟩ = some a) (h1 : W.cell? ⟨g, 1, none⟩ = some b) (h2 : W.cell? ⟨g, 2, none⟩ = some c) (h3 : W.cell? ⟨g, 3, none⟩ = some d) (h4 : Below wr.heap.size wr W) (hb : Below W.heap.size W w1) :
    w1.cell? ⟨g, 0, none⟩ = some a ∧ w1.cell? ⟨g, 1, none⟩ = some b ∧ w1.cell? ⟨g, 2, none⟩ = some c ∧ w1.cell? ⟨g, 3, none⟩ = some d ∧ Below wr.heap.size wr w1 := by
  have hl : g < W.heap.size := Nat.lt_of_lt_of_le hg h4.size
  exact ⟨by rw [hb.cell (p := ⟨g, 0, none⟩) hl]; exact h0, by rw [hb.cell (p := ⟨g, 1, none⟩) hl]; exact h1, by rw [hb.cell (p := ⟨g, 2, none⟩) hl]; exact h2, by rw [hb.cell (p := ⟨g, 3, none⟩) hl]; exact h3, h4.trans (hb.mono h4.size)⟩

def CombPost (f g : Int) (a b : Nat) (w : World) (e : Ending) (w' : World) : Prop :=
  ∃ (Z : Nat) (A : Option Addr) (c : Nat), e = .returned (.slice A (nd Z).length c) ∧ f * (a : Int) + g * (b : Int) = (Z : Int) ∧ RdS w' A (vi (nd Z)) ∧ Below w.heap.size w w'

theorem quo64_lt {N d : Nat} (h : N < d * 1000000000000000000) : N / 18446744073709551616 < d := by
  apply Nat.div_lt_of_lt_mul
  omega

end Go.Proofs.Ytoknolholccamaa

namespace Go.Proofs.Ytoknolholccamaa
open Go.ChangeShapes Go.WideShapes Go.ChangeAt Go.RowKit
open Go.ChangeMaps (open_string shut_string)
set_option linter.unusedVariables false
set_option linter.unusedSimpArgs false
set_option maxRecDepth 4000

theorem toV_small {a : Nat} (h : ln a ≤ 2) : toV (nd a) = a ∧ a < 1000000000000000000 := by
  have h1 := lt_pn h
  have h2 : pn 2 = 1000000000000000000 := by decide
  exact ⟨(toV_yes (by omega) (by omega)).1, by omega⟩

/-- The number that a slice of limbs reads as: what a loop counts down. -/
def numAt : Value → World → Nat
  | .slice (some ad) n _, w => val ((List.range n).map (fun j => match w.cell? ⟨ad.block, ad.off + j, none⟩ with | some (.int _ x) => x | _ => 0))
  | _, _ => 0
theorem numAt_eq {w : World} {A : Option Addr} {Y c : Nat} (h : RdS w A (vi (nd Y))) : numAt (.slice A (nd Y).length c) w = Y := by
  by_cases h0 : (nd Y).length = 0
  · have hY : Y = 0 := by rw [nd_length] at h0; exact ln_eq_zero.1 h0
    rw [h0, hY]
    cases A <;> rfl
  · obtain ⟨b, off, rfl, _, hc⟩ := h.block (by rw [vi_length]; omega)
    have e : (List.range (nd Y).length).map (fun j => match w.cell? ⟨b, off + j, none⟩ with | some (.int _ x) => x | _ => 0) = nd Y := by
      apply List.ext_getElem?
      intro j
      rcases Nat.lt_or_ge j (nd Y).length with h1 | h1
      · have h2 := hc j (by rw [vi_length]; exact h1)
        rw [vi_get h1] at h2
        rw [List.getElem?_map, List.getElem?_range h1, List.getElem?_eq_getElem h1]
        simp [h2]
      · rw [List.getElem?_eq_none (by simpa using h1), List.getElem?_eq_none h1]
    show val _ = Y
    rw [e, val_nd]

/-- A slice of the call's own, whatever its capacity. -/
def MadeN (B : Nat) (L : List Int) (w : World) (e : Ending) (w' : World) : Prop :=
  ∃ A c, e = .returned (.slice A L.length c) ∧ OwnS B w' A (vi L) ∧ Below w.heap.size w w'

end Go.Proofs.Ytoknolholccamaa

namespace Go.Proofs.Ytoknolholccamaa
open Go.ChangeShapes Go.WideShapes Go.ChangeAt Go.RowKit
open Go.ChangeMaps (open_string shut_string)
set_option linter.unusedVariables false
set_option linter.unusedSimpArgs false
set_option maxRecDepth 4000

theorem made_copy {w w' : World} {g X : Nat} (hB : Blk w' g (row (ln X + 0) X)) (hg : w.heap.size ≤ g) (hb : Below w.heap.size w w') : MadeN w.heap.size (nd X) w (.returned (.slice (some ⟨g, 0, none⟩) (ln X + 0) (ln X + 0))) w' := by
  have hr : row (ln X + 0) X = nd X := rfl
  rw [hr] at hB
  refine ⟨some ⟨g, 0, none⟩, ln X, by rw [nd_length]; rfl, .inr ⟨g, rfl, hg, hB.lt, fun j hj => ?_, fun j _ => hB.free j⟩, hb⟩
  rw [vi_length] at hj
  rw [vi_get hj]
  exact hB.cell (List.getElem?_eq_getElem hj)

end Go.Proofs.Ytoknolholccamaa

