/-
  Plain facts on decimal numerals: what a list of bytes reads as, and that a numeral is read back. Nothing here speaks of the program.
-/
import Derived.Lib.AtoiAllCases
import Derived.Lib.ItoaMem
namespace Go.Proofs.YtkmfbanlkglkmabGreatDoor.Num
open Go.Lib
set_option linter.unusedVariables false
set_option linter.unusedSimpArgs false

/-- The number that bytes spell behind acc. -/
def valFrom (acc : Nat) : List UInt8 → Nat
  | [] => acc
  | c :: r => valFrom (acc * 10 + (c.toNat - 48)) r
def val (l : List UInt8) : Nat := valFrom 0 l
def IsDig (c : UInt8) : Prop := 48 ≤ c.toNat ∧ c.toNat ≤ 57
theorem valFrom_append (l m : List UInt8) : ∀ acc, valFrom acc (l ++ m) = valFrom (valFrom acc l) m := by
  induction l with
  | nil => intro acc; rfl
  | cons c r ih => intro acc; exact ih _
theorem valFrom_ge (l : List UInt8) : ∀ acc, acc ≤ valFrom acc l := by
  induction l with
  | nil => intro acc; exact Nat.le_refl _
  | cons c r ih => intro acc; exact Nat.le_trans (by omega) (ih _)
theorem val_snoc (l : List UInt8) (c : UInt8) : val (l ++ [c]) = val l * 10 + (c.toNat - 48) := by
  unfold val
  rw [valFrom_append]; rfl
theorem val_take_succ {l : List UInt8} {k : Nat} (h : k < l.length) : val (l.take (k + 1)) = val (l.take k) * 10 + (l[k].toNat - 48) := by
  rw [List.take_succ_eq_append_getElem h, val_snoc]
theorem val_take_le (l : List UInt8) (k : Nat) : val (l.take k) ≤ val l := by
  have h : val l = valFrom (val (l.take k)) (l.drop k) := by
    unfold val
    rw [← valFrom_append, List.take_append_drop]
  rw [h]
  exact valFrom_ge _ _
theorem dig_toNat {k : Nat} (h : k < 10) : (UInt8.ofNat (48 + k)).toNat = 48 + k := by
  rw [UInt8.toNat_ofNat_of_lt' (by simp only [UInt8.size]; omega)]
theorem dec_small {u : Nat} (h : u < 10) : decDigits u = [UInt8.ofNat (48 + u)] := by rw [decDigits, dif_pos h]
theorem dec_big {u : Nat} (h : ¬ u < 10) : decDigits u = decDigits (u / 10) ++ [UInt8.ofNat (48 + u % 10)] := by rw [decDigits, dif_neg h]
theorem val_dec (u : Nat) : val (decDigits u) = u := by
  induction u using Nat.strongRecOn with
  | _ u ih =>
    by_cases h : u < 10
    · rw [dec_small h]
      show 0 * 10 + ((UInt8.ofNat (48 + u)).toNat - 48) = u
      rw [dig_toNat h]; omega
    · rw [dec_big h, val_snoc, ih (u / 10) (by omega), dig_toNat (by omega)]
      omega
theorem dec_digs (u : Nat) : ∀ c ∈ decDigits u, IsDig c := by
  induction u using Nat.strongRecOn with
  | _ u ih =>
    intro c hc
    by_cases h : u < 10
    · rw [dec_small h] at hc
      obtain rfl : c = UInt8.ofNat (48 + u) := by simpa using hc
      unfold IsDig; rw [dig_toNat h]; omega
    · rw [dec_big h, List.mem_append] at hc
      rcases hc with hc | hc
      · exact ih (u / 10) (by omega) c hc
      · obtain rfl : c = UInt8.ofNat (48 + u % 10) := by simpa using hc
        unfold IsDig; rw [dig_toNat (by omega)]; omega
theorem dec_ne (u : Nat) : decDigits u ≠ [] := by
  by_cases h : u < 10
  · rw [dec_small h]; simp
  · rw [dec_big h]; simp
theorem dec_len : ∀ k u, u < 10 ^ (k + 1) → (decDigits u).length ≤ k + 1
  | 0, u, h => by rw [dec_small (by simpa using h)]; simp
  | k + 1, u, h => by
    by_cases h1 : u < 10
    · rw [dec_small h1]; simp
    · rw [dec_big h1, List.length_append]
      have := dec_len k (u / 10) (by rw [Nat.pow_succ] at h; omega)
      simp
      omega
theorem dec_len19 {u : Nat} (h : u ≤ 9223372036854775808) : (decDigits u).length ≤ 19 := dec_len 18 u (by omega)
theorem valFrom_mono (l : List UInt8) : ∀ {a b : Nat}, a ≤ b → valFrom a l ≤ valFrom b l := by
  induction l with
  | nil => intro a b h; exact h
  | cons c r ih => intro a b h; exact ih (by omega)
theorem parse_ok (l : List UInt8) : ∀ acc, (∀ c ∈ l, IsDig c) → valFrom acc l < 18446744073709551616 → parseUint10 acc l = .ok (valFrom acc l) := by
  induction l with
  | nil => intro acc _ _; rfl
  | cons c r ih =>
    intro acc hd hv
    have hc : 48 ≤ c.toNat ∧ c.toNat ≤ 57 := hd c (by simp)
    have hge := valFrom_ge r (acc * 10 + (c.toNat - 48))
    have hv' : valFrom (acc * 10 + (c.toNat - 48)) r < 18446744073709551616 := hv
    unfold parseUint10
    rw [if_pos hc, if_neg (by omega), if_neg (by omega)]
    exact ih _ (fun x hx => hd x (by simp [hx])) hv'
theorem mag_dec {u : Nat} (h : u < 18446744073709551616) : parseMag (decDigits u) = .ok u := by
  unfold parseMag
  rw [if_neg (dec_ne u), parse_ok _ 0 (dec_digs u) (by have := val_dec u; unfold val at this; omega)]
  have := val_dec u
  unfold val at this
  rw [this]
/-- A numeral is read back. -/
theorem atoi_itoa {v : Int} (h0 : -9223372036854775808 ≤ v) (h1 : v ≤ 9223372036854775807) : atoiAll (itoa v) = .ok v := by
  by_cases hn : v < 0
  · rw [itoa, if_pos hn, atoiAll_minus, mag_dec (by omega)]
    show (if 9223372036854775808 < v.natAbs then NumEnd.range else NumEnd.ok (-(v.natAbs : Int))) = _
    rw [if_neg (by omega), show -(v.natAbs : Int) = v from by omega]
  · rw [itoa, if_neg hn]
    have hm : parseMag (decDigits v.toNat) = .ok v.toNat := mag_dec (by omega)
    have hd := dec_digs v.toNat
    have hne := dec_ne v.toNat
    generalize decDigits v.toNat = l at hm hd hne
    cases l with
    | nil => exact absurd rfl hne
    | cons c r =>
      have hc := hd c (by simp)
      unfold IsDig at hc
      rw [atoiAll_plain c r (by omega) (by omega), hm]
      show (if 9223372036854775808 ≤ v.toNat then NumEnd.range else NumEnd.ok (v.toNat : Int)) = _
      rw [if_neg (by omega), show (v.toNat : Int) = v from by omega]
/-- l is the numeral of no int. -/
def NoNum (l : List UInt8) : Prop := ∀ v : Int, -9223372036854775808 ≤ v → v ≤ 9223372036854775807 → itoa v ≠ l
theorem noNum_of_atoi {l : List UInt8} (h : ∀ v, atoiAll l ≠ .ok v) : NoNum l := fun v h0 h1 e => h v (by rw [← e]; exact atoi_itoa h0 h1)
theorem noNum_of_other {l : List UInt8} {v : Int} (h : atoiAll l = .ok v) (hne : itoa v ≠ l) : NoNum l := fun v' h0 h1 e => by
  have h2 := atoi_itoa h0 h1
  rw [e, h] at h2
  injection h2 with h3
  subst h3
  exact hne e
open Classical in
/-- What a text is parsed as. -/
noncomputable def parsed (l : List UInt8) : Int × Bool := if h : ∃ v : Int, -9223372036854775808 ≤ v ∧ v ≤ 9223372036854775807 ∧ itoa v = l then (h.choose, true) else (0, false)
theorem parsed_no {l : List UInt8} (h : NoNum l) : parsed l = (0, false) := by
  unfold parsed
  rw [dif_neg]
  rintro ⟨v, h0, h1, e⟩
  exact h v h0 h1 e
theorem parsed_yes {v : Int} (h0 : -9223372036854775808 ≤ v) (h1 : v ≤ 9223372036854775807) : parsed (itoa v) = (v, true) := by
  unfold parsed
  have hx : ∃ v' : Int, -9223372036854775808 ≤ v' ∧ v' ≤ 9223372036854775807 ∧ itoa v' = itoa v := ⟨v, h0, h1, rfl⟩
  rw [dif_pos hx]
  obtain ⟨a, b, c⟩ := hx.choose_spec
  have h2 := atoi_itoa a b
  rw [c, atoi_itoa h0 h1] at h2
  injection h2 with h3
  rw [← h3]
/-- What stands behind the sign. -/
def bare (l : List UInt8) : List UInt8 := if l.head? = some 45 then l.drop 1 else l
theorem bare_itoa (v : Int) : bare (itoa v) = decDigits v.natAbs := by
  by_cases hn : v < 0
  · rw [itoa, if_pos hn]; rfl
  · rw [itoa, if_neg hn]
    have e : v.toNat = v.natAbs := by omega
    rw [e]
    have hd := dec_digs v.natAbs
    generalize decDigits v.natAbs = l at hd
    cases l with
    | nil => rfl
    | cons c r =>
      have hc := hd c (by simp)
      unfold IsDig at hc
      have : c ≠ 45 := by rintro rfl; revert hc; decide
      simp [bare, this]
theorem noNum_digs {l : List UInt8} (h : ¬ (bare l ≠ [] ∧ ∀ c ∈ bare l, IsDig c)) : NoNum l := fun v h0 h1 e => h (by
  subst e; rw [bare_itoa]; exact ⟨dec_ne _, dec_digs _⟩)
theorem noNum_long {l : List UInt8} (h : 19 < (bare l).length) : NoNum l := fun v h0 h1 e => by
  subst e; rw [bare_itoa] at h
  have := dec_len19 (u := v.natAbs) (by omega)
  omega
theorem noNum_great {l : List UInt8} (h : 9223372036854775808 < val (bare l)) : NoNum l := fun v h0 h1 e => by
  subst e; rw [bare_itoa, val_dec] at h
  omega
theorem noNum_least {l : List UInt8} (hs : ¬ l.head? = some 45) (h : val (bare l) = 9223372036854775808) : NoNum l := fun v h0 h1 e => by
  subst e; rw [bare_itoa, val_dec] at h
  have : v < 0 := by omega
  rw [itoa, if_pos this] at hs
  exact hs rfl
theorem noNum_neg {l : List UInt8} (hs : l.head? = some 45) (hne : itoa (-(val (bare l) : Int)) ≠ l) : NoNum l := fun v h0 h1 e => by
  subst e; rw [bare_itoa, val_dec] at hne
  by_cases hn : v < 0
  · exact hne (by rw [show -(v.natAbs : Int) = v from by omega])
  · rw [itoa, if_neg hn] at hs
    have hd := dec_digs v.toNat
    generalize decDigits v.toNat = l at hd hs
    cases l with
    | nil => simp at hs
    | cons c r =>
      have hc := hd c (by simp)
      unfold IsDig at hc
      obtain rfl : c = 45 := by simpa using hs
      revert hc; decide
theorem noNum_pos {l : List UInt8} (hs : ¬ l.head? = some 45) (hne : itoa (val (bare l) : Int) ≠ l) : NoNum l := fun v h0 h1 e => by
  subst e; rw [bare_itoa, val_dec] at hne
  by_cases hn : v < 0
  · rw [itoa, if_pos hn] at hs; exact hs rfl
  · exact hne (by rw [show (v.natAbs : Int) = v from by omega])
end Go.Proofs.YtkmfbanlkglkmabGreatDoor.Num
