/-
  A decimal text read nine digits at a time from its end. Plain arithmetic.
-/
import Derived.Test.YtdgfbnnohnaoaaaGreatDoorParseMath
import Derived.Test.YtdgfbnnohnaoaaaGreatDoorDkA
namespace Go.Proofs.YtdgfbnnohnaoaaaGreatDoor
open Go.Lib
set_option linter.unusedVariables false
set_option linter.unusedSimpArgs false

theorem pow_step (acc d P V : Nat) : (acc * 10 + d) * P + V = acc * (P * 10) + ((0 * 10 + d) * P + V) := by
  have h : acc * 10 * P = acc * (P * 10) := by rw [Nat.mul_assoc, Nat.mul_comm 10]
  rw [Nat.add_mul, h, Nat.zero_mul, Nat.zero_add, Nat.add_assoc]
theorem valFrom_pow : ∀ (l : List UInt8) (acc : Nat), Num.valFrom acc l = acc * 10 ^ l.length + Num.val l
  | [], acc => by show acc = acc * 1 + 0; omega
  | c :: r, acc => by
    have h1 : Num.valFrom acc (c :: r) = Num.valFrom (acc * 10 + (c.toNat - 48)) r := rfl
    have h2 : Num.val (c :: r) = Num.valFrom (0 * 10 + (c.toNat - 48)) r := rfl
    rw [h1, h2, valFrom_pow r, valFrom_pow r, List.length_cons, Nat.pow_succ]
    exact pow_step _ _ _ _
theorem val_append (l m : List UInt8) : Num.val (l ++ m) = Num.val l * 10 ^ m.length + Num.val m := by
  have h : Num.val (l ++ m) = Num.valFrom (Num.val l) m := by unfold Num.val; rw [Num.valFrom_append]
  rw [h, valFrom_pow]
theorem lt_step {d P V : Nat} (hd : d ≤ 9) (hV : V < P) : d * P + V < P * 10 := by
  have := Nat.mul_le_mul_right P hd
  omega
theorem val_lt : ∀ (l : List UInt8), (∀ c ∈ l, Num.IsDig c) → Num.val l < 10 ^ l.length
  | [], _ => by show 0 < 1; omega
  | c :: r, h => by
    have h1 : Num.val (c :: r) = (c.toNat - 48) * 10 ^ r.length + Num.val r := by
      have h2 : Num.val (c :: r) = Num.valFrom (0 * 10 + (c.toNat - 48)) r := rfl
      rw [h2, valFrom_pow, Nat.zero_mul, Nat.zero_add]
    have h3 := val_lt r (fun x hx => h x (List.mem_cons_of_mem _ hx))
    have hc : 48 ≤ c.toNat ∧ c.toNat ≤ 57 := h c List.mem_cons_self
    rw [h1, List.length_cons, Nat.pow_succ]
    exact lt_step (by omega) h3
/-- The group of at most nine digits that ends at place p. -/
def grp (l : List UInt8) (p : Nat) : List UInt8 := (l.take p).drop (p - 9)
theorem grp_length {l : List UInt8} {p : Nat} (h : p ≤ l.length) : (grp l p).length = p - (p - 9) := by
  unfold grp
  rw [List.length_drop, List.length_take, Nat.min_eq_left h]
theorem grp_digs {l : List UInt8} (h : ∀ c ∈ l, Num.IsDig c) (p : Nat) : ∀ c ∈ grp l p, Num.IsDig c :=
  fun c hc => h c (List.mem_of_mem_take (List.mem_of_mem_drop hc))
theorem grp_lt {l : List UInt8} (h : ∀ c ∈ l, Num.IsDig c) {p : Nat} (hp : p ≤ l.length) : Num.val (grp l p) < 1000000000 := by
  have h1 := val_lt _ (grp_digs h p)
  rw [grp_length hp] at h1
  have h2 : 10 ^ (p - (p - 9)) ≤ 10 ^ 9 := Nat.pow_le_pow_right (by decide) (by omega)
  exact Nat.lt_of_lt_of_le h1 h2
theorem take_split (l : List UInt8) (p : Nat) : l.take p = l.take (p - 9) ++ grp l p := by
  have h := (List.take_append_drop (p - 9) (l.take p)).symm
  rw [List.take_take, Nat.min_eq_left (by omega)] at h
  exact h
theorem val_split {l : List UInt8} {p : Nat} (hp : p ≤ l.length) (h9 : 9 ≤ p) : Num.val (l.take p) = Num.val (l.take (p - 9)) * 1000000000 + Num.val (grp l p) := by
  rw [take_split l p, val_append, grp_length hp, show p - (p - 9) = 9 by omega]
theorem val_mod {l : List UInt8} (h : ∀ c ∈ l, Num.IsDig c) {p : Nat} (hp : p ≤ l.length) : Num.val (l.take p) % 1000000000 = Num.val (grp l p) := by
  have h1 := grp_lt h hp
  rcases Nat.lt_or_ge p 9 with h2 | h2
  · have : grp l p = l.take p := by unfold grp; rw [show p - 9 = 0 by omega, List.drop_zero]
    rw [this] at h1 ⊢
    omega
  · rw [val_split hp h2]
    omega
theorem val_div {l : List UInt8} (h : ∀ c ∈ l, Num.IsDig c) {p : Nat} (hp : p ≤ l.length) (h9 : 9 ≤ p) : Num.val (l.take p) / 1000000000 = Num.val (l.take (p - 9)) := by
  have h1 := grp_lt h hp
  rw [val_split hp h9]
  omega
theorem val_pw {l : List UInt8} (h : ∀ c ∈ l, Num.IsDig c) : ∀ k, 9 * k ≤ l.length → (Num.val l : Int) / pw k = (Num.val (l.take (l.length - 9 * k)) : Int)
  | 0, _ => by rw [div_zero, Nat.mul_zero, Nat.sub_zero, List.take_length]
  | k + 1, hk => by
    rw [div_succ, val_pw h k (by omega)]
    have := val_div h (p := l.length - 9 * k) (by omega) (by omega)
    rw [show l.length - 9 * (k + 1) = l.length - 9 * k - 9 by omega, ← this]
    omega
theorem grp_dgt {l : List UInt8} (h : ∀ c ∈ l, Num.IsDig c) {k : Nat} (hk : 9 * k ≤ l.length) : dgt (Num.val l : Int) k = (Num.val (grp l (l.length - 9 * k)) : Int) := by
  have := val_mod h (p := l.length - 9 * k) (by omega)
  unfold dgt
  rw [val_pw h k hk]
  omega
theorem pw_ten : ∀ k, pw k = ((10 ^ (9 * k) : Nat) : Int)
  | 0 => rfl
  | k + 1 => by
    rw [pw_succ, pw_ten k, show 9 * (k + 1) = 9 * k + 9 by omega, Nat.pow_add, Int.natCast_mul]
    rfl
theorem val_ln {l : List UInt8} (h : ∀ c ∈ l, Num.IsDig c) {k : Nat} (hk : l.length ≤ 9 * k) : ln (Num.val l) ≤ k := by
  rw [ln_le_iff, pw_ten]
  have h1 := val_lt l h
  have h2 : 10 ^ l.length ≤ 10 ^ (9 * k) := Nat.pow_le_pow_right (by decide) hk
  exact Int.ofNat_lt.2 (Nat.lt_of_lt_of_le h1 h2)
theorem atoi_dig {l : List UInt8} (h : ∀ c ∈ l, Num.IsDig c) (hne : l ≠ []) (hv : Num.val l < 1000000000) : atoiAll l = .ok (Num.val l : Int) := by
  have hm : parseMag l = .ok (Num.val l) := by
    unfold parseMag
    rw [if_neg hne]
    exact Num.parse_ok l 0 h (by unfold Num.val at hv; omega)
  cases l with
  | nil => exact absurd rfl hne
  | cons c r =>
    have hc : 48 ≤ c.toNat ∧ c.toNat ≤ 57 := h c List.mem_cons_self
    unfold atoiAll
    have h1 : ¬ (c.toNat = 43) := by omega
    have h2 : ¬ (c.toNat = 45) := by omega
    simp only [h1, h2, or_self, not_false_eq_true, true_and, false_and, if_false]
    rw [hm]
    show (if 9223372036854775808 ≤ Num.val (c :: r) then _ else _) = _
    rw [if_neg (by omega)]
end Go.Proofs.YtdgfbnnohnaoaaaGreatDoor

