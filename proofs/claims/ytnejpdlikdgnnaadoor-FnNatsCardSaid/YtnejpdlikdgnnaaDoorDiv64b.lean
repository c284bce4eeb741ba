/-
  'math/bits.Div64' at whatever words; 'limbAt', 'divideTop' of the program.
-/
import Derived.Test.YtnejpdlikdgnnaaDoorDiv64
import Derived.Test.YtnejpdlikdgnnaaDoorRows2
import Derived.Test.YtnejpdlikdgnnaaDoorLeh
namespace Go.Proofs.YtnejpdlikdgnnaaDoor
open Go.ChangeShapes Go.WideShapes Go.ChangeAt Go.RowKit
open Go.ChangeMaps (open_string shut_string)
set_option linter.unusedVariables false
set_option linter.unusedSimpArgs false
set_option maxRecDepth 4000

theorem pow_fact {s : Nat} (h : s ≤ 64) : 2 ^ s * 2 ^ (64 - s) = 18446744073709551616 := by
  rw [← Nat.pow_add, show s + (64 - s) = 64 by omega]

theorem div64_pos (hi lo y : Nat) (w : World) (h0 : 0 < hi) (hhy : hi < y) (hy64 : y < 18446744073709551616) (hlo : lo < 18446744073709551616) :
    Calls Tryd.prog 91 #[.int .u64 (hi : Int), .int .u64 (lo : Int), .int .u64 (y : Int)] w fun e w' => e = .returned (.tuple #[.int .u64 (((hi * 18446744073709551616 + lo) / y : Nat) : Int), .int .u64 (((hi * 18446744073709551616 + lo) % y : Nat) : Int)]) ∧ w = w' := by
  have HL := Tryd.bits_LeadingZeros64 (y : Int) w (by omega) (by omega)
  rw [Int.toNat_natCast] at HL
  have hb := Lib.bitLenAux_bounds 64 y (by omega) (by omega)
  obtain ⟨L, hL⟩ : ∃ L, L = Lib.bitLen y := ⟨_, rfl⟩
  have hb' : 1 ≤ L ∧ 2 ^ (L - 1) ≤ y ∧ y < 2 ^ L := by rw [hL]; exact hb
  have hL64 : L ≤ 64 := by rw [hL]; exact Lib.bitLen_le y 64 (by omega) (by omega)
  obtain ⟨s, hs⟩ : ∃ s : Nat, s = 64 - L := ⟨_, rfl⟩
  rw [← hL, show 64 - (L : Int) = (s : Int) by omega] at HL
  have hs64 : s < 64 := by omega
  have hP : 2 ^ s * 2 ^ (64 - s) = 18446744073709551616 := pow_fact (by omega)
  have e1 : 64 - s = L := by omega
  have e2 : 2 ^ L = 2 ^ (L - 1) * 2 := by rw [← Nat.pow_succ]; congr 1; omega
  have hP0 := Nat.two_pow_pos s
  have hP0' := Nat.two_pow_pos (64 - s)
  have hYb : 9223372036854775808 ≤ y * 2 ^ s := by
    have h1 : 2 ^ s * (2 ^ (L - 1) * 2) = 18446744073709551616 := by rw [← e2, ← e1]; exact hP
    have h2 : 2 ^ (L - 1) * 2 ^ s ≤ y * 2 ^ s := Nat.mul_le_mul_right _ hb'.2.1
    have h3 : 2 ^ s * (2 ^ (L - 1) * 2) = 2 ^ (L - 1) * 2 ^ s * 2 := by rw [← Nat.mul_assoc, Nat.mul_comm (2 ^ s)]
    omega
  have hYt : y * 2 ^ s < 18446744073709551616 := by
    have h2 : y * 2 ^ s < 2 ^ (64 - s) * 2 ^ s := Nat.mul_lt_mul_of_pos_right (by rw [e1]; exact hb'.2.2) hP0
    rw [Nat.mul_comm (2 ^ (64 - s)), hP] at h2
    exact h2
  have hq : lo / 2 ^ (64 - s) < 2 ^ s := by
    rw [Nat.div_lt_iff_lt_mul hP0', hP]
    exact hlo
  have hhi : (hi + 1) * 2 ^ s ≤ y * 2 ^ s := Nat.mul_le_mul_right _ hhy
  rw [Nat.add_mul, Nat.one_mul] at hhi
  have hql : lo / 2 ^ (64 - s) < 18446744073709551616 := Nat.lt_of_le_of_lt (Nat.div_le_self _ _) hlo
  have hhp : hi * 2 ^ s < 18446744073709551616 := by omega
  refine div64_core hi lo y s (hi * 2 ^ s + lo / 2 ^ (64 - s)) (lo * 2 ^ s % 18446744073709551616) (y * 2 ^ s) _ _ w h0 hhy hy64 hlo (shifted hP hP0 hP0') rfl rfl rfl hYb hYt (by omega) (Nat.mod_lt _ (by decide)) ?_ ?_ ?_ hs64 HL
  · have h : (y : Int) * 2 ^ s = ((y * 2 ^ s : Nat) : Int) := by rw [Int.natCast_mul, Int.natCast_pow]; rfl
    rw [h]
    exact wrapU _ hYt
  · have h : (hi : Int) * 2 ^ s = ((hi * 2 ^ s : Nat) : Int) := by rw [Int.natCast_mul, Int.natCast_pow]; rfl
    have h' : (lo : Int) / 2 ^ (64 - s) = ((lo / 2 ^ (64 - s) : Nat) : Int) := by rw [Int.natCast_ediv, Int.natCast_pow]; rfl
    rw [h, wrapU _ hhp, h']
    exact or_low hq hhp hql
  · have h : (lo : Int) * 2 ^ s = ((lo * 2 ^ s : Nat) : Int) := by rw [Int.natCast_mul, Int.natCast_pow]; rfl
    rw [h]
    exact wrapUM _

set_option maxHeartbeats 400000 in
theorem div64_zero (lo y : Nat) (w : World) (hy : 0 < y) (hy64 : y < 18446744073709551616) (hlo : lo < 18446744073709551616) :
    Calls Tryd.prog 91 #[.int .u64 0, .int .u64 (lo : Int), .int .u64 (y : Int)] w fun e w' => e = .returned (.tuple #[.int .u64 ((lo / y : Nat) : Int), .int .u64 ((lo % y : Nat) : Int)]) ∧ Below w.heap.size w w' := by
  have hy0 : ((y : Int) == 0) = false := by rw [beq_eq_false_iff_ne]; omega
  have hyz : ¬ (y : Int) = 0 := by omega
  have hle : ¬ (y : Int) ≤ 0 := by omega
  have ft : (lo : Int).tdiv (y : Int) = ((lo / y : Nat) : Int) := (Int.ofNat_tdiv lo y).symm
  have fm : (lo : Int).tmod (y : Int) = ((lo % y : Nat) : Int) := (Int.ofNat_tmod lo y).symm
  have b1 : lo / y < 18446744073709551616 := Nat.lt_of_le_of_lt (Nat.div_le_self _ _) hlo
  have b2 : lo % y < 18446744073709551616 := Nat.lt_of_le_of_lt (Nat.mod_le _ _) hlo
  obtain ⟨Q, hQ⟩ : ∃ Q, Q = lo / y := ⟨_, rfl⟩
  obtain ⟨R, hR⟩ : ∃ R, R = lo % y := ⟨_, rfl⟩
  rw [← hQ] at ft b1
  rw [← hR] at fm b2
  rw [← hQ, ← hR]
  have fw := wrapU Q b1
  have fw' := wrapU R b2
  clear hQ hR
  go_enter Tryd.func91, Tryd.ntmps91
  go_wp2_with fail
  go_quiet (fail)
  go_wp2_with fail
  go_ret2
  exact ⟨rfl, below_drewN (Below.refl _ _) _⟩

theorem div64_any (hi lo y : Nat) (w : World) (hhy : hi < y) (hy64 : y < 18446744073709551616) (hlo : lo < 18446744073709551616) :
    Calls Tryd.prog 91 #[.int .u64 (hi : Int), .int .u64 (lo : Int), .int .u64 (y : Int)] w fun e w' => ∃ r : Int, e = .returned (.tuple #[.int .u64 (((hi * 18446744073709551616 + lo) / y : Nat) : Int), .int .u64 r]) ∧ Below w.heap.size w w' := by
  rcases Nat.eq_zero_or_pos hi with h | h
  · subst h
    refine (div64_zero lo y w hhy hy64 hlo).mono ?_
    rintro e w' ⟨rfl, hb⟩
    exact ⟨_, by rw [Nat.zero_mul, Nat.zero_add], hb⟩
  · refine (div64_pos hi lo y w h hhy hy64 hlo).mono ?_
    rintro e w' ⟨rfl, rfl⟩
    exact ⟨_, rfl, Below.refl _ _⟩

/-- Limb i, 0 outside. -/
def dgz (T : Int) (i : Int) : Int := if i < 0 then 0 else dgt T i.toNat
set_option maxHeartbeats 400000 in
theorem limbAt_any (T : Nat) (m d : Nat) (A : Option Addr) (i : Int) (w : World) (hm : m ≤ 1048576) (hT : ln T ≤ m) (hA : RdS w A (vi (row m T))) :
    Calls Tryd.prog 75 #[.slice A m d, .int .i64 i] w fun e w' => e = .returned (.int .i64 (dgz T i)) ∧ w = w' := by
  by_cases h0 : i < 0
  · have hf : Hid (dgz T i = 0) := Lib.hid (if_pos h0)
    go_enter Tryd.func75, Tryd.ntmps75
    go_wp2
    go_ret
    exact ⟨ret_int' hf.out.symm, rfl⟩
  · obtain ⟨j, rfl⟩ := Int.eq_ofNat_of_zero_le (show 0 ≤ i by omega)
    have hf : dgz T (j : Int) = dgt T j := by unfold dgz; rw [if_neg h0, Int.toNat_natCast]
    rw [hf]
    by_cases h1 : j < m
    · obtain ⟨b1, o1, rfl, hb1, e1⟩ := hA.int (row_get (n := m) T h1)
      have hi1 : (j : Int) < (m : Int) := by omega
      have hi0 : (0 : Int) ≤ (j : Int) := by omega
      generalize dgt T j = x at e1
      go_enter Tryd.func75, Tryd.ntmps75
      go_wp2
      go_ret
      exact ⟨rfl, rfl⟩
    · have hz : Hid (dgt T j = 0) := Lib.hid (dgt_small (n := ln T) (by omega) (ln_lt T) (by omega))
      have hi1 : ¬ (j : Int) < (m : Int) := by omega
      have hi2 : (m : Int) ≤ (j : Int) := by omega
      go_enter Tryd.func75, Tryd.ntmps75
      go_wp2
      go_ret
      exact ⟨ret_int' hz.out.symm, rfl⟩
end Go.Proofs.YtnejpdlikdgnnaaDoor
