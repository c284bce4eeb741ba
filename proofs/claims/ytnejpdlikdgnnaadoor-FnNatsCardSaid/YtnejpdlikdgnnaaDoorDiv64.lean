/-
  'math/bits.Div64': the quotient and the remainder of a number of two words.
-/
import Derived.Test.YtnejpdlikdgnnaaDoorKit
import Derived.Test.YtnejpdlikdgnnaaDoorShelf
import Derived.Outline
import Derived.IntWalk
import Derived.WalkSmall
import Derived.Lib.ItoaNum
import Derived.Laws.Bits64b
namespace Go.Proofs.YtnejpdlikdgnnaaDoor
open Go.ChangeShapes Go.WideShapes Go.ChangeAt Go.RowKit
open Go.ChangeMaps (open_string shut_string)
set_option linter.unusedVariables false
set_option linter.unusedSimpArgs false
set_option maxRecDepth 4000

theorem kn_lt {u w Y : Nat} (hu : u < Y) (hw : w < 4294967296) : (u * 4294967296 + w) / Y < 4294967296 := by
  rw [Nat.div_lt_iff_lt_mul (by omega)]
  have : (u + 1) * 4294967296 ≤ Y * 4294967296 := Nat.mul_le_mul_right _ hu
  omega
theorem kn_start {u w Y1 Y0 : Nat} (hu : u < Y1 * 4294967296 + Y0) (hY1 : 2147483648 ≤ Y1) (hY0 : Y0 < 4294967296) (hw : w < 4294967296) :
    (u * 4294967296 + w) / (Y1 * 4294967296 + Y0) ≤ u / Y1 ∧ u / Y1 ≤ 4294967297 := by
  constructor
  · rw [Nat.le_div_iff_mul_le (by omega)]
    have h := Nat.div_mul_le_self (u * 4294967296 + w) (Y1 * 4294967296 + Y0)
    generalize (u * 4294967296 + w) / (Y1 * 4294967296 + Y0) = t at h ⊢
    rw [Nat.mul_add, ← Nat.mul_assoc] at h
    have : 0 ≤ t * Y0 := Nat.zero_le _
    omega
  · have : u / Y1 < 4294967298 := by
      rw [Nat.div_lt_iff_lt_mul (by omega)]
      omega
    omega
theorem kn_split {q Y1 Y0 : Nat} : q * (Y1 * 4294967296 + Y0) = q * Y1 * 4294967296 + q * Y0 := by rw [Nat.mul_add, Nat.mul_assoc]
theorem kn_true {u w q r Y1 Y0 : Nat} (h : q * Y1 + r = u) (hu : u < Y1 * 4294967296 + Y0) (hw : w < 4294967296) (hc : 4294967296 ≤ q ∨ 4294967296 * r + w < q * Y0) :
    (u * 4294967296 + w) / (Y1 * 4294967296 + Y0) < q := by
  rcases hc with hc | hc
  · exact Nat.lt_of_lt_of_le (kn_lt hu hw) hc
  · rw [Nat.div_lt_iff_lt_mul (by omega), kn_split]
    omega
theorem kn_false {u w q r Y1 Y0 : Nat} (h : q * Y1 + r = u) (hY : 0 < Y1) (ht : (u * 4294967296 + w) / (Y1 * 4294967296 + Y0) ≤ q) (hc : q * Y0 ≤ 4294967296 * r + w) :
    q = (u * 4294967296 + w) / (Y1 * 4294967296 + Y0) := by
  refine Nat.le_antisymm ?_ ht
  rw [Nat.le_div_iff_mul_le (by omega), kn_split]
  omega
theorem kn_break {w q r Y0 : Nat} (hq : q ≤ 4294967296) (hY0 : Y0 < 4294967296) (hr : 4294967296 ≤ r) : q * Y0 ≤ 4294967296 * r + w := by
  have h1 : q * Y0 ≤ 4294967296 * 4294967296 := Nat.mul_le_mul hq (by omega)
  omega
/-- The number laid into two words, shifted. -/
theorem shifted {hi lo P P' C : Nat} (hP : P * P' = C) (hP0 : 0 < P) (hP0' : 0 < P') :
    (hi * C + lo) * P = (hi * P + lo / P') * C + lo * P % C := by
  have h1 := Nat.div_add_mod lo P'
  have h2 : lo * P = lo / P' * C + lo % P' * P := by
    conv => lhs; rw [← h1]
    rw [Nat.add_mul, ← hP, Nat.mul_comm P' (lo / P'), Nat.mul_assoc, Nat.mul_comm P' P]
  have h3 : lo % P' * P < C := by
    rw [← hP, Nat.mul_comm P]
    exact Nat.mul_lt_mul_of_pos_right (Nat.mod_lt _ hP0') hP0
  have h4 : lo * P % C = lo % P' * P := by rw [h2, Nat.add_comm, Nat.add_mul_mod_self_right, Nat.mod_eq_of_lt h3]
  rw [Nat.add_mul, h4, Nat.add_mul, h2, Nat.mul_right_comm hi, Nat.add_assoc]
theorem two_digits {U V Y B : Nat} (hY : 0 < Y) : (U * (B * B) + V) / Y = (U * B + V / B) / Y * B + ((U * B + V / B) % Y * B + V % B) / Y ∧
    (U * (B * B) + V) % Y = ((U * B + V / B) % Y * B + V % B) % Y := by
  have h1 := Nat.div_add_mod (U * B + V / B) Y
  have h3 := Nat.div_add_mod V B
  generalize (U * B + V / B) / Y = q1 at h1 ⊢
  generalize (U * B + V / B) % Y = r1 at h1 ⊢
  have h2 : U * (B * B) + V = (r1 * B + V % B) + Y * (q1 * B) := by
    have h4 : U * (B * B) + B * (V / B) = (U * B + V / B) * B := by rw [Nat.add_mul, Nat.mul_assoc, Nat.mul_comm B (V / B)]
    rw [← h1, Nat.add_mul, Nat.mul_assoc] at h4
    omega
  rw [h2, Nat.add_mul_div_left _ _ hY, Nat.add_mul_mod_self_left]
  exact ⟨Nat.add_comm _ _, rfl⟩

theorem wrapU (a : Nat) (h : a < 18446744073709551616) : IntKind.u64.wrap (a : Int) = (a : Int) := by rw [IntKind.wrap_u64]; omega
theorem wrapUM (a : Nat) : IntKind.u64.wrap (a : Int) = ((a % 18446744073709551616 : Nat) : Int) := by rw [IntKind.wrap_u64]; omega
theorem mask32 (a : Nat) (ha : a < 18446744073709551616) : bits .and .u64 (a : Int) 4294967295 = ((a % 4294967296 : Nat) : Int) := by
  have h := bits_and_u64_nat a 4294967295 ha (by omega)
  have e : a &&& 4294967295 = a % 4294967296 := Nat.and_two_pow_sub_one_eq_mod a 32
  rw [e] at h
  exact h
theorem or_low {a b s : Nat} (hb : b < 2 ^ s) (h1 : a * 2 ^ s < 18446744073709551616) (h2 : b < 18446744073709551616) : bits .or .u64 ((a * 2 ^ s : Nat) : Int) (b : Int) = ((a * 2 ^ s + b : Nat) : Int) := by
  rw [bits_or_u64_nat _ _ h1 h2, Nat.mul_comm a, Nat.two_pow_add_eq_or_of_lt hb]
theorem u64_sub (A B C R q : Nat) (hA : A * 4294967296 + B = C + R) (hC : C = q) (hR : R < 18446744073709551616) :
    IntKind.u64.wrap (IntKind.u64.wrap (IntKind.u64.wrap ((A : Int) * 4294967296) + (B : Int)) - IntKind.u64.wrap ((C : Nat) : Int)) = (R : Int) := by
  simp only [IntKind.wrap_u64]
  omega
theorem div_mod_sum (A Y : Nat) : A = A / Y * Y + A % Y := by rw [Nat.mul_comm]; exact (Nat.div_add_mod A Y).symm
theorem ret_q2 {a b c : Int} (h : a = b) : Ending.returned (.tuple #[.int .u64 a, .int .u64 c]) = .returned (.tuple #[.int .u64 b, .int .u64 c]) := by rw [h]
theorem ret_quo {a b c d : Nat} (h1 : a = c) (h2 : b = d) : Ending.returned (.tuple #[.int .u64 (a : Int), .int .u64 (b : Int)]) = .returned (.tuple #[.int .u64 (c : Int), .int .u64 (d : Int)]) := by rw [h1, h2]

set_option maxHeartbeats 2000000 in
theorem div64_core (hi lo y s U V Y Y1 Y0 : Nat) (w : World)
    (h0 : 0 < hi) (hhy : hi < y) (hy64 : y < 18446744073709551616) (hlo : lo < 18446744073709551616)
    (hsh : (hi * 18446744073709551616 + lo) * 2 ^ s = U * 18446744073709551616 + V) (hYY : Y = y * 2 ^ s) (hY1 : Y1 = Y / 4294967296) (hY0 : Y0 = Y % 4294967296)
    (hYb : 9223372036854775808 ≤ Y) (hYt : Y < 18446744073709551616) (hUY : U < Y) (hV : V < 18446744073709551616)
    (fs : IntKind.u64.wrap ((y : Int) * 2 ^ s) = (Y : Int)) (fU : bits .or .u64 (IntKind.u64.wrap ((hi : Int) * 2 ^ s)) ((lo : Int) / 2 ^ (64 - s)) = (U : Int)) (fV : IntKind.u64.wrap ((lo : Int) * 2 ^ s) = (V : Int))
    (hs64 : s < 64)
    (HL : Hid (Calls Tryd.prog 101 #[.int .u64 (y : Int)] w fun e w' => e = .returned (.int .i64 (s : Int)) ∧ w' = w)) :
    Calls Tryd.prog 91 #[.int .u64 (hi : Int), .int .u64 (lo : Int), .int .u64 (y : Int)] w fun e w' => e = .returned (.tuple #[.int .u64 (((hi * 18446744073709551616 + lo) / y : Nat) : Int), .int .u64 (((hi * 18446744073709551616 + lo) % y : Nat) : Int)]) ∧ w = w' := by
  have hy0 : ((y : Int) == 0) = false := by rw [beq_eq_false_iff_ne]; omega
  have hh0 : ((hi : Int) == 0) = false := by rw [beq_eq_false_iff_ne]; omega
  have hhy' : ¬ (y : Int) ≤ (hi : Int) := by omega
  have hYs : Y1 * 4294967296 + Y0 = Y := by omega
  have b1 : 2147483648 ≤ Y1 := by omega
  have b2 : Y1 < 4294967296 := by omega
  have b3 : Y0 < 4294967296 := by omega
  have f1 : (Y : Int) / 4294967296 = (Y1 : Int) := by omega
  have f0 : bits .and .u64 (Y : Int) 4294967295 = (Y0 : Int) := by rw [mask32 Y hYt, hY0]
  obtain ⟨V1, hV1⟩ : ∃ V1, V1 = V / 4294967296 := ⟨_, rfl⟩
  obtain ⟨V0, hV0⟩ : ∃ V0, V0 = V % 4294967296 := ⟨_, rfl⟩
  have g1 : (V : Int) / 4294967296 = (V1 : Int) := by omega
  have g0 : bits .and .u64 (V : Int) 4294967295 = (V0 : Int) := by rw [mask32 V hV, hV0]
  have c1 : V1 < 4294967296 := by omega
  have c0 : V0 < 4294967296 := by omega
  have hY1z : ¬ (Y1 : Int) = 0 := by omega
  obtain ⟨U2, hU2⟩ : ∃ U2, U2 = (U * 4294967296 + V1) % Y := ⟨_, rfl⟩
  obtain ⟨T1, hT1⟩ : ∃ T1, T1 = (U * 4294967296 + V1) / Y := ⟨_, rfl⟩
  obtain ⟨T0, hT0⟩ : ∃ T0, T0 = (U2 * 4294967296 + V0) / Y := ⟨_, rfl⟩
  obtain ⟨RR, hRR⟩ : ∃ RR, RR = (U2 * 4294967296 + V0) % Y := ⟨_, rfl⟩
  have hU2Y : U2 < Y := by rw [hU2]; exact Nat.mod_lt _ (by omega)
  have hRRY : RR < Y := by rw [hRR]; exact Nat.mod_lt _ (by omega)
  have hT1b : T1 < 4294967296 := by rw [hT1]; exact kn_lt hUY c1
  have hT0b : T0 < 4294967296 := by rw [hT0]; exact kn_lt hU2Y c0
  have k1 := kn_start (u := U) (w := V1) (Y1 := Y1) (Y0 := Y0) (by omega) b1 b3 c1
  have k0 := kn_start (u := U2) (w := V0) (Y1 := Y1) (Y0 := Y0) (by omega) b1 b3 c0
  rw [hYs, ← hT1] at k1
  rw [hYs, ← hT0] at k0
  obtain ⟨Q1, hQ1⟩ : ∃ Q1, Q1 = U / Y1 := ⟨_, rfl⟩
  obtain ⟨Q0, hQ0⟩ : ∃ Q0, Q0 = U2 / Y1 := ⟨_, rfl⟩
  obtain ⟨R1, hR1⟩ : ∃ R1, R1 = U % Y1 := ⟨_, rfl⟩
  obtain ⟨R0, hR0⟩ : ∃ R0, R0 = U2 % Y1 := ⟨_, rfl⟩
  have d1 : Q1 * Y1 + R1 = U := by rw [hQ1, hR1, Nat.mul_comm]; exact Nat.div_add_mod _ _
  have d0 : Q0 * Y1 + R0 = U2 := by rw [hQ0, hR0, Nat.mul_comm]; exact Nat.div_add_mod _ _
  have r1 : R1 < Y1 := by rw [hR1]; exact Nat.mod_lt _ (by omega)
  have r0 : R0 < Y1 := by rw [hR0]; exact Nat.mod_lt _ (by omega)
  rw [← hQ1] at k1
  rw [← hQ0] at k0
  have fq1 : ((U : Int)).tdiv (Y1 : Int) = (Q1 : Int) := by rw [hQ1]; exact (Int.ofNat_tdiv U Y1).symm
  have fq0 : ((U2 : Int)).tdiv (Y1 : Int) = (Q0 : Int) := by rw [hQ0]; exact (Int.ofNat_tdiv U2 Y1).symm
  have fw1 := wrapU Q1 (by omega)
  have fw0 := wrapU Q0 (by omega)
  have fm1 : (Q1 : Int) * (Y1 : Int) = ((Q1 * Y1 : Nat) : Int) := (Int.natCast_mul _ _).symm
  have fm0 : (Q0 : Int) * (Y1 : Int) = ((Q0 * Y1 : Nat) : Int) := (Int.natCast_mul _ _).symm
  have fr1 : IntKind.u64.wrap ((U : Int) - IntKind.u64.wrap ((Q1 : Int) * (Y1 : Int))) = (R1 : Int) := by
    rw [fm1, wrapU _ (by omega), show (U : Int) - ((Q1 * Y1 : Nat) : Int) = (R1 : Int) by omega]
    exact wrapU _ (by omega)
  have fr0 : IntKind.u64.wrap ((U2 : Int) - IntKind.u64.wrap ((Q0 : Int) * (Y1 : Int))) = (R0 : Int) := by
    rw [fm0, wrapU _ (by omega), show (U2 : Int) - ((Q0 * Y1 : Nat) : Int) = (R0 : Int) by omega]
    exact wrapU _ (by omega)
  have e1 : U * 4294967296 + V1 = T1 * Y + U2 := by rw [hT1, hU2]; exact div_mod_sum _ _
  have e0 : U2 * 4294967296 + V0 = T0 * Y + RR := by rw [hT0, hRR]; exact div_mod_sum _ _
  have fu2 : IntKind.u64.wrap (IntKind.u64.wrap (IntKind.u64.wrap ((U : Int) * 4294967296) + (V1 : Int)) - IntKind.u64.wrap ((T1 : Int) * (Y : Int))) = (U2 : Int) := by
    rw [← Int.natCast_mul]; exact u64_sub U V1 (T1 * Y) U2 _ e1 rfl (by omega)
  have frr : IntKind.u64.wrap (IntKind.u64.wrap (IntKind.u64.wrap ((U2 : Int) * 4294967296) + (V0 : Int)) - IntKind.u64.wrap ((T0 : Int) * (Y : Int))) = (RR : Int) := by
    rw [← Int.natCast_mul]; exact u64_sub U2 V0 (T0 * Y) RR _ e0 rfl (by omega)
  have HQ : Hid (T1 * 4294967296 + T0 = (hi * 18446744073709551616 + lo) / y) := by
    refine Lib.hid ?_
    have h1 := (two_digits (U := U) (V := V) (Y := Y) (B := 4294967296) (by omega)).1
    rw [← hV1, ← hV0, ← hU2, ← hT1, ← hT0] at h1
    rw [← h1, show U * (4294967296 * 4294967296) + V = (hi * 18446744073709551616 + lo) * 2 ^ s from hsh.symm, hYY]
    exact Nat.mul_div_mul_right _ _ (Nat.two_pow_pos s)
  have HR : Hid (RR / 2 ^ s = (hi * 18446744073709551616 + lo) % y) := by
    refine Lib.hid ?_
    have h1 := (two_digits (U := U) (V := V) (Y := Y) (B := 4294967296) (by omega)).2
    rw [← hV1, ← hV0, ← hU2, ← hRR] at h1
    rw [← h1, show U * (4294967296 * 4294967296) + V = (hi * 18446744073709551616 + lo) * 2 ^ s from hsh.symm, hYY, Nat.mul_mod_mul_right, Nat.mul_div_cancel _ (Nat.two_pow_pos s)]
  obtain ⟨QUO, hQUO⟩ : ∃ Q, Q = (hi * 18446744073709551616 + lo) / y := ⟨_, rfl⟩
  obtain ⟨REM, hREM⟩ : ∃ R, R = (hi * 18446744073709551616 + lo) % y := ⟨_, rfl⟩
  rw [← hQUO, ← hREM]
  rw [← hQUO] at HQ
  rw [← hREM] at HR
  have HQI : Hid ((T1 : Int) * 4294967296 + (T0 : Int) = (QUO : Int)) := Lib.hid (by rw [← HQ.out]; omega)
  have frs : (RR : Int) / 2 ^ s = (REM : Int) := by
    rw [← HR.out, Int.natCast_ediv, Int.natCast_pow]; rfl
  have KT1 : Hid (∀ q r, q * Y1 + r = U → (4294967296 ≤ q ∨ 4294967296 * r + V1 < q * Y0) → T1 < q) := Lib.hid (fun q r h hc => by rw [hT1, ← hYs]; exact kn_true h (by omega) c1 hc)
  have KF1 : Hid (∀ q r, q * Y1 + r = U → T1 ≤ q → q * Y0 ≤ 4294967296 * r + V1 → q = T1) := Lib.hid (fun q r h ht hc => by rw [hT1, ← hYs] at ht ⊢; exact kn_false h (by omega) ht hc)
  have KT0 : Hid (∀ q r, q * Y1 + r = U2 → (4294967296 ≤ q ∨ 4294967296 * r + V0 < q * Y0) → T0 < q) := Lib.hid (fun q r h hc => by rw [hT0, ← hYs]; exact kn_true h (by omega) c0 hc)
  have KF0 : Hid (∀ q r, q * Y1 + r = U2 → T0 ≤ q → q * Y0 ≤ 4294967296 * r + V0 → q = T0) := Lib.hid (fun q r h ht hc => by rw [hT0, ← hYs] at ht ⊢; exact kn_false h (by omega) ht hc)
  have D1 := Lib.hid d1
  have D0 := Lib.hid d0
  have hT1Q := k1.1
  have hQ1b := k1.2
  have hT0Q := k0.1
  have hQ0b := k0.2
  clear hsh hQUO hREM HQ HR hYY hY1 hY0 hV1 hV0 hU2 hT1 hT0 hRR hQ1 hQ0 hR1 hR0 d1 d0 k1 k0 e1 e0 fm1 fm0 hYs
  go_enter Tryd.func91, Tryd.ntmps91
  go_wp2_with fail
  refine HL.out.mono ?_
  rintro e w1 ⟨rfl, rfl⟩
  go_wp2_with fail
  go_loop [15, 16] (fun a b => ∃ q r : Nat, a = .int .u64 (q : Int) ∧ b = .int .u64 (r : Int) ∧ q * Y1 + r = U ∧ T1 ≤ q ∧ q ≤ 4294967297 ∧ r < 4294967296) (fun a _ => (intOf a).toNat)
  case atStart => exact ⟨Q1, R1, rfl, rfl, D1.out, hT1Q, hQ1b, by omega⟩
  case round =>
    obtain ⟨q, r, rfl, rfl, hqr, htq, hqb, hrb⟩ := hrel
    by_cases c : 4294967296 ≤ q
    · have ci : (4294967296 : Int) ≤ (q : Int) := by omega
      skip
      have hlt := KT1.out q r hqr (.inl c)
      obtain ⟨q', hq'⟩ : ∃ q', q' = q - 1 := ⟨_, rfl⟩
      obtain ⟨r', hr'⟩ : ∃ r', r' = r + Y1 := ⟨_, rfl⟩
      have hnx : q' * Y1 + r' = U := by
        have hq1 : q = q' + 1 := by omega
        rw [hq1, Nat.add_mul, Nat.one_mul] at hqr
        omega
      have w1 : IntKind.u64.wrap ((q : Int) - 1) = (q' : Int) := by simp only [IntKind.wrap_u64]; omega
      have w2 : IntKind.u64.wrap ((r : Int) + (Y1 : Int)) = (r' : Int) := by simp only [IntKind.wrap_u64]; omega
      by_cases cb : 4294967296 ≤ r'
      · have cbi : (4294967296 : Int) ≤ (r' : Int) := by omega
        have hfin : q' = T1 := KF1.out q' r' hnx (by omega) (kn_break (by omega) b3 cb)
        subst hfin
        clear hlt hnx hq' hr' htq hqr
        go_wp2_with fail
        go_loop [16, 18] (fun b a => ∃ q r : Nat, a = .int .u64 (q : Int) ∧ b = .int .u64 (r : Int) ∧ q * Y1 + r = U2 ∧ T0 ≤ q ∧ q ≤ 4294967297 ∧ r < 4294967296) (fun _ a => (intOf a).toNat)
        case atStart => exact ⟨Q0, R0, rfl, rfl, D0.out, hT0Q, hQ0b, by omega⟩
        case round =>
          obtain ⟨q, r, rfl, rfl, hqr, htq, hqb, hrb⟩ := hrel
          by_cases c : 4294967296 ≤ q
          · have ci : (4294967296 : Int) ≤ (q : Int) := by omega
            skip
            have hlt := KT0.out q r hqr (.inl c)
            obtain ⟨q', hq'⟩ : ∃ q', q' = q - 1 := ⟨_, rfl⟩
            obtain ⟨r', hr'⟩ : ∃ r', r' = r + Y1 := ⟨_, rfl⟩
            have hnx : q' * Y1 + r' = U2 := by
              have hq1 : q = q' + 1 := by omega
              rw [hq1, Nat.add_mul, Nat.one_mul] at hqr
              omega
            have w1 : IntKind.u64.wrap ((q : Int) - 1) = (q' : Int) := by simp only [IntKind.wrap_u64]; omega
            have w2 : IntKind.u64.wrap ((r : Int) + (Y1 : Int)) = (r' : Int) := by simp only [IntKind.wrap_u64]; omega
            by_cases cb : 4294967296 ≤ r'
            · have cbi : (4294967296 : Int) ≤ (r' : Int) := by omega
              have hfin : q' = T0 := KF0.out q' r' hnx (by omega) (kn_break (by omega) b3 cb)
              subst hfin
              clear hlt hnx hq' hr' htq hqr
              go_wp2_with fail
              go_ret2
              exact ⟨ret_q2 HQI.out, rfl⟩
            · have cbi : ¬ (4294967296 : Int) ≤ (r' : Int) := by omega
              have HX := Lib.hid (And.intro hnx (And.intro (show T0 ≤ q' by omega) (show q' < q by omega)))
              have hq'b : q' ≤ 4294967297 := by omega
              clear hlt hnx hq' hr' htq hqr
              go_wp2_with fail
              go_round
              case rel => exact ⟨q', r', rfl, rfl, HX.out.1, HX.out.2.1, hq'b, by omega⟩
              case measure => have := HX.out.2.2; simp [intOf]; omega
          · have ci : ¬ (4294967296 : Int) ≤ (q : Int) := by omega
            obtain ⟨M, hM⟩ : ∃ M, M = q * Y0 := ⟨_, rfl⟩
            obtain ⟨N1, hN1⟩ : ∃ N1, N1 = 4294967296 * r := ⟨_, rfl⟩
            obtain ⟨N2, hN2⟩ : ∃ N2, N2 = N1 + V0 := ⟨_, rfl⟩
            have hMb : M < 18446744073709551616 := by
              rw [hM]
              exact Nat.lt_of_le_of_lt (Nat.mul_le_mul (show q ≤ 4294967295 by omega) (show Y0 ≤ 4294967295 by omega)) (by decide)
            have wm1 : IntKind.u64.wrap ((q : Int) * (Y0 : Int)) = (M : Int) := by rw [← Int.natCast_mul, ← hM]; exact wrapU M hMb
            have wm2 : IntKind.u64.wrap (4294967296 * (r : Int)) = (N1 : Int) := by simp only [IntKind.wrap_u64]; omega
            have wm3 : IntKind.u64.wrap ((N1 : Int) + (V0 : Int)) = (N2 : Int) := by simp only [IntKind.wrap_u64]; omega
            by_cases c2 : N2 < M
            · have c2i : (N2 : Int) < (M : Int) := by omega
              have c2n : 4294967296 * r + V0 < q * Y0 := by omega
              clear hM hN1 hN2
              skip
              have hlt := KT0.out q r hqr (.inr c2n)
              obtain ⟨q', hq'⟩ : ∃ q', q' = q - 1 := ⟨_, rfl⟩
              obtain ⟨r', hr'⟩ : ∃ r', r' = r + Y1 := ⟨_, rfl⟩
              have hnx : q' * Y1 + r' = U2 := by
                have hq1 : q = q' + 1 := by omega
                rw [hq1, Nat.add_mul, Nat.one_mul] at hqr
                omega
              have w1 : IntKind.u64.wrap ((q : Int) - 1) = (q' : Int) := by simp only [IntKind.wrap_u64]; omega
              have w2 : IntKind.u64.wrap ((r : Int) + (Y1 : Int)) = (r' : Int) := by simp only [IntKind.wrap_u64]; omega
              by_cases cb : 4294967296 ≤ r'
              · have cbi : (4294967296 : Int) ≤ (r' : Int) := by omega
                have hfin : q' = T0 := KF0.out q' r' hnx (by omega) (kn_break (by omega) b3 cb)
                subst hfin
                clear hlt hnx hq' hr' htq hqr
                go_wp2_with fail
                go_ret2
                exact ⟨ret_q2 HQI.out, rfl⟩
              · have cbi : ¬ (4294967296 : Int) ≤ (r' : Int) := by omega
                have HX := Lib.hid (And.intro hnx (And.intro (show T0 ≤ q' by omega) (show q' < q by omega)))
                have hq'b : q' ≤ 4294967297 := by omega
                clear hlt hnx hq' hr' htq hqr
                go_wp2_with fail
                go_round
                case rel => exact ⟨q', r', rfl, rfl, HX.out.1, HX.out.2.1, hq'b, by omega⟩
                case measure => have := HX.out.2.2; simp [intOf]; omega
            · have c2i : ¬ (N2 : Int) < (M : Int) := by omega
              have hfin : q = T0 := KF0.out q r hqr htq (by omega)
              clear hM hN1 hN2
              subst hfin
              clear htq hqr
              go_wp2_with fail
              go_ret2
              exact ⟨ret_q2 HQI.out, rfl⟩
      · have cbi : ¬ (4294967296 : Int) ≤ (r' : Int) := by omega
        have HX := Lib.hid (And.intro hnx (And.intro (show T1 ≤ q' by omega) (show q' < q by omega)))
        have hq'b : q' ≤ 4294967297 := by omega
        clear hlt hnx hq' hr' htq hqr
        go_wp2_with fail
        go_round
        case rel => exact ⟨q', r', rfl, rfl, HX.out.1, HX.out.2.1, hq'b, by omega⟩
        case measure => have := HX.out.2.2; simp [intOf]; omega
    · have ci : ¬ (4294967296 : Int) ≤ (q : Int) := by omega
      obtain ⟨M, hM⟩ : ∃ M, M = q * Y0 := ⟨_, rfl⟩
      obtain ⟨N1, hN1⟩ : ∃ N1, N1 = 4294967296 * r := ⟨_, rfl⟩
      obtain ⟨N2, hN2⟩ : ∃ N2, N2 = N1 + V1 := ⟨_, rfl⟩
      have hMb : M < 18446744073709551616 := by
        rw [hM]
        exact Nat.lt_of_le_of_lt (Nat.mul_le_mul (show q ≤ 4294967295 by omega) (show Y0 ≤ 4294967295 by omega)) (by decide)
      have wm1 : IntKind.u64.wrap ((q : Int) * (Y0 : Int)) = (M : Int) := by rw [← Int.natCast_mul, ← hM]; exact wrapU M hMb
      have wm2 : IntKind.u64.wrap (4294967296 * (r : Int)) = (N1 : Int) := by simp only [IntKind.wrap_u64]; omega
      have wm3 : IntKind.u64.wrap ((N1 : Int) + (V1 : Int)) = (N2 : Int) := by simp only [IntKind.wrap_u64]; omega
      by_cases c2 : N2 < M
      · have c2i : (N2 : Int) < (M : Int) := by omega
        have c2n : 4294967296 * r + V1 < q * Y0 := by omega
        clear hM hN1 hN2
        skip
        have hlt := KT1.out q r hqr (.inr c2n)
        obtain ⟨q', hq'⟩ : ∃ q', q' = q - 1 := ⟨_, rfl⟩
        obtain ⟨r', hr'⟩ : ∃ r', r' = r + Y1 := ⟨_, rfl⟩
        have hnx : q' * Y1 + r' = U := by
          have hq1 : q = q' + 1 := by omega
          rw [hq1, Nat.add_mul, Nat.one_mul] at hqr
          omega
        have w1 : IntKind.u64.wrap ((q : Int) - 1) = (q' : Int) := by simp only [IntKind.wrap_u64]; omega
        have w2 : IntKind.u64.wrap ((r : Int) + (Y1 : Int)) = (r' : Int) := by simp only [IntKind.wrap_u64]; omega
        by_cases cb : 4294967296 ≤ r'
        · have cbi : (4294967296 : Int) ≤ (r' : Int) := by omega
          have hfin : q' = T1 := KF1.out q' r' hnx (by omega) (kn_break (by omega) b3 cb)
          subst hfin
          clear hlt hnx hq' hr' htq hqr
          go_wp2_with fail
          go_loop [16, 18] (fun b a => ∃ q r : Nat, a = .int .u64 (q : Int) ∧ b = .int .u64 (r : Int) ∧ q * Y1 + r = U2 ∧ T0 ≤ q ∧ q ≤ 4294967297 ∧ r < 4294967296) (fun _ a => (intOf a).toNat)
          case atStart => exact ⟨Q0, R0, rfl, rfl, D0.out, hT0Q, hQ0b, by omega⟩
          case round =>
            obtain ⟨q, r, rfl, rfl, hqr, htq, hqb, hrb⟩ := hrel
            by_cases c : 4294967296 ≤ q
            · have ci : (4294967296 : Int) ≤ (q : Int) := by omega
              skip
              have hlt := KT0.out q r hqr (.inl c)
              obtain ⟨q', hq'⟩ : ∃ q', q' = q - 1 := ⟨_, rfl⟩
              obtain ⟨r', hr'⟩ : ∃ r', r' = r + Y1 := ⟨_, rfl⟩
              have hnx : q' * Y1 + r' = U2 := by
                have hq1 : q = q' + 1 := by omega
                rw [hq1, Nat.add_mul, Nat.one_mul] at hqr
                omega
              have w1 : IntKind.u64.wrap ((q : Int) - 1) = (q' : Int) := by simp only [IntKind.wrap_u64]; omega
              have w2 : IntKind.u64.wrap ((r : Int) + (Y1 : Int)) = (r' : Int) := by simp only [IntKind.wrap_u64]; omega
              by_cases cb : 4294967296 ≤ r'
              · have cbi : (4294967296 : Int) ≤ (r' : Int) := by omega
                have hfin : q' = T0 := KF0.out q' r' hnx (by omega) (kn_break (by omega) b3 cb)
                subst hfin
                clear hlt hnx hq' hr' htq hqr
                go_wp2_with fail
                go_ret2
                exact ⟨ret_q2 HQI.out, rfl⟩
              · have cbi : ¬ (4294967296 : Int) ≤ (r' : Int) := by omega
                have HX := Lib.hid (And.intro hnx (And.intro (show T0 ≤ q' by omega) (show q' < q by omega)))
                have hq'b : q' ≤ 4294967297 := by omega
                clear hlt hnx hq' hr' htq hqr
                go_wp2_with fail
                go_round
                case rel => exact ⟨q', r', rfl, rfl, HX.out.1, HX.out.2.1, hq'b, by omega⟩
                case measure => have := HX.out.2.2; simp [intOf]; omega
            · have ci : ¬ (4294967296 : Int) ≤ (q : Int) := by omega
              obtain ⟨M, hM⟩ : ∃ M, M = q * Y0 := ⟨_, rfl⟩
              obtain ⟨N1, hN1⟩ : ∃ N1, N1 = 4294967296 * r := ⟨_, rfl⟩
              obtain ⟨N2, hN2⟩ : ∃ N2, N2 = N1 + V0 := ⟨_, rfl⟩
              have hMb : M < 18446744073709551616 := by
                rw [hM]
                exact Nat.lt_of_le_of_lt (Nat.mul_le_mul (show q ≤ 4294967295 by omega) (show Y0 ≤ 4294967295 by omega)) (by decide)
              have wm1 : IntKind.u64.wrap ((q : Int) * (Y0 : Int)) = (M : Int) := by rw [← Int.natCast_mul, ← hM]; exact wrapU M hMb
              have wm2 : IntKind.u64.wrap (4294967296 * (r : Int)) = (N1 : Int) := by simp only [IntKind.wrap_u64]; omega
              have wm3 : IntKind.u64.wrap ((N1 : Int) + (V0 : Int)) = (N2 : Int) := by simp only [IntKind.wrap_u64]; omega
              by_cases c2 : N2 < M
              · have c2i : (N2 : Int) < (M : Int) := by omega
                have c2n : 4294967296 * r + V0 < q * Y0 := by omega
                clear hM hN1 hN2
                skip
                have hlt := KT0.out q r hqr (.inr c2n)
                obtain ⟨q', hq'⟩ : ∃ q', q' = q - 1 := ⟨_, rfl⟩
                obtain ⟨r', hr'⟩ : ∃ r', r' = r + Y1 := ⟨_, rfl⟩
                have hnx : q' * Y1 + r' = U2 := by
                  have hq1 : q = q' + 1 := by omega
                  rw [hq1, Nat.add_mul, Nat.one_mul] at hqr
                  omega
                have w1 : IntKind.u64.wrap ((q : Int) - 1) = (q' : Int) := by simp only [IntKind.wrap_u64]; omega
                have w2 : IntKind.u64.wrap ((r : Int) + (Y1 : Int)) = (r' : Int) := by simp only [IntKind.wrap_u64]; omega
                by_cases cb : 4294967296 ≤ r'
                · have cbi : (4294967296 : Int) ≤ (r' : Int) := by omega
                  have hfin : q' = T0 := KF0.out q' r' hnx (by omega) (kn_break (by omega) b3 cb)
                  subst hfin
                  clear hlt hnx hq' hr' htq hqr
                  go_wp2_with fail
                  go_ret2
                  exact ⟨ret_q2 HQI.out, rfl⟩
                · have cbi : ¬ (4294967296 : Int) ≤ (r' : Int) := by omega
                  have HX := Lib.hid (And.intro hnx (And.intro (show T0 ≤ q' by omega) (show q' < q by omega)))
                  have hq'b : q' ≤ 4294967297 := by omega
                  clear hlt hnx hq' hr' htq hqr
                  go_wp2_with fail
                  go_round
                  case rel => exact ⟨q', r', rfl, rfl, HX.out.1, HX.out.2.1, hq'b, by omega⟩
                  case measure => have := HX.out.2.2; simp [intOf]; omega
              · have c2i : ¬ (N2 : Int) < (M : Int) := by omega
                have hfin : q = T0 := KF0.out q r hqr htq (by omega)
                clear hM hN1 hN2
                subst hfin
                clear htq hqr
                go_wp2_with fail
                go_ret2
                exact ⟨ret_q2 HQI.out, rfl⟩
        · have cbi : ¬ (4294967296 : Int) ≤ (r' : Int) := by omega
          have HX := Lib.hid (And.intro hnx (And.intro (show T1 ≤ q' by omega) (show q' < q by omega)))
          have hq'b : q' ≤ 4294967297 := by omega
          clear hlt hnx hq' hr' htq hqr
          go_wp2_with fail
          go_round
          case rel => exact ⟨q', r', rfl, rfl, HX.out.1, HX.out.2.1, hq'b, by omega⟩
          case measure => have := HX.out.2.2; simp [intOf]; omega
      · have c2i : ¬ (N2 : Int) < (M : Int) := by omega
        have hfin : q = T1 := KF1.out q r hqr htq (by omega)
        clear hM hN1 hN2
        subst hfin
        clear htq hqr
        go_wp2_with fail
        go_loop [16, 18] (fun b a => ∃ q r : Nat, a = .int .u64 (q : Int) ∧ b = .int .u64 (r : Int) ∧ q * Y1 + r = U2 ∧ T0 ≤ q ∧ q ≤ 4294967297 ∧ r < 4294967296) (fun _ a => (intOf a).toNat)
        case atStart => exact ⟨Q0, R0, rfl, rfl, D0.out, hT0Q, hQ0b, by omega⟩
        case round =>
          obtain ⟨q, r, rfl, rfl, hqr, htq, hqb, hrb⟩ := hrel
          by_cases c : 4294967296 ≤ q
          · have ci : (4294967296 : Int) ≤ (q : Int) := by omega
            skip
            have hlt := KT0.out q r hqr (.inl c)
            obtain ⟨q', hq'⟩ : ∃ q', q' = q - 1 := ⟨_, rfl⟩
            obtain ⟨r', hr'⟩ : ∃ r', r' = r + Y1 := ⟨_, rfl⟩
            have hnx : q' * Y1 + r' = U2 := by
              have hq1 : q = q' + 1 := by omega
              rw [hq1, Nat.add_mul, Nat.one_mul] at hqr
              omega
            have w1 : IntKind.u64.wrap ((q : Int) - 1) = (q' : Int) := by simp only [IntKind.wrap_u64]; omega
            have w2 : IntKind.u64.wrap ((r : Int) + (Y1 : Int)) = (r' : Int) := by simp only [IntKind.wrap_u64]; omega
            by_cases cb : 4294967296 ≤ r'
            · have cbi : (4294967296 : Int) ≤ (r' : Int) := by omega
              have hfin : q' = T0 := KF0.out q' r' hnx (by omega) (kn_break (by omega) b3 cb)
              subst hfin
              clear hlt hnx hq' hr' htq hqr
              go_wp2_with fail
              go_ret2
              exact ⟨ret_q2 HQI.out, rfl⟩
            · have cbi : ¬ (4294967296 : Int) ≤ (r' : Int) := by omega
              have HX := Lib.hid (And.intro hnx (And.intro (show T0 ≤ q' by omega) (show q' < q by omega)))
              have hq'b : q' ≤ 4294967297 := by omega
              clear hlt hnx hq' hr' htq hqr
              go_wp2_with fail
              go_round
              case rel => exact ⟨q', r', rfl, rfl, HX.out.1, HX.out.2.1, hq'b, by omega⟩
              case measure => have := HX.out.2.2; simp [intOf]; omega
          · have ci : ¬ (4294967296 : Int) ≤ (q : Int) := by omega
            obtain ⟨M, hM⟩ : ∃ M, M = q * Y0 := ⟨_, rfl⟩
            obtain ⟨N1, hN1⟩ : ∃ N1, N1 = 4294967296 * r := ⟨_, rfl⟩
            obtain ⟨N2, hN2⟩ : ∃ N2, N2 = N1 + V0 := ⟨_, rfl⟩
            have hMb : M < 18446744073709551616 := by
              rw [hM]
              exact Nat.lt_of_le_of_lt (Nat.mul_le_mul (show q ≤ 4294967295 by omega) (show Y0 ≤ 4294967295 by omega)) (by decide)
            have wm1 : IntKind.u64.wrap ((q : Int) * (Y0 : Int)) = (M : Int) := by rw [← Int.natCast_mul, ← hM]; exact wrapU M hMb
            have wm2 : IntKind.u64.wrap (4294967296 * (r : Int)) = (N1 : Int) := by simp only [IntKind.wrap_u64]; omega
            have wm3 : IntKind.u64.wrap ((N1 : Int) + (V0 : Int)) = (N2 : Int) := by simp only [IntKind.wrap_u64]; omega
            by_cases c2 : N2 < M
            · have c2i : (N2 : Int) < (M : Int) := by omega
              have c2n : 4294967296 * r + V0 < q * Y0 := by omega
              clear hM hN1 hN2
              skip
              have hlt := KT0.out q r hqr (.inr c2n)
              obtain ⟨q', hq'⟩ : ∃ q', q' = q - 1 := ⟨_, rfl⟩
              obtain ⟨r', hr'⟩ : ∃ r', r' = r + Y1 := ⟨_, rfl⟩
              have hnx : q' * Y1 + r' = U2 := by
                have hq1 : q = q' + 1 := by omega
                rw [hq1, Nat.add_mul, Nat.one_mul] at hqr
                omega
              have w1 : IntKind.u64.wrap ((q : Int) - 1) = (q' : Int) := by simp only [IntKind.wrap_u64]; omega
              have w2 : IntKind.u64.wrap ((r : Int) + (Y1 : Int)) = (r' : Int) := by simp only [IntKind.wrap_u64]; omega
              by_cases cb : 4294967296 ≤ r'
              · have cbi : (4294967296 : Int) ≤ (r' : Int) := by omega
                have hfin : q' = T0 := KF0.out q' r' hnx (by omega) (kn_break (by omega) b3 cb)
                subst hfin
                clear hlt hnx hq' hr' htq hqr
                go_wp2_with fail
                go_ret2
                exact ⟨ret_q2 HQI.out, rfl⟩
              · have cbi : ¬ (4294967296 : Int) ≤ (r' : Int) := by omega
                have HX := Lib.hid (And.intro hnx (And.intro (show T0 ≤ q' by omega) (show q' < q by omega)))
                have hq'b : q' ≤ 4294967297 := by omega
                clear hlt hnx hq' hr' htq hqr
                go_wp2_with fail
                go_round
                case rel => exact ⟨q', r', rfl, rfl, HX.out.1, HX.out.2.1, hq'b, by omega⟩
                case measure => have := HX.out.2.2; simp [intOf]; omega
            · have c2i : ¬ (N2 : Int) < (M : Int) := by omega
              have hfin : q = T0 := KF0.out q r hqr htq (by omega)
              clear hM hN1 hN2
              subst hfin
              clear htq hqr
              go_wp2_with fail
              go_ret2
              exact ⟨ret_q2 HQI.out, rfl⟩
end Go.Proofs.YtnejpdlikdgnnaaDoor
