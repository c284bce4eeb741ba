/-
  'math/bits.Div64': the quotient and the remainder of a number of two words.
-/
import Derived.Test.YtennekieiioilaaGreatPkA
import Derived.Test.YtennekieiioilaaGreatShelf
import Derived.Outline
import Derived.IntWalk
import Derived.WalkSmall
import Derived.Lib.ItoaNum
import Derived.Laws.Bits64b
import Derived.Shelf.Spec.BitsCarry
namespace Go.Proofs.YtennekieiioilaaGreat
open Go.ChangeShapes Go.WideShapes Go.ChangeAt Go.RowKit
open Go.ChangeMaps (open_string shut_string)
set_option linter.unusedVariables false
set_option linter.unusedSimpArgs false
set_option maxRecDepth 4000

theorem kn_lt {u w Y : Nat} (hu : u < Y) (hw : w < 4294967296) : (u * 4294967296 + w) / Y < 4294967296 := by
  rw [Nat.div_lt_iff_lt_mul (by omega)]
  have : (u + 1) * 4294967296 ≤ Y * 4294967296 := Nat.mul_le_mul_right _ hu
  omega
theorem kn_start {u w Y1 Y0 : Nat} (hu : u < Y1 * 4294967296 + Y0) (hY1 : 2147483648 ≤ Y1) (hY0 : Y0 < 4294967296) (hw : w < 4294967296) :
    (u * 4294967296 + w) / (Y1 * 4294967296 + Y0) ≤ u / Y1 ∧ u / Y1 ≤ 4294967297 := by
  constructor
  · rw [Nat.le_div_iff_mul_le (by omega)]
    have h := Nat.div_mul_le_self (u * 4294967296 + w) (Y1 * 4294967296 + Y0)
    generalize (u * 4294967296 + w) / (Y1 * 4294967296 + Y0) = t at h ⊢
    rw [Nat.mul_add, ← Nat.mul_assoc] at h
    have : 0 ≤ t * Y0 := Nat.zero_le _
    omega
  · have : u / Y1 < 4294967298 := by
      rw [Nat.div_lt_iff_lt_mul (by omega)]
      omega
    omega
theorem kn_split {q Y1 Y0 : Nat} : q * (Y1 * 4294967296 + Y0) = q * Y1 * 4294967296 + q * Y0 := by rw [Nat.mul_add, Nat.mul_assoc]
theorem kn_true {u w q r Y1 Y0 : Nat} (h : q * Y1 + r = u) (hu : u < Y1 * 4294967296 + Y0) (hw : w < 4294967296) (hc : 4294967296 ≤ q ∨ 4294967296 * r + w < q * Y0) :
    (u * 4294967296 + w) / (Y1 * 4294967296 + Y0) < q := by
  rcases hc with hc | hc
  · exact Nat.lt_of_lt_of_le (kn_lt hu hw) hc
  · rw [Nat.div_lt_iff_lt_mul (by omega), kn_split]
    omega
theorem kn_false {u w q r Y1 Y0 : Nat} (h : q * Y1 + r = u) (hY : 0 < Y1) (ht : (u * 4294967296 + w) / (Y1 * 4294967296 + Y0) ≤ q) (hc : q * Y0 ≤ 4294967296 * r + w) :
    q = (u * 4294967296 + w) / (Y1 * 4294967296 + Y0) := by
  refine Nat.le_antisymm ?_ ht
  rw [Nat.le_div_iff_mul_le (by omega), kn_split]
  omega
theorem kn_break {w q r Y0 : Nat} (hq : q ≤ 4294967296) (hY0 : Y0 < 4294967296) (hr : 4294967296 ≤ r) : q * Y0 ≤ 4294967296 * r + w := by
  have h1 : q * Y0 ≤ 4294967296 * 4294967296 := Nat.mul_le_mul hq (by omega)
  omega
/-- The number laid into two words, shifted. -/
theorem shifted {hi lo P P' C : Nat} (hP : P * P' = C) (hP0 : 0 < P) (hP0' : 0 < P') :
    (hi * C + lo) * P = (hi * P + lo / P') * C + lo * P % C := by
  have h1 := Nat.div_add_mod lo P'
  have h2 : lo * P = lo / P' * C + lo % P' * P := by
    conv => lhs; rw [← h1]
    rw [Nat.add_mul, ← hP, Nat.mul_comm P' (lo / P'), Nat.mul_assoc, Nat.mul_comm P' P]
  have h3 : lo % P' * P < C := by
    rw [← hP, Nat.mul_comm P]
    exact Nat.mul_lt_mul_of_pos_right (Nat.mod_lt _ hP0') hP0
  have h4 : lo * P % C = lo % P' * P := by rw [h2, Nat.add_comm, Nat.add_mul_mod_self_right, Nat.mod_eq_of_lt h3]
  rw [Nat.add_mul, h4, Nat.add_mul, h2, Nat.mul_right_comm hi, Nat.add_assoc]
theorem two_digits {U V Y B : Nat} (hY : 0 < Y) : (U * (B * B) + V) / Y = (U * B + V / B) / Y * B + ((U * B + V / B) % Y * B + V % B) / Y ∧
    (U * (B * B) + V) % Y = ((U * B + V / B) % Y * B + V % B) % Y := by
  have h1 := Nat.div_add_mod (U * B + V / B) Y
  have h3 := Nat.div_add_mod V B
  generalize (U * B + V / B) / Y = q1 at h1 ⊢
  generalize (U * B + V / B) % Y = r1 at h1 ⊢
  have h2 : U * (B * B) + V = (r1 * B + V % B) + Y * (q1 * B) := by
    have h4 : U * (B * B) + B * (V / B) = (U * B + V / B) * B := by rw [Nat.add_mul, Nat.mul_assoc, Nat.mul_comm B (V / B)]
    rw [← h1, Nat.add_mul, Nat.mul_assoc] at h4
    omega
  rw [h2, Nat.add_mul_div_left _ _ hY, Nat.add_mul_mod_self_left]
  exact ⟨Nat.add_comm _ _, rfl⟩

theorem wrapU (a : Nat) (h : a < 18446744073709551616) : IntKind.u64.wrap (a : Int) = (a : Int) := by rw [IntKind.wrap_u64]; omega
theorem wrapUM (a : Nat) : IntKind.u64.wrap (a : Int) = ((a % 18446744073709551616 : Nat) : Int) := by rw [IntKind.wrap_u64]; omega
theorem mask32 (a : Nat) (ha : a < 18446744073709551616) : bits .and .u64 (a : Int) 4294967295 = ((a % 4294967296 : Nat) : Int) := by
  have h := bits_and_u64_nat a 4294967295 ha (by omega)
  have e : a &&& 4294967295 = a % 4294967296 := Nat.and_two_pow_sub_one_eq_mod a 32
  rw [e] at h
  exact h
theorem or_low {a b s : Nat} (hb : b < 2 ^ s) (h1 : a * 2 ^ s < 18446744073709551616) (h2 : b < 18446744073709551616) : bits .or .u64 ((a * 2 ^ s : Nat) : Int) (b : Int) = ((a * 2 ^ s + b : Nat) : Int) := by
  rw [bits_or_u64_nat _ _ h1 h2, Nat.mul_comm a, Nat.two_pow_add_eq_or_of_lt hb]
theorem u64_sub (A B C R q : Nat) (hA : A * 4294967296 + B = C + R) (hC : C = q) (hR : R < 18446744073709551616) :
    IntKind.u64.wrap (IntKind.u64.wrap (IntKind.u64.wrap ((A : Int) * 4294967296) + (B : Int)) - IntKind.u64.wrap ((C : Nat) : Int)) = (R : Int) := by
  simp only [IntKind.wrap_u64]
  omega
theorem div_mod_sum (A Y : Nat) : A = A / Y * Y + A % Y := by rw [Nat.mul_comm]; exact (Nat.div_add_mod A Y).symm
theorem ret_q2 {a b c : Int} (h : a = b) : Ending.returned (.tuple #[.int .u64 a, .int .u64 c]) = .returned (.tuple #[.int .u64 b, .int .u64 c]) := by rw [h]
theorem ret_quo {a b c d : Nat} (h1 : a = c) (h2 : b = d) : Ending.returned (.tuple #[.int .u64 (a : Int), .int .u64 (b : Int)]) = .returned (.tuple #[.int .u64 (c : Int), .int .u64 (d : Int)]) := by rw [h1, h2]

set_option maxHeartbeats 2000000 in
theorem div64_core (hi lo y s U V Y Y1 Y0 : Nat) (w : World)
    (h0 : 0 < hi) (hhy : hi < y) (hy64 : y < 18446744073709551616) (hlo : lo < 18446744073709551616)
    (hsh : (hi * 18446744073709551616 + lo) * 2 ^ s = U * 18446744073709551616 + V) (hYY : Y = y * 2 ^ s) (hY1 : Y1 = Y / 4294967296) (hY0 : Y0 = Y % 4294967296)
    (hYb : 9223372036854775808 ≤ Y) (hYt : Y < 18446744073709551616) (hUY : U < Y) (hV : V < 18446744073709551616)
    (fs : IntKind.u64.wrap ((y : Int) * 2 ^ s) = (Y : Int)) (fU : bits .or .u64 (IntKind.u64.wrap ((hi : Int) * 2 ^ s)) ((lo : Int) / 2 ^ (64 - s)) = (U : Int)) (fV : IntKind.u64.wrap ((lo : Int) * 2 ^ s) = (V : Int))
    (hs64 : s < 64)
    (HL : Hid (Calls Tryz.prog 149 #[.int .u64 (y : Int)] w fun e w' => e = .returned (.int .i64 (s : Int)) ∧ w' = w)) :
    Calls Tryz.prog 147 #[.int .u64 (hi : Int), .int .u64 (lo : Int), .int .u64 (y : Int)] w fun e w' => e = .returned (.tuple #[.int .u64 (((hi * 18446744073709551616 + lo) / y : Nat) : Int), .int .u64 (((hi * 18446744073709551616 + lo) % y : Nat) : Int)]) ∧ w = w' := by
  have hy0 : ((y : Int) == 0) = false := by rw [beq_eq_false_iff_ne]; omega
  have hh0 : ((hi : Int) == 0) = false := by rw [beq_eq_false_iff_ne]; omega
  have hhy' : ¬ (y : Int) ≤ (hi : Int) := by omega
  have hYs : Y1 * 4294967296 + Y0 = Y := by omega
  have b1 : 2147483648 ≤ Y1 := by omega
  have b2 : Y1 < 4294967296 := by omega
  have b3 : Y0 < 4294967296 := by omega
  have f1 : (Y : Int) / 4294967296 = (Y1 : Int) := by omega
  have f0 : bits .and .u64 (Y : Int) 4294967295 = (Y0 : Int) := by rw [mask32 Y hYt, hY0]
  obtain ⟨V1, hV1⟩ : ∃ V1, V1 = V / 4294967296 := ⟨_, rfl⟩
  obtain ⟨V0, hV0⟩ : ∃ V0, V0 = V % 4294967296 := ⟨_, rfl⟩
  have g1 : (V : Int) / 4294967296 = (V1 : Int) := by omega
  have g0 : bits .and .u64 (V : Int) 4294967295 = (V0 : Int) := by rw [mask32 V hV, hV0]
  have c1 : V1 < 4294967296 := by omega
  have c0 : V0 < 4294967296 := by omega
  have hY1z : ¬ (Y1 : Int) = 0 := by omega
  obtain ⟨U2, hU2⟩ : ∃ U2, U2 = (U * 4294967296 + V1) % Y := ⟨_, rfl⟩
  obtain ⟨T1, hT1⟩ : ∃ T1, T1 = (U * 4294967296 + V1) / Y := ⟨_, rfl⟩
  obtain ⟨T0, hT0⟩ : ∃ T0, T0 = (U2 * 4294967296 + V0) / Y := ⟨_, rfl⟩
  obtain ⟨RR, hRR⟩ : ∃ RR, RR = (U2 * 4294967296 + V0) % Y := ⟨_, rfl⟩
  have hU2Y : U2 < Y := by rw [hU2]; exact Nat.mod_lt _ (by omega)
  have hRRY : RR < Y := by rw [hRR]; exact Nat.mod_lt _ (by omega)
  have hT1b : T1 < 4294967296 := by rw [hT1]; exact kn_lt hUY c1
  have hT0b : T0 < 4294967296 := by rw [hT0]; exact kn_lt hU2Y c0
  have k1 := kn_start (u := U) (w := V1) (Y1 := Y1) (Y0 := Y0) (by omega) b1 b3 c1
  have k0 := kn_start (u := U2) (w := V0) (Y1 := Y1) (Y0 := Y0) (by omega) b1 b3 c0
  rw [hYs, ← hT1] at k1
  rw [hYs, ← hT0] at k0
  obtain ⟨Q1, hQ1⟩ : ∃ Q1, Q1 = U / Y1 := ⟨_, rfl⟩
  obtain ⟨Q0, hQ0⟩ : ∃ Q0, Q0 = U2 / Y1 := ⟨_, rfl⟩
  obtain ⟨R1, hR1⟩ : ∃ R1, R1 = U % Y1 := ⟨_, rfl⟩
  obtain ⟨R0, hR0⟩ : ∃ R0, R0 = U2 % Y1 := ⟨_, rfl⟩
  have d1 : Q1 * Y1 + R1 = U := by rw [hQ1, hR1, Nat.mul_comm]; exact Nat.div_add_mod _ _
  have d0 : Q0 * Y1 + R0 = U2 := by rw [hQ0, hR0, Nat.mul_comm]; exact Nat.div_add_mod _ _
  have r1 : R1 < Y1 := by rw [hR1]; exact Nat.mod_lt _ (by omega)
  have r0 : R0 < Y1 := by rw [hR0]; exact Nat.mod_lt _ (by omega)
  rw [← hQ1] at k1
  rw [← hQ0] at k0
  have fq1 : ((U : Int)).tdiv (Y1 : Int) = (Q1 : Int) := by rw [hQ1]; exact (Int.ofNat_tdiv U Y1).symm
  have fq0 : ((U2 : Int)).tdiv (Y1 : Int) = (Q0 : Int) := by rw [hQ0]; exact (Int.ofNat_tdiv U2 Y1).symm
  have fw1 := wrapU Q1 (by omega)
  have fw0 := wrapU Q0 (by omega)
  have fm1 : (Q1 : Int) * (Y1 : Int) = ((Q1 * Y1 : Nat) : Int) := (Int.natCast_mul _ _).symm
  have fm0 : (Q0 : Int) * (Y1 : Int) = ((Q0 * Y1 : Nat) : Int) := (Int.natCast_mul _ _).symm
  have fr1 : IntKind.u64.wrap ((U : Int) - IntKind.u64.wrap ((Q1 : Int) * (Y1 : Int))) = (R1 : Int) := by
    rw [fm1, wrapU _ (by omega), show (U : Int) - ((Q1 * Y1 : Nat) : Int) = (R1 : Int) by omega]
    exact wrapU _ (by omega)
  have fr0 : IntKind.u64.wrap ((U2 : Int) - IntKind.u64.wrap ((Q0 : Int) * (Y1 : Int))) = (R0 : Int) := by
    rw [fm0, wrapU _ (by omega), show (U2 : Int) - ((Q0 * Y1 : Nat) : Int) = (R0 : Int) by omega]
    exact wrapU _ (by omega)
  have e1 : U * 4294967296 + V1 = T1 * Y + U2 := by rw [hT1, hU2]; exact div_mod_sum _ _
  have e0 : U2 * 4294967296 + V0 = T0 * Y + RR := by rw [hT0, hRR]; exact div_mod_sum _ _
  have fu2 : IntKind.u64.wrap (IntKind.u64.wrap (IntKind.u64.wrap ((U : Int) * 4294967296) + (V1 : Int)) - IntKind.u64.wrap ((T1 : Int) * (Y : Int))) = (U2 : Int) := by
    rw [← Int.natCast_mul]; exact u64_sub U V1 (T1 * Y) U2 _ e1 rfl (by omega)
  have frr : IntKind.u64.wrap (IntKind.u64.wrap (IntKind.u64.wrap ((U2 : Int) * 4294967296) + (V0 : Int)) - IntKind.u64.wrap ((T0 : Int) * (Y : Int))) = (RR : Int) := by
    rw [← Int.natCast_mul]; exact u64_sub U2 V0 (T0 * Y) RR _ e0 rfl (by omega)
  have HQ : Hid (T1 * 4294967296 + T0 = (hi * 18446744073709551616 + lo) / y) := by
    refine Lib.hid ?_
    have h1 := (two_digits (U := U) (V := V) (Y := Y) (B := 4294967296) (by omega)).1
    rw [← hV1, ← hV0, ← hU2, ← hT1, ← hT0] at h1
    rw [← h1, show U * (4294967296 * 4294967296) + V = (hi * 18446744073709551616 + lo) * 2 ^ s from hsh.symm, hYY]
    exact Nat.mul_div_mul_right _ _ (Nat.two_pow_pos s)
  have HR : Hid (RR / 2 ^ s = (hi * 18446744073709551616 + lo) % y) := by
    refine Lib.hid ?_
    have h1 := (two_digits (U := U) (V := V) (Y := Y) (B := 4294967296) (by omega)).2
    rw [← hV1, ← hV0, ← hU2, ← hRR] at h1
    rw [← h1, show U * (4294967296 * 4294967296) + V = (hi * 18446744073709551616 + lo) * 2 ^ s from hsh.symm, hYY, Nat.mul_mod_mul_right, Nat.mul_div_cancel _ (Nat.two_pow_pos s)]
  obtain ⟨QUO, hQUO⟩ : ∃ Q, Q = (hi * 18446744073709551616 + lo) / y := ⟨_, rfl⟩
  obtain ⟨REM, hREM⟩ : ∃ R, R = (hi * 18446744073709551616 + lo) % y := ⟨_, rfl⟩
  rw [← hQUO, ← hREM]
  rw [← hQUO] at HQ
  rw [← hREM] at HR
  have HQI : Hid ((T1 : Int) * 4294967296 + (T0 : Int) = (QUO : Int)) := Lib.hid (by rw [← HQ.out]; omega)
  have frs : (RR : Int) / 2 ^ s = (REM : Int) := by
    rw [← HR.out, Int.natCast_ediv, Int.natCast_pow]; rfl
  have KT1 : Hid (∀ q r, q * Y1 + r = U → (4294967296 ≤ q ∨ 4294967296 * r + V1 < q * Y0) → T1 < q) := Lib.hid (fun q r h hc => by rw [hT1, ← hYs]; exact kn_true h (by omega) c1 hc)
  have KF1 : Hid (∀ q r, q * Y1 + r = U → T1 ≤ q → q * Y0 ≤ 4294967296 * r + V1 → q = T1) := Lib.hid (fun q r h ht hc => by rw [hT1, ← hYs] at ht ⊢; exact kn_false h (by omega) ht hc)
  have KT0 : Hid (∀ q r, q * Y1 + r = U2 → (4294967296 ≤ q ∨ 4294967296 * r + V0 < q * Y0) → T0 < q) := Lib.hid (fun q r h hc => by rw [hT0, ← hYs]; exact kn_true h (by omega) c0 hc)
  have KF0 : Hid (∀ q r, q * Y1 + r = U2 → T0 ≤ q → q * Y0 ≤ 4294967296 * r + V0 → q = T0) := Lib.hid (fun q r h ht hc => by rw [hT0, ← hYs] at ht ⊢; exact kn_false h (by omega) ht hc)
  have D1 := Lib.hid d1
  have D0 := Lib.hid d0
  have hT1Q := k1.1
  have hQ1b := k1.2
  have hT0Q := k0.1
  have hQ0b := k0.2
  clear hsh hQUO hREM HQ HR hYY hY1 hY0 hV1 hV0 hU2 hT1 hT0 hRR hQ1 hQ0 hR1 hR0 d1 d0 k1 k0 e1 e0 fm1 fm0 hYs
  go_enter Tryz.func147, Tryz.ntmps147
  go_wp2_with fail
  refine HL.out.mono ?_
  rintro e w1 ⟨rfl, rfl⟩
  go_wp2_with fail
  go_loop [15, 16] (fun a b => ∃ q r : Nat, a = .int .u64 (q : Int) ∧ b = .int .u64 (r : Int) ∧ q * Y1 + r = U ∧ T1 ≤ q ∧ q ≤ 4294967297 ∧ r < 4294967296) (fun a _ => (intOf a).toNat)
  case atStart => exact ⟨Q1, R1, rfl, rfl, D1.out, hT1Q, hQ1b, by omega⟩
  case round =>
    obtain ⟨q, r, rfl, rfl, hqr, htq, hqb, hrb⟩ := hrel
    by_cases c : 4294967296 ≤ q
    · have ci : (4294967296 : Int) ≤ (q : Int) := by omega
      skip
      have hlt := KT1.out q r hqr (.inl c)
      obtain ⟨q', hq'⟩ : ∃ q', q' = q - 1 := ⟨_, rfl⟩
      obtain ⟨r', hr'⟩ : ∃ r', r' = r + Y1 := ⟨_, rfl⟩
      have hnx : q' * Y1 + r' = U := by
        have hq1 : q = q' + 1 := by omega
        rw [hq1, Nat.add_mul, Nat.one_mul] at hqr
        omega
      have w1 : IntKind.u64.wrap ((q : Int) - 1) = (q' : Int) := by simp only [IntKind.wrap_u64]; omega
      have w2 : IntKind.u64.wrap ((r : Int) + (Y1 : Int)) = (r' : Int) := by simp only [IntKind.wrap_u64]; omega
      by_cases cb : 4294967296 ≤ r'
      · have cbi : (4294967296 : Int) ≤ (r' : Int) := by omega
        have hfin : q' = T1 := KF1.out q' r' hnx (by omega) (kn_break (by omega) b3 cb)
        subst hfin
        clear hlt hnx hq' hr' htq hqr
        go_wp2_with fail
        go_loop [16, 18] (fun b a => ∃ q r : Nat, a = .int .u64 (q : Int) ∧ b = .int .u64 (r : Int) ∧ q * Y1 + r = U2 ∧ T0 ≤ q ∧ q ≤ 4294967297 ∧ r < 4294967296) (fun _ a => (intOf a).toNat)
        case atStart => exact ⟨Q0, R0, rfl, rfl, D0.out, hT0Q, hQ0b, by omega⟩
        case round =>
          obtain ⟨q, r, rfl, rfl, hqr, htq, hqb, hrb⟩ := hrel
          by_cases c : 4294967296 ≤ q
          · have ci : (4294967296 : Int) ≤ (q : Int) := by omega
            skip
            have hlt := KT0.out q r hqr (.inl c)
            obtain ⟨q', hq'⟩ : ∃ q', q' = q - 1 := ⟨_, rfl⟩
            obtain ⟨r', hr'⟩ : ∃ r', r' = r + Y1 := ⟨_, rfl⟩
            have hnx : q' * Y1 + r' = U2 := by
              have hq1 : q = q' + 1 := by omega
              rw [hq1, Nat.add_mul, Nat.one_mul] at hqr
              omega
            have w1 : IntKind.u64.wrap ((q : Int) - 1) = (q' : Int) := by simp only [IntKind.wrap_u64]; omega
            have w2 : IntKind.u64.wrap ((r : Int) + (Y1 : Int)) = (r' : Int) := by simp only [IntKind.wrap_u64]; omega
            by_cases cb : 4294967296 ≤ r'
            · have cbi : (4294967296 : Int) ≤ (r' : Int) := by omega
              have hfin : q' = T0 := KF0.out q' r' hnx (by omega) (kn_break (by omega) b3 cb)
              subst hfin
              clear hlt hnx hq' hr' htq hqr
              go_wp2_with fail
              go_ret2
              exact ⟨ret_q2 HQI.out, rfl⟩
            · have cbi : ¬ (4294967296 : Int) ≤ (r' : Int) := by omega
              have HX := Lib.hid (And.intro hnx (And.intro (show T0 ≤ q' by omega) (show q' < q by omega)))
              have hq'b : q' ≤ 4294967297 := by omega
              clear hlt hnx hq' hr' htq hqr
              go_wp2_with fail
              go_round
              case rel => exact ⟨q', r', rfl, rfl, HX.out.1, HX.out.2.1, hq'b, by omega⟩
              case measure => have := HX.out.2.2; simp [intOf]; omega
          · have ci : ¬ (4294967296 : Int) ≤ (q : Int) := by omega
            obtain ⟨M, hM⟩ : ∃ M, M = q * Y0 := ⟨_, rfl⟩
            obtain ⟨N1, hN1⟩ : ∃ N1, N1 = 4294967296 * r := ⟨_, rfl⟩
            obtain ⟨N2, hN2⟩ : ∃ N2, N2 = N1 + V0 := ⟨_, rfl⟩
            have hMb : M < 18446744073709551616 := by
              rw [hM]
              exact Nat.lt_of_le_of_lt (Nat.mul_le_mul (show q ≤ 4294967295 by omega) (show Y0 ≤ 4294967295 by omega)) (by decide)
            have wm1 : IntKind.u64.wrap ((q : Int) * (Y0 : Int)) = (M : Int) := by rw [← Int.natCast_mul, ← hM]; exact wrapU M hMb
            have wm2 : IntKind.u64.wrap (4294967296 * (r : Int)) = (N1 : Int) := by simp only [IntKind.wrap_u64]; omega
            have wm3 : IntKind.u64.wrap ((N1 : Int) + (V0 : Int)) = (N2 : Int) := by simp only [IntKind.wrap_u64]; omega
            by_cases c2 : N2 < M
            · have c2i : (N2 : Int) < (M : Int) := by omega
              have c2n : 4294967296 * r + V0 < q * Y0 := by omega
              clear hM hN1 hN2
              skip
              have hlt := KT0.out q r hqr (.inr c2n)
              obtain ⟨q', hq'⟩ : ∃ q', q' = q - 1 := ⟨_, rfl⟩
              obtain ⟨r', hr'⟩ : ∃ r', r' = r + Y1 := ⟨_, rfl⟩
              have hnx : q' * Y1 + r' = U2 := by
                have hq1 : q = q' + 1 := by omega
                rw [hq1, Nat.add_mul, Nat.one_mul] at hqr
                omega
              have w1 : IntKind.u64.wrap ((q : Int) - 1) = (q' : Int) := by simp only [IntKind.wrap_u64]; omega
              have w2 : IntKind.u64.wrap ((r : Int) + (Y1 : Int)) = (r' : Int) := by simp only [IntKind.wrap_u64]; omega
              by_cases cb : 4294967296 ≤ r'
              · have cbi : (4294967296 : Int) ≤ (r' : Int) := by omega
                have hfin : q' = T0 := KF0.out q' r' hnx (by omega) (kn_break (by omega) b3 cb)
                subst hfin
                clear hlt hnx hq' hr' htq hqr
                go_wp2_with fail
                go_ret2
                exact ⟨ret_q2 HQI.out, rfl⟩
              · have cbi : ¬ (4294967296 : Int) ≤ (r' : Int) := by omega
                have HX := Lib.hid (And.intro hnx (And.intro (show T0 ≤ q' by omega) (show q' < q by omega)))
                have hq'b : q' ≤ 4294967297 := by omega
                clear hlt hnx hq' hr' htq hqr
                go_wp2_with fail
                go_round
                case rel => exact ⟨q', r', rfl, rfl, HX.out.1, HX.out.2.1, hq'b, by omega⟩
                case measure => have := HX.out.2.2; simp [intOf]; omega
            · have c2i : ¬ (N2 : Int) < (M : Int) := by omega
              have hfin : q = T0 := KF0.out q r hqr htq (by omega)
              clear hM hN1 hN2
              subst hfin
              clear htq hqr
              go_wp2_with fail
              go_ret2
              exact ⟨ret_q2 HQI.out, rfl⟩
      · have cbi : ¬ (4294967296 : Int) ≤ (r' : Int) := by omega
        have HX := Lib.hid (And.intro hnx (And.intro (show T1 ≤ q' by omega) (show q' < q by omega)))
        have hq'b : q' ≤ 4294967297 := by omega
        clear hlt hnx hq' hr' htq hqr
        go_wp2_with fail
        go_round
        case rel => exact ⟨q', r', rfl, rfl, HX.out.1, HX.out.2.1, hq'b, by omega⟩
        case measure => have := HX.out.2.2; simp [intOf]; omega
    · have ci : ¬ (4294967296 : Int) ≤ (q : Int) := by omega
      obtain ⟨M, hM⟩ : ∃ M, M = q * Y0 := ⟨_, rfl⟩
      obtain ⟨N1, hN1⟩ : ∃ N1, N1 = 4294967296 * r := ⟨_, rfl⟩
      obtain ⟨N2, hN2⟩ : ∃ N2, N2 = N1 + V1 := ⟨_, rfl⟩
      have hMb : M < 18446744073709551616 := by
        rw [hM]
        exact Nat.lt_of_le_of_lt (Nat.mul_le_mul (show q ≤ 4294967295 by omega) (show Y0 ≤ 4294967295 by omega)) (by decide)
      have wm1 : IntKind.u64.wrap ((q : Int) * (Y0 : Int)) = (M : Int) := by rw [← Int.natCast_mul, ← hM]; exact wrapU M hMb
      have wm2 : IntKind.u64.wrap (4294967296 * (r : Int)) = (N1 : Int) := by simp only [IntKind.wrap_u64]; omega
      have wm3 : IntKind.u64.wrap ((N1 : Int) + (V1 : Int)) = (N2 : Int) := by simp only [IntKind.wrap_u64]; omega
      by_cases c2 : N2 < M
      · have c2i : (N2 : Int) < (M : Int) := by omega
        have c2n : 4294967296 * r + V1 < q * Y0 := by omega
        clear hM hN1 hN2
        skip
        have hlt := KT1.out q r hqr (.inr c2n)
        obtain ⟨q', hq'⟩ : ∃ q', q' = q - 1 := ⟨_, rfl⟩
        obtain ⟨r', hr'⟩ : ∃ r', r' = r + Y1 := ⟨_, rfl⟩
        have hnx : q' * Y1 + r' = U := by
          have hq1 : q = q' + 1 := by omega
          rw [hq1, Nat.add_mul, Nat.one_mul] at hqr
          omega
        have w1 : IntKind.u64.wrap ((q : Int) - 1) = (q' : Int) := by simp only [IntKind.wrap_u64]; omega
        have w2 : IntKind.u64.wrap ((r : Int) + (Y1 : Int)) = (r' : Int) := by simp only [IntKind.wrap_u64]; omega
        by_cases cb : 4294967296 ≤ r'
        · have cbi : (4294967296 : Int) ≤ (r' : Int) := by omega
          have hfin : q' = T1 := KF1.out q' r' hnx (by omega) (kn_break (by omega) b3 cb)
          subst hfin
          clear hlt hnx hq' hr' htq hqr
          go_wp2_with fail
          go_loop [16, 18] (fun b a => ∃ q r : Nat, a = .int .u64 (q : Int) ∧ b = .int .u64 (r : Int) ∧ q * Y1 + r = U2 ∧ T0 ≤ q ∧ q ≤ 4294967297 ∧ r < 4294967296) (fun _ a => (intOf a).toNat)
          case atStart => exact ⟨Q0, R0, rfl, rfl, D0.out, hT0Q, hQ0b, by omega⟩
          case round =>
            obtain ⟨q, r, rfl, rfl, hqr, htq, hqb, hrb⟩ := hrel
            by_cases c : 4294967296 ≤ q
            · have ci : (4294967296 : Int) ≤ (q : Int) := by omega
              skip
              have hlt := KT0.out q r hqr (.inl c)
              obtain ⟨q', hq'⟩ : ∃ q', q' = q - 1 := ⟨_, rfl⟩
              obtain ⟨r', hr'⟩ : ∃ r', r' = r + Y1 := ⟨_, rfl⟩
              have hnx : q' * Y1 + r' = U2 := by
                have hq1 : q = q' + 1 := by omega
                rw [hq1, Nat.add_mul, Nat.one_mul] at hqr
                omega
              have w1 : IntKind.u64.wrap ((q : Int) - 1) = (q' : Int) := by simp only [IntKind.wrap_u64]; omega
              have w2 : IntKind.u64.wrap ((r : Int) + (Y1 : Int)) = (r' : Int) := by simp only [IntKind.wrap_u64]; omega
              by_cases cb : 4294967296 ≤ r'
              · have cbi : (4294967296 : Int) ≤ (r' : Int) := by omega
                have hfin : q' = T0 := KF0.out q' r' hnx (by omega) (kn_break (by omega) b3 cb)
                subst hfin
                clear hlt hnx hq' hr' htq hqr
                go_wp2_with fail
                go_ret2
                exact ⟨ret_q2 HQI.out, rfl⟩
              · have cbi : ¬ (4294967296 : Int) ≤ (r' : Int) := by omega
                have HX := Lib.hid (And.intro hnx (And.intro (show T0 ≤ q' by omega) (show q' < q by omega)))
                have hq'b : q' ≤ 4294967297 := by omega
                clear hlt hnx hq' hr' htq hqr
                go_wp2_with fail
                go_round
                case rel => exact ⟨q', r', rfl, rfl, HX.out.1, HX.out.2.1, hq'b, by omega⟩
                case measure => have := HX.out.2.2; simp [intOf]; omega
            · have ci : ¬ (4294967296 : Int) ≤ (q : Int) := by omega
              obtain ⟨M, hM⟩ : ∃ M, M = q * Y0 := ⟨_, rfl⟩
              obtain ⟨N1, hN1⟩ : ∃ N1, N1 = 4294967296 * r := ⟨_, rfl⟩
              obtain ⟨N2, hN2⟩ : ∃ N2, N2 = N1 + V0 := ⟨_, rfl⟩
              have hMb : M < 18446744073709551616 := by
                rw [hM]
                exact Nat.lt_of_le_of_lt (Nat.mul_le_mul (show q ≤ 4294967295 by omega) (show Y0 ≤ 4294967295 by omega)) (by decide)
              have wm1 : IntKind.u64.wrap ((q : Int) * (Y0 : Int)) = (M : Int) := by rw [← Int.natCast_mul, ← hM]; exact wrapU M hMb
              have wm2 : IntKind.u64.wrap (4294967296 * (r : Int)) = (N1 : Int) := by simp only [IntKind.wrap_u64]; omega
              have wm3 : IntKind.u64.wrap ((N1 : Int) + (V0 : Int)) = (N2 : Int) := by simp only [IntKind.wrap_u64]; omega
              by_cases c2 : N2 < M
              · have c2i : (N2 : Int) < (M : Int) := by omega
                have c2n : 4294967296 * r + V0 < q * Y0 := by omega
                clear hM hN1 hN2
                skip
                have hlt := KT0.out q r hqr (.inr c2n)
                obtain ⟨q', hq'⟩ : ∃ q', q' = q - 1 := ⟨_, rfl⟩
                obtain ⟨r', hr'⟩ : ∃ r', r' = r + Y1 := ⟨_, rfl⟩
                have hnx : q' * Y1 + r' = U2 := by
                  have hq1 : q = q' + 1 := by omega
                  rw [hq1, Nat.add_mul, Nat.one_mul] at hqr
                  omega
                have w1 : IntKind.u64.wrap ((q : Int) - 1) = (q' : Int) := by simp only [IntKind.wrap_u64]; omega
                have w2 : IntKind.u64.wrap ((r : Int) + (Y1 : Int)) = (r' : Int) := by simp only [IntKind.wrap_u64]; omega
                by_cases cb : 4294967296 ≤ r'
                · have cbi : (4294967296 : Int) ≤ (r' : Int) := by omega
                  have hfin : q' = T0 := KF0.out q' r' hnx (by omega) (kn_break (by omega) b3 cb)
                  subst hfin
                  clear hlt hnx hq' hr' htq hqr
                  go_wp2_with fail
                  go_ret2
                  exact ⟨ret_q2 HQI.out, rfl⟩
                · have cbi : ¬ (4294967296 : Int) ≤ (r' : Int) := by omega
                  have HX := Lib.hid (And.intro hnx (And.intro (show T0 ≤ q' by omega) (show q' < q by omega)))
                  have hq'b : q' ≤ 4294967297 := by omega
                  clear hlt hnx hq' hr' htq hqr
                  go_wp2_with fail
                  go_round
                  case rel => exact ⟨q', r', rfl, rfl, HX.out.1, HX.out.2.1, hq'b, by omega⟩
                  case measure => have := HX.out.2.2; simp [intOf]; omega
              · have c2i : ¬ (N2 : Int) < (M : Int) := by omega
                have hfin : q = T0 := KF0.out q r hqr htq (by omega)
                clear hM hN1 hN2
                subst hfin
                clear htq hqr
                go_wp2_with fail
                go_ret2
                exact ⟨ret_q2 HQI.out, rfl⟩
        · have cbi : ¬ (4294967296 : Int) ≤ (r' : Int) := by omega
          have HX := Lib.hid (And.intro hnx (And.intro (show T1 ≤ q' by omega) (show q' < q by omega)))
          have hq'b : q' ≤ 4294967297 := by omega
          clear hlt hnx hq' hr' htq hqr
          go_wp2_with fail
          go_round
          case rel => exact ⟨q', r', rfl, rfl, HX.out.1, HX.out.2.1, hq'b, by omega⟩
          case measure => have := HX.out.2.2; simp [intOf]; omega
      · have c2i : ¬ (N2 : Int) < (M : Int) := by omega
        have hfin : q = T1 := KF1.out q r hqr htq (by omega)
        clear hM hN1 hN2
        subst hfin
        clear htq hqr
        go_wp2_with fail
        go_loop [16, 18] (fun b a => ∃ q r : Nat, a = .int .u64 (q : Int) ∧ b = .int .u64 (r : Int) ∧ q * Y1 + r = U2 ∧ T0 ≤ q ∧ q ≤ 4294967297 ∧ r < 4294967296) (fun _ a => (intOf a).toNat)
        case atStart => exact ⟨Q0, R0, rfl, rfl, D0.out, hT0Q, hQ0b, by omega⟩
        case round =>
          obtain ⟨q, r, rfl, rfl, hqr, htq, hqb, hrb⟩ := hrel
          by_cases c : 4294967296 ≤ q
          · have ci : (4294967296 : Int) ≤ (q : Int) := by omega
            skip
            have hlt := KT0.out q r hqr (.inl c)
            obtain ⟨q', hq'⟩ : ∃ q', q' = q - 1 := ⟨_, rfl⟩
            obtain ⟨r', hr'⟩ : ∃ r', r' = r + Y1 := ⟨_, rfl⟩
            have hnx : q' * Y1 + r' = U2 := by
              have hq1 : q = q' + 1 := by omega
              rw [hq1, Nat.add_mul, Nat.one_mul] at hqr
              omega
            have w1 : IntKind.u64.wrap ((q : Int) - 1) = (q' : Int) := by simp only [IntKind.wrap_u64]; omega
            have w2 : IntKind.u64.wrap ((r : Int) + (Y1 : Int)) = (r' : Int) := by simp only [IntKind.wrap_u64]; omega
            by_cases cb : 4294967296 ≤ r'
            · have cbi : (4294967296 : Int) ≤ (r' : Int) := by omega
              have hfin : q' = T0 := KF0.out q' r' hnx (by omega) (kn_break (by omega) b3 cb)
              subst hfin
              clear hlt hnx hq' hr' htq hqr
              go_wp2_with fail
              go_ret2
              exact ⟨ret_q2 HQI.out, rfl⟩
            · have cbi : ¬ (4294967296 : Int) ≤ (r' : Int) := by omega
              have HX := Lib.hid (And.intro hnx (And.intro (show T0 ≤ q' by omega) (show q' < q by omega)))
              have hq'b : q' ≤ 4294967297 := by omega
              clear hlt hnx hq' hr' htq hqr
              go_wp2_with fail
              go_round
              case rel => exact ⟨q', r', rfl, rfl, HX.out.1, HX.out.2.1, hq'b, by omega⟩
              case measure => have := HX.out.2.2; simp [intOf]; omega
          · have ci : ¬ (4294967296 : Int) ≤ (q : Int) := by omega
            obtain ⟨M, hM⟩ : ∃ M, M = q * Y0 := ⟨_, rfl⟩
            obtain ⟨N1, hN1⟩ : ∃ N1, N1 = 4294967296 * r := ⟨_, rfl⟩
            obtain ⟨N2, hN2⟩ : ∃ N2, N2 = N1 + V0 := ⟨_, rfl⟩
            have hMb : M < 18446744073709551616 := by
              rw [hM]
              exact Nat.lt_of_le_of_lt (Nat.mul_le_mul (show q ≤ 4294967295 by omega) (show Y0 ≤ 4294967295 by omega)) (by decide)
            have wm1 : IntKind.u64.wrap ((q : Int) * (Y0 : Int)) = (M : Int) := by rw [← Int.natCast_mul, ← hM]; exact wrapU M hMb
            have wm2 : IntKind.u64.wrap (4294967296 * (r : Int)) = (N1 : Int) := by simp only [IntKind.wrap_u64]; omega
            have wm3 : IntKind.u64.wrap ((N1 : Int) + (V0 : Int)) = (N2 : Int) := by simp only [IntKind.wrap_u64]; omega
            by_cases c2 : N2 < M
            · have c2i : (N2 : Int) < (M : Int) := by omega
              have c2n : 4294967296 * r + V0 < q * Y0 := by omega
              clear hM hN1 hN2
              skip
              have hlt := KT0.out q r hqr (.inr c2n)
              obtain ⟨q', hq'⟩ : ∃ q', q' = q - 1 := ⟨_, rfl⟩
              obtain ⟨r', hr'⟩ : ∃ r', r' = r + Y1 := ⟨_, rfl⟩
              have hnx : q' * Y1 + r' = U2 := by
                have hq1 : q = q' + 1 := by omega
                rw [hq1, Nat.add_mul, Nat.one_mul] at hqr
                omega
              have w1 : IntKind.u64.wrap ((q : Int) - 1) = (q' : Int) := by simp only [IntKind.wrap_u64]; omega
              have w2 : IntKind.u64.wrap ((r : Int) + (Y1 : Int)) = (r' : Int) := by simp only [IntKind.wrap_u64]; omega
              by_cases cb : 4294967296 ≤ r'
              · have cbi : (4294967296 : Int) ≤ (r' : Int) := by omega
                have hfin : q' = T0 := KF0.out q' r' hnx (by omega) (kn_break (by omega) b3 cb)
                subst hfin
                clear hlt hnx hq' hr' htq hqr
                go_wp2_with fail
                go_ret2
                exact ⟨ret_q2 HQI.out, rfl⟩
              · have cbi : ¬ (4294967296 : Int) ≤ (r' : Int) := by omega
                have HX := Lib.hid (And.intro hnx (And.intro (show T0 ≤ q' by omega) (show q' < q by omega)))
                have hq'b : q' ≤ 4294967297 := by omega
                clear hlt hnx hq' hr' htq hqr
                go_wp2_with fail
                go_round
                case rel => exact ⟨q', r', rfl, rfl, HX.out.1, HX.out.2.1, hq'b, by omega⟩
                case measure => have := HX.out.2.2; simp [intOf]; omega
            · have c2i : ¬ (N2 : Int) < (M : Int) := by omega
              have hfin : q = T0 := KF0.out q r hqr htq (by omega)
              clear hM hN1 hN2
              subst hfin
              clear htq hqr
              go_wp2_with fail
              go_ret2
              exact ⟨ret_q2 HQI.out, rfl⟩
end Go.Proofs.YtennekieiioilaaGreat

namespace Go.Proofs.YtennekieiioilaaGreat
open Go.ChangeShapes Go.WideShapes Go.ChangeAt Go.RowKit
open Go.ChangeMaps (open_string shut_string)
set_option linter.unusedVariables false
set_option linter.unusedSimpArgs false
set_option maxRecDepth 4000

theorem pow_fact {s : Nat} (h : s ≤ 64) : 2 ^ s * 2 ^ (64 - s) = 18446744073709551616 := by
  rw [← Nat.pow_add, show s + (64 - s) = 64 by omega]

theorem div64_pos (hi lo y : Nat) (w : World) (h0 : 0 < hi) (hhy : hi < y) (hy64 : y < 18446744073709551616) (hlo : lo < 18446744073709551616) :
    Calls Tryz.prog 147 #[.int .u64 (hi : Int), .int .u64 (lo : Int), .int .u64 (y : Int)] w fun e w' => e = .returned (.tuple #[.int .u64 (((hi * 18446744073709551616 + lo) / y : Nat) : Int), .int .u64 (((hi * 18446744073709551616 + lo) % y : Nat) : Int)]) ∧ w = w' := by
  have HL := Tryz.bits_LeadingZeros64 (y : Int) w (by omega) (by omega)
  rw [Int.toNat_natCast] at HL
  have hb := Lib.bitLenAux_bounds 64 y (by omega) (by omega)
  obtain ⟨L, hL⟩ : ∃ L, L = Lib.bitLen y := ⟨_, rfl⟩
  have hb' : 1 ≤ L ∧ 2 ^ (L - 1) ≤ y ∧ y < 2 ^ L := by rw [hL]; exact hb
  have hL64 : L ≤ 64 := by rw [hL]; exact Lib.bitLen_le y 64 (by omega) (by omega)
  obtain ⟨s, hs⟩ : ∃ s : Nat, s = 64 - L := ⟨_, rfl⟩
  rw [← hL, show 64 - (L : Int) = (s : Int) by omega] at HL
  have hs64 : s < 64 := by omega
  have hP : 2 ^ s * 2 ^ (64 - s) = 18446744073709551616 := pow_fact (by omega)
  have e1 : 64 - s = L := by omega
  have e2 : 2 ^ L = 2 ^ (L - 1) * 2 := by rw [← Nat.pow_succ]; congr 1; omega
  have hP0 := Nat.two_pow_pos s
  have hP0' := Nat.two_pow_pos (64 - s)
  have hYb : 9223372036854775808 ≤ y * 2 ^ s := by
    have h1 : 2 ^ s * (2 ^ (L - 1) * 2) = 18446744073709551616 := by rw [← e2, ← e1]; exact hP
    have h2 : 2 ^ (L - 1) * 2 ^ s ≤ y * 2 ^ s := Nat.mul_le_mul_right _ hb'.2.1
    have h3 : 2 ^ s * (2 ^ (L - 1) * 2) = 2 ^ (L - 1) * 2 ^ s * 2 := by rw [← Nat.mul_assoc, Nat.mul_comm (2 ^ s)]
    omega
  have hYt : y * 2 ^ s < 18446744073709551616 := by
    have h2 : y * 2 ^ s < 2 ^ (64 - s) * 2 ^ s := Nat.mul_lt_mul_of_pos_right (by rw [e1]; exact hb'.2.2) hP0
    rw [Nat.mul_comm (2 ^ (64 - s)), hP] at h2
    exact h2
  have hq : lo / 2 ^ (64 - s) < 2 ^ s := by
    rw [Nat.div_lt_iff_lt_mul hP0', hP]
    exact hlo
  have hhi : (hi + 1) * 2 ^ s ≤ y * 2 ^ s := Nat.mul_le_mul_right _ hhy
  rw [Nat.add_mul, Nat.one_mul] at hhi
  have hql : lo / 2 ^ (64 - s) < 18446744073709551616 := Nat.lt_of_le_of_lt (Nat.div_le_self _ _) hlo
  have hhp : hi * 2 ^ s < 18446744073709551616 := by omega
  refine div64_core hi lo y s (hi * 2 ^ s + lo / 2 ^ (64 - s)) (lo * 2 ^ s % 18446744073709551616) (y * 2 ^ s) _ _ w h0 hhy hy64 hlo (shifted hP hP0 hP0') rfl rfl rfl hYb hYt (by omega) (Nat.mod_lt _ (by decide)) ?_ ?_ ?_ hs64 HL
  · have h : (y : Int) * 2 ^ s = ((y * 2 ^ s : Nat) : Int) := by rw [Int.natCast_mul, Int.natCast_pow]; rfl
    rw [h]
    exact wrapU _ hYt
  · have h : (hi : Int) * 2 ^ s = ((hi * 2 ^ s : Nat) : Int) := by rw [Int.natCast_mul, Int.natCast_pow]; rfl
    have h' : (lo : Int) / 2 ^ (64 - s) = ((lo / 2 ^ (64 - s) : Nat) : Int) := by rw [Int.natCast_ediv, Int.natCast_pow]; rfl
    rw [h, wrapU _ hhp, h']
    exact or_low hq hhp hql
  · have h : (lo : Int) * 2 ^ s = ((lo * 2 ^ s : Nat) : Int) := by rw [Int.natCast_mul, Int.natCast_pow]; rfl
    rw [h]
    exact wrapUM _

set_option maxHeartbeats 400000 in
theorem div64_zero (lo y : Nat) (w : World) (hy : 0 < y) (hy64 : y < 18446744073709551616) (hlo : lo < 18446744073709551616) :
    Calls Tryz.prog 147 #[.int .u64 0, .int .u64 (lo : Int), .int .u64 (y : Int)] w fun e w' => e = .returned (.tuple #[.int .u64 ((lo / y : Nat) : Int), .int .u64 ((lo % y : Nat) : Int)]) ∧ Below w.heap.size w w' := by
  have hy0 : ((y : Int) == 0) = false := by rw [beq_eq_false_iff_ne]; omega
  have hyz : ¬ (y : Int) = 0 := by omega
  have hle : ¬ (y : Int) ≤ 0 := by omega
  have ft : (lo : Int).tdiv (y : Int) = ((lo / y : Nat) : Int) := (Int.ofNat_tdiv lo y).symm
  have fm : (lo : Int).tmod (y : Int) = ((lo % y : Nat) : Int) := (Int.ofNat_tmod lo y).symm
  have b1 : lo / y < 18446744073709551616 := Nat.lt_of_le_of_lt (Nat.div_le_self _ _) hlo
  have b2 : lo % y < 18446744073709551616 := Nat.lt_of_le_of_lt (Nat.mod_le _ _) hlo
  obtain ⟨Q, hQ⟩ : ∃ Q, Q = lo / y := ⟨_, rfl⟩
  obtain ⟨R, hR⟩ : ∃ R, R = lo % y := ⟨_, rfl⟩
  rw [← hQ] at ft b1
  rw [← hR] at fm b2
  rw [← hQ, ← hR]
  have fw := wrapU Q b1
  have fw' := wrapU R b2
  clear hQ hR
  go_enter Tryz.func147, Tryz.ntmps147
  go_wp2_with fail
  go_quiet (fail)
  go_wp2_with fail
  go_ret2
  exact ⟨rfl, below_drewN (Below.refl _ _) _⟩

theorem div64_any (hi lo y : Nat) (w : World) (hhy : hi < y) (hy64 : y < 18446744073709551616) (hlo : lo < 18446744073709551616) :
    Calls Tryz.prog 147 #[.int .u64 (hi : Int), .int .u64 (lo : Int), .int .u64 (y : Int)] w fun e w' => ∃ r : Int, e = .returned (.tuple #[.int .u64 (((hi * 18446744073709551616 + lo) / y : Nat) : Int), .int .u64 r]) ∧ Below w.heap.size w w' := by
  rcases Nat.eq_zero_or_pos hi with h | h
  · subst h
    refine (div64_zero lo y w hhy hy64 hlo).mono ?_
    rintro e w' ⟨rfl, hb⟩
    exact ⟨_, by rw [Nat.zero_mul, Nat.zero_add], hb⟩
  · refine (div64_pos hi lo y w h hhy hy64 hlo).mono ?_
    rintro e w' ⟨rfl, rfl⟩
    exact ⟨_, rfl, Below.refl _ _⟩

/-- Limb i, 0 outside. -/
def dgz (T : Int) (i : Int) : Int := if i < 0 then 0 else dgt T i.toNat
set_option maxHeartbeats 400000 in
theorem limbAt_any (T : Nat) (m d : Nat) (A : Option Addr) (i : Int) (w : World) (hm : m ≤ 1048576) (hT : ln T ≤ m) (hA : RdS w A (vi (row m T))) :
    Calls Tryz.prog 145 #[.slice A m d, .int .i64 i] w fun e w' => e = .returned (.int .i64 (dgz T i)) ∧ w = w' := by
  by_cases h0 : i < 0
  · have hf : Hid (dgz T i = 0) := Lib.hid (if_pos h0)
    go_enter Tryz.func145, Tryz.ntmps145
    go_wp2
    go_ret
    exact ⟨ret_int' hf.out.symm, rfl⟩
  · obtain ⟨j, rfl⟩ := Int.eq_ofNat_of_zero_le (show 0 ≤ i by omega)
    have hf : dgz T (j : Int) = dgt T j := by unfold dgz; rw [if_neg h0, Int.toNat_natCast]
    rw [hf]
    by_cases h1 : j < m
    · obtain ⟨b1, o1, rfl, hb1, e1⟩ := hA.int (row_get (n := m) T h1)
      have hi1 : (j : Int) < (m : Int) := by omega
      have hi0 : (0 : Int) ≤ (j : Int) := by omega
      generalize dgt T j = x at e1
      go_enter Tryz.func145, Tryz.ntmps145
      go_wp2
      go_ret
      exact ⟨rfl, rfl⟩
    · have hz : Hid (dgt T j = 0) := Lib.hid (dgt_small (n := ln T) (by omega) (ln_lt T) (by omega))
      have hi1 : ¬ (j : Int) < (m : Int) := by omega
      have hi2 : (m : Int) ≤ (j : Int) := by omega
      go_enter Tryz.func145, Tryz.ntmps145
      go_wp2
      go_ret
      exact ⟨ret_int' hz.out.symm, rfl⟩
end Go.Proofs.YtennekieiioilaaGreat

namespace Go.Proofs.YtennekieiioilaaGreat
open Go.ChangeShapes Go.WideShapes Go.ChangeAt Go.RowKit
open Go.ChangeMaps (open_string shut_string)
set_option linter.unusedVariables false
set_option linter.unusedSimpArgs false
set_option maxRecDepth 4000

theorem dgz_nonneg (T : Int) (i : Int) : 0 ≤ dgz T i := by unfold dgz; split; exact Int.le_refl _; exact dgt_nonneg _ _
theorem dgz_lt (T : Int) (i : Int) : dgz T i < 1000000000 := by unfold dgz; split; decide; exact dgt_lt _ _

theorem add64_run (x y : Nat) (w : World) : (callFunc 146 #[.int .u64 (x : Int), .int .u64 (y : Int), .int .u64 0]).run Tryz.prog w =
    .ok (.value (.tuple #[.int .u64 (((x + y) % 18446744073709551616 : Nat) : Int), .int .u64 (((x + y) / 18446744073709551616 : Nat) : Int)])) w := by
  rw [run_callFunc_extern Tryz.func146 (by kernel_rfl) (by kernel_rfl) (by kernel_rfl) (e := add64Entry) (by kernel_rfl), run_add64 x y 0 (by omega) (by omega) (by omega) (by omega)]
  simp only [Result.andThen]
  congr 5 <;> omega

set_option maxHeartbeats 800000 in
theorem divideTop_any (T m dd : Nat) (A : Option Addr) (i : Int) (d N : Nat) (w : World) (hm : m ≤ 1048576) (hT : ln T ≤ m) (hA : RdS w A (vi (row m T))) (hi0 : -1000 ≤ i) (hi1 : i ≤ 1048576)
    (hd0 : 0 < d) (hd1 : d < 9223372036854775808) (hN : (N : Int) = (dgz T i * 1000000000 + dgz T (i - 1)) * 1000000000 + dgz T (i - 2)) (hlt : N / 18446744073709551616 < d) (hq : N / d < 9223372036854775808) :
    Calls Tryz.prog 138 #[.slice A m dd, .int .i64 i, .int .i64 (d : Int)] w fun e w' => e = .returned (.int .i64 ((N / d : Nat) : Int)) ∧ Below w.heap.size w w' := by
  have H0 := Lib.hid (fun W h => limbAt_any T m dd A i W hm hT h)
  have H1 := Lib.hid (fun W h => limbAt_any T m dd A (i - 1) W hm hT h)
  have H2 := Lib.hid (fun W h => limbAt_any T m dd A (i - 2) W hm hT h)
  have a0 := dgz_nonneg T i
  have a1 := dgz_lt T i
  have b0 := dgz_nonneg T (i - 1)
  have b1 := dgz_lt T (i - 1)
  have z0 := dgz_nonneg T (i - 2)
  have z1 := dgz_lt T (i - 2)
  generalize dgz T i = a at H0 a0 a1 hN
  generalize dgz T (i - 1) = b at H1 b0 b1 hN
  generalize dgz T (i - 2) = c at H2 z0 z1 hN
  obtain ⟨X, hX⟩ : ∃ X : Nat, a * 1000000000 + b = (X : Int) := ⟨(a * 1000000000 + b).toNat, by omega⟩
  obtain ⟨Z, hZ⟩ : ∃ Z : Nat, c = (Z : Int) := ⟨c.toNat, by omega⟩
  subst hZ
  have hXb : X < 1000000000000000000 := by omega
  have hNX : N = X * 1000000000 + Z := by omega
  have HM := Tryz.bits_Mul64 X 1000000000 (by omega) (by omega)
  obtain ⟨MH, hMH⟩ : ∃ H, H = X * 1000000000 / 18446744073709551616 := ⟨_, rfl⟩
  obtain ⟨ML, hML⟩ : ∃ L, L = X * 1000000000 % 18446744073709551616 := ⟨_, rfl⟩
  rw [← hMH, ← hML] at HM
  obtain ⟨SL, hSL⟩ : ∃ L, L = (ML + Z) % 18446744073709551616 := ⟨_, rfl⟩
  obtain ⟨SC, hSC⟩ : ∃ L, L = (ML + Z) / 18446744073709551616 := ⟨_, rfl⟩
  have hNN : (MH + SC) * 18446744073709551616 + SL = N := by omega
  have hDv := div64_any (MH + SC) SL d
  rw [hNN] at hDv
  have HD := Lib.hid (fun W => hDv W (by omega) (by omega) (by omega))
  obtain ⟨Q, hQ⟩ : ∃ Q, Q = N / d := ⟨_, rfl⟩
  rw [← hQ] at HD hq ⊢
  have fX := wrapU X (by omega)
  have fZ := wrapU Z (by omega)
  have fd := wrapU d (by omega)
  have fs : IntKind.u64.wrap ((MH : Int) + (SC : Int)) = ((MH + SC : Nat) : Int) := by rw [← Int.natCast_add]; exact wrapU _ (by omega)
  have hA' := Lib.hid hA
  have HMM := Lib.hid HM
  clear hNX hMH hML hNN hDv hN hlt hQ HM hA
  go_enter Tryz.func138, Tryz.ntmps138
  go_wp2_with fail
  refine (H0.out _ hA'.out).mono ?_
  rintro e w1 ⟨rfl, rfl⟩
  go_wp2_with fail
  refine (H1.out _ hA'.out).mono ?_
  rintro e w1 ⟨rfl, rfl⟩
  go_wp2_with fail
  refine (HMM.out _).mono ?_
  rintro e w1 ⟨rfl, rfl⟩
  go_wp2_with fail
  refine (H2.out _ hA'.out).mono ?_
  rintro e w1 ⟨rfl, rfl⟩
  have HR := add64_run ML Z w1
  rw [← hSL, ← hSC] at HR
  clear hSL hSC
  go_wp2_with (simp only [HR])
  refine (HD.out _).mono ?_
  rintro e w2 ⟨r, rfl, hb⟩
  go_wp2_with fail
  go_ret
  exact ⟨rfl, hb⟩

theorem held_one {wr W w1 : World} {a : Addr} {v : Value} (hl : a.block < wr.heap.size) (h1 : W.cell? a = some v) (h2 : Below wr.heap.size wr W) (hb : Below W.heap.size W w1) : w1.cell? a = some v ∧ Below wr.heap.size wr w1 :=
  ⟨by rw [hb.cell (p := a) (Nat.lt_of_lt_of_le hl h2.size)]; exact h1, h2.trans (hb.mono h2.size)⟩

theorem limbAt_b (T : Nat) (m d : Nat) (A : Option Addr) (i : Int) (w : World) (hm : m ≤ 1048576) (hT : ln T ≤ m) (hA : RdS w A (vi (row m T))) :
    Calls Tryz.prog 145 #[.slice A m d, .int .i64 i] w fun e w' => e = .returned (.int .i64 (dgz T i)) ∧ Below w.heap.size w w' :=
  (limbAt_any T m d A i w hm hT hA).mono fun e w' ⟨h1, h2⟩ => ⟨h1, by subst h2; exact Below.refl _ _⟩

/-- The two highest limbs of b, and the number of the three highest places of T. -/
def top2 (b n : Nat) : Nat := (dgt b (n - 1) * 1000000000 + dgz b ((n : Int) - 2)).toNat
def top3N (T n : Nat) : Nat := ((dgz T n * 1000000000 + dgz T ((n : Int) - 1)) * 1000000000 + dgz T ((n : Int) - 2)).toNat

set_option maxHeartbeats 800000 in
theorem guess_any (T b n : Nat) (A D : Option Addr) (c d : Nat) (w : World) (hn : ln b = n) (h0 : 0 < n) (h60 : n ≤ 1000) (hT : ln T ≤ n + 1) (hA : RdS w A (vi (row (n + 1) T))) (hD : RdS w D (vi (nd b)))
    (hd0 : 0 < top2 b n) (hlt : top3N T n / 18446744073709551616 < top2 b n) (hq : top3N T n / top2 b n < 9223372036854775808) :
    Calls Tryz.prog 148 #[.slice A (n + 1) c, .slice D n d] w fun e w' => e = .returned (.int .i64 ((top3N T n / top2 b n : Nat) : Int)) ∧ Below w.heap.size w w' := by
  have hx0 := dgt_nonneg b (n - 1)
  have hx1 := dgt_lt b (n - 1)
  have hy0 := dgz_nonneg b ((n : Int) - 2)
  have hy1 := dgz_lt b ((n : Int) - 2)
  have hN : ((top3N T n : Nat) : Int) = (dgz T n * 1000000000 + dgz T ((n : Int) - 1)) * 1000000000 + dgz T ((n : Int) - 2) := by
    have := dgz_nonneg T n
    have := dgz_nonneg T ((n : Int) - 1)
    have := dgz_nonneg T ((n : Int) - 2)
    unfold top3N
    omega
  have hdd : dgt b (n - 1) * 1000000000 + dgz b ((n : Int) - 2) = ((top2 b n : Nat) : Int) := by unfold top2; omega
  have hdb : top2 b n < 9223372036854775808 := by omega
  have HT := Lib.hid (fun W (hb : Below w.heap.size w W) => divideTop_any T (n + 1) c A (n : Int) (top2 b n) (top3N T n) W (by omega) hT (hA.below hb) (by omega) (by omega) hd0 hdb hN hlt hq)
  have HL := Lib.hid (fun W (hb : Below w.heap.size w W) => limbAt_b b n d D ((n : Int) - 2) W (by omega) (by omega) (by have := hD.below hb; rwa [nd, hn] at this))
  obtain ⟨b1, o1, rfl, hbl, e1⟩ := hD.int (nd_get (v := b) (i := n - 1) (by omega))
  generalize dgt b (n - 1) = x at hx0 hx1 hdd e1
  generalize dgz b ((n : Int) - 2) = y at hy0 hy1 hdd HL
  generalize top2 b n = dv at HT hdd hdb
  generalize (top3N T n / dv : Nat) = Q at HT
  have hi0 : (0 : Int) ≤ (n : Int) - 1 := by omega
  have hi1 : (n : Int) - 1 < (n : Int) := by omega
  have hkt : ((n : Int) - 1).toNat = n - 1 := by omega
  have hn1 : (1 : Int) ≤ (n : Int) := by omega
  have w1 : IntKind.i64.wrap ((n : Int) - 1) = (n : Int) - 1 := by rw [IntKind.wrap_i64]; omega
  have w2 : IntKind.i64.wrap ((n : Int) - 2) = (n : Int) - 2 := by rw [IntKind.wrap_i64]; omega
  have w3 : IntKind.i64.wrap (x * 1000000000) = x * 1000000000 := by rw [IntKind.wrap_i64]; omega
  have w4 : IntKind.i64.wrap (x * 1000000000 + y) = (dv : Int) := by rw [IntKind.wrap_i64]; omega
  clear hA hD hN hT hn hd0 hlt hq hdd
  go_enter Tryz.func148, Tryz.ntmps148
  go_wp2_with fail
  go_region_held3 (fun w' => w'.cell? ⟨b1, o1 + (n - 1), none⟩ = some (.int .i64 x) ∧ Below w.heap.size w w')
    (first | (exact ⟨e1, (Below.refl _ _).drew⟩) | (go_split_ands; exact held_one hbl (by assumption) (by assumption) hbc))
    (first | (go_at_call 145; go_split_ands; refine (HL.out _ (by assumption)).mono ?_; rintro e w1 ⟨rfl, hbc⟩) | (go_at_call 138; go_split_ands; refine (HT.out _ (by assumption)).mono ?_; rintro e w1 ⟨rfl, hbc⟩))
  all_goals
    have hbw := (‹_ ∧ Below w.heap.size w _›).2
    go_wp2
    go_ret
    exact ⟨rfl, hbw⟩
end Go.Proofs.YtennekieiioilaaGreat

namespace Go.Proofs.YtennekieiioilaaGreat
set_option linter.unusedVariables false
set_option linter.unusedSimpArgs false

/-- The base's powers among the natural numbers. -/
def pn (k : Nat) : Nat := 1000000000 ^ k
theorem pn_pw (k : Nat) : pw k = ((pn k : Nat) : Int) := by unfold pw pn; rw [Int.natCast_pow]; rfl
theorem pn_pos (k : Nat) : 0 < pn k := Nat.pow_pos (by decide)
theorem pn_succ (k : Nat) : pn (k + 1) = pn k * 1000000000 := by unfold pn; rw [Nat.pow_succ]
theorem lt_pn {v n : Nat} (h : ln v ≤ n) : v < pn n := by
  have := ln_le_iff.1 h
  rw [pn_pw] at this
  omega
theorem pn_lt {v n : Nat} (h : v < pn n) : ln v ≤ n := by rw [ln_le_iff, pn_pw]; omega
/-- What is left when the limbs of the quotient from place k on are found. -/
def rest (a b k : Nat) : Nat := a % (b * pn k)
/-- Limb k of the quotient. -/
def quo (a b k : Nat) : Nat := a / b / pn k % 1000000000
theorem rest_step (a b k : Nat) : rest a b (k + 1) / pn k / b = quo a b k := by
  unfold rest quo
  rw [Nat.div_div_eq_div_mul, pn_succ, ← Nat.mul_assoc, Nat.mul_comm (pn k) b, Nat.mod_mul_right_div_self, Nat.div_div_eq_div_mul a b]
theorem rest_rest (a b k : Nat) : rest a b k = rest a b (k + 1) - quo a b k * b * pn k := by
  have h1 : rest a b k = rest a b (k + 1) % (b * pn k) := by
    unfold rest
    rw [pn_succ, ← Nat.mul_assoc, Nat.mod_mod_of_dvd _ (Nat.dvd_mul_right _ _)]
  have h2 := Nat.div_add_mod (rest a b (k + 1)) (b * pn k)
  have h3 : rest a b (k + 1) / (b * pn k) = quo a b k := by rw [← rest_step, Nat.div_div_eq_div_mul, Nat.mul_comm b]
  rw [h3] at h2
  rw [h1]
  have h4 : b * pn k * quo a b k = quo a b k * b * pn k := by rw [Nat.mul_comm, Nat.mul_assoc]
  omega
theorem rest_le (a b k : Nat) : quo a b k * b * pn k ≤ rest a b (k + 1) := by
  have h2 := Nat.div_mul_le_self (rest a b (k + 1)) (pn k * b)
  rw [← Nat.div_div_eq_div_mul, rest_step] at h2
  rw [Nat.mul_assoc, Nat.mul_comm b]
  exact h2
theorem rest_lt {a b k : Nat} (hb : 0 < b) : rest a b k < b * pn k := Nat.mod_lt _ (Nat.mul_pos hb (pn_pos k))
theorem rest_zero (a b : Nat) : rest a b 0 = a % b := by unfold rest pn; rw [Nat.pow_zero, Nat.mul_one]
theorem rest_all {a b k : Nat} (h : a < b * pn k) : rest a b k = a := Nat.mod_eq_of_lt h
theorem quo_dgt (a b k : Nat) : ((quo a b k : Nat) : Int) = dgt ((a / b : Nat) : Int) k := by
  unfold quo dgt
  rw [pn_pw]
  omega
theorem top_lt {a b k : Nat} (hb : 0 < b) : rest a b (k + 1) / pn k < 1000000000 * b := by
  rw [Nat.div_lt_iff_lt_mul (pn_pos k)]
  have := rest_lt (a := a) (k := k + 1) hb
  rw [pn_succ, ← Nat.mul_assoc] at this
  rw [Nat.mul_comm 1000000000, Nat.mul_right_comm]
  exact this

/-- The highest limbs as quotients by a power. -/
theorem dgt_div {T : Int} {i : Nat} (h : T / pw (i + 1) = 0) : T / pw i = dgt T i := by
  have := div_split T i
  rw [h] at this
  omega
theorem top2_div {b n : Nat} (hn : ln b = n) (h : 2 ≤ n) : top2 b n = b / pn (n - 2) := by
  obtain ⟨m, rfl⟩ : ∃ m, n = m + 2 := ⟨n - 2, by omega⟩
  have h0 : (b : Int) / pw (m + 2) = 0 := div_small (by omega) (ln_lt' hn)
  have h1 := dgt_div (T := b) (i := m + 1) h0
  have h2 := div_split (b : Int) m
  have h3 : dgz (b : Int) (((m + 2 : Nat) : Int) - 2) = dgt b m := by
    unfold dgz
    rw [if_neg (by omega), show (((m + 2 : Nat) : Int) - 2).toNat = m by omega]
  unfold top2
  rw [h3, show m + 2 - 1 = m + 1 by omega, ← h1, ← h2, show m + 2 - 2 = m by omega, pn_pw, ← Int.natCast_ediv, Int.toNat_natCast]
theorem top2_one {b : Nat} (hn : ln b = 1) : top2 b 1 = b * 1000000000 := by
  have h0 : (b : Int) / pw 1 = 0 := div_small (by omega) (ln_lt' hn)
  have h1 := dgt_div (T := b) (i := 0) h0
  rw [div_zero] at h1
  unfold top2 dgz
  rw [show 1 - 1 = 0 from rfl, ← h1]
  have : ((1 : Nat) : Int) - 2 < 0 := by decide
  rw [if_pos this]
  omega
theorem top3_div {T n : Nat} (h : ln T ≤ n + 1) (h2 : 2 ≤ n) : top3N T n = T / pn (n - 2) := by
  obtain ⟨m, rfl⟩ : ∃ m, n = m + 2 := ⟨n - 2, by omega⟩
  have h0 : (T : Int) / pw (m + 2 + 1) = 0 := div_small (by omega) (ln_le_iff.1 h)
  have h1 := dgt_div (T := T) (i := m + 2) h0
  have h3 : (T : Int) / pw (m + 1) = (T : Int) / pw (m + 2) * 1000000000 + dgt T (m + 1) := div_split (T : Int) (m + 1)
  have h4 := div_split (T : Int) m
  have e0 : dgz (T : Int) ((m + 2 : Nat) : Int) = dgt T (m + 2) := by unfold dgz; rw [if_neg (by omega), Int.toNat_natCast]
  have e1 : dgz (T : Int) (((m + 2 : Nat) : Int) - 1) = dgt T (m + 1) := by unfold dgz; rw [if_neg (by omega), show (((m + 2 : Nat) : Int) - 1).toNat = m + 1 by omega]
  have e2 : dgz (T : Int) (((m + 2 : Nat) : Int) - 2) = dgt T m := by unfold dgz; rw [if_neg (by omega), show (((m + 2 : Nat) : Int) - 2).toNat = m by omega]
  unfold top3N
  rw [e0, e1, e2, ← h1, ← h3, ← h4, show m + 2 - 2 = m by omega, pn_pw, ← Int.natCast_ediv, Int.toNat_natCast]
theorem top3_one {T : Nat} (h : ln T ≤ 2) : top3N T 1 = T * 1000000000 := by
  have h0 : (T : Int) / pw (1 + 1) = 0 := div_small (by omega) (ln_le_iff.1 h)
  have h1 := dgt_div (T := T) (i := 1) h0
  have h4 := div_split (T : Int) 0
  rw [div_zero] at h4
  have e0 : dgz (T : Int) ((1 : Nat) : Int) = dgt T 1 := by unfold dgz; rw [if_neg (by omega), Int.toNat_natCast]
  have e1 : dgz (T : Int) (((1 : Nat) : Int) - 1) = dgt T 0 := by unfold dgz; rw [if_neg (by omega)]; rfl
  have e2 : dgz (T : Int) (((1 : Nat) : Int) - 2) = 0 := if_pos (by decide)
  unfold top3N
  rw [e0, e1, e2]
  rw [show (0 : Nat) + 1 = 1 from rfl] at h4
  omega
theorem ln_big {b n : Nat} (hn : ln b = n) (h0 : 0 < n) : pn (n - 1) ≤ b := by
  have hb : 0 < b := by
    rcases Nat.eq_zero_or_pos b with h | h
    · subst h; rw [ln_zero] at hn; omega
    · exact h
  have := ln_ge b hb
  rw [hn, pn_pw] at this
  omega
/-- The guess is the limb, or one more; and it is no more than the base. -/
theorem guess_facts {T b n : Nat} (hn : ln b = n) (h0 : 0 < n) (hT : T < 1000000000 * b) (hTn : ln T ≤ n + 1) :
    0 < top2 b n ∧ T / b ≤ top3N T n / top2 b n ∧ top3N T n / top2 b n ≤ T / b + 1 ∧ top3N T n / top2 b n ≤ 1000000000 := by
  have hbb := ln_big hn h0
  have hp := pn_pos (n - 1)
  have hb : 0 < b := by omega
  by_cases h1 : n = 1
  · subst h1
    rw [top2_one hn, top3_one hTn, Nat.mul_div_mul_right _ _ (by decide : 0 < 1000000000)]
    have hq : T / b < 1000000000 := by rw [Nat.div_lt_iff_lt_mul hb]; exact hT
    exact ⟨by omega, Nat.le_refl _, by omega, by omega⟩
  · have h2 : 2 ≤ n := by omega
    rw [top2_div hn h2, top3_div hTn h2]
    have hS := pn_pos (n - 2)
    have hd : 1000000000 ≤ b / pn (n - 2) := by
      rw [Nat.le_div_iff_mul_le hS, Nat.mul_comm, ← pn_succ, show n - 2 + 1 = n - 1 by omega]
      exact hbb
    exact ⟨by omega, guess_ge hS (by omega), guess_le hS hb hd hT, guess_B hS hd hT⟩

theorem row_set {K j : Nat} {X d : Int} (hj : j < K) (hX : X % pw (j + 1) = 0) (hd0 : 0 ≤ d) (hd1 : d < 1000000000) : (row K X).set j d = row K (X + d * pw j) := by
  have h1 := Int.mul_ediv_add_emod X (pw (j + 1))
  rw [hX, Int.add_zero] at h1
  generalize X / pw (j + 1) = Z at h1
  subst h1
  have hY : (pw (j + 1) * Z + d * pw j) / pw (j + 1) = Z := by
    rw [Int.add_comm, Int.mul_comm (pw (j + 1)) Z, Int.add_mul_ediv_right _ _ (pw_ne _), div_small (Int.mul_nonneg hd0 (Int.le_of_lt (pw_pos j)))]
    · omega
    · rw [pw_succ, Int.mul_comm]
      exact Int.mul_lt_mul_of_pos_left hd1 (pw_pos j)
  have hX' : pw (j + 1) * Z / pw (j + 1) = Z := Int.mul_ediv_cancel_left _ (pw_ne _)
  apply List.ext_getElem?
  intro t
  rw [List.getElem?_set, row_length]
  by_cases h2 : j = t
  · subst h2
    rw [if_pos rfl, if_pos hj, row_get _ hj]
    have h3 := div_split (pw (j + 1) * Z + d * pw j) j
    rw [hY, pw_succ, show pw j * 1000000000 * Z + d * pw j = (1000000000 * Z + d) * pw j by rw [Int.add_mul, Int.mul_comm (pw j), Int.mul_right_comm], Int.mul_ediv_cancel _ (pw_ne _)] at h3
    congr 1
    have h4 := dgt_nonneg ((1000000000 * Z + d) * pw j) j
    rw [pw_succ, show pw j * 1000000000 * Z + d * pw j = (1000000000 * Z + d) * pw j by rw [Int.add_mul, Int.mul_comm (pw j), Int.mul_right_comm]]
    omega
  · rw [if_neg h2]
    rcases Nat.lt_or_ge t K with h5 | h5
    · rw [row_get _ h5, row_get _ h5]
      congr 1
      rcases Nat.lt_or_ge t j with h6 | h6
      · refine dgt_congr (n := j) ?_ h6
        rw [Int.add_mul_emod_self_right]
      · obtain ⟨e, rfl⟩ : ∃ e, t = j + 1 + e := ⟨t - j - 1, by omega⟩
        rw [← dgt_shift, ← dgt_shift, hX', hY]
    · rw [List.getElem?_eq_none (by rw [row_length]; exact h5), List.getElem?_eq_none (by rw [row_length]; exact h5)]
/-- The quotient with its limbs from place k on. -/
def quoTo (a b k : Nat) : Int := ((a / b / pn k * pn k : Nat) : Int)
theorem quoTo_step (a b k : Nat) : quoTo a b k = quoTo a b (k + 1) + (quo a b k : Int) * pw k := by
  unfold quoTo quo
  rw [pn_pw, ← Int.natCast_mul, ← Int.natCast_add]
  congr 1
  have h1 := Nat.div_add_mod (a / b / pn k) 1000000000
  rw [pn_succ, ← Nat.div_div_eq_div_mul]
  generalize a / b / pn k = q at h1 ⊢
  conv => lhs; rw [← h1]
  rw [Nat.add_mul, Nat.mul_comm (pn k), ← Nat.mul_assoc, Nat.mul_comm 1000000000]
theorem quoTo_mod (a b k : Nat) : quoTo a b k % pw k = 0 := by
  unfold quoTo
  rw [pn_pw, Int.natCast_mul]
  exact Int.mul_emod_left _ _
theorem quoTo_zero (a b : Nat) : quoTo a b 0 = ((a / b : Nat) : Int) := by unfold quoTo pn; rw [Nat.pow_zero, Nat.div_one, Nat.mul_one]
theorem quoTo_all {a b k : Nat} (h : a < b * pn k) : quoTo a b k = 0 := by
  unfold quoTo
  have : a / b / pn k = 0 := by
    rw [Nat.div_div_eq_div_mul]
    exact Nat.div_eq_of_lt h
  rw [this, Nat.zero_mul]
  rfl
end Go.Proofs.YtennekieiioilaaGreat

namespace Go.Proofs.YtennekieiioilaaGreat
open Go.ChangeShapes Go.WideShapes Go.ChangeAt Go.RowKit
open Go.ChangeMaps (open_string shut_string)
set_option linter.unusedVariables false
set_option linter.unusedSimpArgs false
set_option maxRecDepth 4000

theorem grown_set_new {w w1 : World} {row : Option Nat} {g : Nat} (h : w.grownBy w1 row) (hg : w.heap.size ≤ g) (o : Nat) (u : Value) : w.grownBy (w1.setCell ⟨g, o, none⟩ u) row :=
  ⟨h.os, h.tape, h.output, by simpa [World.setCell] using h.size, fun i hi hne => (Below.heap_setCell w1 ⟨g, o, none⟩ u i (by intro e; simp at e; omega)).trans (h.block i hi hne)⟩
theorem grown_trans {w w1 w2 : World} {row : Option Nat} (h : w.grownBy w1 row) (k : w1.grownBy w2 row) : w.grownBy w2 row :=
  ⟨k.os.trans h.os, k.tape.trans h.tape, k.output.trans h.output, Nat.le_trans h.size k.size, fun i hi hne => (k.block i (Nat.lt_of_lt_of_le hi h.size) hne).trans (h.block i hi hne)⟩
theorem Blk.kept {w w' : World} {g g' : Nat} {L : List Int} (h : Blk w g L) (hne : g ≠ g') (hg : w.grownBy w' (some g')) : Blk w' g L := by
  unfold Blk
  rw [hg.block g h.lt (by intro e; injection e with e; exact hne e)]
  exact h
theorem Blk.kept_set {w : World} {g g' o : Nat} {L : List Int} {u : Value} (h : Blk w g L) (hne : g ≠ g') : Blk (w.setCell ⟨g', o, none⟩ u) g L := by
  unfold Blk
  rw [Below.heap_setCell w ⟨g', o, none⟩ u g (by intro e; exact hne e)]
  exact h
theorem Blk.rd_at {w : World} {g N j n : Nat} {X T : Int} (h : Blk w g (row N X)) (hT : ∀ t, t < n → dgt T t = dgt X (j + t)) (hN : j + n ≤ N) : RdS w (some ⟨g, j, none⟩) (vi (row n T)) :=
  .inr ⟨g, j, rfl, h.lt, fun t ht => by
    rw [vi_length, row_length] at ht
    rw [h.cell (row_get X (by omega)), vi_get? (row_get T ht), hT t ht]⟩

theorem rest_pw {a b k n m : Nat} (hb : 0 < b) (hbn : b < pn n) (h : k + n ≤ m) : ((rest a b k : Nat) : Int) < pw m := by
  rw [pn_pw]
  have h1 := rest_lt (a := a) (k := k) hb
  have h2 : b * pn k ≤ pn n * pn k := Nat.mul_le_mul_right _ (Nat.le_of_lt hbn)
  have h3 : pn n * pn k = pn (n + k) := by unfold pn; rw [Nat.pow_add]
  have h4 : pn (n + k) ≤ pn m := Nat.pow_le_pow_right (by decide) (by omega)
  omega

/-- What 'divideRow' leaves. -/
def DivPost (a b N n g : Nat) (w : World) (e : Ending) (w' : World) : Prop :=
  ∃ gq, w.heap.size ≤ gq ∧ e = .returned (.slice (some ⟨gq, 0, none⟩) (N - n) (N - n)) ∧ Blk w' gq (row (N - n) ((a / b : Nat) : Int)) ∧ Blk w' g (row N ((a % b : Nat) : Int)) ∧ w.grownBy w' (some g)

set_option maxHeartbeats 1600000 in
theorem divideRow_any (a b N n g d : Nat) (D : Option Addr) (w : World) (hn : ln b = n) (h0 : 0 < n) (h60 : n ≤ 60) (hN : N ≤ 100) (ha : ln a + 1 ≤ N) (hB : Blk w g (row N a)) (hD : RdS w D (vi (nd b))) (hDg : ∀ bl o, D = some ⟨bl, o, none⟩ → bl ≠ g) :
    Calls Tryz.prog 140 #[.slice (some ⟨g, 0, none⟩) N N, .slice D n d] w (DivPost a b N n g w) := by
  obtain ⟨i0, hi, hz0, hz1, hz2⟩ := info_parts int_info
  have hbig := ln_big hn h0
  have hpb := pn_pos (n - 1)
  have hb0 : 0 < b := by omega
  have hbn : b < pn n := lt_pn (by omega)
  have hgw := hB.lt
  by_cases hnN : n ≤ N
  · obtain ⟨K, hK⟩ : ∃ K, K = N - n := ⟨_, rfl⟩
    have haK : a < b * pn K := by
      have h1 : a < pn (N - 1) := lt_pn (by omega)
      have h2 : pn (n - 1) * pn K = pn (N - 1) := by
        unfold pn
        rw [← Nat.pow_add]
        congr 1
        omega
      have h3 : pn (n - 1) * pn K ≤ b * pn K := Nat.mul_le_mul_right _ hbig
      omega
    have hstart : Hid (rest a b K = a ∧ quoTo a b K = 0) := Lib.hid ⟨rest_all haK, quoTo_all haK⟩
    have HF := Lib.hid (fun j (hj : j < K) => guess_facts (T := rest a b (j + 1) / pn j) hn h0 (top_lt hb0) (pn_lt (by
      have h1 := top_lt (a := a) (k := j) hb0
      rw [show n + 1 = n + 1 from rfl, pn_succ]
      omega)))
    have HTl := Lib.hid (fun j => (pn_lt (v := rest a b (j + 1) / pn j) (n := n + 1) (by
      have h1 := top_lt (a := a) (k := j) hb0
      rw [pn_succ]
      omega)))
    have HNn := Lib.hid hn
    have HDg := Lib.hid hDg
    have hsub : (N : Int) - (n : Int) = (K : Int) := by omega
    have hmax : max (K : Int) 0 = (K : Int) := by omega
    have hneg : ¬ (K : Int) < 0 := by omega
    have hKN : K + n = N := by omega
    unfold DivPost
    rw [← hK]
    clear hK haK hbig hpb hn hDg
    go_enter Tryz.func140, Tryz.ntmps140
    go_wp2_with (first | (refine wpList_make_full _ rfl (.tmp 16) (.tmp 16) 26 rfl w.heap.size 3 i0 _ 1 Tryz.underlying26 hi hz0 hz1 .i64 .i64 (K : Int) (K : Int) K rfl rfl rfl rfl (by rw [hz2]; omega) (by simp only [maxLen]; omega) (Nat.le_refl _) ?_; intro w1 hown hg1; refine cut_here ?_))
    have hq1 := Blk.of_made hown (zeros K)
    have hgr1 : w.grownBy w1 (some g) := ⟨hg1.os, hg1.tape, hg1.output, hg1.size, fun i hi _ => hg1.block i hi (by simp)⟩
    have hB1 : Blk w1 g (row N ((rest a b K : Nat) : Int)) := by
      rw [hstart.out.1]
      unfold Blk
      rw [hg1.block g hgw (by simp)]
      exact hB
    rw [← hstart.out.2] at hq1
    clear hown hg1 hB
    refine Cut.of ?_
    go_wp2_with fail
    go_loopw [7] (fun i w' => ∃ (k : Nat) (x : Int), k ≤ K ∧ i = .int .i64 x ∧ x = (k : Int) - 1 ∧ Blk w' g (row N ((rest a b k : Nat) : Int)) ∧ Blk w' w.heap.size (row K (quoTo a b k)) ∧ w.grownBy w' (some g)) (fun i _ => (intOf i + 1).toNat)
    case atStart => exact ⟨K, _, Nat.le_refl _, rfl, rfl, hB1, hq1, hgr1⟩
    case round =>
      clear hB1 hq1 hgr1 hstart
      obtain ⟨k, x, hk, rfl, hx, hB, hQ, hgr⟩ := hrel
      rcases k with _ | j
      · obtain rfl : x = -1 := by omega
        clear hx
        go_wp2_with fail
        go_ret
        rw [rest_zero] at hB
        rw [quoTo_zero] at hQ
        exact ⟨w.heap.size, Nat.le_refl _, rfl, hQ, hB, hgr⟩
      · obtain rfl : x = (j : Int) := by omega
        clear hx
        have hjK : j < K := by omega
        obtain ⟨T, hT⟩ : ∃ T, T = rest a b (j + 1) / pn j := ⟨_, rfl⟩
        have hTq : T / b = quo a b j := by rw [hT]; exact rest_step a b j
        have hf := HF.out j hjK
        have hTl := HTl.out j
        rw [← hT] at hf hTl
        have hTd : ∀ t, dgt (T : Int) t = dgt ((rest a b (j + 1) : Nat) : Int) (j + t) := fun t => by
          rw [← dgt_shift, hT, pn_pw, Int.natCast_ediv]
        have hTI : ((rest a b (j + 1) : Nat) : Int) / pw j = (T : Int) := by rw [hT, pn_pw, Int.natCast_ediv]
        obtain ⟨hf0, hf1, hf2, hf3⟩ := hf
        rw [hTq] at hf1 hf2
        have hlt : top3N T n / 18446744073709551616 < top2 b n := by
          have h1 : top3N T n < 1000000001 * top2 b n := (Nat.div_lt_iff_lt_mul hf0).1 (by omega)
          rw [Nat.div_lt_iff_lt_mul (by decide)]
          omega
        have HGu := Lib.hid (fun W (hA : RdS W (some ⟨g, j, none⟩) (vi (row (n + 1) T))) (hD' : RdS W D (vi (nd b))) => guess_any T b n (some ⟨g, j, none⟩) D (n + 1) d W HNn.out h0 (by omega) hTl hA hD' hf0 hlt (by omega))
        obtain ⟨Qh, hQh⟩ : ∃ Q, Q = top3N T n / top2 b n := ⟨_, rfl⟩
        rw [← hQh] at hf1 hf2 hf3 HGu
        have hqB : quo a b j < 1000000000 := Nat.mod_lt _ (by decide)
        have HQs : Hid ((row K (quoTo a b (j + 1))).set j (quo a b j : Int) = row K (quoTo a b j)) := Lib.hid (by rw [quoTo_step a b j]; exact row_set hjK (quoTo_mod a b (j + 1)) (by omega) (by omega))
        have HRs : Hid (lay (row N ((rest a b (j + 1) : Nat) : Int)) j ((T : Int) + -((quo a b j * b : Nat) : Int)) (n + 1) = row N ((rest a b j : Nat) : Int)) := by
          refine Lib.hid ?_
          rw [← hTI]
          refine lay_row (by omega) ?_ (by omega) (rest_pw hb0 hbn (by omega)) (by omega) (rest_pw hb0 hbn (by omega))
          have h1 := rest_rest a b j
          have h2 := rest_le a b j
          rw [Int.neg_mul, pn_pw, ← Int.natCast_mul]
          omega
        have hTB : T < 1000000000 * b := by rw [hT]; exact top_lt hb0
        have HCar : ∀ f : Int, car T b f (n + 1) = ((T : Int) + f * (b : Int)) / pw (n + 1) := fun f => car_all (by omega) (ln_le_iff.1 hTl) (by omega) (by rw [pn_pw]; have := pn_succ n; omega)
        have hTb := Nat.div_add_mod T b
        rw [hTq] at hTb
        have hTm := Nat.mod_lt T hb0
        have HP1 := Lib.hid (fun W (hBW : Blk W g (row N ((rest a b (j + 1) : Nat) : Int))) (hDW : RdS W D (vi (nd b))) =>
          pass_any g j (n + 1) N n (row N ((rest a b (j + 1) : Nat) : Int)) T b (-(Qh : Int)) D (n + 1) d W (row_length _ _) (by omega) (by omega) (by omega) (fun t ht => by rw [row_get _ (by omega), hTd t]) (by rw [nd, HNn.out] at hDW; exact hDW) (by omega) (ln_lt' HNn.out) (fun _ => HDg.out) hBW (by omega) (by omega))
        have HP2 := Lib.hid (fun W (hBW : Blk W g (lay (row N ((rest a b (j + 1) : Nat) : Int)) j ((T : Int) + -(Qh : Int) * (b : Int)) (n + 1))) (hDW : RdS W D (vi (nd b))) =>
          pass_any g j (n + 1) N n _ ((T : Int) + -(Qh : Int) * (b : Int)) b 1 D (n + 1) d W (by rw [lay_length _ (by rw [row_length]; omega), row_length]) (by omega) (by omega) (by omega) (fun t ht => lay_in _ (by rw [row_length]; omega) ht) (by rw [nd, HNn.out] at hDW; exact hDW) (by omega) (ln_lt' HNn.out) (fun _ => HDg.out) hBW (by omega) (by omega))
        have hrd : RdS wr (some ⟨g, j, none⟩) (vi (row (n + 1) (T : Int))) := hB.rd_at (fun t _ => hTd t) (by omega)
        have hDr : RdS wr D (vi (nd b)) := hD.grown HDg.out hgr
        have hjI : (j : Int) < (K : Int) := by omega
        have hj0 : (0 : Int) ≤ (j : Int) := by omega
        have hwQ : IntKind.i64.wrap (-(Qh : Int)) = -(Qh : Int) := by rw [IntKind.wrap_i64]; omega
        have hgq : w.heap.size ≠ g := by omega
        have hcase : Qh = quo a b j ∨ Qh = quo a b j + 1 := by omega
        have HC : Hid ((Qh = quo a b j → 0 ≤ car T b (-(Qh : Int)) (n + 1)) ∧ (Qh = quo a b j + 1 → car T b (-(Qh : Int)) (n + 1) < 0)) := by
          refine Lib.hid ⟨fun h => ?_, fun h => ?_⟩
          · rw [HCar, h]
            refine Int.ediv_nonneg ?_ (Int.le_of_lt (pw_pos _))
            rw [Int.neg_mul, ← Int.natCast_mul, Nat.mul_comm]
            omega
          · rw [HCar, h]
            refine Int.ediv_neg_of_neg_of_pos ?_ (pw_pos _)
            rw [Int.neg_mul, ← Int.natCast_mul, Nat.mul_comm, Nat.mul_add, Nat.mul_one]
            omega
        have HE1 : Hid (Qh = quo a b j → (T : Int) + -(Qh : Int) * (b : Int) = (T : Int) + -((quo a b j * b : Nat) : Int)) := Lib.hid (fun h => by rw [h, Int.neg_mul, Int.natCast_mul])
        have HE2 : Hid (Qh = quo a b j + 1 → (T : Int) + -(Qh : Int) * (b : Int) + 1 * (b : Int) = (T : Int) + -((quo a b j * b : Nat) : Int)) := Lib.hid (fun h => by rw [h, Int.neg_mul, ← Int.natCast_mul, Nat.add_mul]; omega)
        have HcQ := Lib.hid (row_get (n := K) (quoTo a b (j + 1)) hjK)
        obtain ⟨cc, hcc⟩ : ∃ c, c = car T b (-(Qh : Int)) (n + 1) := ⟨_, rfl⟩
        rw [← hcc] at HC HP1
        obtain ⟨qq, hqq⟩ : ∃ q, q = quo a b j := ⟨_, rfl⟩
        rw [← hqq] at hf1 hf2 hqB HQs HRs hcase HC HE1 HE2
        clear hcc hqq hTq hT hTI hTb hTm HCar hQh hlt hf0 hTB hTd hTl
        go_wp2_with fail
        refine (window_int g N j (n + 1) _ _ wr (by omega) (by omega) (by omega) (by omega) (by omega)).mono ?_
        rintro e w2 ⟨rfl, rfl⟩
        go_wp2_with fail
        refine (HGu.out _ hrd hDr).mono ?_
        rintro e w2 ⟨rfl, hb2⟩
        have hB2 := hB.below hB.lt hb2
        have hQ2 := hQ.below hQ.lt hb2
        have hgr2 := grown_below hgr hb2
        have hDr2 := hDr.below hb2
        go_wp2_with fail
        refine (HP1.out _ hB2 hDr2).mono ?_
        rintro e w3 ⟨rfl, hB3, hg3⟩
        have hQ3 := hQ2.kept hgq hg3
        have hgr3 := grown_trans hgr2 hg3
        have hDr3 := hDr2.grown HDg.out hg3
        clear hrd hDr hB hQ hB2 hQ2 HGu HP1 hDr2
        rcases hcase with hc | hc
        · have hcn := HC.out.1 hc
          have hE := HE1.out hc
          rw [hE, HRs.out] at hB3
          subst hc
          have hcc : ¬ cc < 0 := by omega
          have hc1 := hQ3.cell HcQ.out
          have hf1' := hQ3.free j
          clear HC HE1 HE2 HP2 hE hcn
          go_wp2_with fail
          go_roundw
          case rel => exact ⟨j, _, by omega, rfl, rfl, hB3.kept_set (Ne.symm hgq), by have := hQ3.set j (Qh : Int); rwa [HQs.out] at this, grown_set_new hgr3 (Nat.le_refl _) _ _⟩
          case measure => simp [intOf]
        · have hcn := HC.out.2 hc
          have hE := HE2.out hc
          have HP2' := Lib.hid (HP2.out w3 hB3 hDr3)
          have hwq : IntKind.i64.wrap ((Qh : Int) - 1) = (qq : Int) := by rw [IntKind.wrap_i64]; omega
          have hwq' : (Qh : Int) - 1 = (qq : Int) := by omega
          clear HC HE1 HE2 HP2 hc
          go_wp2_with fail
          refine HP2'.out.mono ?_
          rintro e w4 ⟨rfl, hB4, hg4⟩
          rw [lay_lay _ _ (by rw [row_length]; omega), hE, HRs.out] at hB4
          have hQ4 := hQ3.kept hgq hg4
          have hgr4 := grown_trans hgr3 hg4
          have hc1 := hQ4.cell HcQ.out
          have hf1' := hQ4.free j
          go_wp2_with fail
          go_roundw
          case rel => exact ⟨j, _, by omega, rfl, rfl, hB4.kept_set (Ne.symm hgq), by have := hQ4.set j (qq : Int); rwa [HQs.out] at this, grown_set_new hgr4 (Nat.le_refl _) _ _⟩
          case measure => simp [intOf]
  · have hKz : N - n = 0 := by omega
    have hab : a < b := by
      have h1 : a < pn (N - 1) := lt_pn (by omega)
      have h2 : pn (N - 1) ≤ pn (n - 1) := Nat.pow_le_pow_right (by decide) (by omega)
      omega
    have hdm : a / b = 0 ∧ a % b = a := ⟨Nat.div_eq_of_lt hab, Nat.mod_eq_of_lt hab⟩
    have hsub : (N : Int) - (n : Int) < 0 := by omega
    have hmax : max ((N : Int) - (n : Int)) 0 = 0 := by omega
    unfold DivPost
    rw [hKz, hdm.1, hdm.2]
    clear hab hdm hbig hpb hn hDg
    go_enter Tryz.func140, Tryz.ntmps140
    go_wp2_with (first | (refine wpList_make_full _ rfl (.tmp 16) (.tmp 16) 26 rfl w.heap.size 3 i0 _ 1 Tryz.underlying26 hi hz0 hz1 .i64 .i64 0 0 0 rfl rfl rfl rfl (by omega) (by simp only [maxLen]; omega) (Nat.le_refl _) ?_; intro w1 hown hg1; refine cut_here ?_))
    have hq1 := Blk.of_made hown (zeros 0)
    have hgr1 : w.grownBy w1 (some g) := ⟨hg1.os, hg1.tape, hg1.output, hg1.size, fun i hi _ => hg1.block i hi (by simp)⟩
    have hB1 : Blk w1 g (row N (a : Int)) := by
      unfold Blk
      rw [hg1.block g hgw (by simp)]
      exact hB
    clear hown hg1 hB
    refine Cut.of ?_
    go_wp2_with fail
    go_loopw [7] (fun i w' => i = .int .i64 (-1) ∧ w1 = w') (fun i _ => 0)
    case atStart => exact ⟨rfl, rfl⟩
    case round =>
      obtain ⟨rfl, rfl⟩ := hrel
      go_wp2_with fail
      go_ret
      exact ⟨w.heap.size, Nat.le_refl _, rfl, hq1, hB1, hgr1⟩
end Go.Proofs.YtennekieiioilaaGreat

namespace Go.Proofs.YtennekieiioilaaGreat
open Go.ChangeShapes Go.WideShapes Go.ChangeAt Go.RowKit
open Go.ChangeMaps (open_string shut_string)
set_option linter.unusedVariables false
set_option linter.unusedSimpArgs false
set_option maxRecDepth 4000

/-- As MadeI; and it is known in which block the row lies. -/
def MadeAt (B g : Nat) (L : List Int) (w : World) (e : Ending) (w' : World) : Prop :=
  ∃ A c, e = .returned (.slice A L.length c) ∧ L.length ≤ c ∧ OwnS B w' A (vi L) ∧ Below w.heap.size w w' ∧ (L = [] ∨ A = some ⟨g, 0, none⟩)

set_option maxHeartbeats 800000 in
theorem natOfRow_at (B g n c T : Nat) (w : World) (hBg : B ≤ g) (hb : Blk w g (row n T)) (hT : ln T ≤ n) (hc : n ≤ c) (hn : n ≤ 1048576) (hcm : c ≤ 1048576) :
    Calls Tryz.prog 125 #[.slice (some ⟨g, 0, none⟩) n c] w (MadeAt B g (cap60 T) w) := by
  go_enter Tryz.func125, Tryz.ntmps125
  go_wp2
  go_loop [3] (fun i => ∃ k : Nat, k ≤ n ∧ ln T ≤ k ∧ i = .int .i64 (k : Int)) (fun i => (intOf i).toNat)
  case atStart => exact ⟨n, Nat.le_refl _, hT, rfl⟩
  case round =>
    obtain ⟨k, hk, hTk, rfl⟩ := hrel
    by_cases hz : 0 < k ∧ dgt T (k - 1) = 0
    · have hc1 := hb.cell (row_get (n := n) (i := k - 1) T (by omega))
      have h2 := trim_step hz.1 hTk hz.2
      have hp := hz.1
      rw [hz.2] at hc1
      have hk1 : ((k : Int) - 1) = ((k - 1 : Nat) : Int) := by omega
      have hk0 : (0 : Int) ≤ (k : Int) - 1 := by omega
      have hk2 : (k : Int) - 1 < (n : Int) := by omega
      have hkt : ((k : Int) - 1).toNat = k - 1 := by omega
      clear hz
      go_wp2
      go_round
      case rel => exact ⟨k - 1, by omega, h2, by go_num⟩
      case measure => simp [intOf]; omega
    · have hkT : Hid (ln T = k) := by
        refine Lib.hid ?_
        by_cases h0 : 0 < k
        · exact trim_stop h0 hTk (fun e => hz ⟨h0, e⟩)
        · omega
      have fin : k ≤ 60 → MadeAt B g (cap60 T) w (.returned (.slice (some ⟨g, 0, none⟩) k k)) w := fun h => by
        rw [cap60_in (by rw [hkT.out]; exact h)]
        refine ⟨some ⟨g, 0, none⟩, k, by rw [nd_length, hkT.out], by rw [nd_length, hkT.out]; exact Nat.le_refl _, ?_, Below.refl _ _, .inr rfl⟩
        have h1 := (hb.own hBg).take k
        rw [← vi_take, row_take T hk] at h1
        unfold nd
        rw [hkT.out]
        exact h1
      by_cases h0 : 0 < k
      · have hc1 := hb.cell (row_get (n := n) (i := k - 1) T (by omega))
        have hne : dgt T (k - 1) ≠ 0 := fun e => hz ⟨h0, e⟩
        have hk1 : ((k : Int) - 1) = ((k - 1 : Nat) : Int) := by omega
        clear hz
        generalize dgt T (k - 1) = x at hc1 hne
        have q : (x == 0) = false := by rw [beq_eq_false_iff_ne]; exact hne
        by_cases h60 : 60 < k
        · go_wp2
          go_ret
          rw [cap60_out (by rw [hkT.out]; exact h60)]
          exact ⟨none, 0, rfl, Nat.le_refl _, .inl rfl, Below.refl _ _, .inl rfl⟩
        · go_wp2
          go_ret
          exact fin (by omega)
      · obtain rfl : k = 0 := by omega
        go_wp2
        go_ret
        exact fin (by omega)


/-- Two rows of the call's own, in two blocks. -/
def Pair2 (B : Nat) (L M : List Int) (w : World) (e : Ending) (w' : World) : Prop :=
  ∃ A c D d, e = .returned (.tuple #[.slice A L.length c, .slice D M.length d]) ∧ L.length ≤ c ∧ M.length ≤ d ∧ OwnS B w' A (vi L) ∧ OwnS B w' D (vi M) ∧ Below w.heap.size w w' ∧ (∀ g g', rowOf L.length A = some g → rowOf M.length D = some g' → g ≠ g')
theorem Pair2.nil (B : Nat) (w : World) : Pair2 B [] [] w (.returned (.tuple #[.slice none 0 0, .slice none 0 0])) w :=
  ⟨none, 0, none, 0, rfl, Nat.le_refl _, Nat.le_refl _, .inl rfl, .inl rfl, Below.refl _ _, fun g g' h => by simp [rowOf] at h⟩
theorem rowOf_at {L : List Int} {A : Option Addr} {g g' : Nat} (h : L = [] ∨ A = some ⟨g, 0, none⟩) (hr : rowOf L.length A = some g') : g' = g := by
  rcases h with h | h
  · subst h; simp [rowOf] at hr
  · subst h
    unfold rowOf at hr
    split at hr
    · cases hr
    · simp at hr; exact hr.symm

set_option maxHeartbeats 800000 in
theorem impl_div (a b : Nat) (A D : Option Addr) (n c n' d : Nat) (w : World) (hn : ln a = n) (hn' : ln b = n') (h60 : n ≤ 60) (h60' : n' ≤ 60) (hb0 : 0 < n') (hA : RdS w A (vi (nd a))) (hD : RdS w D (vi (nd b))) :
    Calls Tryz.prog 120 #[.slice A n c, .slice D n' d] w (Pair2 w.heap.size (nd (a / b)) (nd (a % b)) w) := by
  have H1 := are_any (nd a) (nd b) A D n c n' d w (by rw [nd_length, hn]) (by rw [nd_length, hn']) (by omega) (by omega) hA hD
  rw [nd_ok (by omega), nd_ok (by omega)] at H1
  have H2 := Lib.hid (copy_int a A n c 1 1 w rfl hn (by omega) (by omega) hA)
  have HDv := Lib.hid (fun g W (hB : Blk W g (row (n + 1) a)) (hDW : RdS W D (vi (nd b))) (hDg : ∀ bl o, D = some ⟨bl, o, none⟩ → bl ≠ g) => divideRow_any a b (n + 1) n' g d D W hn' hb0 (by omega) (by omega) (by omega) hB hDW hDg)
  have hbb := ln_big hn' hb0
  have hpp := pn_pos (n' - 1)
  have hq : ln (a / b) ≤ n + 1 - n' := by
    refine pn_lt ?_
    rw [Nat.div_lt_iff_lt_mul (by omega)]
    have h1 : a < pn n := lt_pn (by omega)
    rcases Nat.lt_or_ge (n + 1) n' with h | h
    · have h2 : pn n ≤ pn (n' - 1) := Nat.pow_le_pow_right (by decide) (by omega)
      rw [show n + 1 - n' = 0 by omega]
      show a < 1 * b
      omega
    · have h2 : pn (n + 1 - n') * pn (n' - 1) = pn n := by unfold pn; rw [← Nat.pow_add]; congr 1; omega
      have h3 : pn (n + 1 - n') * pn (n' - 1) ≤ pn (n + 1 - n') * b := Nat.mul_le_mul_left _ hbb
      omega
  have hr : ln (a % b) ≤ n + 1 := by have := ln_mono (Nat.mod_le a b); omega
  have hq60 : cap60 (a / b) = nd (a / b) := cap60_in (by have := ln_mono (Nat.div_le_self a b); omega)
  have hr60 : cap60 (a % b) = nd (a % b) := cap60_in (by have := ln_mono (Nat.mod_le a b); omega)
  have HQ := Lib.hid hq
  have HR := Lib.hid hr
  have HQ6 := Lib.hid hq60
  have HR6 := Lib.hid hr60
  have hDn : ∀ bl o, D = some ⟨bl, o, none⟩ → bl < w.heap.size := fun bl o e => by
    obtain ⟨b', o', ha, hb, _⟩ := hD.block (by rw [vi_length, nd_length, hn']; exact hb0)
    rw [e] at ha
    injection ha with ha
    injection ha with h1 h2
    omega
  have HDn := Lib.hid hDn
  have hn0 : ((n' : Int) == 0) = false := by rw [beq_eq_false_iff_ne]; omega
  clear hn hn' hq hr hq60 hr60 hbb hpp hDn
  go_enter Tryz.func120, Tryz.ntmps120
  go_wp2_with fail
  refine H1.mono ?_
  rintro e w1 ⟨rfl, rfl⟩
  go_wp2_with fail
  refine H2.out.mono ?_
  rintro e w1 ⟨g, hg, rfl, hB1, hb1⟩
  go_wp2_with fail
  refine (HDv.out g w1 hB1 (hD.below hb1) (fun bl o e => by have := HDn.out bl o e; omega)).mono ?_
  rintro e w2 ⟨gq, hgq, rfl, hBq, hBr, hgr2⟩
  have hb2 : Below w.heap.size w w2 := below_g hb1 hg hgr2
  have hgg : gq ≠ g := by have := hB1.lt; omega
  go_wp2_with fail
  refine (natOfRow_at w.heap.size gq _ _ (a / b) w2 (Nat.le_trans hb1.size hgq) hBq HQ.out (Nat.le_refl _) (by omega) (by omega)).mono ?_
  intro e w3 hm
  rw [HQ6.out] at hm
  obtain ⟨A3, c3, rfl, hc3, ho3, hb3, hat3⟩ := hm
  have hBr3 := hBr.below hBr.lt hb3
  go_wp2_with fail
  refine (natOfRow_at w.heap.size g _ _ (a % b) w3 hg hBr3 HR.out (Nat.le_refl _) (by omega) (by omega)).mono ?_
  intro e w4 hm
  rw [HR6.out] at hm
  obtain ⟨A4, c4, rfl, hc4, ho4, hb4, hat4⟩ := hm
  go_wp2_with fail
  go_ret2
  refine ⟨A3, c3, A4, c4, rfl, hc3, hc4, ho3.below hb4, ho4, bt (bt hb2 hb3) hb4, fun g1 g2 h1 h2 => ?_⟩
  rw [rowOf_at hat3 h1, rowOf_at hat4 h2]
  exact hgg
end Go.Proofs.YtennekieiioilaaGreat

namespace Go.Proofs.YtennekieiioilaaGreat
open Go.ChangeShapes Go.WideShapes Go.ChangeAt Go.RowKit
open Go.ChangeMaps (open_string shut_string)
set_option linter.unusedVariables false
set_option linter.unusedSimpArgs false
set_option maxRecDepth 4000

/-- As MadeI; and the slice has an address. -/
def MadeS (B : Nat) (L : List Int) (w : World) (e : Ending) (w' : World) : Prop :=
  ∃ ad c, e = .returned (.slice (some ad) L.length c) ∧ L.length ≤ c ∧ OwnS B w' (some ad) (vi L) ∧ Below w.heap.size w w'
theorem MadeS.after {B : Nat} {L : List Int} {w w1 w2 : World} {e : Ending} (h : MadeS B L w1 e w2) (hb : Below w.heap.size w w1) : MadeS B L w e w2 := by
  obtain ⟨A, c, he, hc, ho, hb2⟩ := h
  exact ⟨A, c, he, hc, ho, bt hb hb2⟩

set_option maxHeartbeats 400000 in
theorem trim_s (B n c T : Nat) (A : Option Addr) (w : World) (h0n : 0 < n) (ho : OwnS B w A (vi (row n T))) (hT : ln T ≤ n) (hc : n ≤ c) (hn : n ≤ 1048576) :
    Calls Tryz.prog 135 #[.slice A n c] w (MadeS B (nd T) w) := by
  obtain ⟨g, rfl, hBg, hgw, hcell, hfr⟩ := ho.block (by rw [vi_length, row_length]; omega)
  have hrd := ho.rd
  have HO := Lib.hid ho
  clear ho hcell hfr
  go_enter Tryz.func135, Tryz.ntmps135
  go_wp2
  go_loop [3] (fun i => ∃ k : Nat, k ≤ n ∧ ln T ≤ k ∧ i = .int .i64 (k : Int)) (fun i => (intOf i).toNat)
  case atStart => exact ⟨n, Nat.le_refl _, hT, rfl⟩
  case round =>
    obtain ⟨k, hk, hTk, rfl⟩ := hrel
    by_cases hz : 0 < k ∧ dgt T (k - 1) = 0
    · have hc1 := hrd.int_at (row_get (n := n) (i := k - 1) T (by omega))
      rw [Nat.zero_add] at hc1
      have h2 := trim_step hz.1 hTk hz.2
      have hp := hz.1
      rw [hz.2] at hc1
      have hk1 : ((k : Int) - 1) = ((k - 1 : Nat) : Int) := by omega
      have hk0 : (0 : Int) ≤ (k : Int) - 1 := by omega
      have hk2 : (k : Int) - 1 < (n : Int) := by omega
      have hkt : ((k : Int) - 1).toNat = k - 1 := by omega
      clear hz
      go_wp2
      go_round
      case rel => exact ⟨k - 1, by omega, h2, by go_num⟩
      case measure => simp [intOf]; omega
    · have hkT : Hid (ln T = k) := by
        refine Lib.hid ?_
        by_cases h0 : 0 < k
        · exact trim_stop h0 hTk (fun e => hz ⟨h0, e⟩)
        · omega
      have fin : MadeS B (nd T) w (.returned (.slice (some ⟨g, 0, none⟩) k c)) w := by
        refine ⟨⟨g, 0, none⟩, c, by rw [nd_length, hkT.out], by rw [nd_length, hkT.out]; omega, ?_, Below.refl _ _⟩
        have h1 := HO.out.take k
        rw [← vi_take, row_take T hk] at h1
        unfold nd
        rw [hkT.out]
        exact h1
      by_cases h0 : 0 < k
      · have hc1 := hrd.int_at (row_get (n := n) (i := k - 1) T (by omega))
        rw [Nat.zero_add] at hc1
        have hne : dgt T (k - 1) ≠ 0 := fun e => hz ⟨h0, e⟩
        have hk1 : ((k : Int) - 1) = ((k - 1 : Nat) : Int) := by omega
        clear hz
        generalize dgt T (k - 1) = x at hc1 hne
        have q : (x == 0) = false := by rw [beq_eq_false_iff_ne]; exact hne
        go_wp2
        go_ret
        exact fin
      · obtain rfl : k = 0 := by omega
        go_wp2
        go_ret
        exact fin

set_option maxHeartbeats 1000000 in
theorem sub_s (a b : Nat) (A D : Option Addr) (n c n' d : Nat) (w : World) (hn : ln a = n) (hn' : ln b = n') (hba : b ≤ a) (h0n : 0 < n) (h60 : n ≤ 1048576) (h60' : n' ≤ 1048576) (hA : RdS w A (vi (nd a))) (hD : RdS w D (vi (nd b))) :
    Calls Tryz.prog 134 #[.slice A n c, .slice D n' d] w (MadeS w.heap.size (nd (a - b)) w) := by
  have hstart : (w.alloc (.cells #[] 3)).ownsRow w.heap.size 3 1 (.slice (some ⟨w.heap.size, 0, none⟩) 0 0) 0 (vi (row 0 ((a - b : Nat) : Int))) := World.ownsRow_made w #[] 0 (by omega) (by simp [maxLen]) rfl
  have HN := Lib.hid hn
  have HN' := Lib.hid hn'
  have E1 : Hid ((a : Int) + (-1) * (b : Int) = ((a - b : Nat) : Int)) := Lib.hid (by omega)
  have HL : Hid (ln (a - b) ≤ n) := Lib.hid (by have := ln_mono (show a - b ≤ a by omega); omega)
  clear hn hn' hba
  go_enter Tryz.func134, Tryz.ntmps134
  go_wp2
  go_loopw [5, 6, 12] (fun v q i w' => ∃ (k : Nat) (x : Int), k ≤ n ∧ i = .int .i64 (k : Int) ∧ q = .int .i64 x ∧ x = - car a b (-1) k ∧ 0 ≤ x ∧ x ≤ 1 ∧ w'.ownsRow w.heap.size 3 1 v k (vi (row k ((a - b : Nat) : Int))) ∧ Below w.heap.size w w') (fun _ _ i _ => n - (intOf i).toNat)
  case atStart => exact ⟨0, 0, Nat.zero_le _, rfl, rfl, by rw [car_zero]; rfl, by omega, by omega, hstart, (Below.refl _ _).alloc (Nat.le_refl _) _⟩
  case round =>
    clear hstart
    obtain ⟨k, x, hk, rfl, rfl, hx, hx0, hx1, hown, hb⟩ := hrel
    have hcs : Hid (car a b (-1) (k + 1) = (dgt a k - x - dgt b k) / 1000000000) := Lib.hid (by rw [car_succ]; congr 1; omega)
    have hds : Hid (dgt ((a - b : Nat) : Int) k = (dgt a k - x - dgt b k) % 1000000000) := Lib.hid (by rw [← E1.out, dgt_pass]; congr 1; omega)
    clear hx
    have hi0 : (0 : Int) ≤ (k : Int) := by omega
    have hd0 := dgt_nonneg a k
    have hd1 := dgt_lt a k
    have hz0 := dgt_nonneg b k
    have hz1 := dgt_lt b k
    by_cases hka : k < n
    · obtain ⟨b1, o1, rfl, hb1, e1⟩ := (hA.below hb).int (nd_get (v := a) (i := k) (by rw [HN.out]; exact hka))
      have hia : (k : Int) < (n : Int) := by omega
      generalize dgt a k = y at e1 hd0 hd1 hcs hds
      by_cases hkb : k < n'
      · obtain ⟨b2, o2, rfl, hb2, e2⟩ := (hD.below hb).int (nd_get (v := b) (i := k) (by rw [HN'.out]; exact hkb))
        have hib : (k : Int) < (n' : Int) := by omega
        generalize dgt b k = z at e2 hz0 hz1 hcs hds
        by_cases hs0 : y - x - z < 0
        · go_wp2_with (at_builtin; refine append_int rfl (.tmp 35) (.tmp 37) rfl w.heap.size _ _ (row k ((a - b : Nat) : Int)) (y - x - z + 1000000000) wr rfl rfl hown (by omega) hb.size ?_; intro v' w1 hown1 hb1 hs1)
          go_roundw
          case rel => exact ⟨k + 1, 1, by omega, by go_num, rfl, by rw [hcs.out]; omega, by omega, by omega, by rw [row_succ, hds.out, show (y - x - z) % 1000000000 = y - x - z + 1000000000 by omega]; exact hown1, hb.trans hb1⟩
          case measure => simp [intOf]; omega
        · have hs0' : 0 ≤ y - x - z := by omega
          go_wp2_with (at_builtin; refine append_int rfl (.tmp 35) (.tmp 37) rfl w.heap.size _ _ (row k ((a - b : Nat) : Int)) (y - x - z) wr rfl rfl hown (by omega) hb.size ?_; intro v' w1 hown1 hb1 hs1)
          go_roundw
          case rel => exact ⟨k + 1, 0, by omega, by go_num, rfl, by rw [hcs.out]; omega, by omega, by omega, by rw [row_succ, hds.out, show (y - x - z) % 1000000000 = y - x - z by omega]; exact hown1, hb.trans hb1⟩
          case measure => simp [intOf]; omega
      · have hzz : dgt b k = 0 := dgt_small (n := n') (by omega) (ln_lt' HN'.out) (by omega)
        rw [hzz, Int.sub_zero] at hcs hds
        clear hzz hz0 hz1
        have hib : ¬ (k : Int) < (n' : Int) := by omega
        by_cases hs0 : y - x < 0
        · go_wp2_with (at_builtin; refine append_int rfl (.tmp 35) (.tmp 37) rfl w.heap.size _ _ (row k ((a - b : Nat) : Int)) (y - x + 1000000000) wr rfl rfl hown (by omega) hb.size ?_; intro v' w1 hown1 hb1 hs1)
          go_roundw
          case rel => exact ⟨k + 1, 1, by omega, by go_num, rfl, by rw [hcs.out]; omega, by omega, by omega, by rw [row_succ, hds.out, show (y - x) % 1000000000 = y - x + 1000000000 by omega]; exact hown1, hb.trans hb1⟩
          case measure => simp [intOf]; omega
        · have hs0' : 0 ≤ y - x := by omega
          go_wp2_with (at_builtin; refine append_int rfl (.tmp 35) (.tmp 37) rfl w.heap.size _ _ (row k ((a - b : Nat) : Int)) (y - x) wr rfl rfl hown (by omega) hb.size ?_; intro v' w1 hown1 hb1 hs1)
          go_roundw
          case rel => exact ⟨k + 1, 0, by omega, by go_num, rfl, by rw [hcs.out]; omega, by omega, by omega, by rw [row_succ, hds.out, show (y - x) % 1000000000 = y - x by omega]; exact hown1, hb.trans hb1⟩
          case measure => simp [intOf]; omega
    · obtain rfl : k = n := by omega
      obtain ⟨A', c', hv, hc', hm', hl'⟩ := own_len hown
      have ho := OwnS.of_own (A := A') (n := k) (c := c') (by rw [← hv]; exact hown)
      subst hv
      clear hown
      go_wp2_with fail
      refine (trim_s w.heap.size k c' (a - b) A' wr h0n ho HL.out hc' h60).mono ?_
      intro e w3 hm
      obtain ⟨A2, c2, rfl, hc2, ho2, hb2⟩ := hm.after hb
      go_wp2
      go_ret
      exact ⟨A2, c2, rfl, hc2, ho2, hb2⟩
end Go.Proofs.YtennekieiioilaaGreat

namespace Go.Proofs.YtennekieiioilaaGreat
open Go.ChangeShapes Go.WideShapes Go.ChangeAt Go.RowKit
open Go.ChangeMaps (open_string shut_string)
set_option linter.unusedVariables false
set_option linter.unusedSimpArgs false
set_option maxRecDepth 4000

theorem small_gen {A x z d B : Nat} (h : A = z + d * (x * B)) (hd : 0 < d) (h7 : z / d < B) : A / d % B = z / d ∧ A % d = z % d := by
  subst h
  exact ⟨by rw [Nat.add_mul_div_left _ _ hd, Nat.add_mul_mod_self_right, Nat.mod_eq_of_lt h7], by rw [Nat.add_mul_mod_self_left]⟩
/-- One limb more of the number: its quotient's limb and what is left. -/
theorem small_step {a d j : Nat} (hd : 0 < d) :
    ((a / pn (j + 1) % d) * 1000000000 + a / pn j % 1000000000) / d = quo a d j ∧ ((a / pn (j + 1) % d) * 1000000000 + a / pn j % 1000000000) % d = a / pn j % d := by
  have h1 : a / pn (j + 1) = a / pn j / 1000000000 := by rw [pn_succ, Nat.div_div_eq_div_mul]
  have h2 := Nat.div_add_mod (a / pn j) 1000000000
  have h3 := Nat.div_add_mod (a / pn (j + 1)) d
  have h4 := Nat.mod_lt (a / pn (j + 1)) hd
  rw [← h1] at h2
  generalize a / pn (j + 1) / d = x at h3
  generalize a / pn (j + 1) % d = r at h3 h4 ⊢
  generalize a / pn (j + 1) = A' at h2 h3
  have h5 : a / pn j = (r * 1000000000 + a / pn j % 1000000000) + d * (x * 1000000000) := by
    have : d * (x * 1000000000) = d * x * 1000000000 := (Nat.mul_assoc _ _ _).symm
    omega
  have h6 : quo a d j = (a / pn j) / d % 1000000000 := by unfold quo; rw [Nat.div_div_eq_div_mul, Nat.div_div_eq_div_mul, Nat.mul_comm]
  have h7 : (r * 1000000000 + a / pn j % 1000000000) / d < 1000000000 := by
    rw [Nat.div_lt_iff_lt_mul hd]
    have h8 := Nat.mod_lt (a / pn j) (show 0 < 1000000000 by decide)
    have h9 : (r + 1) * 1000000000 ≤ d * 1000000000 := Nat.mul_le_mul_right _ h4
    rw [Nat.mul_comm 1000000000]
    omega
  have h8 := small_gen h5 hd h7
  rw [h6]
  exact ⟨h8.1.symm, h8.2.symm⟩

set_option maxHeartbeats 1000000 in
theorem spec_small (a d : Nat) (A : Option Addr) (n c : Nat) (w : World) (hn : ln a = n) (h60 : n ≤ 60) (hd0 : 0 < d) (hd1 : d < 1000000000) (hA : RdS w A (vi (nd a))) :
    Calls Tryz.prog 142 #[.slice A n c, .int .i64 (d : Int)] w fun e w' => ∃ A' c', e = .returned (.tuple #[.slice A' (nd (a / d)).length c', .int .i64 ((a % d : Nat) : Int)]) ∧ (nd (a / d)).length ≤ c' ∧ OwnS w.heap.size w' A' (vi (nd (a / d))) ∧ Below w.heap.size w w' := by
  obtain ⟨i0, hi, hz0, hz1, hz2⟩ := info_parts int_info
  have hap : a < pn n := lt_pn (by omega)
  have HS0 : Hid (quoTo a d n = 0 ∧ a / pn n % d = 0) := Lib.hid ⟨quoTo_all (Nat.lt_of_lt_of_le hap (Nat.le_mul_of_pos_left _ hd0)), by rw [Nat.div_eq_of_lt hap, Nat.zero_mod]⟩
  have HN := Lib.hid hn
  have HL : Hid (ln (a / d) ≤ n) := Lib.hid (by have := ln_mono (Nat.div_le_self a d); omega)
  have hdz : ¬ (d : Int) = 0 := by omega
  clear hn hap
  go_enter Tryz.func142, Tryz.ntmps142
  go_wp2_with (first | (refine wpList_make_full _ rfl (.tmp 11) (.tmp 11) 26 rfl w.heap.size 3 i0 _ 1 Tryz.underlying26 hi hz0 hz1 .i64 .i64 (n : Int) (n : Int) n rfl rfl rfl rfl (by rw [hz2]; omega) (by simp only [maxLen]; omega) (Nat.le_refl _) ?_; intro w1 hown hg1; refine cut_here ?_))
  have hq1 := Blk.of_made hown (zeros n)
  have hb1 : Below w.heap.size w w1 := below_of_grown hg1 (Nat.le_refl _) (fun g h => by cases h)
  rw [← HS0.out.1] at hq1
  clear hown hg1
  refine Cut.of ?_
  go_wp2_with fail
  go_loopw [7, 8] (fun r i w' => ∃ (k R : Nat) (x : Int), k ≤ n ∧ i = .int .i64 x ∧ x = (k : Int) - 1 ∧ r = .int .i64 (R : Int) ∧ R = a / pn k % d ∧ Blk w' w.heap.size (row n (quoTo a d k)) ∧ Below w.heap.size w w') (fun _ i _ => (intOf i + 1).toNat)
  case atStart => exact ⟨n, 0, _, Nat.le_refl _, rfl, rfl, rfl, HS0.out.2.symm, hq1, hb1⟩
  case round =>
    clear hq1 hb1 HS0
    obtain ⟨k, R, x, hk, rfl, hx, rfl, hR, hQ, hb⟩ := hrel
    rcases k with _ | j
    · obtain rfl : x = -1 := by omega
      clear hx
      have HRR : Hid (R = a % d) := Lib.hid (by rw [hR]; unfold pn; rw [Nat.pow_zero, Nat.div_one])
      clear hR
      rw [quoTo_zero] at hQ
      go_wp2_with fail
      refine (trim_any w.heap.size n n (a / d) _ wr (hQ.own (Nat.le_refl _)) HL.out (Nat.le_refl _) (by omega)).mono ?_
      intro e w3 hm
      obtain ⟨A2, c2, rfl, hc2, ho2, hb2⟩ := hm
      go_wp2_with fail
      go_ret2
      exact ⟨A2, c2, by rw [← HRR.out]; rfl, hc2, ho2, bt hb hb2⟩
    · obtain rfl : x = (j : Int) := by omega
      clear hx
      have hlt : j < n := by omega
      obtain ⟨b1, o1, rfl, hbl, e1⟩ := (hA.below hb).int (nd_get (v := a) (i := j) (by rw [HN.out]; exact hlt))
      obtain ⟨z, hz⟩ : ∃ z : Nat, z = a / pn j % 1000000000 := ⟨_, rfl⟩
      have hzd : dgt a j = (z : Int) := by rw [hz]; unfold dgt; rw [pn_pw]; omega
      rw [hzd] at e1
      have hst := small_step (a := a) (d := d) (j := j) hd0
      rw [← hR, ← hz] at hst
      have hRd : R < d := by rw [hR]; exact Nat.mod_lt _ hd0
      have hzb : z < 1000000000 := by rw [hz]; exact Nat.mod_lt _ (by decide)
      obtain ⟨M, hM⟩ : ∃ M, M = R * 1000000000 + z := ⟨_, rfl⟩
      rw [← hM] at hst
      obtain ⟨q, hq⟩ : ∃ q, q = M / d := ⟨_, rfl⟩
      obtain ⟨R', hR'⟩ : ∃ r, r = M % d := ⟨_, rfl⟩
      have hw1 : (R : Int) * 1000000000 + (z : Int) = (M : Int) := by omega
      have hw2 : (M : Int).tdiv (d : Int) = (q : Int) := by rw [hq]; exact (Int.ofNat_tdiv M d).symm
      have hw3 : (M : Int).tmod (d : Int) = (R' : Int) := by rw [hR']; exact (Int.ofNat_tmod M d).symm
      have hMb : M < 1000000000000000000 := by omega
      have hqb : q ≤ M := by rw [hq]; exact Nat.div_le_self _ _
      have hRb : R' < d := by rw [hR']; exact Nat.mod_lt _ hd0
      have hqB : quo a d j < 1000000000 := Nat.mod_lt _ (by decide)
      have HQs : Hid ((row n (quoTo a d (j + 1))).set j (q : Int) = row n (quoTo a d j)) := Lib.hid (by rw [hq, hst.1, quoTo_step a d j]; exact row_set hlt (quoTo_mod a d (j + 1)) (by omega) (by omega))
      have HR' : Hid (R' = a / pn j % d) := Lib.hid (by rw [hR', hst.2])
      have hc1 := hQ.cell (row_get (n := n) (quoTo a d (j + 1)) hlt)
      have hf1 := hQ.free j
      have hi0 : (0 : Int) ≤ (j : Int) := by omega
      have hi1 : (j : Int) < (n : Int) := by omega
      clear hR hz hzd hst hM hq hR'
      go_wp2_with fail
      go_roundw
      case rel => exact ⟨j, R', _, by omega, rfl, rfl, rfl, HR'.out, by have := hQ.set j (q : Int); rwa [HQs.out] at this, hb.setCell (Nat.le_refl _) _⟩
      case measure => simp [intOf]
end Go.Proofs.YtennekieiioilaaGreat

namespace Go.Proofs.YtennekieiioilaaGreat
open Go.ChangeShapes Go.WideShapes Go.ChangeAt Go.RowKit
open Go.ChangeMaps (open_string shut_string)
set_option linter.unusedVariables false
set_option linter.unusedSimpArgs false
set_option maxRecDepth 4000

set_option maxHeartbeats 1000000 in
theorem spec_digit (r b : Nat) (A D : Option Addr) (n c n' d : Nat) (w : World) (hn : ln r = n) (hn' : ln b = n') (h60 : n ≤ 200) (h60' : n' ≤ 60) (hb : 0 < b) (hr : r < 1000000000 * b) (hA : RdS w A (vi (nd r))) (hD : RdS w D (vi (nd b))) :
    Calls Tryz.prog 143 #[.slice A n c, .slice D n' d] w fun e w' => e = .returned (.int .i64 ((r / b : Nat) : Int)) ∧ Below w.heap.size w w' := by
  have HQ : Hid (r / b < 1000000000) := Lib.hid (by rw [Nat.div_lt_iff_lt_mul hb]; exact hr)
  have HD0 := Lib.hid (Nat.div_mul_le_self r b)
  have HM := Lib.hid (fun (q : Nat) (hq : q ≤ 999999999) A' c' m W (hm : m = (nd q).length) (h : RdS W A' (vi (nd q))) (h' : RdS W D (vi (nd b))) =>
    spec_l02Mul b q D A' n' d m c' W hn' (by rw [hm, nd_length]) (by omega) (by rw [hm, nd_length]; have := ln_small q (by omega); omega) h' h)
  have HC := Lib.hid (fun (q : Nat) (hq : q ≤ 999999999) A' c' m W (hm : m = (nd (b * q)).length) (h : RdS W A' (vi (nd (b * q)))) (h' : RdS W A (vi (nd r))) =>
    spec_cmp (b * q) r A' A m c' n c W (by rw [hm, nd_length]) hn (by rw [hm, nd_length]; have h1 := ln_small q (by omega); have h2 := mul_len (a := b) (b := q) rfl rfl; omega) (by omega) h h')
  have HB := Lib.hid hb
  obtain ⟨t, ht⟩ : ∃ t, t = r / b := ⟨_, rfl⟩
  rw [← ht] at HQ HD0
  have hle : Hid (∀ q, b * q ≤ r ↔ q ≤ t) := Lib.hid (fun q => by rw [ht, Nat.le_div_iff_mul_le hb, Nat.mul_comm])
  rw [← ht]
  clear hn hn' hr ht
  go_enter Tryz.func143, Tryz.ntmps143
  go_wp2_with fail
  go_loopw [5, 6] (fun l h w' => ∃ lo hi : Nat, l = .int .i64 (lo : Int) ∧ h = .int .i64 (hi : Int) ∧ lo ≤ t ∧ t ≤ hi ∧ hi ≤ 999999999 ∧ Below w.heap.size w w') (fun l h _ => (intOf h).toNat - (intOf l).toNat)
  case atStart => exact ⟨0, 999999999, rfl, rfl, Nat.zero_le _, by have := HQ.out; omega, Nat.le_refl _, Below.refl _ _⟩
  case round =>
    obtain ⟨lo, hi, rfl, rfl, h1, h2, h3, hb0⟩ := hrel
    by_cases hlt : lo < hi
    · obtain ⟨q, hq⟩ : ∃ q, q = (lo + hi + 1) / 2 := ⟨_, rfl⟩
      have hqi : ((lo : Int) + (hi : Int) + 1) / 2 = (q : Int) := by omega
      have hqt : ((lo : Int) + (hi : Int) + 1).tdiv 2 = (q : Int) := by rw [Int.tdiv_eq_ediv_of_nonneg (by omega)]; omega
      have hq1 : lo < q := by omega
      have hq2 : q ≤ hi := by omega
      have hnn : 0 ≤ (lo : Int) + (hi : Int) + 1 := by omega
      clear hq
      have HM' := Lib.hid (fun A' c' m W => HM.out q (by omega) A' c' m W)
      have HC' := Lib.hid (fun A' c' m W => HC.out q (by omega) A' c' m W)
      have HN' := Lib.hid (fun W => spec_natOf q W (by omega))
      have hcase : Hid ((q ≤ t → cmpN (b * q) r ≤ 0) ∧ (¬ q ≤ t → ¬ cmpN (b * q) r ≤ 0)) := by
        refine Lib.hid ⟨fun h => ?_, fun h => ?_⟩
        · have := (hle.out q).2 h
          rcases Nat.lt_or_ge (b * q) r with h5 | h5
          · rw [cmpN_lt h5]; decide
          · rw [cmpN_eq (by omega)]; decide
        · have h6 : ¬ b * q ≤ r := fun h7 => h ((hle.out q).1 h7)
          rw [cmpN_gt (by omega)]; decide
      generalize cmpN (b * q) r = v at hcase HC'
      generalize nd (b * q) = Lm at HM' HC'
      generalize nd q = Lq at HM' HN'
      go_wp2_with fail
      refine (HN'.out _).mono ?_
      rintro e w1 ⟨A1, c1, rfl, hc1, ho1, hb1⟩
      have b1 := bt hb0 hb1
      go_wp2_with fail
      refine (HM'.out _ _ _ _ rfl ho1.rd (hD.below b1)).mono ?_
      rintro e w2 ⟨A2, c2, rfl, hc2, ho2, hb2⟩
      have b2 := bt b1 hb2
      go_wp2_with fail
      refine (HC'.out _ _ _ _ rfl ho2.rd (hA.below b2)).mono ?_
      rintro e w3 ⟨rfl, hb3⟩
      have b3 := bt b2 hb3
      by_cases hqq : q ≤ t
      · have hv := hcase.out.1 hqq
        go_wp2_with fail
        go_roundw
        case rel => exact ⟨q, hi, rfl, rfl, hqq, h2, h3, b3⟩
        case measure => simp [intOf]; omega
      · have hv := hcase.out.2 hqq
        have hq0 : 0 < q := by omega
        go_wp2_with fail
        go_roundw
        case rel => exact ⟨lo, q - 1, rfl, by go_num, h1, by omega, by omega, b3⟩
        case measure => simp [intOf]; omega
    · obtain rfl : lo = t := by omega
      go_wp2_with fail
      go_ret
      exact ⟨rfl, hb0⟩
end Go.Proofs.YtennekieiioilaaGreat

namespace Go.Proofs.YtennekieiioilaaGreat
open Go.ChangeShapes Go.WideShapes Go.ChangeAt Go.RowKit
open Go.ChangeMaps (open_string shut_string)
set_option linter.unusedVariables false
set_option linter.unusedSimpArgs false
set_option maxRecDepth 4000

theorem OwnS.set_low {B g o : Nat} {w : World} {A : Option Addr} {l : List Value} {u : Value} (h : OwnS B w A l) (hg : g < B) : OwnS B (w.setCell ⟨g, o, none⟩ u) A l :=
  h.far (C := w.heap.size) (fun k hk _ => Below.heap_setCell w ⟨g, o, none⟩ u k (by intro e; simp at e; omega)) (Nat.le_refl _) (by simp [World.setCell])
theorem lit_int (B : Nat) (w : World) (x : Int) (hB : B ≤ w.heap.size) : (w.alloc (.cells #[.int .i64 x] 3)).ownsRow B 3 1 (.slice (some ⟨w.heap.size, 0, none⟩) 1 1) 1 (vi [x]) :=
  ⟨rfl, .inr ⟨w.heap.size, 1, #[.int .i64 x], rfl, hB, heap_alloc_new w _, Nat.le_refl _, by simp [maxLen], rfl, rfl⟩⟩
theorem cons_row {R z : Nat} (hz : z < 1000000000) : [(z : Int)] ++ nd R = row (1 + ln R) ((R * 1000000000 + z : Nat) : Int) := by
  rw [Nat.add_comm, row_cons]
  have h1 : ((R * 1000000000 + z : Nat) : Int) % 1000000000 = (z : Int) := by omega
  have h2 : ((R * 1000000000 + z : Nat) : Int) / 1000000000 = (R : Int) := by omega
  rw [h1, h2]
  rfl
theorem cons_ln {R z : Nat} (hz : z < 1000000000) : ln (R * 1000000000 + z) ≤ 1 + ln R := by
  refine pn_lt ?_
  have h := lt_pn (Nat.le_refl (ln R))
  have e : pn (1 + ln R) = pn (ln R) * 1000000000 := by rw [Nat.add_comm]; exact pn_succ _
  rw [e]
  omega
/-- Two rows as the model's division answers. -/
def PairS (L M : List Int) (w : World) (e : Ending) (w' : World) : Prop :=
  ∃ A c D d, e = .returned (.tuple #[.slice A L.length c, .slice D M.length d]) ∧ L.length ≤ c ∧ OwnS w.heap.size w' A (vi L) ∧ OwnS w.heap.size w' D (vi M) ∧ Below w.heap.size w w'

set_option maxHeartbeats 500000 in
theorem spec_div_long (a b : Nat) (A D : Option Addr) (n c n' d : Nat) (w : World) (hn : ln a = n) (hn' : ln b = n') (h60 : n ≤ 60) (h60' : n' ≤ 60) (hn2 : 2 ≤ n') (hA : RdS w A (vi (nd a))) (hD : RdS w D (vi (nd b))) :
    Calls Tryz.prog 129 #[.slice A n c, .slice D n' d] w (PairS (nd (a / b)) (nd (a % b)) w) := by
  obtain ⟨i0, hi, hz0, hz1, hz2⟩ := info_parts int_info
  have hap : a < pn n := lt_pn (by omega)
  have hbb := ln_big hn' (by omega)
  have hpp := pn_pos (n' - 1)
  have hb0 : 0 < b := by omega
  have HS0 : Hid (quoTo a b n = 0 ∧ a / pn n % b = 0) := Lib.hid ⟨quoTo_all (Nat.lt_of_lt_of_le hap (Nat.le_mul_of_pos_left _ hb0)), by rw [Nat.div_eq_of_lt hap, Nat.zero_mod]⟩
  have HN := Lib.hid hn
  have HN' := Lib.hid hn'
  have HL : Hid (ln (a / b) ≤ n) := Lib.hid (by have := ln_mono (Nat.div_le_self a b); omega)
  have hq1 : ((n' : Int) == 1) = false := by rw [beq_eq_false_iff_ne]; omega
  clear hn hn' hap hbb hpp
  go_enter Tryz.func129, Tryz.ntmps129
  go_wp2_with (first | (refine wpList_make_full _ rfl (.tmp 27) (.tmp 27) 26 rfl w.heap.size 3 i0 _ 1 Tryz.underlying26 hi hz0 hz1 .i64 .i64 (n : Int) (n : Int) n rfl rfl rfl rfl (by rw [hz2]; omega) (by simp only [maxLen]; omega) (Nat.le_refl _) ?_; intro w1 hown hg1; refine cut_here ?_))
  have hQ1 := Blk.of_made hown (zeros n)
  have hb1 : Below w.heap.size w w1 := below_of_grown hg1 (Nat.le_refl _) (fun g h => by cases h)
  rw [← HS0.out.1] at hQ1
  have hQ1' : Blk (w1.alloc (.cells #[] 3)) w.heap.size (row n (quoTo a b n)) := hQ1.below hQ1.lt ((Below.refl _ _).alloc (Nat.le_refl _) _)
  have hb1' : Below w.heap.size w (w1.alloc (.cells #[] 3)) := hb1.alloc hb1.size _
  have hO1 : OwnS (w.heap.size + 1) (w1.alloc (.cells #[] 3)) (some ⟨w1.heap.size, 0, none⟩) (vi (nd 0)) := .inl (by rw [nd_zero]; rfl)
  clear hown hg1 hQ1 hb1
  refine Cut.of ?_
  go_wp2_with fail
  go_loopw [9, 10] (fun r i w' => ∃ (k R c' : Nat) (x : Int) (ad : Addr), k ≤ n ∧ i = .int .i64 x ∧ x = (k : Int) - 1 ∧ r = .slice (some ad) (nd R).length c' ∧ R = a / pn k % b ∧ OwnS (w.heap.size + 1) w' (some ad) (vi (nd R)) ∧ Blk w' w.heap.size (row n (quoTo a b k)) ∧ Below w.heap.size w w') (fun _ i _ => (intOf i + 1).toNat)
  case atStart => exact ⟨n, 0, 0, _, ⟨w1.heap.size, 0, none⟩, Nat.le_refl _, rfl, rfl, by rw [nd_zero]; rfl, HS0.out.2.symm, hO1, hQ1', hb1'⟩
  case round =>
    clear hQ1' hb1' hO1 HS0
    obtain ⟨k, R, c', x, ad, hk, rfl, hx, rfl, hR, hO, hQ, hb⟩ := hrel
    rcases k with _ | j
    · obtain rfl : x = -1 := by omega
      clear hx
      obtain rfl : R = a % b := by rw [hR]; unfold pn; rw [Nat.pow_zero, Nat.div_one]
      clear hR
      rw [quoTo_zero] at hQ
      have HT := Lib.hid (trim_any w.heap.size n n (a / b) _ wr (hQ.own (Nat.le_refl _)) HL.out (Nat.le_refl _) (by omega))
      go_wp2_with fail
      refine HT.out.mono ?_
      intro e w3 hm
      obtain ⟨A2, c2, rfl, hc2, ho2, hb2⟩ := hm
      go_wp2_with fail
      go_ret2
      exact ⟨A2, c2, some ad, c', rfl, hc2, ho2, (hO.below hb2).more (Nat.le_succ _), bt hb hb2⟩
    · obtain rfl : x = (j : Int) := by omega
      clear hx
      have hlt : j < n := by omega
      obtain ⟨b1, o1, rfl, hbl, e1⟩ := (hA.below hb).int (nd_get (v := a) (i := j) (by rw [HN.out]; exact hlt))
      obtain ⟨z, hz⟩ : ∃ z : Nat, z = a / pn j % 1000000000 := ⟨_, rfl⟩
      have hzd : dgt a j = (z : Int) := by rw [hz]; unfold dgt; rw [pn_pw]; omega
      rw [hzd] at e1
      have hst := small_step (a := a) (d := b) (j := j) hb0
      rw [← hR, ← hz] at hst
      have hRb : R < b := by rw [hR]; exact Nat.mod_lt _ hb0
      have hzb : z < 1000000000 := by rw [hz]; exact Nat.mod_lt _ (by decide)
      obtain ⟨T, hT⟩ : ∃ T, T = R * 1000000000 + z := ⟨_, rfl⟩
      rw [← hT] at hst
      have hRl : ln R ≤ 60 := by have := ln_mono (Nat.le_of_lt hRb); have := HN'.out; omega
      have hTl : ln T ≤ 1 + ln R := by rw [hT]; exact cons_ln hzb
      have HRow : Hid ([(z : Int)] ++ nd R = row (1 + (nd R).length) (T : Int)) := Lib.hid (by rw [nd_length, hT]; exact cons_row hzb)
      have hTB : T < 1000000000 * b := by rw [hT]; omega
      have HST := Lib.hid hst
      have HRl := Lib.hid (nd_length R)
      have hi0 : (0 : Int) ≤ (j : Int) := by omega
      have hi1 : (j : Int) < (n : Int) := by omega
      have hB1 : w.heap.size + 1 ≤ wr.heap.size := hQ.lt
      have hlit := lit_int (w.heap.size + 1) wr (z : Int) hB1
      have hal : Below wr.heap.size wr (wr.alloc (.cells #[.int .i64 (z : Int)] 3)) := (Below.refl _ _).alloc (Nat.le_refl _) _
      have hOa := hO.below hal
      have hm60 : (nd R).length ≤ 60 := by rw [nd_length]; exact hRl
      clear hR hz hzd hst hT
      generalize hLR : nd R = LR at hOa hm60 HRow HRl
      clear hO
      go_wp2_with (at_builtin; refine append_ints rfl (.tmp 41) (.tmp 42) rfl (w.heap.size + 1) 1 LR.length c' _ [(z : Int)] LR ad (wr.alloc (.cells #[.int .i64 (z : Int)] 3)) rfl rfl hlit (by omega) (by omega) rfl hOa.rd (by simp; omega) ?_; intro v' w2 hown2 hb2 hs2; refine cut_here ?_)
      have hb2' : Below (w.heap.size + 1) wr w2 := (hal.mono hB1).trans hb2
      have hbw2 : Below w.heap.size w w2 := hb.trans (hb2'.mono (Nat.le_succ _))
      have hQ2 := hQ.below (Nat.lt_succ_self _) hb2'
      rw [HRow.out] at hown2
      obtain ⟨A2, c2, hv, hc2, hm2, hl2⟩ := own_len hown2
      have hO2 := OwnS.of_own (A := A2) (n := 1 + LR.length) (c := c2) (by rw [← hv]; exact hown2)
      subst hv
      clear hown2 hlit hal hOa
      have HTr := Lib.hid (trim_s (w.heap.size + 1) (1 + LR.length) c2 T A2 w2 (by omega) hO2 (by rw [HRl.out]; exact hTl) hc2 (by omega))
      have hTn : Hid ((nd T).length = ln T ∧ ln T ≤ 61) := Lib.hid ⟨nd_length T, by omega⟩
      have HCm := Lib.hid (fun adr c3 m W (hm : m = (nd T).length) (h : RdS W (some adr) (vi (nd T))) (h' : RdS W D (vi (nd b))) => spec_cmp T b (some adr) D m c3 n' d W (by rw [hm, nd_length]) HN'.out (by rw [hm, hTn.out.1]; have := hTn.out.2; omega) (by omega) h h')
      have HDg := Lib.hid (fun adr c3 m W (hm : m = (nd T).length) (h : RdS W (some adr) (vi (nd T))) (h' : RdS W D (vi (nd b))) => spec_digit T b (some adr) D m c3 n' d W (by rw [hm, nd_length]) HN'.out (by rw [hm, hTn.out.1]; have := hTn.out.2; omega) h60' hb0 hTB h h')
      have HSb := Lib.hid (fun adr c3 m A' c4 m' W (hTb : b ≤ T) (hm : m = (nd T).length) (hm' : m' = (nd (b * (T / b))).length) (h : RdS W (some adr) (vi (nd T))) (h' : RdS W A' (vi (nd (b * (T / b))))) => sub_s T (b * (T / b)) (some adr) A' m c3 m' c4 W (by rw [hm, nd_length]) (by rw [hm', nd_length]) (Nat.mul_div_le T b) (by rw [hm, nd_length, ln_pos (by omega)]; omega) (by rw [hm, hTn.out.1]; have := hTn.out.2; omega) (by rw [hm', nd_length]; have h1 := ln_mono (Nat.mul_div_le T b); have := hTn.out.2; omega) h h')
      have HMu := Lib.hid (fun A' c4 m' W (hm' : m' = (nd (T / b)).length) (h : RdS W D (vi (nd b))) (h' : RdS W A' (vi (nd (T / b)))) => spec_l02Mul b (T / b) D A' n' d m' c4 W HN'.out (by rw [hm', nd_length]) (by omega) (by rw [hm', nd_length]; have h1 := ln_mono (Nat.div_le_self T b); have := hTn.out.2; omega) h h')
      have hqB : T / b < 1000000000 := by rw [Nat.div_lt_iff_lt_mul hb0]; exact hTB
      have HNo := Lib.hid (fun W => spec_natOf (T / b) W (by omega))
      have hmod : Hid (T - b * (T / b) = a / pn j % b) := by
        refine Lib.hid ?_
        have h1 := Nat.div_add_mod T b
        have h2 := HST.out.2
        omega
      have HQs : Hid ((row n (quoTo a b (j + 1))).set j ((T / b : Nat) : Int) = row n (quoTo a b j)) := Lib.hid (by rw [HST.out.1, quoTo_step a b j]; exact row_set hlt (quoTo_mod a b (j + 1)) (by omega) (by have : quo a b j < 1000000000 := Nat.mod_lt _ (by decide); omega))
      have HQ0 : Hid (T < b → row n (quoTo a b (j + 1)) = row n (quoTo a b j)) := Lib.hid (fun h => by
        have h1 := HST.out.1
        rw [Nat.div_eq_of_lt h] at h1
        rw [quoTo_step a b j, ← h1]
        simp)
      have HT0 : Hid (T < b → T = a / pn j % b) := Lib.hid (fun h => by rw [← HST.out.2, Nat.mod_eq_of_lt h])
      have Hc : Hid ((T < b → cmpN T b < 0) ∧ (¬ T < b → ¬ cmpN T b < 0)) := by
        refine Lib.hid ⟨fun h => by rw [cmpN_lt h]; decide, fun h => ?_⟩
        rcases Nat.lt_or_ge b T with h5 | h5
        · rw [cmpN_gt h5]; decide
        · rw [cmpN_eq (by omega)]; decide
      obtain ⟨qq, hqq⟩ : ∃ q, q = T / b := ⟨_, rfl⟩
      rw [← hqq] at HDg HSb HMu HNo hmod HQs hqB
      clear hqq
      generalize cmpN T b = v at HCm Hc
      refine Cut.of ?_
      go_wp2_with fail
      refine HTr.out.mono ?_
      rintro e w3 ⟨ad3, c3, rfl, hc3, hO3, hb3⟩
      have hb3' : Below w.heap.size w w3 := bt hbw2 hb3
      have hQ3 := hQ2.below hQ2.lt hb3
      go_wp2_with fail
      refine (HCm.out _ _ _ _ rfl hO3.rd (hD.below hb3')).mono ?_
      rintro e w4 ⟨rfl, hb4⟩
      have hb4' := bt hb3' hb4
      have hQ4 := hQ3.below hQ3.lt hb4
      have hO4 := hO3.below hb4
      by_cases hTb : T < b
      · have hv := Hc.out.1 hTb
        rw [HQ0.out hTb] at hQ4
        go_wp2_with fail
        go_roundw
        case rel => exact ⟨j, T, c3, _, ad3, by omega, rfl, rfl, rfl, HT0.out hTb, hO4, hQ4, hb4'⟩
        case measure => simp [intOf]
      · have hv := Hc.out.2 hTb
        go_wp2_with fail
        refine (HDg.out _ _ _ _ rfl hO4.rd (hD.below hb4')).mono ?_
        rintro e w5 ⟨rfl, hb5⟩
        have hb5' := bt hb4' hb5
        have hQ5 := hQ4.below hQ4.lt hb5
        have hO5 := hO4.below hb5
        have hc1 := hQ5.cell (row_get (n := n) (quoTo a b (j + 1)) hlt)
        have hf1 := hQ5.free j
        have hQ6 := hQ5.set j (qq : Int)
        rw [HQs.out] at hQ6
        have hO6 : OwnS (w.heap.size + 1) (w5.setCell ⟨w.heap.size, j, none⟩ (.int .i64 (qq : Int))) (some ad3) (vi (nd T)) := hO5.set_low (Nat.lt_succ_self _)
        have hb6 : Below w.heap.size w (w5.setCell ⟨w.heap.size, j, none⟩ (.int .i64 (qq : Int))) := hb5'.setCell (Nat.le_refl _) _
        clear hQ5 hO5
        go_wp2_with fail
        refine (HNo.out _).mono ?_
        rintro e w7 ⟨A7, c7, rfl, hc7, hO7, hb7⟩
        have hb7' := bt hb6 hb7
        have hQ7 := hQ6.below hQ6.lt hb7
        have hO7' := hO6.below hb7
        go_wp2_with fail
        refine (HMu.out _ _ _ _ rfl (hD.below hb7') hO7.rd).mono ?_
        rintro e w8 ⟨A8, c8, rfl, hc8, hO8, hb8⟩
        have hb8' := bt hb7' hb8
        have hQ8 := hQ7.below hQ7.lt hb8
        have hO8' := hO7'.below hb8
        go_wp2_with fail
        refine (HSb.out _ _ _ _ _ _ _ (by omega) rfl rfl hO8'.rd hO8.rd).mono ?_
        rintro e w9 ⟨ad9, c9, rfl, hc9, hO9, hb9⟩
        have hb9' := bt hb8' hb9
        have hQ9 := hQ8.below hQ8.lt hb9
        have hsz : w.heap.size + 1 ≤ w8.heap.size := hQ8.lt
        go_wp2_with fail
        go_roundw
        case rel => exact ⟨j, T - b * qq, c9, _, ad9, by omega, rfl, rfl, rfl, hmod.out, hO9.more hsz, hQ9, hb9'⟩
        case measure => simp [intOf]
end Go.Proofs.YtennekieiioilaaGreat

namespace Go.Proofs.YtennekieiioilaaGreat
open Go.ChangeShapes Go.WideShapes Go.ChangeAt Go.RowKit
open Go.ChangeMaps (open_string shut_string)
set_option linter.unusedVariables false
set_option linter.unusedSimpArgs false
set_option maxRecDepth 4000

set_option maxHeartbeats 500000 in
theorem spec_div_one (a b : Nat) (A D : Option Addr) (n c d : Nat) (w : World) (hn : ln a = n) (hn' : ln b = 1) (h60 : n ≤ 60) (hA : RdS w A (vi (nd a))) (hD : RdS w D (vi (nd b))) :
    Calls Tryz.prog 129 #[.slice A n c, .slice D 1 d] w (PairS (nd (a / b)) (nd (a % b)) w) := by
  have hbp : b < 1000000000 := lt_pn (n := 1) (by omega)
  have hb0 : 0 < b := by
    rcases Nat.eq_zero_or_pos b with h | h
    · subst h; rw [ln_zero] at hn'; omega
    · exact h
  obtain ⟨b1, o1, rfl, hbl, e1⟩ := hD.int (nd_get (v := b) (i := 0) (by omega))
  have hd0 : dgt b 0 = (b : Int) := by unfold dgt; rw [div_zero]; omega
  rw [hd0, Nat.add_zero] at e1
  have HS := Lib.hid (fun W h => spec_small a b A n c W hn h60 hb0 hbp h)
  have hr : a % b < b := Nat.mod_lt _ hb0
  have HNo := Lib.hid (fun W => spec_natOf (a % b) W (by omega))
  obtain ⟨r, hrr⟩ : ∃ r, r = a % b := ⟨_, rfl⟩
  rw [← hrr] at HS HNo ⊢
  clear hn hn' hr hrr hd0
  generalize nd (a / b) = LQ at HS ⊢
  generalize nd r = LR at HNo ⊢
  go_enter Tryz.func129, Tryz.ntmps129
  go_wp2_with fail
  refine (HS.out _ hA).mono ?_
  rintro e w1 ⟨A1, c1, rfl, hc1, ho1, hb1⟩
  go_wp2_with fail
  refine (HNo.out _).mono ?_
  rintro e w2 ⟨A2, c2, rfl, hc2, ho2, hb2⟩
  go_wp2_with fail
  go_ret2
  exact ⟨A1, c1, A2, c2, rfl, hc1, ho1.below hb2, ho2.more hb1.size, bt hb1 hb2⟩

theorem spec_div_any (a b : Nat) (A D : Option Addr) (n c n' d : Nat) (w : World) (hn : ln a = n) (hn' : ln b = n') (h60 : n ≤ 60) (h60' : n' ≤ 60) (h0 : 0 < n') (hA : RdS w A (vi (nd a))) (hD : RdS w D (vi (nd b))) :
    Calls Tryz.prog 129 #[.slice A n c, .slice D n' d] w (PairS (nd (a / b)) (nd (a % b)) w) := by
  by_cases h1 : n' = 1
  · subst h1
    exact spec_div_one a b A D n c d w hn hn' h60 hA hD
  · exact spec_div_long a b A D n c n' d w hn hn' h60 h60' (by omega) hA hD

/-- Whether 'NatDiv' has an answer. -/
def okD (l m : List Int) : Bool := ok l && ok m && decide (m ≠ [])
def divQ (l m : List Int) : List Int := if okD l m then nd (val l / val m) else []
def divR (l m : List Int) : List Int := if okD l m then nd (val l % val m) else []
theorem div_no {l m : List Int} (h : okD l m = false) : divQ l m = [] ∧ divR l m = [] := by unfold divQ divR; rw [h]; exact ⟨rfl, rfl⟩
theorem div_yes {a b : Nat} (h : okD (nd a) (nd b) = true) : divQ (nd a) (nd b) = nd (a / b) ∧ divR (nd a) (nd b) = nd (a % b) := by unfold divQ divR; rw [h, val_nd, val_nd]; exact ⟨rfl, rfl⟩
theorem PairS.nil (w : World) : PairS [] [] w (.returned (.tuple #[.slice none 0 0, .slice none 0 0])) w := ⟨none, 0, none, 0, rfl, Nat.le_refl _, .inl rfl, .inl rfl, Below.refl _ _⟩
theorem div_len (l m : List Int) : (divQ l m).length ≤ 60 ∧ (divR l m).length ≤ 60 := by
  by_cases h : okD l m = true
  · have h' := h
    unfold okD at h'
    simp only [Bool.and_eq_true] at h'
    obtain ⟨a, rfl, ha⟩ := ok_nd h'.1.1
    obtain ⟨b, rfl, hb⟩ := ok_nd h'.1.2
    rw [(div_yes h).1, (div_yes h).2, nd_length, nd_length]
    have h1 := ln_mono (Nat.div_le_self a b)
    have h2 := ln_mono (Nat.mod_le a b)
    omega
  · have h' : okD l m = false := by simpa using h
    rw [(div_no h').1, (div_no h').2]
    simp

set_option maxHeartbeats 500000 in
theorem impl_divL (l m : List Int) (A D : Option Addr) (n c n' d : Nat) (w : World) (hl : l.length = n) (hm : m.length = n') (hn : n ≤ 9223372036854775807) (hn' : n' ≤ 9223372036854775807) (hA : RdS w A (vi l)) (hD : RdS w D (vi m)) :
    Calls Tryz.prog 120 #[.slice A n c, .slice D n' d] w (Pair2 w.heap.size (divQ l m) (divR l m) w) := by
  have H1 := are_any l m A D n c n' d w hl hm hn hn' hA hD
  by_cases h : (ok l && ok m) = true
  · by_cases h3 : n' = 0
    · rw [h] at H1
      have hk : okD l m = false := by unfold okD; rw [List.eq_nil_of_length_eq_zero (hm.trans h3)]; simp
      rw [(div_no hk).1, (div_no hk).2]
      subst h3
      clear hk h hl hm
      go_enter Tryz.func120, Tryz.ntmps120
      go_wp2_with fail
      refine H1.mono ?_
      rintro e w1 ⟨rfl, rfl⟩
      go_wp2_with fail
      go_ret2
      exact Pair2.nil _ _
    · have hk : okD l m = true := by
        unfold okD
        rw [h, decide_eq_true (by rintro rfl; exact h3 hm.symm)]
        rfl
      rw [Bool.and_eq_true] at h
      obtain ⟨a, rfl, ha⟩ := ok_nd h.1
      obtain ⟨b, rfl, hb⟩ := ok_nd h.2
      rw [(div_yes hk).1, (div_yes hk).2]
      rw [nd_length] at hl hm
      exact impl_div a b A D n c n' d w hl hm (by omega) (by omega) (by omega) hA hD
  · have h' : (ok l && ok m) = false := by simpa using h
    rw [h'] at H1
    have hk : okD l m = false := by unfold okD; rw [h']; rfl
    rw [(div_no hk).1, (div_no hk).2]
    clear h h' hl hm hk
    go_enter Tryz.func120, Tryz.ntmps120
    go_wp2_with fail
    refine H1.mono ?_
    rintro e w1 ⟨rfl, rfl⟩
    go_wp2_with fail
    go_ret2
    exact Pair2.nil _ _
end Go.Proofs.YtennekieiioilaaGreat

namespace Go.Proofs.YtennekieiioilaaGreat
open Go.ChangeShapes Go.WideShapes Go.ChangeAt Go.RowKit
open Go.ChangeMaps (open_string shut_string)
set_option linter.unusedVariables false
set_option linter.unusedSimpArgs false
set_option maxRecDepth 4000

/-- All four coefficients stay within the base. -/
def Coef (fa fb na nb : Int) : Prop := (-1000000000 ≤ fa ∧ fa ≤ 1000000000) ∧ (-1000000000 ≤ fb ∧ fb ≤ 1000000000) ∧ (-1000000000 ≤ na ∧ na ≤ 1000000000) ∧ (-1000000000 ≤ nb ∧ nb ≤ 1000000000)
theorem small_of {k xa x : Int} (h0 : 0 ≤ k) (hxa : 1000000000 < xa) (h : k * xa ≤ x) (hx : x < 1000000000000000000) : k ≤ 1000000000 := by
  have h1 : k * 1000000000 ≤ k * xa := Int.mul_le_mul_of_nonneg_left (by omega) h0
  omega
theorem Leh.bounds {x y A B fa fb na nb xa yb X Y : Int} (h : Leh x y A B fa fb na nb xa yb X Y) (hxa : 1000000000 < xa) (hx : x < 1000000000000000000) (hyx : y ≤ x) :
    (-1000000000 ≤ na ∧ na ≤ 1000000000) ∧ (-1000000000 ≤ nb ∧ nb ≤ 1000000000) := by
  have hyb := h.ord.1
  rcases h.par with ⟨p1, p2, p3, p4, p5, p6⟩ | ⟨p1, p2, p3, p4, p5, p6⟩
  · have m1 : 0 ≤ (-fb) * yb := Int.mul_nonneg (by omega) hyb
    have m2 : 0 ≤ fa * yb := Int.mul_nonneg p1 hyb
    rw [Int.neg_mul] at m1
    have b1 := small_of (k := nb) (by omega) hxa (by omega) hx
    have b2 := small_of (k := -na) (x := y) (by omega) hxa (by rw [Int.neg_mul]; omega) (by omega)
    omega
  · have m1 : 0 ≤ fb * yb := Int.mul_nonneg p2 hyb
    have m2 : 0 ≤ (-fa) * yb := Int.mul_nonneg (by omega) hyb
    rw [Int.neg_mul] at m2
    have b1 := small_of (k := -nb) (x := x) (by omega) hxa (by rw [Int.neg_mul]; omega) hx
    have b2 := small_of (k := na) (x := y) (by omega) hxa (by omega) (by omega)
    omega

theorem Leh.strict {x y A B fa fb na nb xa yb X Y q : Int} (h : Leh x y A B fa fb na nb xa yb X Y) (hda : 0 < yb + na) (hdb : 0 < yb + nb) (h0 : 0 ≤ q) (h1 : q = (xa + fa) / (yb + na)) (h2 : q = (xa + fb) / (yb + nb)) : xa - q * yb < yb := by
  obtain ⟨_, u1⟩ := le_div_both hda h1
  obtain ⟨_, u2⟩ := le_div_both hdb h2
  rw [Int.mul_add, Int.add_mul, Int.one_mul] at u1 u2
  rcases h.par with ⟨p1, p2, p3, p4, _⟩ | ⟨p1, p2, p3, p4, _⟩
  · have : 0 ≤ (q + 1) * (-na) := Int.mul_nonneg (by omega) (by omega)
    rw [Int.mul_neg] at this
    omega
  · have : 0 ≤ (q + 1) * (-nb) := Int.mul_nonneg (by omega) (by omega)
    rw [Int.mul_neg] at this
    omega
theorem row_setCell {w : World} {g : Nat} {t : TypeId} {cs : Array Value} (h : w.heap[g]? = some (.cells cs t (0, 0))) (i : Nat) (u : Value) : (w.setCell ⟨g, i, none⟩ u).heap[g]? = some (.cells (cs.setIfInBounds i u) t (0, 0)) := by
  simp [World.setCell, Array.getElem?_modify, h]
theorem row_four {w : World} {g : Nat} {t : TypeId} {a b c d a' b' c' d' : Value} (h : w.heap[g]? = some (.cells #[a, b, c, d] t (0, 0))) :
    ((((w.setCell ⟨g, 0, none⟩ a').setCell ⟨g, 1, none⟩ b').setCell ⟨g, 2, none⟩ c').setCell ⟨g, 3, none⟩ d').heap[g]? = some (.cells #[a', b', c', d'] t (0, 0)) :=
  row_setCell (row_setCell (row_setCell (row_setCell h 0 a') 1 b') 2 c') 3 d'
theorem steps_info : (Tryz.prog.info? 127).map (·.size) = some 4 := by kernel_rfl

/-- What 'certainSteps' answers. -/
def CertPost (x y A B : Int) (w : World) (e : Ending) (w' : World) : Prop :=
  ∃ fa fb na nb xa yb X Y : Int, e = .returned (.agg #[.int .i64 fa, .int .i64 fb, .int .i64 na, .int .i64 nb]) ∧ Leh x y A B fa fb na nb xa yb X Y ∧ Coef fa fb na nb ∧ Below w.heap.size w w'

set_option maxHeartbeats 800000 in
theorem cert_any (x y : Nat) (A B D α β : Int) (w : World) (hx : x < 1000000000000000000) (hyx : y ≤ x) (hB0 : 0 ≤ B) (hAB : B ≤ A)
    (hA : A = (x : Int) * D + α) (hB : B = (y : Int) * D + β) (hD : 0 < D) (ha0 : 0 ≤ α) (ha1 : α ≤ D) (hb0 : 0 ≤ β) (hb1 : β ≤ D) :
    Calls Tryz.prog 137 #[.int .i64 (x : Int), .int .i64 (y : Int)] w (CertPost x y A B w) := by
  have hst := Lib.hid (Leh.start (x := (x : Int)) (y := (y : Int)) (A := A) (B := B) (by omega) (by omega) hB0 hAB)
  have HStep := Lib.hid (fun fa fb na nb xa yb X Y q (h : Leh (x : Int) (y : Int) A B fa fb na nb xa yb X Y) => h.step (q := q) hA hB hD ha0 ha1 hb0 hb1)
  have hw2 : ((w.alloc (.cells #[.int .i64 0, .int .i64 0, .int .i64 0, .int .i64 0] 127)).alloc (.cells #[.int .i64 1, .int .i64 0, .int .i64 0, .int .i64 1] 127)).heap[w.heap.size + 1]? = some (.cells #[.int .i64 1, .int .i64 0, .int .i64 0, .int .i64 1] 127 (0, 0)) := by
    have := heap_alloc_new (w.alloc (.cells #[.int .i64 0, .int .i64 0, .int .i64 0, .int .i64 0] 127)) (.cells #[.int .i64 1, .int .i64 0, .int .i64 0, .int .i64 1] 127)
    simpa using this
  have hw1 : ((w.alloc (.cells #[.int .i64 0, .int .i64 0, .int .i64 0, .int .i64 0] 127)).alloc (.cells #[.int .i64 1, .int .i64 0, .int .i64 0, .int .i64 1] 127)).heap[w.heap.size]? = some (.cells #[.int .i64 0, .int .i64 0, .int .i64 0, .int .i64 0] 127 (0, 0)) := by
    have h1 := heap_alloc_new w (.cells #[.int .i64 0, .int .i64 0, .int .i64 0, .int .i64 0] 127)
    have h2 : Below (w.heap.size + 1) (w.alloc (.cells #[.int .i64 0, .int .i64 0, .int .i64 0, .int .i64 0] 127)) ((w.alloc (.cells #[.int .i64 0, .int .i64 0, .int .i64 0, .int .i64 0] 127)).alloc (.cells #[.int .i64 1, .int .i64 0, .int .i64 0, .int .i64 1] 127)) := (Below.refl _ _).alloc (by simp) _
    rw [h2.block _ (Nat.lt_succ_self _)]
    exact h1
  have hbw : Below w.heap.size w ((w.alloc (.cells #[.int .i64 0, .int .i64 0, .int .i64 0, .int .i64 0] 127)).alloc (.cells #[.int .i64 1, .int .i64 0, .int .i64 0, .int .i64 1] 127)) := ((Below.refl _ _).alloc (Nat.le_refl _) _).alloc (by simp) _
  clear hA hB hD ha0 ha1 hb0 hb1 hB0 hAB
  go_enter Tryz.func137, Tryz.ntmps137
  go_wp2_with fail
  go_loopw [0, 1] (fun a b w' => ∃ fa fb na nb xa yb X Y : Int, a = .int .i64 xa ∧ b = .int .i64 yb ∧ Leh x y A B fa fb na nb xa yb X Y ∧ Coef fa fb na nb ∧ w'.heap[w.heap.size + 1]? = some (.cells #[.int .i64 fa, .int .i64 fb, .int .i64 na, .int .i64 nb] 127 (0, 0)) ∧ w'.heap[w.heap.size]? = some (.cells #[.int .i64 0, .int .i64 0, .int .i64 0, .int .i64 0] 127 (0, 0)) ∧ xa ≤ x ∧ Below w.heap.size w w') (fun _ b _ => (intOf b).toNat)
  case atStart => exact ⟨1, 0, 0, 1, _, _, _, _, rfl, rfl, hst.out, by unfold Coef; omega, hw2, hw1, Int.le_refl _, hbw⟩
  case round =>
    clear hst hw2 hw1 hbw
    obtain ⟨fa, fb, na, nb, xa, yb, X, Y, rfl, rfl, hL, hC, hh, hr, hxa, hb⟩ := hrel
    have HL := Lib.hid hL
    have hord := hL.ord
    have HC := Lib.hid hC
    clear hL
    obtain ⟨⟨a1, a2⟩, ⟨b1, b2⟩, ⟨c1, c2⟩, d1, d2⟩ := hC
    have k0 : wr.cell? ⟨w.heap.size + 1, 0, none⟩ = some (.int .i64 fa) := by rw [cell_of_row wr _ 0 _ _ (0, 0) hh]; rfl
    have k1 : wr.cell? ⟨w.heap.size + 1, 1, none⟩ = some (.int .i64 fb) := by rw [cell_of_row wr _ 1 _ _ (0, 0) hh]; rfl
    have k2 : wr.cell? ⟨w.heap.size + 1, 2, none⟩ = some (.int .i64 na) := by rw [cell_of_row wr _ 2 _ _ (0, 0) hh]; rfl
    have k3 : wr.cell? ⟨w.heap.size + 1, 3, none⟩ = some (.int .i64 nb) := by rw [cell_of_row wr _ 3 _ _ (0, 0) hh]; rfl
    have r0 : wr.cell? ⟨w.heap.size, 0, none⟩ = some (.int .i64 0) := by rw [cell_of_row wr _ 0 _ _ (0, 0) hr]; rfl
    have r1 : wr.cell? ⟨w.heap.size, 1, none⟩ = some (.int .i64 0) := by rw [cell_of_row wr _ 1 _ _ (0, 0) hr]; rfl
    have r2 : wr.cell? ⟨w.heap.size, 2, none⟩ = some (.int .i64 0) := by rw [cell_of_row wr _ 2 _ _ (0, 0) hr]; rfl
    have r3 : wr.cell? ⟨w.heap.size, 3, none⟩ = some (.int .i64 0) := by rw [cell_of_row wr _ 3 _ _ (0, 0) hr]; rfl
    have fz : ∀ o, wr.frozen? ⟨w.heap.size, o, none⟩ = false := fun o => by unfold World.frozen?; rw [hr]; simp
    have fz' : ∀ o, wr.frozen? ⟨w.heap.size + 1, o, none⟩ = false := fun o => by unfold World.frozen?; rw [hh]; simp
    have g0 := fz 0
    have g1 := fz 1
    have g2 := fz 2
    have g3 := fz 3
    have g0' := fz' 0
    have g1' := fz' 1
    have g2' := fz' 2
    have g3' := fz' 3
    clear fz fz'
    by_cases hbig : 1000000000 < yb
    · have hxb : 1000000000 < xa := by omega
      obtain ⟨q, hq⟩ : ∃ q, q = (xa + fa) / (yb + na) := ⟨_, rfl⟩
      obtain ⟨q2, hq2⟩ : ∃ q, q = (xa + fb) / (yb + nb) := ⟨_, rfl⟩
      have t1 : (xa + fa).tdiv (yb + na) = q := by rw [hq]; exact Int.tdiv_eq_ediv_of_nonneg (by omega)
      have t2 : (xa + fb).tdiv (yb + nb) = q2 := by rw [hq2]; exact Int.tdiv_eq_ediv_of_nonneg (by omega)
      have z1 : ¬ yb + na = 0 := by omega
      have z2 : ¬ yb + nb = 0 := by omega
      have q0 : 0 ≤ q := by rw [hq]; exact Int.ediv_nonneg (by omega) (by omega)
      have q1 : q ≤ xa + fa := by rw [hq]; exact Int.ediv_le_self _ (by omega)
      have q20 : 0 ≤ q2 := by rw [hq2]; exact Int.ediv_nonneg (by omega) (by omega)
      have q21 : q2 ≤ xa + fb := by rw [hq2]; exact Int.ediv_le_self _ (by omega)
      have HQ := Lib.hid hq
      have HQ2 := Lib.hid hq2
      clear hq hq2
      by_cases he : q = q2
      · subst he
        obtain ⟨hL', hq1, _, _⟩ := HStep.out fa fb na nb xa yb X Y q HL.out (by omega) (by omega) HQ.out HQ2.out
        have hstr := HL.out.strict (by omega) (by omega) q0 HQ.out HQ2.out
        obtain ⟨⟨e1, e2⟩, e3, e4⟩ := hL'.bounds hbig (by omega) (by omega)
        have hord' := hL'.ord
        have HL' := Lib.hid hL'
        have HO := Lib.hid (And.intro hord' hstr)
        have o1 : -2000000000 ≤ q * na ∧ q * na ≤ 2000000000 := by omega
        have o2 : -2000000000 ≤ q * nb ∧ q * nb ≤ 2000000000 := by omega
        have o3 : 0 ≤ q * yb ∧ q * yb ≤ xa := by have := Int.mul_nonneg q0 (show (0 : Int) ≤ yb by omega); omega
        have hne : (q != q) = false := by simp
        obtain ⟨o11, o12⟩ := o1
        obtain ⟨o21, o22⟩ := o2
        obtain ⟨o31, o32⟩ := o3
        clear hL' hord' hstr
        go_wp2_with fail
        go_roundw
        case rel =>
          refine ⟨na, nb, fa - q * na, fb - q * nb, yb, xa - q * yb, Y, X - q * Y, rfl, rfl, HL'.out, ?_, row_four hh, ?_, by have := HL.out.ord; omega, ?_⟩
          · unfold Coef; omega
          · rw [Below.heap_setCell _ _ _ _ (by simp), Below.heap_setCell _ _ _ _ (by simp), Below.heap_setCell _ _ _ _ (by simp), Below.heap_setCell _ _ _ _ (by simp)]
            exact hr
          · exact (((hb.setCell (by simp) _).setCell (by simp) _).setCell (by simp) _).setCell (by simp) _
        case measure => have := HO.out; simp [intOf]; omega
      · have hne : (q != q2) = true := by rw [bne_iff_ne]; exact he
        clear he
        go_wp2_with fail
        exact bodyPost_ret (v := .agg #[.int .i64 fa, .int .i64 fb, .int .i64 na, .int .i64 nb]) (results_cell_row rfl _ _ w.heap.size _ _ (0, 0) _ rfl (row_four hr) Tryz.underlying127 rfl steps_info) rfl ⟨fa, fb, na, nb, xa, yb, X, Y, rfl, HL.out, HC.out, (((hb.setCell (Nat.le_refl _) _).setCell (Nat.le_refl _) _).setCell (Nat.le_refl _) _).setCell (Nat.le_refl _) _⟩
    · have hbi : ¬ 1000000000 < yb := hbig
      go_wp2_with fail
      exact bodyPost_ret (v := .agg #[.int .i64 fa, .int .i64 fb, .int .i64 na, .int .i64 nb]) (results_cell_row rfl _ _ w.heap.size _ _ (0, 0) _ rfl (row_four hr) Tryz.underlying127 rfl steps_info) rfl ⟨fa, fb, na, nb, xa, yb, X, Y, rfl, HL.out, HC.out, (((hb.setCell (Nat.le_refl _) _).setCell (Nat.le_refl _) _).setCell (Nat.le_refl _) _).setCell (Nat.le_refl _) _⟩
end Go.Proofs.YtennekieiioilaaGreat

namespace Go.Proofs.YtennekieiioilaaGreat
open Go.ChangeShapes Go.WideShapes Go.ChangeAt Go.RowKit
open Go.ChangeMaps (open_string shut_string)
set_option linter.unusedVariables false
set_option linter.unusedSimpArgs false
set_option maxRecDepth 4000

set_option maxHeartbeats 600000 in
theorem comb_any (a b Z : Nat) (f g : Int) (A D : Option Addr) (n c n' d : Nat) (w : World) (hn : ln a = n) (hn' : ln b = n') (h60 : n ≤ 60) (h60' : n' ≤ 60) (hZ : f * (a : Int) + g * (b : Int) = (Z : Int)) (hZn : ln Z ≤ n)
    (hf0 : -1000000000 ≤ f) (hf1 : f ≤ 1000000000) (hg0 : -1000000000 ≤ g) (hg1 : g ≤ 1000000000) (hA : RdS w A (vi (nd a))) (hD : RdS w D (vi (nd b))) :
    Calls Tryz.prog 139 #[.int .i64 f, .slice A n c, .int .i64 g, .slice D n' d] w (MadeI w.heap.size (nd Z) w) := by
  obtain ⟨i0, hi, hz0, hz1, hz2⟩ := info_parts int_info
  have HP1 := Lib.hid (fun W (hB : Blk W w.heap.size (row n 0)) (hb : Below w.heap.size w W) =>
    pass_any w.heap.size 0 n n n (row n 0) 0 a f A n c W (row_length _ _) (by omega) (by omega) (by omega) (fun j hj => by rw [Nat.zero_add]; exact row_get _ hj) (by have := hA.below hb; rwa [nd, hn] at this) (by omega) (ln_lt' hn) (by have := hA.apart (Nat.le_refl _); rwa [nd_length, hn] at this) hB hf0 hf1)
  have HP2 := Lib.hid (fun W (hB : Blk W w.heap.size (row n (0 + f * (a : Int)))) (hb : Below w.heap.size w W) =>
    pass_any w.heap.size 0 n n n' (row n (0 + f * (a : Int))) (0 + f * (a : Int)) b g D n d W (row_length _ _) (by omega) (by omega) (by omega) (fun j hj => by rw [Nat.zero_add]; exact row_get _ hj) (by have := hD.below hb; rwa [nd, hn'] at this) (by omega) (ln_lt' hn') (by have := hD.apart (Nat.le_refl _); rwa [nd_length, hn'] at this) hB hg0 hg1)
  have HZ : Hid (0 + f * (a : Int) + g * (b : Int) = (Z : Int)) := Lib.hid (by omega)
  have HC : Hid (cap60 Z = nd Z) := Lib.hid (cap60_in (by omega))
  clear hn hn' hA hD hZ
  go_enter Tryz.func139, Tryz.ntmps139
  go_wp2_with (first | (refine wpList_make_full _ rfl (.tmp 11) (.tmp 11) 26 rfl w.heap.size 3 i0 _ 1 Tryz.underlying26 hi hz0 hz1 .i64 .i64 (n : Int) (n : Int) n rfl rfl rfl rfl (by rw [hz2]; omega) (by simp only [maxLen]; omega) (Nat.le_refl _) ?_; intro w1 hown hg1; refine cut_here ?_))
  have hB1 := Blk.of_made hown (zeros n)
  have hb1 : Below w.heap.size w w1 := below_of_grown hg1 (Nat.le_refl _) (fun g h => by cases h)
  clear hown hg1
  refine Cut.of ?_
  go_wp2_with fail
  refine (HP1.out w1 hB1 hb1).mono ?_
  rintro e w2 ⟨rfl, hB2, hg2⟩
  rw [lay_all _ _ (row_length _ _)] at hB2
  have hb2 := below_g hb1 (Nat.le_refl _) hg2
  go_wp2_with fail
  refine (HP2.out w2 hB2 hb2).mono ?_
  rintro e w3 ⟨rfl, hB3, hg3⟩
  rw [lay_all _ _ (row_length _ _), HZ.out] at hB3
  have hb3 := below_g hb2 (Nat.le_refl _) hg3
  go_wp2_with fail
  refine (natOfRow_any w.heap.size w.heap.size n n Z w3 (Nat.le_refl _) hB3 hZn (Nat.le_refl _) (by omega) (by omega)).mono ?_
  intro e w4 hm
  rw [HC.out] at hm
  obtain ⟨A4, c4, rfl, hc4, ho4, hb4⟩ := hm.after hb3
  go_wp2
  go_ret
  exact ⟨A4, c4, rfl, hc4, ho4, hb4⟩
end Go.Proofs.YtennekieiioilaaGreat

namespace Go.Proofs.YtennekieiioilaaGreat
open Go.ChangeShapes Go.WideShapes Go.ChangeAt Go.RowKit
open Go.ChangeMaps (open_string shut_string)
set_option linter.unusedVariables false
set_option linter.unusedSimpArgs false
set_option maxRecDepth 4000

/-- Two rows to be read. -/
def EucPost (a b : Nat) (w : World) (e : Ending) (w' : World) : Prop :=
  ∃ (X Y cx cy : Nat) (AX AY : Option Addr), e = .returned (.tuple #[.slice AX (nd X).length cx, .slice AY (nd Y).length cy]) ∧ RdS w' AX (vi (nd X)) ∧ RdS w' AY (vi (nd Y)) ∧ Nat.gcd X Y = Nat.gcd a b ∧ Y ≤ X ∧ Y < b ∧ X ≤ a ∧ Below w.heap.size w w'

theorem top3_lt {T n : Nat} (h : 1 ≤ n) : top3N T n < ((dgz T n).toNat + 1) * 1000000000000000000 := by
  have := dgz_nonneg T n
  have := dgz_nonneg T ((n : Int) - 1)
  have := dgz_nonneg T ((n : Int) - 2)
  have := dgz_lt T ((n : Int) - 1)
  have := dgz_lt T ((n : Int) - 2)
  unfold top3N
  omega

theorem held_four {wr W w1 : World} {g : Nat} {a b c d : Value} (hg : g < wr.heap.size) (h0 : W.cell? ⟨g, 0, none⟩ = some a) (h1 : W.cell? ⟨g, 1, none⟩ = some b) (h2 : W.cell? ⟨g, 2, none⟩ = some c) (h3 : W.cell? ⟨g, 3, none⟩ = some d) (h4 : Below wr.heap.size wr W) (hb : Below W.heap.size W w1) :
    w1.cell? ⟨g, 0, none⟩ = some a ∧ w1.cell? ⟨g, 1, none⟩ = some b ∧ w1.cell? ⟨g, 2, none⟩ = some c ∧ w1.cell? ⟨g, 3, none⟩ = some d ∧ Below wr.heap.size wr w1 := by
  have hl : g < W.heap.size := Nat.lt_of_lt_of_le hg h4.size
  exact ⟨by rw [hb.cell (p := ⟨g, 0, none⟩) hl]; exact h0, by rw [hb.cell (p := ⟨g, 1, none⟩) hl]; exact h1, by rw [hb.cell (p := ⟨g, 2, none⟩) hl]; exact h2, by rw [hb.cell (p := ⟨g, 3, none⟩) hl]; exact h3, h4.trans (hb.mono h4.size)⟩

def CombPost (f g : Int) (a b : Nat) (w : World) (e : Ending) (w' : World) : Prop :=
  ∃ (Z : Nat) (A : Option Addr) (c : Nat), e = .returned (.slice A (nd Z).length c) ∧ f * (a : Int) + g * (b : Int) = (Z : Int) ∧ RdS w' A (vi (nd Z)) ∧ Below w.heap.size w w'

theorem comb_two (a b X Y : Nat) (fa fb na nb f g : Int) (A D : Option Addr) (n c n' d : Nat) (w : World) (hn : ln a = n) (hn' : ln b = n') (h60 : n ≤ 60) (h60' : n' ≤ 60) (hX : fa * (a : Int) + fb * (b : Int) = (X : Int)) (hY : na * (a : Int) + nb * (b : Int) = (Y : Int)) (hXn : ln X ≤ n) (hYn : ln Y ≤ n)
    (h1 : -1000000000 ≤ fa ∧ fa ≤ 1000000000) (h2 : -1000000000 ≤ fb ∧ fb ≤ 1000000000) (h3 : -1000000000 ≤ na ∧ na ≤ 1000000000) (h4 : -1000000000 ≤ nb ∧ nb ≤ 1000000000) (hfg : (f = fa ∧ g = fb) ∨ (f = na ∧ g = nb)) (hA : RdS w A (vi (nd a))) (hD : RdS w D (vi (nd b))) :
    Calls Tryz.prog 139 #[.int .i64 f, .slice A n c, .int .i64 g, .slice D n' d] w (CombPost f g a b w) := by
  rcases hfg with ⟨rfl, rfl⟩ | ⟨rfl, rfl⟩
  · exact (comb_any a b X f g A D n c n' d w hn hn' h60 h60' hX hXn h1.1 h1.2 h2.1 h2.2 hA hD).mono fun e w' ⟨AX, cX, he, _, hO, hb⟩ => ⟨X, AX, cX, he, hX, hO.rd, hb⟩
  · exact (comb_any a b Y f g A D n c n' d w hn hn' h60 h60' hY hYn h3.1 h3.2 h4.1 h4.2 hA hD).mono fun e w' ⟨AX, cX, he, _, hO, hb⟩ => ⟨Y, AX, cX, he, hY, hO.rd, hb⟩

theorem quo64_lt {N d : Nat} (h : N < d * 1000000000000000000) : N / 18446744073709551616 < d := by
  apply Nat.div_lt_of_lt_mul
  omega

set_option maxHeartbeats 400000 in
theorem euc_any (a b : Nat) (A D : Option Addr) (n c n' d : Nat) (w : World) (hn : ln a = n) (hn' : ln b = n') (h60 : n ≤ 60) (h3 : 3 ≤ n) (hba : b ≤ a) (hb0 : 0 < b) (hA : RdS w A (vi (nd a))) (hD : RdS w D (vi (nd b))) :
    Calls Tryz.prog 118 #[.slice A n c, .slice D n' d] w (EucPost a b w) := by
  have hnn : n' ≤ n := by have := ln_mono hba; omega
  obtain ⟨t, ht⟩ : ∃ t : Nat, dgt a (n - 1) = (t : Int) := ⟨(dgt a (n - 1)).toNat, by have := dgt_nonneg a (n - 1); omega⟩
  have ht1 : t < 1000000000 := by have := dgt_lt a (n - 1); omega
  have e0 : ((n : Int) - 1) = ((n - 1 : Nat) : Int) := by omega
  have hza : dgz (a : Int) ((n - 1 : Nat) : Int) = (t : Int) := by unfold dgz; rw [if_neg (by omega), Int.toNat_natCast, ht]
  obtain ⟨Na, hNa⟩ : ∃ N, N = top3N a (n - 1) := ⟨_, rfl⟩
  obtain ⟨Nb, hNb⟩ : ∃ N, N = top3N b (n - 1) := ⟨_, rfl⟩
  have dNa : Na = a / pn (n - 3) := by rw [hNa, top3_div (by omega) (by omega), show n - 1 - 2 = n - 3 by omega]
  have dNb : Nb = b / pn (n - 3) := by rw [hNb, top3_div (by omega) (by omega), show n - 1 - 2 = n - 3 by omega]
  have hNab : Nb ≤ Na := by rw [dNa, dNb]; exact Nat.div_le_div_right hba
  have hNat : Na < (t + 1) * 1000000000000000000 := by
    have h1 := top3_lt (T := a) (n := n - 1) (by omega)
    rw [hza, ← hNa, Int.toNat_natCast] at h1
    exact h1
  have hI : ∀ T : Nat, ((top3N T (n - 1) : Nat) : Int) = (dgz (T : Int) ((n : Int) - 1) * 1000000000 + dgz (T : Int) ((n : Int) - 1 - 1)) * 1000000000 + dgz (T : Int) ((n : Int) - 1 - 2) := fun T => by
    have q0 := dgz_nonneg T ((n - 1 : Nat) : Int)
    have q1 := dgz_nonneg T (((n - 1 : Nat) : Int) - 1)
    have q2 := dgz_nonneg T (((n - 1 : Nat) : Int) - 2)
    rw [e0]
    unfold top3N
    omega
  obtain ⟨x, hx⟩ : ∃ x, x = Na / (t + 1) := ⟨_, rfl⟩
  obtain ⟨y, hy⟩ : ∃ y, y = Nb / (t + 1) := ⟨_, rfl⟩
  have hxb : x < 1000000000000000000 := by rw [hx, Nat.div_lt_iff_lt_mul (by omega), Nat.mul_comm]; exact hNat
  have hyx : y ≤ x := by rw [hx, hy]; exact Nat.div_le_div_right hNab
  have HTA := Lib.hid (fun W h => divideTop_any a n c A ((n : Int) - 1) (t + 1) Na W (by omega) (by omega) h (by omega) (by omega) (by omega) (by omega) (by rw [hNa]; exact hI a) (quo64_lt hNat) (by rw [← hx]; omega))
  have HTB := Lib.hid (fun W h => divideTop_any b n' d D ((n : Int) - 1) (t + 1) Nb W (by omega) (by omega) h (by omega) (by omega) (by omega) (by omega) (by rw [hNb]; exact hI b) (quo64_lt (Nat.lt_of_le_of_lt hNab hNat)) (by rw [← hy]; omega))
  rw [← hx] at HTA
  rw [← hy] at HTB
  obtain ⟨DD, hDD⟩ : ∃ D, D = pn (n - 3) * (t + 1) := ⟨_, rfl⟩
  have hDp : 0 < DD := by rw [hDD]; exact Nat.mul_pos (pn_pos _) (by omega)
  have hxA : x = a / DD := by rw [hx, dNa, hDD, Nat.div_div_eq_div_mul]
  have hyB : y = b / DD := by rw [hy, dNb, hDD, Nat.div_div_eq_div_mul]
  have hAe : (a : Int) = (x : Int) * (DD : Int) + ((a % DD : Nat) : Int) := by
    have := Nat.div_add_mod a DD
    rw [hxA, ← Int.natCast_mul, Nat.mul_comm]
    omega
  have hBe : (b : Int) = (y : Int) * (DD : Int) + ((b % DD : Nat) : Int) := by
    have := Nat.div_add_mod b DD
    rw [hyB, ← Int.natCast_mul, Nat.mul_comm]
    omega
  have hm1 := Nat.mod_lt a hDp
  have hm2 := Nat.mod_lt b hDp
  have HCe := Lib.hid (fun W => cert_any x y (a : Int) (b : Int) (DD : Int) ((a % DD : Nat) : Int) ((b % DD : Nat) : Int) W hxb hyx (by omega) (by omega) hAe hBe (by omega) (by omega) (by omega) (by omega) (by omega))
  have HDi := Lib.hid (fun W h h' => impl_div a b A D n c n' d W hn hn' h60 (by omega) (by rw [← hn', ln_pos hb0]; omega) h h')
  obtain ⟨b1, o1, hAo, hbl, e1⟩ := hA.int (nd_get (v := a) (i := n - 1) (by omega))
  subst hAo
  rw [ht] at e1
  have HAr : Hid (∀ W, Below w.heap.size w W → RdS W (some ⟨b1, o1, none⟩) (vi (nd a)) ∧ RdS W (some ⟨b1, o1, none⟩) (vi (row n a))) := Lib.hid (fun W hb => ⟨hA.below hb, by have := hA.below hb; rwa [nd, hn] at this⟩)
  have HDr : Hid (∀ W, Below w.heap.size w W → RdS W D (vi (nd b)) ∧ RdS W D (vi (row n' b))) := Lib.hid (fun W hb => ⟨hD.below hb, by have := hD.below hb; rwa [nd, hn'] at this⟩)
  have HNs := Lib.hid (And.intro hn hn')
  have hkt : ((n : Int) - 1).toNat = n - 1 := by omega
  have hi0 : (0 : Int) ≤ (n : Int) - 1 := by omega
  have hi1 : (n : Int) - 1 < (n : Int) := by omega
  have hsc : (t : Int) + 1 = ((t + 1 : Nat) : Int) := by omega
  clear hNat hNab dNa dNb hx hy hxA hyB hAe hBe hm1 hm2 hI hza ht hn hn' hNa hNb hDD hA hD e0
  generalize hsv : t + 1 = sc at HTA HTB hsc
  clear hsv
  go_enter Tryz.func118, Tryz.ntmps118
  go_wp2_with fail
  refine (HTA.out _ (HAr.out _ (Below.refl _ _)).2).mono ?_
  rintro e w1 ⟨rfl, hb1⟩
  go_wp2_with fail
  refine (HTB.out _ (HDr.out _ hb1).2).mono ?_
  rintro e w2 ⟨rfl, hb2⟩
  have hb2' := bt hb1 hb2
  go_wp2_with fail
  refine (HCe.out _).mono ?_
  rintro e w3 ⟨fa, fb, na, nb, xa, yb, X, Y, rfl, hL, hC, hb3⟩
  have hb3' := bt hb2' hb3
  have hp := hL.pos
  obtain ⟨X, rfl⟩ : ∃ k : Nat, X = (k : Int) := ⟨X.toNat, by omega⟩
  obtain ⟨Y, rfl⟩ : ∃ k : Nat, Y = (k : Int) := ⟨Y.toNat, by omega⟩
  have HF : Hid (Nat.gcd X Y = Nat.gcd a b ∧ Y ≤ X ∧ (fb ≠ 0 → Y < b) ∧ X ≤ a) := Lib.hid ⟨hL.gcd, by omega, fun h => by have := hL.less.2 h; omega, by omega⟩
  have hXe := hL.eX
  have hYe := hL.eY
  obtain ⟨⟨a1, a2⟩, ⟨b1', b2'⟩, ⟨c1, c2⟩, d1, d2⟩ := hC
  have hlX : ln X ≤ n := by have := ln_mono (show X ≤ a by omega); have := HNs.out.1; omega
  have hlY : ln Y ≤ n := by have := ln_mono (show Y ≤ a by omega); have := HNs.out.1; omega
  have hb4 := hb3'.alloc hb3'.size (.cells #[.int .i64 fa, .int .i64 fb, .int .i64 na, .int .i64 nb] 127)
  have HC := Lib.hid (fun f g W (hfg : (f = fa ∧ g = fb) ∨ (f = na ∧ g = nb)) (h : RdS W (some ⟨b1, o1, none⟩) (vi (nd a))) (h' : RdS W D (vi (nd b))) => comb_two a b X Y fa fb na nb f g (some ⟨b1, o1, none⟩) D n c n' d W HNs.out.1 HNs.out.2 h60 (by omega) hXe.symm hYe.symm hlX hlY (by omega) (by omega) (by omega) (by omega) hfg h h')
  have HXY := Lib.hid (And.intro hXe hYe)
  have hh := heap_alloc_new w3 (.cells #[.int .i64 fa, .int .i64 fb, .int .i64 na, .int .i64 nb] 127)
  have hgl : w3.heap.size < (w3.alloc (.cells #[.int .i64 fa, .int .i64 fb, .int .i64 na, .int .i64 nb] 127)).heap.size := by simp
  clear hL hp hXe hYe hlX hlY hb1 hb2 hb2' hb3 hb3'
  have HBb : Hid (0 < b ∧ b ≤ a ∧ ln b = n' ∧ n' ≤ n) := Lib.hid ⟨hb0, hba, HNs.out.2, hnn⟩
  by_cases hfb : fb = 0
  · subst hfb
    go_wp2_with fail
    refine (HDi.out _ (HAr.out _ hb4).1 (HDr.out _ hb4).1).mono ?_
    rintro e w5 ⟨A1, cA, A2, cR, rfl, -, -, hO1, hO2, hb5, -⟩
    have hb6 := bt hb4 hb5
    go_wp2
    go_ret2
    obtain ⟨q1, q2, q3, q4⟩ := HBb.out
    have hmlt := Nat.mod_lt a q1
    have hdl := (HDr.out _ hb6).1
    refine ⟨b, a % b, d, cR, D, A2, ?_, hdl, hO2.rd, ?_, Nat.le_of_lt hmlt, hmlt, q2, hb6⟩
    · rw [nd_length b, q3]; rfl
    · rw [Nat.gcd_comm a b, Nat.gcd_rec b a, Nat.gcd_comm b (a % b)]
  · have k0 := cell_of_row _ _ 0 _ _ (0, 0) hh
    have k1 := cell_of_row _ _ 1 _ _ (0, 0) hh
    have k2 := cell_of_row _ _ 2 _ _ (0, 0) hh
    have k3 := cell_of_row _ _ 3 _ _ (0, 0) hh
    replace k0 : _ = some (Value.int .i64 fa) := k0
    replace k1 : _ = some (Value.int .i64 fb) := k1
    replace k2 : _ = some (Value.int .i64 na) := k2
    replace k3 : _ = some (Value.int .i64 nb) := k3
    have hq : (fb == 0) = false := by simpa using hfb
    clear hh
    go_wp2_with fail
    generalize w3.alloc (.cells #[.int .i64 fa, .int .i64 fb, .int .i64 na, .int .i64 nb] 127) = W4 at *
    generalize w3.heap.size = g at *
    go_region_held3 (fun w' => w'.cell? ⟨g, 0, none⟩ = some (.int .i64 fa) ∧ w'.cell? ⟨g, 1, none⟩ = some (.int .i64 fb) ∧ w'.cell? ⟨g, 2, none⟩ = some (.int .i64 na) ∧ w'.cell? ⟨g, 3, none⟩ = some (.int .i64 nb) ∧ Below W4.heap.size W4 w')
      (first | (exact ⟨k0, k1, k2, k3, (Below.refl _ _).drew⟩) | (go_split_ands; exact held_four hgl (by assumption) (by assumption) (by assumption) (by assumption) (by assumption) hbc))
      (first | (go_at_call 139; go_split_ands; refine (HC.out _ _ _ (by first | exact .inl ⟨rfl, rfl⟩ | exact .inr ⟨rfl, rfl⟩) (HAr.out _ (bt hb4 (by assumption))).1 (HDr.out _ (bt hb4 (by assumption))).1).mono ?_; rintro e w5 ⟨Z, AX, cX, rfl, hZ, hOX, hbc⟩))
    rename_i wA ZA AA cA hZA hOA hbA l3 l2 l1 l0 hrA hHeld
    have hfin := hHeld.2.2.2.2
    clear hHeld l3 l2 l1 l0
    have eA : ZA = X := by have := hZA.symm.trans HXY.out.1.symm; omega
    have eY : Z = Y := by have := hZ.symm.trans HXY.out.2.symm; omega
    subst eA
    subst eY
    obtain ⟨f1, f2, f3, f4⟩ := HF.out
    have hOA' := hOA.below hbc
    have hb9 := bt hb4 hfin
    go_wp2
    go_ret2
    exact ⟨ZA, Z, cA, cX, AA, AX, rfl, hOA', hOX, f1, f2, f3 hfb, f4, hb9⟩
end Go.Proofs.YtennekieiioilaaGreat

namespace Go.Proofs.YtennekieiioilaaGreat
open Go.ChangeShapes Go.WideShapes Go.ChangeAt Go.RowKit
open Go.ChangeMaps (open_string shut_string)
set_option linter.unusedVariables false
set_option linter.unusedSimpArgs false
set_option maxRecDepth 4000

set_option maxHeartbeats 500000 in
theorem spec_plain (a b : Nat) (w : World) (ha : a < 1000000000000000000) (hb : b < 1000000000000000000) :
    Calls Tryz.prog 128 #[.int .i64 (a : Int), .int .i64 (b : Int)] w (MadeI w.heap.size (nd (Nat.gcd a b)) w) := by
  have HG : ∃ G, G = Nat.gcd a b := ⟨_, rfl⟩
  obtain ⟨G, hG⟩ := HG
  rw [← hG]
  have hst := Lib.hid hG.symm
  clear hG
  go_enter Tryz.func128, Tryz.ntmps128
  go_wp2_with fail
  go_loop [0, 1] (fun x y => ∃ p q : Nat, x = .int .i64 (p : Int) ∧ y = .int .i64 (q : Int) ∧ p < 1000000000000000000 ∧ q < 1000000000000000000 ∧ Nat.gcd p q = G) (fun _ y => (intOf y).toNat)
  case atStart => exact ⟨a, b, rfl, rfl, ha, hb, hst.out⟩
  case round =>
    obtain ⟨p, q, rfl, rfl, hp, hq, hg⟩ := hrel
    have HG := Lib.hid hg
    clear hg hst ha hb
    by_cases h0 : 0 < q
    · obtain ⟨r, hr⟩ : ∃ r, r = p % q := ⟨_, rfl⟩
      have hrq : r < q := by rw [hr]; exact Nat.mod_lt _ h0
      have hm : (p : Int).tmod (q : Int) = (r : Int) := by rw [hr]; exact (Int.ofNat_tmod p q).symm
      have hz : ¬ (q : Int) = 0 := by omega
      have hg2 : Hid (Nat.gcd q r = G) := Lib.hid (by rw [hr, Nat.gcd_comm, ← Nat.gcd_rec, Nat.gcd_comm]; exact HG.out)
      clear hr
      go_wp2_with fail
      go_round
      case rel => exact ⟨q, r, rfl, rfl, hq, by omega, hg2.out⟩
      case measure => simp [intOf]; omega
    · obtain rfl : q = 0 := by omega
      have hG : p = G := by have := HG.out; rwa [Nat.gcd_zero_right] at this
      subst hG
      go_wp2_with fail
      refine (spec_natOf p _ (by omega)).mono ?_
      intro e w3 hm
      obtain ⟨A2, c2, rfl, hc2, ho2, hb2⟩ := hm
      go_wp2_with fail
      go_ret
      exact ⟨A2, c2, rfl, hc2, ho2, hb2⟩

theorem toV_small {a : Nat} (h : ln a ≤ 2) : toV (nd a) = a ∧ a < 1000000000000000000 := by
  have h1 := lt_pn h
  have h2 : pn 2 = 1000000000000000000 := by decide
  exact ⟨(toV_yes (by omega) (by omega)).1, by omega⟩

/-- The number that a slice of limbs reads as: what a loop counts down. -/
def numAt : Value → World → Nat
  | .slice (some ad) n _, w => val ((List.range n).map (fun j => match w.cell? ⟨ad.block, ad.off + j, none⟩ with | some (.int _ x) => x | _ => 0))
  | _, _ => 0
theorem numAt_eq {w : World} {A : Option Addr} {Y c : Nat} (h : RdS w A (vi (nd Y))) : numAt (.slice A (nd Y).length c) w = Y := by
  by_cases h0 : (nd Y).length = 0
  · have hY : Y = 0 := by rw [nd_length] at h0; exact ln_eq_zero.1 h0
    rw [h0, hY]
    cases A <;> rfl
  · obtain ⟨b, off, rfl, _, hc⟩ := h.block (by rw [vi_length]; omega)
    have e : (List.range (nd Y).length).map (fun j => match w.cell? ⟨b, off + j, none⟩ with | some (.int _ x) => x | _ => 0) = nd Y := by
      apply List.ext_getElem?
      intro j
      rcases Nat.lt_or_ge j (nd Y).length with h1 | h1
      · have h2 := hc j (by rw [vi_length]; exact h1)
        rw [vi_get h1] at h2
        rw [List.getElem?_map, List.getElem?_range h1, List.getElem?_eq_getElem h1]
        simp [h2]
      · rw [List.getElem?_eq_none (by simpa using h1), List.getElem?_eq_none h1]
    show val _ = Y
    rw [e, val_nd]

/-- A slice of the call's own, whatever its capacity. -/
def MadeN (B : Nat) (L : List Int) (w : World) (e : Ending) (w' : World) : Prop :=
  ∃ A c, e = .returned (.slice A L.length c) ∧ OwnS B w' A (vi L) ∧ Below w.heap.size w w'

set_option maxHeartbeats 800000 in
theorem spec_gcd_rd (a b : Nat) (A D : Option Addr) (n c n' d : Nat) (w : World) (hn : ln a = n) (hn' : ln b = n') (h60 : n ≤ 60) (h60' : n' ≤ 60) (hA : RdS w A (vi (nd a))) (hD : RdS w D (vi (nd b))) :
    Calls Tryz.prog 104 #[.slice A n c, .slice D n' d] w (MadeN w.heap.size (nd (Nat.gcd a b)) w) := by
  have hl : (nd a).length = n := by rw [nd_length, hn]
  have hl' : (nd b).length = n' := by rw [nd_length, hn']
  have hal : Below w.heap.size w (w.alloc (.cells #[] 3)) := (Below.refl _ _).alloc (Nat.le_refl _) _
  have hs0 : (w.alloc (.cells #[] 3)).ownsRow w.heap.size 3 1 (.slice (some ⟨w.heap.size, 0, none⟩) 0 0) 0 (vi []) := World.ownsRow_made w #[] 0 (by omega) (by simp [maxLen]) rfl
  have HLa := Lib.hid hl
  have HLb := Lib.hid hl'
  have HGab : ∃ G, G = Nat.gcd a b := ⟨_, rfl⟩
  obtain ⟨G, hG⟩ := HGab
  rw [← hG]
  have HG := Lib.hid hG.symm
  have HA := Lib.hid hA
  have HD := Lib.hid hD
  have HN := Lib.hid (And.intro hn hn')
  clear hG hl hl' hA hD hn hn'
  go_enter Tryz.func104, Tryz.ntmps104
  go_wp2_with (at_builtin; refine append_rd rfl (.tmp 13) (.tmp 14) rfl w.heap.size 0 n c _ [] (nd a) A (w.alloc (.cells #[] 3)) rfl rfl hs0 (by omega) (by omega) HLa.out (HA.out.below hal) (by simp) ?_; intro v1 w1 hown1 hb1 hsz1; refine cut_here ?_)
  have hb1' : Below w.heap.size w w1 := hal.trans hb1
  have hal2 : Below w1.heap.size w1 (w1.alloc (.cells #[] 3)) := (Below.refl _ _).alloc (Nat.le_refl _) _
  have hs1 : (w1.alloc (.cells #[] 3)).ownsRow (w1.heap.size) 3 1 (.slice (some ⟨w1.heap.size, 0, none⟩) 0 0) 0 (vi []) := World.ownsRow_made w1 #[] 0 (by omega) (by simp [maxLen]) rfl
  refine Cut.of ?_
  go_wp2_with (at_builtin; refine append_rd rfl (.tmp 16) (.tmp 17) rfl w1.heap.size 0 n' d _ [] (nd b) D (w1.alloc (.cells #[] 3)) rfl rfl hs1 (by omega) (by omega) HLb.out ((HD.out.below hb1').below hal2) (by simp) ?_; intro v2 w2 hown2 hb2 hsz2; refine cut_here ?_)
  have hb12 : Below w1.heap.size w1 w2 := hal2.trans hb2
  have hbw2 : Below w.heap.size w w2 := bt hb1' hb12
  obtain ⟨A1, c1, hv1, _, _, _⟩ := own_len hown1
  have hO1 := (OwnS.of_own (A := A1) (n := 0 + n) (c := c1) (by rw [← hv1]; exact hown1)).below hb12
  obtain ⟨A2, c2, hv2, _, _, _⟩ := own_len hown2
  have hO2 := (OwnS.of_own (A := A2) (n := 0 + n') (c := c2) (by rw [← hv2]; exact hown2)).more hb1'.size
  subst hv1
  subst hv2
  rw [Nat.zero_add, Nat.zero_add]
  clear hown1 hown2 hs0 hs1 hal hal2 hb1 hb2
  refine Cut.of ?_
  go_wp2_with fail
  go_loopw [5, 6] (fun x y w' => ∃ (X Y cx cy : Nat) (AX AY : Option Addr), x = .slice AX (nd X).length cx ∧ y = .slice AY (nd Y).length cy ∧ OwnS w.heap.size w' AX (vi (nd X)) ∧ OwnS w.heap.size w' AY (vi (nd Y)) ∧ ln X ≤ 60 ∧ ln Y ≤ 60 ∧ Nat.gcd X Y = G ∧ Below w.heap.size w w') (fun _ y w' => numAt y w')
  case atStart =>
    rw [List.nil_append] at hO1 hO2
    exact ⟨a, b, c1, c2, A1, A2, by rw [HLa.out], by rw [HLb.out], hO1, hO2, by have := HN.out; omega, by have := HN.out; omega, HG.out, hbw2⟩
  case round =>
    clear hO1 hO2 hbw2 hb1' hb12 HA HD HG HLa HLb
    obtain ⟨X, Y, cx, cy, AX, AY, rfl, rfl, hX, hY, hlX, hlY, hg, hb⟩ := hrel
    have HG := Lib.hid hg
    clear hg
    have hnY := numAt_eq (c := cy) hY.rd
    by_cases hY0 : Y = 0
    · subst hY0
      have hG : X = G := by have := HG.out; rwa [Nat.gcd_zero_right] at this
      subst hG
      have hz : (nd 0).length = 0 := by rw [nd_zero]; rfl
      clear hnY
      rw [hz]
      go_wp2_with fail
      go_ret
      exact ⟨AX, cx, rfl, hX, hb⟩
    · have hYp : 0 < (nd Y).length := by rw [nd_length, ln_pos (by omega)]; omega
      have HYp := Lib.hid hYp
      have hYi : (0 : Int) < ((nd Y).length : Int) := by omega
      by_cases hs : (nd X).length < 3 ∧ (nd Y).length < 3
      · have vX := toV_small (a := X) (by have := hs.1; rw [nd_length] at this; omega)
        have vY := toV_small (a := Y) (by have := hs.2; rw [nd_length] at this; omega)
        have HTX := Lib.hid (fun W h => spec_toInt (nd X) AX _ cx W rfl (by omega) h)
        have HTY := Lib.hid (fun W h => spec_toInt (nd Y) AY _ cy W rfl (by omega) h)
        rw [vX.1] at HTX
        rw [vY.1] at HTY
        have HPl := Lib.hid (fun W => spec_plain X Y W vX.2 vY.2)
        rw [HG.out] at HPl
        have h3 : ((nd X).length : Int) < 3 := by omega
        have h4 : ((nd Y).length : Int) < 3 := by omega
        clear vX vY hs hnY hYp
        go_wp2_with fail
        refine (HTX.out _ hX.rd).mono ?_
        rintro e w3 ⟨rfl, hb3⟩
        go_wp2_with fail
        refine (HTY.out _ (hY.below hb3).rd).mono ?_
        rintro e w4 ⟨rfl, hb4⟩
        have hb4' := bt (bt hb hb3) hb4
        go_wp2_with fail
        refine (HPl.out _).mono ?_
        intro e w5 hm
        obtain ⟨A5, c5, rfl, hc5, ho5, hb5⟩ := hm
        go_wp2_with fail
        go_ret
        exact ⟨A5, c5, rfl, ho5.more hb4'.size, bt hb4' hb5⟩
      · have HDv := Lib.hid (fun W h h' => spec_div_any X Y AX AY _ cx _ cy W (nd_length X).symm (nd_length Y).symm (by rw [nd_length]; exact hlX) (by rw [nd_length]; exact hlY) HYp.out h h')
        obtain ⟨R, hR⟩ : ∃ R, R = X % Y := ⟨_, rfl⟩
        rw [← hR] at HDv
        have HRY : Hid (R < Y) := Lib.hid (by rw [hR]; exact Nat.mod_lt _ (by omega))
        have hlR : ln R ≤ 60 := by have := ln_mono (Nat.le_of_lt HRY.out); omega
        have hg2 : Hid (Nat.gcd Y R = G) := Lib.hid (by rw [hR, Nat.gcd_comm, ← Nat.gcd_rec, Nat.gcd_comm]; exact HG.out)
        have HnY := Lib.hid hnY
        have h34 : ¬ ((nd X).length : Int) < 3 ∨ ¬ ((nd Y).length : Int) < 3 := by omega
        clear hR hs hnY hYp
        rcases h34 with h3 | h3
        · go_wp2_with fail
          refine (HDv.out _ hX.rd hY.rd).mono ?_
          rintro e w3 ⟨A3, c3, A4, c4, rfl, hc3, ho3, ho4, hb3⟩
          have hN4 := Lib.hid (numAt_eq (c := c4) ho4.rd)
          go_wp2_with fail
          go_roundw
          case rel => exact ⟨Y, R, cy, c4, AY, A4, rfl, rfl, hY.below hb3, ho4.more hb.size, hlY, hlR, hg2.out, bt hb hb3⟩
          case measure => rw [HnY.out, hN4.out]; exact HRY.out
        · by_cases h4 : ((nd X).length : Int) < 3
          · go_wp2_with fail
            refine (HDv.out _ hX.rd hY.rd).mono ?_
            rintro e w3 ⟨A3, c3, A4, c4, rfl, hc3, ho3, ho4, hb3⟩
            have hN4 := Lib.hid (numAt_eq (c := c4) ho4.rd)
            go_wp2_with fail
            go_roundw
            case rel => exact ⟨Y, R, cy, c4, AY, A4, rfl, rfl, hY.below hb3, ho4.more hb.size, hlY, hlR, hg2.out, bt hb hb3⟩
            case measure => rw [HnY.out, hN4.out]; exact HRY.out
          · go_wp2_with fail
            refine (HDv.out _ hX.rd hY.rd).mono ?_
            rintro e w3 ⟨A3, c3, A4, c4, rfl, hc3, ho3, ho4, hb3⟩
            have hN4 := Lib.hid (numAt_eq (c := c4) ho4.rd)
            go_wp2_with fail
            go_roundw
            case rel => exact ⟨Y, R, cy, c4, AY, A4, rfl, rfl, hY.below hb3, ho4.more hb.size, hlY, hlR, hg2.out, bt hb hb3⟩
            case measure => rw [HnY.out, hN4.out]; exact HRY.out
theorem spec_gcd (a b : Nat) (ad bd : Addr) (n c n' d : Nat) (w : World) (hn : ln a = n) (hn' : ln b = n') (h60 : n ≤ 60) (h60' : n' ≤ 60) (hA : RdS w (some ad) (vi (nd a))) (hD : RdS w (some bd) (vi (nd b))) :
    Calls Tryz.prog 104 #[.slice (some ad) n c, .slice (some bd) n' d] w (MadeN w.heap.size (nd (Nat.gcd a b)) w) :=
  spec_gcd_rd a b (some ad) (some bd) n c n' d w hn hn' h60 h60' hA hD
end Go.Proofs.YtennekieiioilaaGreat

namespace Go.Proofs.YtennekieiioilaaGreat
open Go.ChangeShapes Go.WideShapes Go.ChangeAt Go.RowKit
open Go.ChangeMaps (open_string shut_string)
set_option linter.unusedVariables false
set_option linter.unusedSimpArgs false
set_option maxRecDepth 4000

theorem made_copy {w w' : World} {g X : Nat} (hB : Blk w' g (row (ln X + 0) X)) (hg : w.heap.size ≤ g) (hb : Below w.heap.size w w') : MadeN w.heap.size (nd X) w (.returned (.slice (some ⟨g, 0, none⟩) (ln X + 0) (ln X + 0))) w' := by
  have hr : row (ln X + 0) X = nd X := rfl
  rw [hr] at hB
  refine ⟨some ⟨g, 0, none⟩, ln X, by rw [nd_length]; rfl, .inr ⟨g, rfl, hg, hB.lt, fun j hj => ?_, fun j _ => hB.free j⟩, hb⟩
  rw [vi_length] at hj
  rw [vi_get hj]
  exact hB.cell (List.getElem?_eq_getElem hj)

set_option maxHeartbeats 500000 in
theorem impl_gcd (a b : Nat) (A D : Option Addr) (n c n' d : Nat) (w : World) (hn : ln a = n) (hn' : ln b = n') (h60 : n ≤ 60) (h60' : n' ≤ 60) (hA : RdS w A (vi (nd a))) (hD : RdS w D (vi (nd b))) :
    Calls Tryz.prog 91 #[.slice A n c, .slice D n' d] w (MadeN w.heap.size (nd (Nat.gcd a b)) w) := by
  have H1 := are_any (nd a) (nd b) A D n c n' d w (by rw [nd_length, hn]) (by rw [nd_length, hn']) (by omega) (by omega) hA hD
  rw [nd_ok (by omega), nd_ok (by omega)] at H1
  have H2 := Lib.hid (impl_cmp a b A D n c n' d w hn hn' (by omega) (by omega) hA hD)
  obtain ⟨G, hG⟩ : ∃ G, G = Nat.gcd a b := ⟨_, rfl⟩
  rw [← hG]
  have HG := Lib.hid hG.symm
  have HA := Lib.hid hA
  have HD := Lib.hid hD
  have HLa := Lib.hid (show (nd a).length = n by rw [nd_length, hn])
  have HLb := Lib.hid (show (nd b).length = n' by rw [nd_length, hn'])
  have HN := Lib.hid (And.intro hn hn')
  obtain ⟨v, hv⟩ : ∃ v, v = cmpN a b := ⟨_, rfl⟩
  rw [← hv] at H2
  have hcmp : (v < 0 ∧ a < b) ∨ (¬ v < 0 ∧ b ≤ a) := by
    rcases Nat.lt_or_ge a b with h | h
    · exact .inl ⟨by rw [hv, cmpN_lt h]; omega, h⟩
    · refine .inr ⟨?_, h⟩
      rcases Nat.lt_or_ge b a with h' | h'
      · rw [hv, cmpN_gt h']; omega
      · rw [hv, cmpN_eq (by omega)]; omega
  clear hG hA hD hn hn' hv
  go_enter Tryz.func91, Tryz.ntmps91
  go_wp2_with fail
  refine H1.mono ?_
  rintro e w1 ⟨rfl, rfl⟩
  go_wp2_with fail
  refine H2.out.mono ?_
  rintro e w1 ⟨rfl, hb1⟩
  have HB1 := Lib.hid hb1
  rcases hcmp with ⟨hv, hab⟩ | ⟨hv, hab⟩
  all_goals
    clear hb1
    go_wp2_with fail
    go_loopw [0, 1] (fun x y w' => ∃ (X Y cx cy : Nat) (AX AY : Option Addr), x = .slice AX (nd X).length cx ∧ y = .slice AY (nd Y).length cy ∧ RdS w' AX (vi (nd X)) ∧ RdS w' AY (vi (nd Y)) ∧ ln X ≤ 60 ∧ Y ≤ X ∧ Nat.gcd X Y = G ∧ Below w.heap.size w w') (fun _ y w' => numAt y w')
    case atStart =>
      first
      | exact ⟨a, b, c, d, A, D, by rw [HLa.out], by rw [HLb.out], HA.out.below HB1.out, HD.out.below HB1.out, by have := HN.out; omega, hab, HG.out, HB1.out⟩
      | exact ⟨b, a, d, c, D, A, by rw [HLb.out], by rw [HLa.out], HD.out.below HB1.out, HA.out.below HB1.out, by have := HN.out; omega, Nat.le_of_lt hab, by rw [Nat.gcd_comm]; exact HG.out, HB1.out⟩
    case round =>
      clear HA HD HG HLa HLb HB1 H1 H2
      obtain ⟨X, Y, cx, cy, AX, AY, rfl, rfl, hX, hY, hlX, hYX, hg, hb⟩ := hrel
      have HGx := Lib.hid hg
      clear hg
      have hlY : ln Y ≤ 60 := by have := ln_mono hYX; omega
      have HnY := Lib.hid (numAt_eq (c := cy) hY)
      have HXl := Lib.hid (nd_length X)
      have HYl := Lib.hid (nd_length Y)
      by_cases hY0 : Y = 0
      · subst hY0
        have hG : X = G := by have := HGx.out; rwa [Nat.gcd_zero_right] at this
        subst hG
        have HC := Lib.hid (copy_int X AX (ln X) cx 0 0 wr rfl rfl (by omega) (by omega) hX)
        have hz : (nd 0).length = 0 := by rw [nd_zero]; rfl
        rw [nd_length X, hz]
        clear HnY HYl
        by_cases hi1 : (2 : Int) < (ln X : Int)
        · go_wp2_with fail
          refine HC.out.mono ?_
          rintro e w4 ⟨g, hg, rfl, hB, hb4⟩
          have hm := made_copy hB (Nat.le_trans hb.size hg) (bt hb hb4)
          go_wp2_with fail
          go_ret
          exact hm
        · go_wp2_with fail
          refine HC.out.mono ?_
          rintro e w4 ⟨g, hg, rfl, hB, hb4⟩
          have hm := made_copy hB (Nat.le_trans hb.size hg) (bt hb hb4)
          go_wp2_with fail
          go_ret
          exact hm
      · have hYp : 0 < ln Y := by rw [ln_pos (by omega)]; omega
        by_cases hX3 : 2 < ln X
        · have HE := Lib.hid (euc_any X Y AX AY (ln X) cx (ln Y) cy wr rfl rfl hlX (by omega) hYX (by omega) hX hY)
          rw [nd_length X, nd_length Y]
          have hi1 : (2 : Int) < (ln X : Int) := by omega
          have hi2 : (0 : Int) < (ln Y : Int) := by omega
          go_wp2_with fail
          refine HE.out.mono ?_
          rintro e w4 ⟨X2, Y2, cx2, cy2, A2, D2, rfl, hX2, hY2, g2, g3, g4, g5, hb4⟩
          have hN4 := Lib.hid (numAt_eq (c := cy2) hY2)
          have HnY' : numAt (.slice AY (ln Y) cy) wr = Y := by have := HnY.out; rwa [nd_length] at this
          have HR := Lib.hid (And.intro HnY' (And.intro g4 (And.intro (g2.trans HGx.out) (And.intro g3 (show ln X2 ≤ 60 by have := ln_mono g5; omega)))))
          clear HnY'
          have hbw := bt hb hb4
          go_wp2_with fail
          go_roundw
          case rel => exact ⟨X2, Y2, cx2, cy2, A2, D2, rfl, rfl, hX2, hY2, HR.out.2.2.2.2, HR.out.2.2.2.1, HR.out.2.2.1, hbw⟩
          case measure => rw [HR.out.1, hN4.out]; exact HR.out.2.1
        · obtain ⟨tX, sX⟩ := toV_small (a := X) (by omega)
          obtain ⟨tY, sY⟩ := toV_small (a := Y) (by have := ln_mono hYX; omega)
          have HTX := Lib.hid (fun W h => impl_toInt (nd X) AX (ln X) cx W (nd_length X) (by omega) h)
          have HTY := Lib.hid (fun W h => impl_toInt (nd Y) AY (ln Y) cy W (nd_length Y) (by omega) h)
          rw [tX] at HTX
          rw [tY] at HTY
          rw [nd_length X, nd_length Y]
          have hi1 : ¬ (2 : Int) < (ln X : Int) := by omega
          have hi2 : ¬ (ln Y : Int) = 0 := by omega
          clear tX tY
          go_wp2_with fail
          refine (HTX.out _ hX).mono ?_
          rintro e w4 ⟨rfl, rfl⟩
          go_wp2_with fail
          refine (HTY.out _ hY).mono ?_
          rintro e w4 ⟨rfl, rfl⟩
          go_wp2_with fail
          clear HTX HTY hX hY HnY
          go_loopw [5, 7] (fun x y w' => ∃ p q : Nat, x = .int .i64 (p : Int) ∧ y = .int .i64 (q : Int) ∧ p < 1000000000000000000 ∧ q < 1000000000000000000 ∧ Nat.gcd p q = G ∧ Below w.heap.size w w') (fun _ y _ => (intOf y).toNat)
          case atStart => exact ⟨X, Y, rfl, rfl, sX, sY, HGx.out, hb⟩
          case round =>
            clear HGx hb
            obtain ⟨p, q, rfl, rfl, hp, hq, hg, hb⟩ := hrel
            have HG2 := Lib.hid hg
            clear hg
            by_cases h0 : 0 < q
            · obtain ⟨r, hr⟩ : ∃ r, r = p % q := ⟨_, rfl⟩
              have hrq : r < q := by rw [hr]; exact Nat.mod_lt _ h0
              have hm : (p : Int).tmod (q : Int) = (r : Int) := by rw [hr]; exact (Int.ofNat_tmod p q).symm
              have hz : ¬ (q : Int) = 0 := by omega
              have hg2 : Hid (Nat.gcd q r = G) := Lib.hid (by rw [hr, Nat.gcd_comm, ← Nat.gcd_rec, Nat.gcd_comm]; exact HG2.out)
              clear hr
              go_wp2_with fail
              go_quiet (fail)
              have hb' : Below w.heap.size w (World.drewN wr nq) := below_drewN hb _
              go_wp2
              go_roundw
              case rel => exact ⟨q, r, rfl, rfl, hq, by omega, hg2.out, hb'⟩
              case measure => simp [intOf]; omega
            · obtain rfl : q = 0 := by omega
              have hG : p = G := by have := HG2.out; rwa [Nat.gcd_zero_right] at this
              subst hG
              have HO := Lib.hid (fun W => impl_natOf p W (by omega))
              go_wp2_with fail
              refine (HO.out _).mono ?_
              rintro e w5 ⟨A5, c5, rfl, _, hO5, hb5⟩
              have hbw := bt hb hb5
              have hOw := hO5.more hb.size
              go_wp2_with fail
              go_ret
              exact ⟨A5, c5, rfl, hOw, hbw⟩
end Go.Proofs.YtennekieiioilaaGreat

