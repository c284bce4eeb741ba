/-
  The model's own search for a limb of a quotient.
-/
import Derived.Test.YtnejpdlikdgnnaaDivS1
namespace Go.Proofs.Ytnejpdlikdgnnaa
open Go.ChangeShapes Go.WideShapes Go.ChangeAt Go.RowKit
open Go.ChangeMaps (open_string shut_string)
set_option linter.unusedVariables false
set_option linter.unusedSimpArgs false
set_option maxRecDepth 4000

set_option maxHeartbeats 1000000 in
theorem spec_digit (r b : Nat) (A D : Option Addr) (n c n' d : Nat) (w : World) (hn : ln r = n) (hn' : ln b = n') (h60 : n ≤ 200) (h60' : n' ≤ 60) (hb : 0 < b) (hr : r < 1000000000 * b) (hA : RdS w A (vi (nd r))) (hD : RdS w D (vi (nd b))) :
    Calls Try.prog 74 #[.slice A n c, .slice D n' d] w fun e w' => e = .returned (.int .i64 ((r / b : Nat) : Int)) ∧ Below w.heap.size w w' := by
  have HQ : Hid (r / b < 1000000000) := Lib.hid (by rw [Nat.div_lt_iff_lt_mul hb]; exact hr)
  have HD0 := Lib.hid (Nat.div_mul_le_self r b)
  have HM := Lib.hid (fun (q : Nat) (hq : q ≤ 999999999) A' c' m W (hm : m = (nd q).length) (h : RdS W A' (vi (nd q))) (h' : RdS W D (vi (nd b))) =>
    spec_l02Mul b q D A' n' d m c' W hn' (by rw [hm, nd_length]) (by omega) (by rw [hm, nd_length]; have := ln_small q (by omega); omega) h' h)
  have HC := Lib.hid (fun (q : Nat) (hq : q ≤ 999999999) A' c' m W (hm : m = (nd (b * q)).length) (h : RdS W A' (vi (nd (b * q)))) (h' : RdS W A (vi (nd r))) =>
    spec_cmp (b * q) r A' A m c' n c W (by rw [hm, nd_length]) hn (by rw [hm, nd_length]; have h1 := ln_small q (by omega); have h2 := mul_len (a := b) (b := q) rfl rfl; omega) (by omega) h h')
  have HB := Lib.hid hb
  obtain ⟨t, ht⟩ : ∃ t, t = r / b := ⟨_, rfl⟩
  rw [← ht] at HQ HD0
  have hle : Hid (∀ q, b * q ≤ r ↔ q ≤ t) := Lib.hid (fun q => by rw [ht, Nat.le_div_iff_mul_le hb, Nat.mul_comm])
  rw [← ht]
  clear hn hn' hr ht
  go_enter Try.func74, Try.ntmps74
  go_wp2_with fail
  go_loopw [5, 6] (fun l h w' => ∃ lo hi : Nat, l = .int .i64 (lo : Int) ∧ h = .int .i64 (hi : Int) ∧ lo ≤ t ∧ t ≤ hi ∧ hi ≤ 999999999 ∧ Below w.heap.size w w') (fun l h _ => (intOf h).toNat - (intOf l).toNat)
  case atStart => exact ⟨0, 999999999, rfl, rfl, Nat.zero_le _, by have := HQ.out; omega, Nat.le_refl _, Below.refl _ _⟩
  case round =>
    obtain ⟨lo, hi, rfl, rfl, h1, h2, h3, hb0⟩ := hrel
    by_cases hlt : lo < hi
    · obtain ⟨q, hq⟩ : ∃ q, q = (lo + hi + 1) / 2 := ⟨_, rfl⟩
      have hqi : ((lo : Int) + (hi : Int) + 1) / 2 = (q : Int) := by omega
      have hqt : ((lo : Int) + (hi : Int) + 1).tdiv 2 = (q : Int) := by rw [Int.tdiv_eq_ediv_of_nonneg (by omega)]; omega
      have hq1 : lo < q := by omega
      have hq2 : q ≤ hi := by omega
      have hnn : 0 ≤ (lo : Int) + (hi : Int) + 1 := by omega
      clear hq
      have HM' := Lib.hid (fun A' c' m W => HM.out q (by omega) A' c' m W)
      have HC' := Lib.hid (fun A' c' m W => HC.out q (by omega) A' c' m W)
      have HN' := Lib.hid (fun W => spec_natOf q W (by omega))
      have hcase : Hid ((q ≤ t → cmpN (b * q) r ≤ 0) ∧ (¬ q ≤ t → ¬ cmpN (b * q) r ≤ 0)) := by
        refine Lib.hid ⟨fun h => ?_, fun h => ?_⟩
        · have := (hle.out q).2 h
          rcases Nat.lt_or_ge (b * q) r with h5 | h5
          · rw [cmpN_lt h5]; decide
          · rw [cmpN_eq (by omega)]; decide
        · have h6 : ¬ b * q ≤ r := fun h7 => h ((hle.out q).1 h7)
          rw [cmpN_gt (by omega)]; decide
      generalize cmpN (b * q) r = v at hcase HC'
      generalize nd (b * q) = Lm at HM' HC'
      generalize nd q = Lq at HM' HN'
      go_wp2_with fail
      refine (HN'.out _).mono ?_
      rintro e w1 ⟨A1, c1, rfl, hc1, ho1, hb1⟩
      have b1 := bt hb0 hb1
      go_wp2_with fail
      refine (HM'.out _ _ _ _ rfl ho1.rd (hD.below b1)).mono ?_
      rintro e w2 ⟨A2, c2, rfl, hc2, ho2, hb2⟩
      have b2 := bt b1 hb2
      go_wp2_with fail
      refine (HC'.out _ _ _ _ rfl ho2.rd (hA.below b2)).mono ?_
      rintro e w3 ⟨rfl, hb3⟩
      have b3 := bt b2 hb3
      by_cases hqq : q ≤ t
      · have hv := hcase.out.1 hqq
        go_wp2_with fail
        go_roundw
        case rel => exact ⟨q, hi, rfl, rfl, hqq, h2, h3, b3⟩
        case measure => simp [intOf]; omega
      · have hv := hcase.out.2 hqq
        have hq0 : 0 < q := by omega
        go_wp2_with fail
        go_roundw
        case rel => exact ⟨lo, q - 1, rfl, by go_num, h1, by omega, by omega, b3⟩
        case measure => simp [intOf]; omega
    · obtain rfl : lo = t := by omega
      go_wp2_with fail
      go_ret
      exact ⟨rfl, hb0⟩
end Go.Proofs.Ytnejpdlikdgnnaa
