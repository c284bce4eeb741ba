/-
  The model's own division by one limb, and its search for a limb of a quotient.
-/
import Derived.Test.YtnejpdlikdgnnaaDivS
namespace Go.Proofs.Ytnejpdlikdgnnaa
open Go.ChangeShapes Go.WideShapes Go.ChangeAt Go.RowKit
open Go.ChangeMaps (open_string shut_string)
set_option linter.unusedVariables false
set_option linter.unusedSimpArgs false
set_option maxRecDepth 4000

theorem small_gen {A x z d B : Nat} (h : A = z + d * (x * B)) (hd : 0 < d) (h7 : z / d < B) : A / d % B = z / d ∧ A % d = z % d := by
  subst h
  exact ⟨by rw [Nat.add_mul_div_left _ _ hd, Nat.add_mul_mod_self_right, Nat.mod_eq_of_lt h7], by rw [Nat.add_mul_mod_self_left]⟩
/-- One limb more of the number: its quotient's limb and what is left. -/
theorem small_step {a d j : Nat} (hd : 0 < d) :
    ((a / pn (j + 1) % d) * 1000000000 + a / pn j % 1000000000) / d = quo a d j ∧ ((a / pn (j + 1) % d) * 1000000000 + a / pn j % 1000000000) % d = a / pn j % d := by
  have h1 : a / pn (j + 1) = a / pn j / 1000000000 := by rw [pn_succ, Nat.div_div_eq_div_mul]
  have h2 := Nat.div_add_mod (a / pn j) 1000000000
  have h3 := Nat.div_add_mod (a / pn (j + 1)) d
  have h4 := Nat.mod_lt (a / pn (j + 1)) hd
  rw [← h1] at h2
  generalize a / pn (j + 1) / d = x at h3
  generalize a / pn (j + 1) % d = r at h3 h4 ⊢
  generalize a / pn (j + 1) = A' at h2 h3
  have h5 : a / pn j = (r * 1000000000 + a / pn j % 1000000000) + d * (x * 1000000000) := by
    have : d * (x * 1000000000) = d * x * 1000000000 := (Nat.mul_assoc _ _ _).symm
    omega
  have h6 : quo a d j = (a / pn j) / d % 1000000000 := by unfold quo; rw [Nat.div_div_eq_div_mul, Nat.div_div_eq_div_mul, Nat.mul_comm]
  have h7 : (r * 1000000000 + a / pn j % 1000000000) / d < 1000000000 := by
    rw [Nat.div_lt_iff_lt_mul hd]
    have h8 := Nat.mod_lt (a / pn j) (show 0 < 1000000000 by decide)
    have h9 : (r + 1) * 1000000000 ≤ d * 1000000000 := Nat.mul_le_mul_right _ h4
    rw [Nat.mul_comm 1000000000]
    omega
  have h8 := small_gen h5 hd h7
  rw [h6]
  exact ⟨h8.1.symm, h8.2.symm⟩

set_option maxHeartbeats 1000000 in
theorem spec_small (a d : Nat) (A : Option Addr) (n c : Nat) (w : World) (hn : ln a = n) (h60 : n ≤ 60) (hd0 : 0 < d) (hd1 : d < 1000000000) (hA : RdS w A (vi (nd a))) :
    Calls Try.prog 73 #[.slice A n c, .int .i64 (d : Int)] w fun e w' => ∃ A' c', e = .returned (.tuple #[.slice A' (nd (a / d)).length c', .int .i64 ((a % d : Nat) : Int)]) ∧ (nd (a / d)).length ≤ c' ∧ OwnS w.heap.size w' A' (vi (nd (a / d))) ∧ Below w.heap.size w w' := by
  obtain ⟨i0, hi, hz0, hz1, hz2⟩ := info_parts int_info
  have hap : a < pn n := lt_pn (by omega)
  have HS0 : Hid (quoTo a d n = 0 ∧ a / pn n % d = 0) := Lib.hid ⟨quoTo_all (Nat.lt_of_lt_of_le hap (Nat.le_mul_of_pos_left _ hd0)), by rw [Nat.div_eq_of_lt hap, Nat.zero_mod]⟩
  have HN := Lib.hid hn
  have HL : Hid (ln (a / d) ≤ n) := Lib.hid (by have := ln_mono (Nat.div_le_self a d); omega)
  have hdz : ¬ (d : Int) = 0 := by omega
  clear hn hap
  go_enter Try.func73, Try.ntmps73
  go_wp2_with (first | (refine wpList_make_full _ rfl (.tmp 11) (.tmp 11) 22 rfl w.heap.size 3 i0 _ 1 Try.underlying22 hi hz0 hz1 .i64 .i64 (n : Int) (n : Int) n rfl rfl rfl rfl (by rw [hz2]; omega) (by simp only [maxLen]; omega) (Nat.le_refl _) ?_; intro w1 hown hg1; refine cut_here ?_))
  have hq1 := Blk.of_made hown (zeros n)
  have hb1 : Below w.heap.size w w1 := below_of_grown hg1 (Nat.le_refl _) (fun g h => by cases h)
  rw [← HS0.out.1] at hq1
  clear hown hg1
  refine Cut.of ?_
  go_wp2_with fail
  go_loopw [7, 8] (fun r i w' => ∃ (k R : Nat) (x : Int), k ≤ n ∧ i = .int .i64 x ∧ x = (k : Int) - 1 ∧ r = .int .i64 (R : Int) ∧ R = a / pn k % d ∧ Blk w' w.heap.size (row n (quoTo a d k)) ∧ Below w.heap.size w w') (fun _ i _ => (intOf i + 1).toNat)
  case atStart => exact ⟨n, 0, _, Nat.le_refl _, rfl, rfl, rfl, HS0.out.2.symm, hq1, hb1⟩
  case round =>
    clear hq1 hb1 HS0
    obtain ⟨k, R, x, hk, rfl, hx, rfl, hR, hQ, hb⟩ := hrel
    rcases k with _ | j
    · obtain rfl : x = -1 := by omega
      clear hx
      have HRR : Hid (R = a % d) := Lib.hid (by rw [hR]; unfold pn; rw [Nat.pow_zero, Nat.div_one])
      clear hR
      rw [quoTo_zero] at hQ
      go_wp2_with fail
      refine (trim_any w.heap.size n n (a / d) _ wr (hQ.own (Nat.le_refl _)) HL.out (Nat.le_refl _) (by omega)).mono ?_
      intro e w3 hm
      obtain ⟨A2, c2, rfl, hc2, ho2, hb2⟩ := hm
      go_wp2_with fail
      go_ret2
      exact ⟨A2, c2, by rw [← HRR.out]; rfl, hc2, ho2, bt hb hb2⟩
    · obtain rfl : x = (j : Int) := by omega
      clear hx
      have hlt : j < n := by omega
      obtain ⟨b1, o1, rfl, hbl, e1⟩ := (hA.below hb).int (nd_get (v := a) (i := j) (by rw [HN.out]; exact hlt))
      obtain ⟨z, hz⟩ : ∃ z : Nat, z = a / pn j % 1000000000 := ⟨_, rfl⟩
      have hzd : dgt a j = (z : Int) := by rw [hz]; unfold dgt; rw [pn_pw]; omega
      rw [hzd] at e1
      have hst := small_step (a := a) (d := d) (j := j) hd0
      rw [← hR, ← hz] at hst
      have hRd : R < d := by rw [hR]; exact Nat.mod_lt _ hd0
      have hzb : z < 1000000000 := by rw [hz]; exact Nat.mod_lt _ (by decide)
      obtain ⟨M, hM⟩ : ∃ M, M = R * 1000000000 + z := ⟨_, rfl⟩
      rw [← hM] at hst
      obtain ⟨q, hq⟩ : ∃ q, q = M / d := ⟨_, rfl⟩
      obtain ⟨R', hR'⟩ : ∃ r, r = M % d := ⟨_, rfl⟩
      have hw1 : (R : Int) * 1000000000 + (z : Int) = (M : Int) := by omega
      have hw2 : (M : Int).tdiv (d : Int) = (q : Int) := by rw [hq]; exact (Int.ofNat_tdiv M d).symm
      have hw3 : (M : Int).tmod (d : Int) = (R' : Int) := by rw [hR']; exact (Int.ofNat_tmod M d).symm
      have hMb : M < 1000000000000000000 := by omega
      have hqb : q ≤ M := by rw [hq]; exact Nat.div_le_self _ _
      have hRb : R' < d := by rw [hR']; exact Nat.mod_lt _ hd0
      have hqB : quo a d j < 1000000000 := Nat.mod_lt _ (by decide)
      have HQs : Hid ((row n (quoTo a d (j + 1))).set j (q : Int) = row n (quoTo a d j)) := Lib.hid (by rw [hq, hst.1, quoTo_step a d j]; exact row_set hlt (quoTo_mod a d (j + 1)) (by omega) (by omega))
      have HR' : Hid (R' = a / pn j % d) := Lib.hid (by rw [hR', hst.2])
      have hc1 := hQ.cell (row_get (n := n) (quoTo a d (j + 1)) hlt)
      have hf1 := hQ.free j
      have hi0 : (0 : Int) ≤ (j : Int) := by omega
      have hi1 : (j : Int) < (n : Int) := by omega
      clear hR hz hzd hst hM hq hR'
      go_wp2_with fail
      go_roundw
      case rel => exact ⟨j, R', _, by omega, rfl, rfl, rfl, HR'.out, by have := hQ.set j (q : Int); rwa [HQs.out] at this, hb.setCell (Nat.le_refl _) _⟩
      case measure => simp [intOf]
end Go.Proofs.Ytnejpdlikdgnnaa
