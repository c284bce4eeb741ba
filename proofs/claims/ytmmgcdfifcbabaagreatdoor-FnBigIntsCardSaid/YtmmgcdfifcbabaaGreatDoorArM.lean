/-
  'impl.NatMul'.
-/
import Derived.Test.YtmmgcdfifcbabaaGreatDoorArI
namespace Go.Proofs.YtmmgcdfifcbabaaGreatDoor
open Go.ChangeShapes Go.WideShapes Go.ChangeAt Go.RowKit
open Go.ChangeMaps (open_string shut_string)
set_option linter.unusedVariables false
set_option linter.unusedSimpArgs false

/-- The product of the lowest i digits of a with b. -/
def part (a b : Int) (i : Nat) : Int := a % pw i * b
theorem part_zero (a b : Int) : part a b 0 = 0 := by unfold part; rw [mod_zero, Int.zero_mul]
theorem part_succ (a b : Int) (i : Nat) : part a b (i + 1) = part a b i + dgt a i * b * pw i := by
  unfold part
  rw [mod_succ, Int.add_mul, Int.mul_assoc, Int.mul_assoc, Int.mul_comm (pw i)]
theorem part_nonneg {a b : Int} (hb : 0 ≤ b) (i : Nat) : 0 ≤ part a b i := Int.mul_nonneg (mod_nonneg _ _) hb
theorem part_lt {a b : Int} {m : Nat} (hb : 0 ≤ b) (h : b < pw m) (i : Nat) : part a b i < pw (i + m) := by
  unfold part
  rw [pw_add]
  exact Int.lt_of_le_of_lt (Int.mul_le_mul_of_nonneg_left (Int.le_of_lt h) (mod_nonneg a i)) (Int.mul_lt_mul_of_pos_right (mod_lt a i) (pw_pos m))
theorem part_all {a b : Int} {n : Nat} (ha : 0 ≤ a) (h : a < pw n) : part a b n = a * b := by unfold part; rw [mod_self_of ha h]
theorem mul_len {a b n n' : Nat} (hn : ln a = n) (hn' : ln b = n') : ln (a * b) ≤ n + n' := by
  rw [ln_le_iff, pw_add, Int.natCast_mul]
  have h1 := ln_lt' hn
  have h2 := ln_lt' hn'
  exact Int.lt_of_le_of_lt (Int.mul_le_mul_of_nonneg_left (Int.le_of_lt h2) (by omega)) (Int.mul_lt_mul_of_pos_right h1 (pw_pos n'))

theorem window_int (g N i n : Nat) (x y : Int) (w : World) (hx : x = (i : Int)) (hy : y = (n : Int)) (hn : 0 < n) (hi : i + n ≤ N) (hc : N ≤ 1048576) :
    Calls Tryz.prog 78 #[.slice (some ⟨g, 0, none⟩) N N, .int .i64 x, .int .i64 y] w fun e w' => e = .returned (.slice (some ⟨g, i, none⟩) n n) ∧ w = w' := by
  subst hx
  subst hy
  have := window_any g 0 N N i n w hn hi hc (by omega) (Nat.le_refl _)
  rwa [Nat.zero_add] at this

set_option maxHeartbeats 400000 in
theorem impl_mul (a b : Nat) (A D : Option Addr) (n c n' d : Nat) (w : World) (hn : ln a = n) (hn' : ln b = n') (h60 : n ≤ 60) (h60' : n' ≤ 60) (hA : RdS w A (vi (nd a))) (hD : RdS w D (vi (nd b))) :
    Calls Tryz.prog 62 #[.slice A n c, .slice D n' d] w (MadeI w.heap.size (cap60 (a * b)) w) := by
  obtain ⟨i0, hi, hz0, hz1, hz2⟩ := info_parts int_info
  have H1 := are_any (nd a) (nd b) A D n c n' d w (by rw [nd_length, hn]) (by rw [nd_length, hn']) (by omega) (by omega) hA hD
  rw [nd_ok (by omega), nd_ok (by omega)] at H1
  have H3 := Lib.hid (fun i (hin : i < n) (W : World) (hB : Blk W w.heap.size (row (n + n') (part a b i))) (hb : Below w.heap.size w W) =>
    pass_any w.heap.size i (n' + 1) (n + n') n' (row (n + n') (part a b i)) (part a b i / pw i) b (dgt a i) D (n' + 1) d W (row_length _ _) (by omega) (by omega) (by omega) (fun j hj => by rw [row_get _ (by omega), dgt_shift]) (by have := hD.below hb; rwa [nd, hn'] at this) (by omega) (ln_lt' hn')
      (by have := hD.apart (Nat.le_refl _); rwa [nd_length, hn'] at this) hB (by have := dgt_nonneg a i; omega) (by have := dgt_lt a i; omega))
  have H4 := Lib.hid (fun i (hin : i < n) => lay_row (N := n + n') (i := i) (k := n' + 1) (P := part a b i) (Q := part a b (i + 1)) (x := dgt a i * b) (by omega) (part_succ _ _ _) (part_nonneg (by omega) _)
    (Int.lt_of_lt_of_le (part_lt (by omega) (ln_lt' hn') i) (pw_le (by omega))) (part_nonneg (by omega) _) (by have := part_lt (a := a) (by omega) (ln_lt' hn') (i + 1); rwa [show i + 1 + n' = i + (n' + 1) by omega] at this))
  have HS := Lib.hid (mul_len hn hn')
  have HP := Lib.hid (show part a b n = ((a * b : Nat) : Int) by rw [part_all (by omega) (ln_lt' hn), Int.natCast_mul])
  have HN := Lib.hid hn
  clear hn hn'
  go_enter Tryz.func62, Tryz.ntmps62
  go_wp2_with fail
  refine H1.mono ?_
  rintro e w1 ⟨rfl, rfl⟩
  go_wp2_with (first | (refine wpList_make_full _ rfl (.tmp 16) (.tmp 16) 23 rfl w.heap.size 3 i0 _ 1 Tryz.underlying23 hi hz0 hz1 .i64 .i64 ((n : Int) + (n' : Int)) ((n : Int) + (n' : Int)) (n + n') rfl rfl (by omega) (by omega) (by rw [hz2]; omega) (by simp only [maxLen]; omega) (Nat.le_refl _) ?_; intro w1 hown hg; refine cut_here ?_))
  have hb1 : Below w.heap.size w w1 := below_of_grown hg (Nat.le_refl _) (fun g h => by cases h)
  have hB := Blk.of_made hown (zeros (n + n'))
  rw [← part_zero a b] at hB
  clear hown hg
  refine Cut.of ?_
  go_wp2_with fail
  go_loopw [20] (fun i w' => ∃ k : Nat, k ≤ n ∧ i = .int .i64 (k : Int) ∧ Blk w' w.heap.size (row (n + n') (part a b k)) ∧ Below w.heap.size w w') (fun i _ => n - (intOf i).toNat)
  case atStart => exact ⟨0, Nat.zero_le _, rfl, hB, hb1⟩
  case round =>
    clear hB hb1
    obtain ⟨k, hk, rfl, hB, hb⟩ := hrel
    by_cases hlt : k < n
    · obtain ⟨b1, o1, rfl, hbl, e1⟩ := (hA.below hb).int (nd_get (v := a) (i := k) (by rw [HN.out]; exact hlt))
      have h3 := Lib.hid (H3.out k hlt wr hB hb)
      have h4 := Lib.hid (H4.out k hlt)
      generalize dgt a k = x at e1 h3 h4
      have hi0 : (0 : Int) ≤ (k : Int) := by omega
      have hi1 : (k : Int) < (n : Int) := by omega
      go_wp2_with fail
      refine (window_int w.heap.size (n + n') k (n' + 1) _ _ wr (by omega) (by omega) (by omega) (by omega) (by omega)).mono ?_
      rintro e w2 ⟨rfl, rfl⟩
      go_wp2_with fail
      refine h3.out.mono ?_
      rintro e w2 ⟨rfl, hB2, hg2⟩
      rw [h4.out] at hB2
      have hb2 := below_g hb (Nat.le_refl _) hg2
      go_wp2_with fail
      go_roundw
      case rel => exact ⟨k + 1, by omega, by go_num, hB2, hb2⟩
      case measure => simp [intOf]; omega
    · obtain rfl : k = n := by omega
      rw [HP.out] at hB
      go_wp2_with fail
      refine (natOfRow_any w.heap.size w.heap.size _ _ (a * b) wr (Nat.le_refl _) hB HS.out (Nat.le_refl _) (by omega) (by omega)).mono ?_
      intro e w3 hm
      have hm' := hm.after hb
      obtain ⟨A', c', rfl, hc', ho, hb3⟩ := hm'
      go_wp2
      go_ret
      exact ⟨A', c', rfl, hc', ho, hb3⟩
end Go.Proofs.YtmmgcdfifcbabaaGreatDoor
