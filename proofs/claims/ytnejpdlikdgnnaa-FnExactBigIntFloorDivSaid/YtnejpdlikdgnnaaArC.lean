/-
  The model's own products: 'l02Mul'.
-/
import Derived.Test.YtnejpdlikdgnnaaArB
namespace Go.Proofs.Ytnejpdlikdgnnaa
open Go.ChangeShapes Go.WideShapes Go.ChangeAt Go.RowKit
open Go.ChangeMaps (open_string shut_string)
set_option linter.unusedVariables false
set_option linter.unusedSimpArgs false

theorem last_digit {P b x : Int} {k m : Nat} (hb0 : 0 ≤ b) (hb : b < pw m) (hP0 : 0 ≤ P / pw k) (hP : P / pw k < pw m) (hx0 : 0 ≤ x) (hT : P / pw k + x * b < pw (m + 1)) :
    car (P / pw k) b x m = dgt (P / pw k + x * b) m := by
  rw [car_all hP0 hP hb0 hb]
  unfold dgt
  rw [pw_succ] at hT
  have h0 : 0 ≤ P / pw k + x * b := Int.add_nonneg hP0 (Int.mul_nonneg hx0 hb0)
  have h1 := Int.ediv_nonneg h0 (Int.le_of_lt (pw_pos m))
  have h2 := Int.ediv_lt_of_lt_mul (pw_pos m) (show P / pw k + x * b < 1000000000 * pw m by rw [Int.mul_comm 1000000000]; exact hT)
  omega

set_option maxHeartbeats 1000000 in
theorem spec_l02Mul (a b : Nat) (A D : Option Addr) (n c n' d : Nat) (w : World) (hn : ln a = n) (hn' : ln b = n') (h60 : n ≤ 1000) (h60' : n' ≤ 1000) (hA : RdS w A (vi (nd a))) (hD : RdS w D (vi (nd b))) :
    Calls Try.prog 56 #[.slice A n c, .slice D n' d] w (MadeI w.heap.size (nd (a * b)) w) := by
  obtain ⟨i0, hi, hz0, hz1, hz2⟩ := info_parts int_info
  by_cases hza : n = 0
  · have hc : Hid (nd (a * b) = []) := Lib.hid (by rw [show a = 0 from ln_eq_zero.1 (by omega), Nat.zero_mul, nd_zero])
    subst hza
    clear hn hn'
    go_enter Try.func56, Try.ntmps56
    go_wp2
    go_ret
    rw [hc.out]
    exact MadeI.nil _ _
  · by_cases hzb : n' = 0
    · have hc : Hid (nd (a * b) = []) := Lib.hid (by rw [show b = 0 from ln_eq_zero.1 (by omega), Nat.mul_zero, nd_zero])
      have q : ((n : Int) == 0) = false := by rw [beq_eq_false_iff_ne]; omega
      subst hzb
      clear hn hn' hza
      go_enter Try.func56, Try.ntmps56
      go_wp2
      go_ret
      rw [hc.out]
      exact MadeI.nil _ _
    · have q : ((n : Int) == 0) = false := by rw [beq_eq_false_iff_ne]; omega
      have q' : ((n' : Int) == 0) = false := by rw [beq_eq_false_iff_ne]; omega
      have H4 := Lib.hid (fun i (hin : i < n) => lay_row (N := n + n') (i := i) (k := n' + 1) (P := part a b i) (Q := part a b (i + 1)) (x := dgt a i * b) (by omega) (part_succ _ _ _) (part_nonneg (by omega) _)
        (Int.lt_of_lt_of_le (part_lt (by omega) (ln_lt' hn') i) (pw_le (by omega))) (part_nonneg (by omega) _) (by have := part_lt (a := a) (by omega) (ln_lt' hn') (i + 1); rwa [show i + 1 + n' = i + (n' + 1) by omega] at this))
      have H5 : Hid (∀ i, i < n → car (part a b i / pw i) b (dgt a i) n' = dgt (part a b i / pw i + dgt a i * b) n') := by
        refine Lib.hid (fun i hin => last_digit (by omega) (ln_lt' hn') (Int.ediv_nonneg (part_nonneg (by omega) _) (Int.le_of_lt (pw_pos i))) ?_ (dgt_nonneg _ _) ?_)
        · have := part_lt (a := a) (by omega) (ln_lt' hn') i
          rw [pw_add, Int.mul_comm] at this
          exact Int.ediv_lt_of_lt_mul (pw_pos i) this
        · have h1 := part_lt (a := a) (by omega) (ln_lt' hn') (i + 1)
          rw [part_succ, show i + 1 + n' = i + (n' + 1) by omega, pw_add] at h1
          have h2 : (part a b i + dgt a i * b * pw i) / pw i = part a b i / pw i + dgt a i * b := Int.add_mul_ediv_right _ _ (pw_ne i)
          rw [← h2]
          rw [Int.mul_comm (pw i) (pw (n' + 1))] at h1
          exact Int.ediv_lt_of_lt_mul (pw_pos i) h1
      have HS := Lib.hid (mul_len hn hn')
      have HP := Lib.hid (show part a b n = ((a * b : Nat) : Int) by rw [part_all (by omega) (ln_lt' hn), Int.natCast_mul])
      have HN := Lib.hid hn
      have HN' := Lib.hid hn'
      clear hn hn' hza hzb
      go_enter Try.func56, Try.ntmps56
      go_wp2_with (first | (refine wpList_make_full _ rfl (.tmp 24) (.tmp 24) 22 rfl w.heap.size 3 i0 _ 1 Try.underlying22 hi hz0 hz1 .i64 .i64 ((n : Int) + (n' : Int)) ((n : Int) + (n' : Int)) (n + n') rfl rfl (by omega) (by omega) (by rw [hz2]; omega) (by simp only [maxLen]; omega) (Nat.le_refl _) ?_; intro w1 hown hg; refine cut_here ?_))
      have hb1 : Below w.heap.size w w1 := below_of_grown hg (Nat.le_refl _) (fun g h => by cases h)
      have hB := Blk.of_made hown (zeros (n + n'))
      rw [← part_zero a b] at hB
      clear hown hg
      refine Cut.of ?_
      go_wp2_with fail
      go_loopw [28] (fun i w' => ∃ k : Nat, k ≤ n ∧ i = .int .i64 (k : Int) ∧ Blk w' w.heap.size (row (n + n') (part a b k)) ∧ Below w.heap.size w w') (fun i _ => n - (intOf i).toNat)
      case atStart => exact ⟨0, Nat.zero_le _, rfl, hB, hb1⟩
      case round =>
        clear hB hb1
        obtain ⟨k, hk, rfl, hB, hb⟩ := hrel
        by_cases hlt : k < n
        · obtain ⟨b1, o1, rfl, hbl, e1⟩ := (hA.below hb).int (nd_get (v := a) (i := k) (by rw [HN.out]; exact hlt))
          have h4 := Lib.hid (H4.out k hlt)
          have h5 := Lib.hid (H5.out k hlt)
          have hx0 := dgt_nonneg a k
          have hx1 := dgt_lt a k
          obtain ⟨P, hPP⟩ : ∃ P, P = part a b k := ⟨_, rfl⟩
          obtain ⟨Q, hQQ⟩ : ∃ Q, Q = part a b (k + 1) := ⟨_, rfl⟩
          rw [← hPP, ← hQQ] at h4
          rw [← hPP] at h5 hB
          have HQ := Lib.hid hQQ
          clear hPP hQQ
          generalize dgt a k = x at e1 h4 h5 hx0 hx1
          have hi0 : (0 : Int) ≤ (k : Int) := by omega
          have hi1 : (k : Int) < (n : Int) := by omega
          go_wp2_with fail
          go_loopw [8, 35] (fun q i w' => ∃ (j : Nat) (y : Int), j ≤ n' ∧ i = .int .i64 (j : Int) ∧ q = .int .i64 y ∧ y = car (P / pw k) b x j ∧ Blk w' w.heap.size (lay (row (n + n') P) k (P / pw k + x * b) j) ∧ Below w.heap.size w w') (fun _ i _ => n' - (intOf i).toNat)
          case atStart => exact ⟨0, 0, Nat.zero_le _, rfl, rfl, (car_zero _ _ _).symm, by rw [lay_zero]; exact hB, hb⟩
          case round =>
            clear hB hb e1 hbl
            obtain ⟨j, y, hj, rfl, rfl, hy, hB, hb⟩ := hrel
            have hy0 := car_nonneg (v := P / pw k) (w := b) hx0 j
            have hy1 := (car_bound (v := P / pw k) (w := b) (f := x) (by omega) (by omega) j).2
            rw [← hy] at hy0 hy1
            by_cases hjl : j < n'
            · obtain ⟨b2, o2, rfl, hbl2, e2⟩ := (hD.below hb).int (nd_get (v := b) (i := j) (by rw [HN'.out]; exact hjl))
              have hat : (lay (row (n + n') P) k (P / pw k + x * b) j)[k + j]? = some (dgt (P / pw k) j) := by
                rw [lay_at _ (by rw [row_length]; omega), row_get _ (by omega), dgt_shift]
              have hc1 := hB.cell hat
              have hf1 := hB.free (k + j)
              have hcs : Hid (car (P / pw k) b x (j + 1) = (dgt (P / pw k) j + x * dgt b j + y) / 1000000000) := Lib.hid (by rw [car_succ, ← hy]; congr 1; omega)
              have hds : Hid (dgt (P / pw k + x * b) j = (dgt (P / pw k) j + x * dgt b j + y) % 1000000000) := Lib.hid (by rw [dgt_pass, ← hy]; congr 1; omega)
              have hp0 := dgt_nonneg (P / pw k) j
              have hp1 := dgt_lt (P / pw k) j
              have hm0 := Int.mul_nonneg hx0 (dgt_nonneg b j)
              have hm1 := (prod_bound (w := b) (f := x) (by omega) (by omega) j).2
              clear hy hat
              generalize dgt b j = z at e2 hcs hds hm0 hm1
              generalize dgt (P / pw k) j = p at hc1 hcs hds hp0 hp1
              have hs0 : 0 ≤ p + x * z + y := by omega
              have hj0 : (0 : Int) ≤ (j : Int) := by omega
              have hj1 : (j : Int) < (n' : Int) := by omega
              have hkj : (k : Int) + (j : Int) < (n : Int) + (n' : Int) := by omega
              have hkt : ((k : Int) + (j : Int)).toNat = k + j := by omega
              go_wp2
              go_roundw
              case rel => exact ⟨j + 1, _, by omega, by go_num, rfl, hcs.out.symm, hB.lay1 (by rw [row_length]; omega) hds.out.symm, hb.setCell (Nat.le_refl _) _⟩
              case measure => simp [intOf]; omega
            · obtain rfl : j = n' := by omega
              have hy' := Lib.hid (hy.trans h5.out)
              have hf1 := hB.free (k + j)
              have hat : ∃ u, (lay (row (n + j) P) k (P / pw k + x * b) j)[k + j]? = some u := by
                rw [lay_at _ (by rw [row_length]; omega), row_get _ (by omega)]
                exact ⟨_, rfl⟩
              obtain ⟨u, hu⟩ := hat
              have hc1 := hB.cell hu
              have hkj : (k : Int) + (j : Int) < (n : Int) + (j : Int) := by omega
              have hkt : ((k : Int) + (j : Int)).toNat = k + j := by omega
              clear hy hu
              go_wp2
              go_roundw
              case rel => exact ⟨k + 1, by omega, by go_num, by rw [← HQ.out, ← h4.out]; exact hB.lay1 (by rw [row_length]; omega) hy'.out, hb.setCell (Nat.le_refl _) _⟩
              case measure => simp [intOf]; omega
        · obtain rfl : k = n := by omega
          rw [HP.out] at hB
          go_wp2_with fail
          refine (trim_any w.heap.size _ _ (a * b) _ wr (hB.own (Nat.le_refl _)) HS.out (Nat.le_refl _) (by omega)).mono ?_
          intro e w3 hm
          obtain ⟨A', c', rfl, hc', ho, hb3⟩ := hm.after hb
          go_wp2
          go_ret
          exact ⟨A', c', rfl, hc', ho, hb3⟩
end Go.Proofs.Ytnejpdlikdgnnaa
