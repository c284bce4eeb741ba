/-
  The model's own sums and differences: 'l02Add', 'l02Sub'.
-/
import Derived.Test.YtnejpdlikdgnnaaArS
namespace Go.Proofs.Ytnejpdlikdgnnaa
open Go.ChangeShapes Go.WideShapes Go.ChangeAt Go.RowKit
open Go.ChangeMaps (open_string shut_string)
set_option linter.unusedVariables false
set_option linter.unusedSimpArgs false

/-- A row of the call's own with the digits of T, zeros behind them let in. -/
def RowI (B T : Nat) (w : World) (e : Ending) (w' : World) : Prop :=
  ∃ A c K, e = .returned (.slice A K c) ∧ K ≤ c ∧ c ≤ maxLen ∧ K ≤ 1048576 ∧ ln T ≤ K ∧ OwnS B w' A (vi (row K T)) ∧ Below w.heap.size w w'
theorem row_own {B K T : Nat} {w w' : World} {v : Value} (h : w'.ownsRow B 3 1 v K (vi (row K T))) (hb : Below w.heap.size w w') (hK : K ≤ 1048576) (hT : ln T ≤ K) : RowI B T w (.returned v) w' := by
  obtain ⟨A, c, rfl, hc, hm, hl⟩ := own_len h
  exact ⟨A, c, K, rfl, hc, hm, hK, hT, OwnS.of_own h, hb⟩
theorem car_nonneg {v w f : Int} (hf : 0 ≤ f) (i : Nat) : 0 ≤ car v w f i :=
  Int.ediv_nonneg (Int.add_nonneg (mod_nonneg _ _) (Int.mul_nonneg hf (mod_nonneg _ _))) (Int.le_of_lt (pw_pos i))
theorem add_top {a b k n n' : Nat} (hn : ln a = n) (hn' : ln b = n') (h1 : n ≤ k) (h2 : n' ≤ k) : car a b 1 k = ((a + b : Nat) : Int) / pw k := by
  have h3 := ln_lt' hn
  have h4 := ln_lt' hn'
  rw [car_all (by omega) (Int.lt_of_lt_of_le h3 (pw_le h1)) (by omega) (Int.lt_of_lt_of_le h4 (pw_le h2))]
  congr 1
  omega
theorem add_more {a b k n n' M : Nat} (hn : ln a = n) (hn' : ln b = n') (h1 : n ≤ M) (h2 : n' ≤ M) (hk : k ≤ M + 1) (hnk : n ≤ k) (hnk' : n' ≤ k) (hc : 0 < car a b 1 k) : k < M + 1 := by
  rcases Nat.lt_or_ge k (M + 1) with h | h
  · exact h
  · rw [add_top hn hn' hnk hnk'] at hc
    have h3 := ln_lt' hn
    have h4 := ln_lt' hn'
    have h5 := pw_le h1
    have h6 := pw_le h2
    have h7 := pw_le h
    rw [pw_succ] at h7
    rw [div_small (by omega) (by omega)] at hc
    omega

set_option maxHeartbeats 1000000 in
theorem spec_l02Add (a b : Nat) (A D : Option Addr) (n c n' d : Nat) (w : World) (hn : ln a = n) (hn' : ln b = n') (h60 : n ≤ 60) (h60' : n' ≤ 60) (hA : RdS w A (vi (nd a))) (hD : RdS w D (vi (nd b))) :
    Calls Try.prog 61 #[.slice A n c, .slice D n' d] w (RowI w.heap.size (a + b) w) := by
  obtain ⟨M, h1M, h2M, hM⟩ : ∃ M, n ≤ M ∧ n' ≤ M ∧ M ≤ 60 := ⟨60, h60, h60', Nat.le_refl _⟩
  have hstart : (w.alloc (.cells #[] 3)).ownsRow w.heap.size 3 1 (.slice (some ⟨w.heap.size, 0, none⟩) 0 0) 0 (vi (row 0 ((a + b : Nat) : Int))) := World.ownsRow_made w #[] 0 (by omega) (by simp [maxLen]) rfl
  have HN := Lib.hid hn
  have HN' := Lib.hid hn'
  have E1 : Hid ((a : Int) + 1 * (b : Int) = ((a + b : Nat) : Int)) := Lib.hid (by omega)
  clear hn hn'
  go_enter Try.func61, Try.ntmps61
  go_wp2
  go_loopw [5, 6, 7] (fun v q i w' => ∃ (k : Nat) (x : Int), k ≤ M + 1 ∧ i = .int .i64 (k : Int) ∧ q = .int .i64 x ∧ x = car a b 1 k ∧ w'.ownsRow w.heap.size 3 1 v k (vi (row k ((a + b : Nat) : Int))) ∧ Below w.heap.size w w') (fun _ _ i _ => M + 1 - (intOf i).toNat)
  case atStart => exact ⟨0, 0, Nat.zero_le _, rfl, rfl, (car_zero _ _ _).symm, hstart, (Below.refl _ _).alloc (Nat.le_refl _) _⟩
  case round =>
    clear hstart
    obtain ⟨k, x, hk, rfl, rfl, hx, hown, hb⟩ := hrel
    have hx0 := car_nonneg (v := a) (w := b) (show (0 : Int) ≤ 1 by decide) k
    have hx1 := (car_bound (v := a) (w := b) (f := 1) (by decide) (by decide) k).2
    rw [← hx] at hx0 hx1
    have hcs : Hid (car a b 1 (k + 1) = (x + dgt a k + dgt b k) / 1000000000) := Lib.hid (by rw [car_succ, ← hx, Int.one_mul])
    have hds : Hid (dgt ((a + b : Nat) : Int) k = (x + dgt a k + dgt b k) % 1000000000) := Lib.hid (by rw [← E1.out, dgt_pass, ← hx, Int.one_mul])
    have hX := Lib.hid hx
    clear hx
    have hi0 : (0 : Int) ≤ (k : Int) := by omega
    have hd0 := dgt_nonneg a k
    have hd1 := dgt_lt a k
    have hz0 := dgt_nonneg b k
    have hz1 := dgt_lt b k
    by_cases hka : k < n
    · obtain ⟨b1, o1, rfl, hb1, e1⟩ := (hA.below hb).int (nd_get (v := a) (i := k) (by rw [HN.out]; exact hka))
      have hia : (k : Int) < (n : Int) := by omega
      generalize dgt a k = y at e1 hd0 hd1 hcs hds
      by_cases hkb : k < n'
      · obtain ⟨b2, o2, rfl, hb2, e2⟩ := (hD.below hb).int (nd_get (v := b) (i := k) (by rw [HN'.out]; exact hkb))
        have hib : (k : Int) < (n' : Int) := by omega
        generalize dgt b k = z at e2 hz0 hz1 hcs hds
        have hs0 : 0 ≤ x + y + z := by omega
        go_wp2_with (at_builtin; refine append_int rfl (.tmp 47) (.tmp 50) rfl w.heap.size _ _ (row k ((a + b : Nat) : Int)) ((x + y + z) % 1000000000) wr rfl rfl hown (by omega) hb.size ?_; intro v' w1 hown1 hb1 hs1)
        go_roundw
        case rel => exact ⟨k + 1, _, by omega, by go_num, rfl, hcs.out.symm, by rw [row_succ, hds.out]; exact hown1, hb.trans hb1⟩
        case measure => simp [intOf]; omega
      · have hzz : dgt b k = 0 := dgt_small (n := n') (by omega) (ln_lt' HN'.out) (by omega)
        rw [hzz, Int.add_zero] at hcs hds
        clear hzz hz0 hz1
        have hib : ¬ (k : Int) < (n' : Int) := by omega
        have hs0 : 0 ≤ x + y := by omega
        go_wp2_with (at_builtin; refine append_int rfl (.tmp 47) (.tmp 50) rfl w.heap.size _ _ (row k ((a + b : Nat) : Int)) ((x + y) % 1000000000) wr rfl rfl hown (by omega) hb.size ?_; intro v' w1 hown1 hb1 hs1)
        go_roundw
        case rel => exact ⟨k + 1, _, by omega, by go_num, rfl, hcs.out.symm, by rw [row_succ, hds.out]; exact hown1, hb.trans hb1⟩
        case measure => simp [intOf]; omega
    · have hyy : dgt a k = 0 := dgt_small (n := n) (by omega) (ln_lt' HN.out) (by omega)
      rw [hyy, Int.add_zero] at hcs hds
      clear hyy hd0 hd1
      have hia : ¬ (k : Int) < (n : Int) := by omega
      by_cases hkb : k < n'
      · obtain ⟨b2, o2, rfl, hb2, e2⟩ := (hD.below hb).int (nd_get (v := b) (i := k) (by rw [HN'.out]; exact hkb))
        have hib : (k : Int) < (n' : Int) := by omega
        generalize dgt b k = z at e2 hz0 hz1 hcs hds
        have hs0 : 0 ≤ x + z := by omega
        go_wp2_with (at_builtin; refine append_int rfl (.tmp 47) (.tmp 50) rfl w.heap.size _ _ (row k ((a + b : Nat) : Int)) ((x + z) % 1000000000) wr rfl rfl hown (by omega) hb.size ?_; intro v' w1 hown1 hb1 hs1)
        go_roundw
        case rel => exact ⟨k + 1, _, by omega, by go_num, rfl, hcs.out.symm, by rw [row_succ, hds.out]; exact hown1, hb.trans hb1⟩
        case measure => simp [intOf]; omega
      · have hzz : dgt b k = 0 := dgt_small (n := n') (by omega) (ln_lt' HN'.out) (by omega)
        rw [hzz, Int.add_zero] at hcs hds
        clear hzz hz0 hz1
        have hib : ¬ (k : Int) < (n' : Int) := by omega
        by_cases hpos : 0 < x
        · have hkM : k < M + 1 := add_more HN.out HN'.out h1M h2M hk (by omega) (by omega) (by rw [← hX.out]; exact hpos)
          go_wp2_with (at_builtin; refine append_int rfl (.tmp 47) (.tmp 50) rfl w.heap.size _ _ (row k ((a + b : Nat) : Int)) (x % 1000000000) wr rfl rfl hown (by omega) hb.size ?_; intro v' w1 hown1 hb1 hs1)
          go_roundw
          case rel => exact ⟨k + 1, _, by omega, by go_num, rfl, hcs.out.symm, by rw [row_succ, hds.out]; exact hown1, hb.trans hb1⟩
          case measure => simp [intOf]; omega
        · obtain rfl : x = 0 := by omega
          have hfin : Hid (ln (a + b) ≤ k) := by
            refine Lib.hid (ln_le_iff.2 ?_)
            have h1 := hX.out
            rw [add_top HN.out HN'.out (by omega) (by omega)] at h1
            have h2 := Int.mul_ediv_add_emod ((a + b : Nat) : Int) (pw k)
            have h3 := mod_lt ((a + b : Nat) : Int) k
            rw [← h1, Int.mul_zero] at h2
            omega
          go_wp2
          go_ret
          exact row_own hown hb (by omega) hfin.out
end Go.Proofs.Ytnejpdlikdgnnaa
