/-
  The model's own differences and products: 'l02Sub', 'l02Mul'.
-/
import Derived.Test.YtnejpdlikdgnnaaArA
namespace Go.Proofs.Ytnejpdlikdgnnaa
open Go.ChangeShapes Go.WideShapes Go.ChangeAt Go.RowKit
open Go.ChangeMaps (open_string shut_string)
set_option linter.unusedVariables false
set_option linter.unusedSimpArgs false

set_option maxHeartbeats 1000000 in
theorem spec_l02Sub (a b : Nat) (A D : Option Addr) (n c n' d : Nat) (w : World) (hn : ln a = n) (hn' : ln b = n') (hba : b ≤ a) (h60 : n ≤ 1048576) (h60' : n' ≤ 1048576) (hA : RdS w A (vi (nd a))) (hD : RdS w D (vi (nd b))) :
    Calls Try.prog 62 #[.slice A n c, .slice D n' d] w (MadeI w.heap.size (nd (a - b)) w) := by
  have hstart : (w.alloc (.cells #[] 3)).ownsRow w.heap.size 3 1 (.slice (some ⟨w.heap.size, 0, none⟩) 0 0) 0 (vi (row 0 ((a - b : Nat) : Int))) := World.ownsRow_made w #[] 0 (by omega) (by simp [maxLen]) rfl
  have HN := Lib.hid hn
  have HN' := Lib.hid hn'
  have E1 : Hid ((a : Int) + (-1) * (b : Int) = ((a - b : Nat) : Int)) := Lib.hid (by omega)
  have HL : Hid (ln (a - b) ≤ n) := Lib.hid (by have := ln_mono (show a - b ≤ a by omega); omega)
  clear hn hn' hba
  go_enter Try.func62, Try.ntmps62
  go_wp2
  go_loopw [5, 6, 12] (fun v q i w' => ∃ (k : Nat) (x : Int), k ≤ n ∧ i = .int .i64 (k : Int) ∧ q = .int .i64 x ∧ x = - car a b (-1) k ∧ 0 ≤ x ∧ x ≤ 1 ∧ w'.ownsRow w.heap.size 3 1 v k (vi (row k ((a - b : Nat) : Int))) ∧ Below w.heap.size w w') (fun _ _ i _ => n - (intOf i).toNat)
  case atStart => exact ⟨0, 0, Nat.zero_le _, rfl, rfl, by rw [car_zero]; rfl, by omega, by omega, hstart, (Below.refl _ _).alloc (Nat.le_refl _) _⟩
  case round =>
    clear hstart
    obtain ⟨k, x, hk, rfl, rfl, hx, hx0, hx1, hown, hb⟩ := hrel
    have hcs : Hid (car a b (-1) (k + 1) = (dgt a k - x - dgt b k) / 1000000000) := Lib.hid (by rw [car_succ]; congr 1; omega)
    have hds : Hid (dgt ((a - b : Nat) : Int) k = (dgt a k - x - dgt b k) % 1000000000) := Lib.hid (by rw [← E1.out, dgt_pass]; congr 1; omega)
    clear hx
    have hi0 : (0 : Int) ≤ (k : Int) := by omega
    have hd0 := dgt_nonneg a k
    have hd1 := dgt_lt a k
    have hz0 := dgt_nonneg b k
    have hz1 := dgt_lt b k
    by_cases hka : k < n
    · obtain ⟨b1, o1, rfl, hb1, e1⟩ := (hA.below hb).int (nd_get (v := a) (i := k) (by rw [HN.out]; exact hka))
      have hia : (k : Int) < (n : Int) := by omega
      generalize dgt a k = y at e1 hd0 hd1 hcs hds
      by_cases hkb : k < n'
      · obtain ⟨b2, o2, rfl, hb2, e2⟩ := (hD.below hb).int (nd_get (v := b) (i := k) (by rw [HN'.out]; exact hkb))
        have hib : (k : Int) < (n' : Int) := by omega
        generalize dgt b k = z at e2 hz0 hz1 hcs hds
        by_cases hs0 : y - x - z < 0
        · go_wp2_with (at_builtin; refine append_int rfl (.tmp 35) (.tmp 37) rfl w.heap.size _ _ (row k ((a - b : Nat) : Int)) (y - x - z + 1000000000) wr rfl rfl hown (by omega) hb.size ?_; intro v' w1 hown1 hb1 hs1)
          go_roundw
          case rel => exact ⟨k + 1, 1, by omega, by go_num, rfl, by rw [hcs.out]; omega, by omega, by omega, by rw [row_succ, hds.out, show (y - x - z) % 1000000000 = y - x - z + 1000000000 by omega]; exact hown1, hb.trans hb1⟩
          case measure => simp [intOf]; omega
        · have hs0' : 0 ≤ y - x - z := by omega
          go_wp2_with (at_builtin; refine append_int rfl (.tmp 35) (.tmp 37) rfl w.heap.size _ _ (row k ((a - b : Nat) : Int)) (y - x - z) wr rfl rfl hown (by omega) hb.size ?_; intro v' w1 hown1 hb1 hs1)
          go_roundw
          case rel => exact ⟨k + 1, 0, by omega, by go_num, rfl, by rw [hcs.out]; omega, by omega, by omega, by rw [row_succ, hds.out, show (y - x - z) % 1000000000 = y - x - z by omega]; exact hown1, hb.trans hb1⟩
          case measure => simp [intOf]; omega
      · have hzz : dgt b k = 0 := dgt_small (n := n') (by omega) (ln_lt' HN'.out) (by omega)
        rw [hzz, Int.sub_zero] at hcs hds
        clear hzz hz0 hz1
        have hib : ¬ (k : Int) < (n' : Int) := by omega
        by_cases hs0 : y - x < 0
        · go_wp2_with (at_builtin; refine append_int rfl (.tmp 35) (.tmp 37) rfl w.heap.size _ _ (row k ((a - b : Nat) : Int)) (y - x + 1000000000) wr rfl rfl hown (by omega) hb.size ?_; intro v' w1 hown1 hb1 hs1)
          go_roundw
          case rel => exact ⟨k + 1, 1, by omega, by go_num, rfl, by rw [hcs.out]; omega, by omega, by omega, by rw [row_succ, hds.out, show (y - x) % 1000000000 = y - x + 1000000000 by omega]; exact hown1, hb.trans hb1⟩
          case measure => simp [intOf]; omega
        · have hs0' : 0 ≤ y - x := by omega
          go_wp2_with (at_builtin; refine append_int rfl (.tmp 35) (.tmp 37) rfl w.heap.size _ _ (row k ((a - b : Nat) : Int)) (y - x) wr rfl rfl hown (by omega) hb.size ?_; intro v' w1 hown1 hb1 hs1)
          go_roundw
          case rel => exact ⟨k + 1, 0, by omega, by go_num, rfl, by rw [hcs.out]; omega, by omega, by omega, by rw [row_succ, hds.out, show (y - x) % 1000000000 = y - x by omega]; exact hown1, hb.trans hb1⟩
          case measure => simp [intOf]; omega
    · obtain rfl : k = n := by omega
      obtain ⟨A', c', hv, hc', hm', hl'⟩ := own_len hown
      have ho := OwnS.of_own (A := A') (n := k) (c := c') (by rw [← hv]; exact hown)
      subst hv
      clear hown
      go_wp2_with fail
      refine (trim_any w.heap.size k c' (a - b) A' wr ho HL.out hc' h60).mono ?_
      intro e w3 hm
      obtain ⟨A2, c2, rfl, hc2, ho2, hb2⟩ := hm.after hb
      go_wp2
      go_ret
      exact ⟨A2, c2, rfl, hc2, ho2, hb2⟩
end Go.Proofs.Ytnejpdlikdgnnaa
