/-
  'NatOf' of the program.
-/
import Derived.Test.YtnejpdlikdgnnaaDoorAppI
import Derived.WalkSmall
namespace Go.Proofs.YtnejpdlikdgnnaaDoor
open Go.ChangeShapes Go.WideShapes Go.ChangeAt Go.RowKit
open Go.ChangeMaps (open_string shut_string)
set_option linter.unusedVariables false
set_option linter.unusedSimpArgs false

set_option maxHeartbeats 800000 in
theorem impl_natOf (N : Nat) (w : World) (hN : N ≤ 9223372036854775807) :
    Calls Tryd.prog 40 #[.int .i64 (N : Int)] w (MadeI w.heap.size (nd N) w) := by
  have hl3 := ln_small N hN
  go_enter Tryd.func40, Tryd.ntmps40
  go_wp2
  go_loopw [0, 3] (fun i v w' => ∃ (k m : Nat), k ≤ ln N ∧ i = .int .i64 (m : Int) ∧ (m : Int) = (N : Int) / pw k ∧ w'.ownsRow w.heap.size 3 1 v k (vi (row k N)) ∧ Below w.heap.size w w' ∧ m ≤ N) (fun i _ _ => (intOf i).toNat)
  case atStart => exact ⟨0, N, Nat.zero_le _, rfl, (div_zero _).symm, World.ownsRow_nil _ _ _ _, Below.refl _ _, Nat.le_refl _⟩
  case round =>
    obtain ⟨k, m, hk, rfl, hm0, hown, hb, hmN⟩ := hrel
    have hm := Lib.hid hm0
    clear hm0
    by_cases hp : 0 < m
    · have hk1 : k < ln N := ln_more (by rw [← hm.out]; omega)
      have e : Hid ((m : Int) % 1000000000 = dgt N k) := Lib.hid (by rw [hm.out]; rfl)
      go_wp2_with (at_builtin; refine append_int rfl (.tmp 8) (.tmp 11) rfl w.heap.size _ _ (row k N) ((m : Int) % 1000000000) wr rfl rfl hown (by omega) hb.size ?_; intro v' w1 hown1 hb1 hs1)
      go_roundw
      case rel => exact ⟨k + 1, m / 1000000000, by omega, by go_num, by rw [div_succ, ← hm.out]; omega, by rw [row_succ, ← e.out]; exact hown1, hb.trans hb1, by omega⟩
      case measure => simp [intOf]; omega
    · obtain rfl : m = 0 := by omega
      have hkl := ln_stop (by rw [← hm.out]; rfl) hk
      go_wp2
      go_ret
      subst hkl
      exact made_own hown hb

theorem impl_natOf_int (x : Int) (w : World) (hx : x ≤ 9223372036854775807) :
    Calls Tryd.prog 40 #[.int .i64 x] w (MadeI w.heap.size (nd x.toNat) w) := by
  by_cases h : 0 ≤ x
  · obtain ⟨N, rfl⟩ := Int.eq_ofNat_of_zero_le h
    exact impl_natOf N w (by omega)
  · have h0 : x < 0 := by omega
    rw [show x.toNat = 0 by omega, nd_zero]
    go_enter Tryd.func40, Tryd.ntmps40
    go_wp2
    go_loopw [0, 3] (fun i v w' => i = .int .i64 x ∧ v = .slice none 0 0 ∧ w = w') (fun i _ _ => 0)
    case atStart => exact ⟨rfl, rfl, rfl⟩
    case round =>
      obtain ⟨rfl, rfl, rfl⟩ := hrel
      go_wp2
      go_ret
      exact ⟨none, 0, rfl, Nat.le_refl _, .inl rfl, Below.refl _ _⟩

end Go.Proofs.YtnejpdlikdgnnaaDoor
