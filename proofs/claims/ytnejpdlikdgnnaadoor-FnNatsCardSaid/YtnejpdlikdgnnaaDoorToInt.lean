/-
  'NatToInt', of the model and of the program; its exact law.
-/
import Derived.Test.YtnejpdlikdgnnaaDoorCmp
namespace Go.Proofs.YtnejpdlikdgnnaaDoor
open Go.ChangeShapes Go.WideShapes Go.ChangeAt Go.RowKit
open Go.ChangeMaps (open_string shut_string)
set_option linter.unusedVariables false
set_option linter.unusedSimpArgs false

/-- The answer: the number and whether it is an int. -/
def toV (l : List Int) : Int := if ok l && decide (val l ≤ 9223372036854775807) then (val l : Int) else 0
def toB (l : List Int) : Bool := ok l && decide (val l ≤ 9223372036854775807)
theorem ret_two {a b : Int} {p q : Bool} (h : a = b) (h2 : p = q) : Ending.returned (.tuple #[.int .i64 a, .bool p]) = .returned (.tuple #[.int .i64 b, .bool q]) := by rw [h, h2]
theorem div_le (a : Nat) (k : Nat) : (a : Int) / pw k ≤ a := Int.ediv_le_self _ (by omega)
theorem div_nn (a : Nat) (k : Nat) : 0 ≤ (a : Int) / pw k := Int.ediv_nonneg (by omega) (Int.le_of_lt (pw_pos k))
theorem toV_no {l : List Int} (h : ok l = false) : toV l = 0 ∧ toB l = false := by unfold toV toB; rw [h]; exact ⟨rfl, rfl⟩
theorem toV_big {a : Nat} (h : 9223372036854775807 < a) : toV (nd a) = 0 ∧ toB (nd a) = false := by
  have : decide (a ≤ 9223372036854775807) = false := decide_eq_false (by omega)
  unfold toV toB
  rw [val_nd, this, Bool.and_false]
  exact ⟨rfl, rfl⟩
theorem toV_yes {a : Nat} (h60 : ln a ≤ 60) (h : a ≤ 9223372036854775807) : toV (nd a) = a ∧ toB (nd a) = true := by
  unfold toV toB
  rw [val_nd, nd_ok h60, decide_eq_true h]
  exact ⟨rfl, rfl⟩

set_option maxHeartbeats 800000 in
theorem impl_toInt (l : List Int) (A : Option Addr) (n c : Nat) (w : World) (hl : l.length = n) (hn : n ≤ 9223372036854775807) (hA : RdS w A (vi l)) :
    Calls Tryd.prog 39 #[.slice A n c] w fun e w' => e = .returned (.tuple #[.int .i64 (toV l), .bool (toB l)]) ∧ w = w' := by
  have H1 := impl_ok l A n c w hl hn hA
  by_cases hk : ok l = true
  · rw [hk] at H1
    obtain ⟨a, rfl, ha⟩ := ok_nd hk
    rw [nd_length] at hl
    clear hk
    have hst : (0 : Int) = (a : Int) / pw n := (div_small (by omega) (by subst hl; exact ln_lt a)).symm
    have HN := Lib.hid hl
    have HA := Lib.hid ha
    have hn60 : n ≤ 60 := by omega
    clear hl ha
    go_enter Tryd.func39, Tryd.ntmps39
    go_wp2_with fail
    refine H1.mono ?_
    rintro e w1 ⟨rfl, rfl⟩
    go_wp2_with fail
    go_loop [4, 5] (fun v i => ∃ (k : Nat) (x y : Int), k ≤ n ∧ v = .int .i64 y ∧ y = (a : Int) / pw k ∧ y ≤ 9223372036854775807 ∧ 0 ≤ y ∧ i = .int .i64 x ∧ x = (k : Int) - 1) (fun _ i => (intOf i + 1).toNat)
    case atStart => exact ⟨n, _, 0, Nat.le_refl _, rfl, hst, by omega, by omega, rfl, rfl⟩
    case round =>
      clear hst
      obtain ⟨k, x, y, hk, rfl, hy, hy1, hy0, rfl, hx⟩ := hrel
      have hY := Lib.hid hy
      clear hy
      rcases k with _ | j
      · obtain rfl : x = -1 := by omega
        clear hx
        have hya : Hid (y = (a : Int)) := Lib.hid (by rw [hY.out, div_zero])
        have hres : Hid (toV (nd a) = y ∧ toB (nd a) = true) := Lib.hid (by have h1 := hya.out; rw [h1]; exact toV_yes HA.out (by omega))
        go_wp2
        go_ret2
        exact ⟨ret_two hres.out.1.symm hres.out.2.symm, rfl⟩
      · obtain rfl : x = (j : Int) := by omega
        clear hx
        have hlt : j < n := by omega
        obtain ⟨b1, o1, rfl, hb1, e1⟩ := hA.int (nd_get (v := a) (i := j) (by rw [HN.out]; exact hlt))
        have hd0 := dgt_nonneg a j
        have hd1 := dgt_lt a j
        have hsp : Hid ((a : Int) / pw j = y * 1000000000 + dgt a j) := Lib.hid (by rw [hY.out]; exact div_split _ _)
        generalize dgt a j = z at e1 hd0 hd1 hsp
        have hi0 : (0 : Int) ≤ (j : Int) := by omega
        have hi1 : (j : Int) < (n : Int) := by omega
        have hz0 : 0 ≤ 9223372036854775807 - z := by omega
        by_cases hbig : (9223372036854775807 - z) / 1000000000 < y
        · have hres : Hid (toV (nd a) = 0 ∧ toB (nd a) = false) := Lib.hid (toV_big (by have h1 := div_le a j; rw [hsp.out] at h1; omega))
          go_wp2
          go_ret2
          exact ⟨ret_two hres.out.1.symm hres.out.2.symm, rfl⟩
        · have hb2 : y * 1000000000 + z ≤ 9223372036854775807 := by omega
          have hb3 : y * 1000000000 ≤ 9223372036854775807 := by omega
          go_wp2
          go_round
          case rel => exact ⟨j, _, _, by omega, rfl, hsp.out.symm, by omega, by omega, rfl, rfl⟩
          case measure => simp [intOf]
  · have hk' : ok l = false := by simpa using hk
    rw [hk'] at H1
    have hres := Lib.hid (toV_no hk')
    clear hk hk' hl
    go_enter Tryd.func39, Tryd.ntmps39
    go_wp2_with fail
    refine H1.mono ?_
    rintro e w1 ⟨rfl, rfl⟩
    go_wp2
    go_ret2
    exact ⟨ret_two hres.out.1.symm hres.out.2.symm, rfl⟩

theorem nd_max : nd 9223372036854775807 = [854775807, 223372036, 9] ∧ ln 9223372036854775807 = 3 := by
  have h3 : ln 9223372036854775807 = 3 := by
    rw [ln_pos (by decide), show 9223372036854775807 / 1000000000 = 9223372036 by decide, ln_pos (by decide), show 9223372036 / 1000000000 = 9 by decide, ln_pos (by decide), show 9 / 1000000000 = 0 by decide, ln_zero]
  refine ⟨?_, h3⟩
  unfold nd
  rw [h3]
  decide

end Go.Proofs.YtnejpdlikdgnnaaDoor
