/-
  'NatOf' of the model.
-/
import Derived.Test.YtmmgcdfifcbabaaGreatDoorNatOfI
import Derived.WalkSmall
import Derived.Test.YtmmgcdfifcbabaaGreatDoorArM
import Derived.Test.YtmmgcdfifcbabaaGreatDoorTrim
namespace Go.Proofs.YtmmgcdfifcbabaaGreatDoor
open Go.ChangeShapes Go.WideShapes Go.ChangeAt Go.RowKit
open Go.ChangeMaps (open_string shut_string)
set_option linter.unusedVariables false
set_option linter.unusedSimpArgs false

set_option maxHeartbeats 800000 in
theorem spec_natOf (N : Nat) (w : World) (hN : N ≤ 9223372036854775807) :
    Calls Tryz.prog 46 #[.int .i64 (N : Int)] w (MadeI w.heap.size (nd N) w) := by
  have hl3 := ln_small N hN
  have hstart : (w.alloc (.cells #[] 3)).ownsRow w.heap.size 3 1 (.slice (some ⟨w.heap.size, 0, none⟩) 0 0) 0 (vi (row 0 N)) := World.ownsRow_made w #[] 0 (by omega) (by simp [maxLen]) rfl
  go_enter Tryz.func46, Tryz.ntmps46
  go_wp2
  go_loopw [0, 3] (fun i v w' => ∃ (k m : Nat), k ≤ ln N ∧ i = .int .i64 (m : Int) ∧ (m : Int) = (N : Int) / pw k ∧ w'.ownsRow w.heap.size 3 1 v k (vi (row k N)) ∧ Below w.heap.size w w' ∧ m ≤ N) (fun i _ _ => (intOf i).toNat)
  case atStart => exact ⟨0, N, Nat.zero_le _, rfl, (div_zero _).symm, hstart, (Below.refl _ _).alloc (Nat.le_refl _) _, Nat.le_refl _⟩
  case round =>
    clear hstart
    obtain ⟨k, m, hk, rfl, hm0, hown, hb, hmN⟩ := hrel
    have hm := Lib.hid hm0
    clear hm0
    by_cases hp : 0 < m
    · have hk1 : k < ln N := ln_more (by rw [← hm.out]; omega)
      have e : Hid ((m : Int) % 1000000000 = dgt N k) := Lib.hid (by rw [hm.out]; rfl)
      go_wp2_with (at_builtin; refine append_int rfl (.tmp 7) (.tmp 10) rfl w.heap.size _ _ (row k N) ((m : Int) % 1000000000) wr rfl rfl hown (by omega) hb.size ?_; intro v' w1 hown1 hb1 hs1)
      go_roundw
      case rel => exact ⟨k + 1, m / 1000000000, by omega, by go_num, by rw [div_succ, ← hm.out]; omega, by rw [row_succ, ← e.out]; exact hown1, hb.trans hb1, by omega⟩
      case measure => simp [intOf]; omega
    · obtain rfl : m = 0 := by omega
      have hkl := ln_stop (by rw [← hm.out]; rfl) hk
      go_wp2
      go_ret
      subst hkl
      exact made_own hown hb

theorem spec_natOf_int (x : Int) (w : World) (hx : x ≤ 9223372036854775807) :
    Calls Tryz.prog 46 #[.int .i64 x] w (MadeI w.heap.size (nd x.toNat) w) := by
  by_cases h : 0 ≤ x
  · obtain ⟨N, rfl⟩ := Int.eq_ofNat_of_zero_le h
    exact spec_natOf N w (by omega)
  · have h0 : x < 0 := by omega
    rw [show x.toNat = 0 by omega, nd_zero]
    go_enter Tryz.func46, Tryz.ntmps46
    go_wp2
    go_loopw [0, 3] (fun i v w' => i = .int .i64 x ∧ (∃ A, v = .slice A 0 0) ∧ Below w.heap.size w w') (fun i _ _ => 0)
    case atStart => exact ⟨rfl, ⟨_, rfl⟩, (Below.refl _ _).alloc (Nat.le_refl _) _⟩
    case round =>
      obtain ⟨rfl, ⟨A, rfl⟩, hb⟩ := hrel
      go_wp2
      go_ret
      exact ⟨A, 0, rfl, Nat.le_refl _, .inl rfl, hb⟩
end Go.Proofs.YtmmgcdfifcbabaaGreatDoor

namespace Go.Proofs.YtmmgcdfifcbabaaGreatDoor
open Go.ChangeShapes Go.WideShapes Go.ChangeAt Go.RowKit
open Go.ChangeMaps (open_string shut_string)
set_option linter.unusedVariables false
set_option linter.unusedSimpArgs false

set_option maxHeartbeats 400000 in
theorem cap_any (B n c T : Nat) (A : Option Addr) (w : World) (ho : OwnS B w A (vi (row n T))) (hT : ln T ≤ n) (hc : n ≤ c) (hn : n ≤ 1048576) :
    Calls Tryz.prog 47 #[.slice A n c] w (MadeI B (cap60 T) w) := by
  have H := Lib.hid (trim_any B n c T A w ho hT hc hn)
  clear ho
  have hl : (nd T).length ≤ n := by rw [nd_length]; exact hT
  by_cases h60 : ln T ≤ 60
  · have hl60 : (nd T).length ≤ 60 := by rw [nd_length]; exact h60
    rw [cap60_in h60]
    clear hT h60
    generalize nd T = L at H hl hl60
    go_enter Tryz.func47, Tryz.ntmps47
    go_wp2_with fail
    refine H.out.mono ?_
    rintro e w1 ⟨A', c', rfl, hc', ho', hb'⟩
    go_wp2
    go_ret
    exact ⟨A', c', rfl, hc', ho', hb'⟩
  · have hl60 : 60 < (nd T).length := by rw [nd_length]; omega
    rw [cap60_out (by omega)]
    clear hT h60
    generalize nd T = L at H hl hl60
    go_enter Tryz.func47, Tryz.ntmps47
    go_wp2_with fail
    refine H.out.mono ?_
    rintro e w1 ⟨A', c', rfl, hc', ho', hb'⟩
    go_wp2
    go_ret
    exact (MadeI.nil B w1).after hb'
end Go.Proofs.YtmmgcdfifcbabaaGreatDoor

namespace Go.Proofs.YtmmgcdfifcbabaaGreatDoor
open Go.ChangeShapes Go.WideShapes Go.ChangeAt Go.RowKit
open Go.ChangeMaps (open_string shut_string)
set_option linter.unusedVariables false
set_option linter.unusedSimpArgs false

/-- A row of the call's own with the digits of T, zeros behind them let in. -/
def RowI (B T : Nat) (w : World) (e : Ending) (w' : World) : Prop :=
  ∃ A c K, e = .returned (.slice A K c) ∧ K ≤ c ∧ c ≤ maxLen ∧ K ≤ 1048576 ∧ ln T ≤ K ∧ OwnS B w' A (vi (row K T)) ∧ Below w.heap.size w w'
theorem row_own {B K T : Nat} {w w' : World} {v : Value} (h : w'.ownsRow B 3 1 v K (vi (row K T))) (hb : Below w.heap.size w w') (hK : K ≤ 1048576) (hT : ln T ≤ K) : RowI B T w (.returned v) w' := by
  obtain ⟨A, c, rfl, hc, hm, hl⟩ := own_len h
  exact ⟨A, c, K, rfl, hc, hm, hK, hT, OwnS.of_own h, hb⟩
theorem car_nonneg {v w f : Int} (hf : 0 ≤ f) (i : Nat) : 0 ≤ car v w f i :=
  Int.ediv_nonneg (Int.add_nonneg (mod_nonneg _ _) (Int.mul_nonneg hf (mod_nonneg _ _))) (Int.le_of_lt (pw_pos i))
theorem add_top {a b k n n' : Nat} (hn : ln a = n) (hn' : ln b = n') (h1 : n ≤ k) (h2 : n' ≤ k) : car a b 1 k = ((a + b : Nat) : Int) / pw k := by
  have h3 := ln_lt' hn
  have h4 := ln_lt' hn'
  rw [car_all (by omega) (Int.lt_of_lt_of_le h3 (pw_le h1)) (by omega) (Int.lt_of_lt_of_le h4 (pw_le h2))]
  congr 1
  omega
theorem add_more {a b k n n' M : Nat} (hn : ln a = n) (hn' : ln b = n') (h1 : n ≤ M) (h2 : n' ≤ M) (hk : k ≤ M + 1) (hnk : n ≤ k) (hnk' : n' ≤ k) (hc : 0 < car a b 1 k) : k < M + 1 := by
  rcases Nat.lt_or_ge k (M + 1) with h | h
  · exact h
  · rw [add_top hn hn' hnk hnk'] at hc
    have h3 := ln_lt' hn
    have h4 := ln_lt' hn'
    have h5 := pw_le h1
    have h6 := pw_le h2
    have h7 := pw_le h
    rw [pw_succ] at h7
    rw [div_small (by omega) (by omega)] at hc
    omega

end Go.Proofs.YtmmgcdfifcbabaaGreatDoor

namespace Go.Proofs.YtmmgcdfifcbabaaGreatDoor
open Go.ChangeShapes Go.WideShapes Go.ChangeAt Go.RowKit
open Go.ChangeMaps (open_string shut_string)
set_option linter.unusedVariables false
set_option linter.unusedSimpArgs false

end Go.Proofs.YtmmgcdfifcbabaaGreatDoor

namespace Go.Proofs.YtmmgcdfifcbabaaGreatDoor
open Go.ChangeShapes Go.WideShapes Go.ChangeAt Go.RowKit
open Go.ChangeMaps (open_string shut_string)
set_option linter.unusedVariables false
set_option linter.unusedSimpArgs false

theorem last_digit {P b x : Int} {k m : Nat} (hb0 : 0 ≤ b) (hb : b < pw m) (hP0 : 0 ≤ P / pw k) (hP : P / pw k < pw m) (hx0 : 0 ≤ x) (hT : P / pw k + x * b < pw (m + 1)) :
    car (P / pw k) b x m = dgt (P / pw k + x * b) m := by
  rw [car_all hP0 hP hb0 hb]
  unfold dgt
  rw [pw_succ] at hT
  have h0 : 0 ≤ P / pw k + x * b := Int.add_nonneg hP0 (Int.mul_nonneg hx0 hb0)
  have h1 := Int.ediv_nonneg h0 (Int.le_of_lt (pw_pos m))
  have h2 := Int.ediv_lt_of_lt_mul (pw_pos m) (show P / pw k + x * b < 1000000000 * pw m by rw [Int.mul_comm 1000000000]; exact hT)
  omega

end Go.Proofs.YtmmgcdfifcbabaaGreatDoor

namespace Go.Proofs.YtmmgcdfifcbabaaGreatDoor
open Go.ChangeShapes Go.WideShapes Go.ChangeAt Go.RowKit
open Go.ChangeMaps (open_string shut_string)
set_option linter.unusedVariables false
set_option linter.unusedSimpArgs false

/-- What an operation on two lists answers. -/
def binL (F : Nat → Nat → List Int) (l m : List Int) : List Int := if ok l && ok m then F (val l) (val m) else []
def addF (a b : Nat) : List Int := cap60 (a + b)
def subF (a b : Nat) : List Int := if b ≤ a then nd (a - b) else []
def mulF (a b : Nat) : List Int := cap60 (a * b)
theorem cap60_len (v : Nat) : (cap60 v).length ≤ 60 := by
  unfold cap60
  split
  · rw [nd_length]; assumption
  · simp
theorem binL_len {F : Nat → Nat → List Int} (h : ∀ a b, ln a ≤ 60 → ln b ≤ 60 → (F a b).length ≤ 60) (l m : List Int) : (binL F l m).length ≤ 60 := by
  unfold binL
  split
  · rename_i hk
    rw [Bool.and_eq_true] at hk
    obtain ⟨a, rfl, ha⟩ := ok_nd hk.1
    obtain ⟨b, rfl, hb⟩ := ok_nd hk.2
    rw [val_nd, val_nd]
    exact h a b ha hb
  · simp
theorem subF_len (a b : Nat) (h : ln a ≤ 60) : (subF a b).length ≤ 60 := by
  unfold subF
  split
  · rw [nd_length]
    have := ln_mono (show a - b ≤ a by omega)
    omega
  · simp

section
variable (l m : List Int) (A D : Option Addr) (n c n' d : Nat) (w : World)

theorem impl_addL (hl : l.length = n) (hm : m.length = n') (hn : n ≤ 9223372036854775807) (hn' : n' ≤ 9223372036854775807) (hA : RdS w A (vi l)) (hD : RdS w D (vi m)) :
    Calls Tryz.prog 59 #[.slice A n c, .slice D n' d] w (MadeI w.heap.size (binL addF l m) w) := by
  by_cases h : (ok l && ok m) = true
  · have hc : binL addF l m = addF (val l) (val m) := by unfold binL; rw [h]; rfl
    rw [Bool.and_eq_true] at h
    obtain ⟨a, rfl, ha⟩ := ok_nd h.1
    obtain ⟨b, rfl, hb⟩ := ok_nd h.2
    rw [val_nd, val_nd] at hc
    rw [hc]
    rw [nd_length] at hl hm
    exact impl_add a b A D n c n' d w hl hm (by omega) (by omega) hA hD
  · have h' : (ok l && ok m) = false := by simpa using h
    have H1 := are_any l m A D n c n' d w hl hm hn hn' hA hD
    rw [h'] at H1
    have hc : binL addF l m = [] := by unfold binL; rw [h']; rfl
    rw [hc]
    clear h h' hl hm hc
    go_enter Tryz.func59, Tryz.ntmps59
    go_wp2_with fail
    refine H1.mono ?_
    rintro e w1 ⟨rfl, rfl⟩
    go_wp2
    go_ret
    exact MadeI.nil _ _

theorem impl_subL (hl : l.length = n) (hm : m.length = n') (hn : n ≤ 9223372036854775807) (hn' : n' ≤ 9223372036854775807) (hA : RdS w A (vi l)) (hD : RdS w D (vi m)) :
    Calls Tryz.prog 61 #[.slice A n c, .slice D n' d] w (MadeI w.heap.size (binL subF l m) w) := by
  by_cases h : (ok l && ok m) = true
  · have hc : binL subF l m = subF (val l) (val m) := by unfold binL; rw [h]; rfl
    rw [Bool.and_eq_true] at h
    obtain ⟨a, rfl, ha⟩ := ok_nd h.1
    obtain ⟨b, rfl, hb⟩ := ok_nd h.2
    rw [val_nd, val_nd] at hc
    rw [hc]
    rw [nd_length] at hl hm
    exact impl_sub a b A D n c n' d w hl hm (by omega) (by omega) hA hD
  · have h' : (ok l && ok m) = false := by simpa using h
    have H1 := are_any l m A D n c n' d w hl hm hn hn' hA hD
    rw [h'] at H1
    have hc : binL subF l m = [] := by unfold binL; rw [h']; rfl
    rw [hc]
    clear h h' hl hm hc
    go_enter Tryz.func61, Tryz.ntmps61
    go_wp2_with fail
    refine H1.mono ?_
    rintro e w1 ⟨rfl, rfl⟩
    go_wp2
    go_ret
    exact MadeI.nil _ _

theorem impl_mulL (hl : l.length = n) (hm : m.length = n') (hn : n ≤ 9223372036854775807) (hn' : n' ≤ 9223372036854775807) (hA : RdS w A (vi l)) (hD : RdS w D (vi m)) :
    Calls Tryz.prog 62 #[.slice A n c, .slice D n' d] w (MadeI w.heap.size (binL mulF l m) w) := by
  by_cases h : (ok l && ok m) = true
  · have hc : binL mulF l m = mulF (val l) (val m) := by unfold binL; rw [h]; rfl
    rw [Bool.and_eq_true] at h
    obtain ⟨a, rfl, ha⟩ := ok_nd h.1
    obtain ⟨b, rfl, hb⟩ := ok_nd h.2
    rw [val_nd, val_nd] at hc
    rw [hc]
    rw [nd_length] at hl hm
    exact impl_mul a b A D n c n' d w hl hm (by omega) (by omega) hA hD
  · have h' : (ok l && ok m) = false := by simpa using h
    have H1 := are_any l m A D n c n' d w hl hm hn hn' hA hD
    rw [h'] at H1
    have hc : binL mulF l m = [] := by unfold binL; rw [h']; rfl
    rw [hc]
    clear h h' hl hm hc
    go_enter Tryz.func62, Tryz.ntmps62
    go_wp2_with fail
    refine H1.mono ?_
    rintro e w1 ⟨rfl, rfl⟩
    go_wp2
    go_ret
    exact MadeI.nil _ _

end
end Go.Proofs.YtmmgcdfifcbabaaGreatDoor

