/-
  'NatOf' of the model.
-/
import Derived.Test.YtnejpdlikdgnnaaDoorNatOfI
import Derived.WalkSmall
import Derived.Test.YtnejpdlikdgnnaaDoorArM
import Derived.Test.YtnejpdlikdgnnaaDoorTrim
namespace Go.Proofs.YtnejpdlikdgnnaaDoor
open Go.ChangeShapes Go.WideShapes Go.ChangeAt Go.RowKit
open Go.ChangeMaps (open_string shut_string)
set_option linter.unusedVariables false
set_option linter.unusedSimpArgs false

end Go.Proofs.YtnejpdlikdgnnaaDoor

namespace Go.Proofs.YtnejpdlikdgnnaaDoor
open Go.ChangeShapes Go.WideShapes Go.ChangeAt Go.RowKit
open Go.ChangeMaps (open_string shut_string)
set_option linter.unusedVariables false
set_option linter.unusedSimpArgs false

end Go.Proofs.YtnejpdlikdgnnaaDoor

namespace Go.Proofs.YtnejpdlikdgnnaaDoor
open Go.ChangeShapes Go.WideShapes Go.ChangeAt Go.RowKit
open Go.ChangeMaps (open_string shut_string)
set_option linter.unusedVariables false
set_option linter.unusedSimpArgs false

/-- A row of the call's own with the digits of T, zeros behind them let in. -/
def RowI (B T : Nat) (w : World) (e : Ending) (w' : World) : Prop :=
  ∃ A c K, e = .returned (.slice A K c) ∧ K ≤ c ∧ c ≤ maxLen ∧ K ≤ 1048576 ∧ ln T ≤ K ∧ OwnS B w' A (vi (row K T)) ∧ Below w.heap.size w w'
theorem row_own {B K T : Nat} {w w' : World} {v : Value} (h : w'.ownsRow B 3 1 v K (vi (row K T))) (hb : Below w.heap.size w w') (hK : K ≤ 1048576) (hT : ln T ≤ K) : RowI B T w (.returned v) w' := by
  obtain ⟨A, c, rfl, hc, hm, hl⟩ := own_len h
  exact ⟨A, c, K, rfl, hc, hm, hK, hT, OwnS.of_own h, hb⟩
theorem car_nonneg {v w f : Int} (hf : 0 ≤ f) (i : Nat) : 0 ≤ car v w f i :=
  Int.ediv_nonneg (Int.add_nonneg (mod_nonneg _ _) (Int.mul_nonneg hf (mod_nonneg _ _))) (Int.le_of_lt (pw_pos i))
theorem add_top {a b k n n' : Nat} (hn : ln a = n) (hn' : ln b = n') (h1 : n ≤ k) (h2 : n' ≤ k) : car a b 1 k = ((a + b : Nat) : Int) / pw k := by
  have h3 := ln_lt' hn
  have h4 := ln_lt' hn'
  rw [car_all (by omega) (Int.lt_of_lt_of_le h3 (pw_le h1)) (by omega) (Int.lt_of_lt_of_le h4 (pw_le h2))]
  congr 1
  omega
theorem add_more {a b k n n' M : Nat} (hn : ln a = n) (hn' : ln b = n') (h1 : n ≤ M) (h2 : n' ≤ M) (hk : k ≤ M + 1) (hnk : n ≤ k) (hnk' : n' ≤ k) (hc : 0 < car a b 1 k) : k < M + 1 := by
  rcases Nat.lt_or_ge k (M + 1) with h | h
  · exact h
  · rw [add_top hn hn' hnk hnk'] at hc
    have h3 := ln_lt' hn
    have h4 := ln_lt' hn'
    have h5 := pw_le h1
    have h6 := pw_le h2
    have h7 := pw_le h
    rw [pw_succ] at h7
    rw [div_small (by omega) (by omega)] at hc
    omega

end Go.Proofs.YtnejpdlikdgnnaaDoor

namespace Go.Proofs.YtnejpdlikdgnnaaDoor
open Go.ChangeShapes Go.WideShapes Go.ChangeAt Go.RowKit
open Go.ChangeMaps (open_string shut_string)
set_option linter.unusedVariables false
set_option linter.unusedSimpArgs false

end Go.Proofs.YtnejpdlikdgnnaaDoor

namespace Go.Proofs.YtnejpdlikdgnnaaDoor
open Go.ChangeShapes Go.WideShapes Go.ChangeAt Go.RowKit
open Go.ChangeMaps (open_string shut_string)
set_option linter.unusedVariables false
set_option linter.unusedSimpArgs false

theorem last_digit {P b x : Int} {k m : Nat} (hb0 : 0 ≤ b) (hb : b < pw m) (hP0 : 0 ≤ P / pw k) (hP : P / pw k < pw m) (hx0 : 0 ≤ x) (hT : P / pw k + x * b < pw (m + 1)) :
    car (P / pw k) b x m = dgt (P / pw k + x * b) m := by
  rw [car_all hP0 hP hb0 hb]
  unfold dgt
  rw [pw_succ] at hT
  have h0 : 0 ≤ P / pw k + x * b := Int.add_nonneg hP0 (Int.mul_nonneg hx0 hb0)
  have h1 := Int.ediv_nonneg h0 (Int.le_of_lt (pw_pos m))
  have h2 := Int.ediv_lt_of_lt_mul (pw_pos m) (show P / pw k + x * b < 1000000000 * pw m by rw [Int.mul_comm 1000000000]; exact hT)
  omega

end Go.Proofs.YtnejpdlikdgnnaaDoor

namespace Go.Proofs.YtnejpdlikdgnnaaDoor
open Go.ChangeShapes Go.WideShapes Go.ChangeAt Go.RowKit
open Go.ChangeMaps (open_string shut_string)
set_option linter.unusedVariables false
set_option linter.unusedSimpArgs false

/-- What an operation on two lists answers. -/
def binL (F : Nat → Nat → List Int) (l m : List Int) : List Int := if ok l && ok m then F (val l) (val m) else []
def addF (a b : Nat) : List Int := cap60 (a + b)
def subF (a b : Nat) : List Int := if b ≤ a then nd (a - b) else []
def mulF (a b : Nat) : List Int := cap60 (a * b)
theorem cap60_len (v : Nat) : (cap60 v).length ≤ 60 := by
  unfold cap60
  split
  · rw [nd_length]; assumption
  · simp
theorem binL_len {F : Nat → Nat → List Int} (h : ∀ a b, ln a ≤ 60 → ln b ≤ 60 → (F a b).length ≤ 60) (l m : List Int) : (binL F l m).length ≤ 60 := by
  unfold binL
  split
  · rename_i hk
    rw [Bool.and_eq_true] at hk
    obtain ⟨a, rfl, ha⟩ := ok_nd hk.1
    obtain ⟨b, rfl, hb⟩ := ok_nd hk.2
    rw [val_nd, val_nd]
    exact h a b ha hb
  · simp
theorem subF_len (a b : Nat) (h : ln a ≤ 60) : (subF a b).length ≤ 60 := by
  unfold subF
  split
  · rw [nd_length]
    have := ln_mono (show a - b ≤ a by omega)
    omega
  · simp

section
variable (l m : List Int) (A D : Option Addr) (n c n' d : Nat) (w : World)

theorem impl_addL (hl : l.length = n) (hm : m.length = n') (hn : n ≤ 9223372036854775807) (hn' : n' ≤ 9223372036854775807) (hA : RdS w A (vi l)) (hD : RdS w D (vi m)) :
    Calls Tryd.prog 11 #[.slice A n c, .slice D n' d] w (MadeI w.heap.size (binL addF l m) w) := by
  by_cases h : (ok l && ok m) = true
  · have hc : binL addF l m = addF (val l) (val m) := by unfold binL; rw [h]; rfl
    rw [Bool.and_eq_true] at h
    obtain ⟨a, rfl, ha⟩ := ok_nd h.1
    obtain ⟨b, rfl, hb⟩ := ok_nd h.2
    rw [val_nd, val_nd] at hc
    rw [hc]
    rw [nd_length] at hl hm
    exact impl_add a b A D n c n' d w hl hm (by omega) (by omega) hA hD
  · have h' : (ok l && ok m) = false := by simpa using h
    have H1 := are_any l m A D n c n' d w hl hm hn hn' hA hD
    rw [h'] at H1
    have hc : binL addF l m = [] := by unfold binL; rw [h']; rfl
    rw [hc]
    clear h h' hl hm hc
    go_enter Tryd.func11, Tryd.ntmps11
    go_wp2_with fail
    refine H1.mono ?_
    rintro e w1 ⟨rfl, rfl⟩
    go_wp2
    go_ret
    exact MadeI.nil _ _

theorem impl_mulL (hl : l.length = n) (hm : m.length = n') (hn : n ≤ 9223372036854775807) (hn' : n' ≤ 9223372036854775807) (hA : RdS w A (vi l)) (hD : RdS w D (vi m)) :
    Calls Tryd.prog 12 #[.slice A n c, .slice D n' d] w (MadeI w.heap.size (binL mulF l m) w) := by
  by_cases h : (ok l && ok m) = true
  · have hc : binL mulF l m = mulF (val l) (val m) := by unfold binL; rw [h]; rfl
    rw [Bool.and_eq_true] at h
    obtain ⟨a, rfl, ha⟩ := ok_nd h.1
    obtain ⟨b, rfl, hb⟩ := ok_nd h.2
    rw [val_nd, val_nd] at hc
    rw [hc]
    rw [nd_length] at hl hm
    exact impl_mul a b A D n c n' d w hl hm (by omega) (by omega) hA hD
  · have h' : (ok l && ok m) = false := by simpa using h
    have H1 := are_any l m A D n c n' d w hl hm hn hn' hA hD
    rw [h'] at H1
    have hc : binL mulF l m = [] := by unfold binL; rw [h']; rfl
    rw [hc]
    clear h h' hl hm hc
    go_enter Tryd.func12, Tryd.ntmps12
    go_wp2_with fail
    refine H1.mono ?_
    rintro e w1 ⟨rfl, rfl⟩
    go_wp2
    go_ret
    exact MadeI.nil _ _

end
end Go.Proofs.YtnejpdlikdgnnaaDoor

