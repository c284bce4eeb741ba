/-
  'NatGcd' of the model and of the program, for every two lists of ints.
-/
import Derived.Test.YtnejpdlikdgnnaaDoorGcdI
import Derived.Test.YtnejpdlikdgnnaaDoorArD
namespace Go.Proofs.YtnejpdlikdgnnaaDoor
open Go.ChangeShapes Go.WideShapes Go.ChangeAt Go.RowKit
open Go.ChangeMaps (open_string shut_string)
set_option linter.unusedVariables false
set_option linter.unusedSimpArgs false

def gcdF (a b : Nat) : List Int := nd (Nat.gcd a b)
theorem gcdF_len (a b : Nat) (ha : ln a ≤ 60) (hb : ln b ≤ 60) : (gcdF a b).length ≤ 60 := by
  unfold gcdF
  rw [nd_length]
  rcases Nat.eq_zero_or_pos a with h | h
  · subst h
    rw [Nat.gcd_zero_left]
    exact hb
  · have := ln_mono (Nat.gcd_le_left b h)
    omega
theorem MadeN.nil (B : Nat) (w : World) : MadeN B [] w (.returned (.slice none 0 0)) w := ⟨none, 0, rfl, .inl rfl, Below.refl _ _⟩

section
variable (l m : List Int) (A D : Option Addr) (ad bd : Addr) (n c n' d : Nat) (w : World)

theorem impl_gcdL (hl : l.length = n) (hm : m.length = n') (hn : n ≤ 9223372036854775807) (hn' : n' ≤ 9223372036854775807) (hA : RdS w A (vi l)) (hD : RdS w D (vi m)) :
    Calls Tryd.prog 13 #[.slice A n c, .slice D n' d] w (MadeN w.heap.size (binL gcdF l m) w) := by
  by_cases h : (ok l && ok m) = true
  · have hc : binL gcdF l m = gcdF (val l) (val m) := by unfold binL; rw [h]; rfl
    rw [Bool.and_eq_true] at h
    obtain ⟨a, rfl, ha⟩ := ok_nd h.1
    obtain ⟨b, rfl, hb⟩ := ok_nd h.2
    rw [val_nd, val_nd] at hc
    rw [hc]
    rw [nd_length] at hl hm
    exact impl_gcd a b A D n c n' d w hl hm (by omega) (by omega) hA hD
  · have h' : (ok l && ok m) = false := by simpa using h
    have H1 := are_any l m A D n c n' d w hl hm hn hn' hA hD
    rw [h'] at H1
    have hc : binL gcdF l m = [] := by unfold binL; rw [h']; rfl
    rw [hc]
    clear h h' hl hm hc
    go_enter Tryd.func13, Tryd.ntmps13
    go_wp2_with fail
    refine H1.mono ?_
    rintro e w1 ⟨rfl, rfl⟩
    go_wp2
    go_ret
    exact MadeN.nil _ _

end
end Go.Proofs.YtnejpdlikdgnnaaDoor
