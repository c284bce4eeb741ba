/-
  'NatGcd' of the model and of the program, for every two lists of ints.
-/
import Derived.Test.YtcdibaomjojdcaaGcdI
import Derived.Test.YtcdibaomjojdcaaArD
namespace Go.Proofs.Ytcdibaomjojdcaa
open Go.ChangeShapes Go.WideShapes Go.ChangeAt Go.RowKit
open Go.ChangeMaps (open_string shut_string)
set_option linter.unusedVariables false
set_option linter.unusedSimpArgs false

def gcdF (a b : Nat) : List Int := nd (Nat.gcd a b)
theorem gcdF_len (a b : Nat) (ha : ln a ≤ 60) (hb : ln b ≤ 60) : (gcdF a b).length ≤ 60 := by
  unfold gcdF
  rw [nd_length]
  rcases Nat.eq_zero_or_pos a with h | h
  · subst h
    rw [Nat.gcd_zero_left]
    exact hb
  · have := ln_mono (Nat.gcd_le_left b h)
    omega
theorem MadeN.nil (B : Nat) (w : World) : MadeN B [] w (.returned (.slice none 0 0)) w := ⟨none, 0, rfl, .inl rfl, Below.refl _ _⟩

section
variable (l m : List Int) (A D : Option Addr) (ad bd : Addr) (n c n' d : Nat) (w : World)

theorem impl_gcdL (hl : l.length = n) (hm : m.length = n') (hn : n ≤ 9223372036854775807) (hn' : n' ≤ 9223372036854775807) (hA : RdS w A (vi l)) (hD : RdS w D (vi m)) :
    Calls Try.prog 33 #[.slice A n c, .slice D n' d] w (MadeN w.heap.size (binL gcdF l m) w) := by
  by_cases h : (ok l && ok m) = true
  · have hc : binL gcdF l m = gcdF (val l) (val m) := by unfold binL; rw [h]; rfl
    rw [Bool.and_eq_true] at h
    obtain ⟨a, rfl, ha⟩ := ok_nd h.1
    obtain ⟨b, rfl, hb⟩ := ok_nd h.2
    rw [val_nd, val_nd] at hc
    rw [hc]
    rw [nd_length] at hl hm
    exact impl_gcd a b A D n c n' d w hl hm (by omega) (by omega) hA hD
  · have h' : (ok l && ok m) = false := by simpa using h
    have H1 := are_any l m A D n c n' d w hl hm hn hn' hA hD
    rw [h'] at H1
    have hc : binL gcdF l m = [] := by unfold binL; rw [h']; rfl
    rw [hc]
    clear h h' hl hm hc
    go_enter Try.func33, Try.ntmps33
    go_wp2_with fail
    refine H1.mono ?_
    rintro e w1 ⟨rfl, rfl⟩
    go_wp2
    go_ret
    exact MadeN.nil _ _

set_option maxHeartbeats 500000 in
theorem spec_gcdL (hl : l.length = n) (hm : m.length = n') (hn : n ≤ 9223372036854775807) (hn' : n' ≤ 9223372036854775807) (hA : RdS w (some ad) (vi l)) (hD : RdS w (some bd) (vi m)) :
    Calls Try.prog 32 #[.slice (some ad) n c, .slice (some bd) n' d] w (MadeN w.heap.size (binL gcdF l m) w) := by
  have H1 := spec_ok l (some ad) n c w hl hn hA
  have H2 := spec_ok m (some bd) n' d w hm hn' hD
  by_cases h1 : ok l = true
  · by_cases h2 : ok m = true
    · rw [h1] at H1
      rw [h2] at H2
      have hc : binL gcdF l m = gcdF (val l) (val m) := by unfold binL; rw [h1, h2]; rfl
      obtain ⟨a, rfl, ha⟩ := ok_nd h1
      obtain ⟨b, rfl, hb⟩ := ok_nd h2
      rw [val_nd, val_nd] at hc
      rw [hc]
      rw [nd_length] at hl hm
      clear h1 h2 hc
      have H3 := Lib.hid (spec_gcd a b ad bd n c n' d w hl hm (by omega) (by omega) hA hD)
      show Calls _ _ _ _ (MadeN w.heap.size (nd (Nat.gcd a b)) w)
      clear hl hm
      generalize nd (Nat.gcd a b) = L at H3
      go_enter Try.func32, Try.ntmps32
      go_wp2_with fail
      refine H1.mono ?_
      rintro e w1 ⟨rfl, rfl⟩
      go_wp2_with fail
      refine H2.mono ?_
      rintro e w1 ⟨rfl, rfl⟩
      go_wp2_with fail
      refine H3.out.mono ?_
      rintro e w1 ⟨A', c', rfl, ho, hb1⟩
      go_wp2_with fail
      go_ret
      exact ⟨A', c', rfl, ho, hb1⟩
    · have h2' : ok m = false := by simpa using h2
      rw [h1] at H1
      rw [h2'] at H2
      have hc : binL gcdF l m = [] := by unfold binL; rw [h1, h2']; rfl
      rw [hc]
      clear h1 h2 h2' hl hm hc
      go_enter Try.func32, Try.ntmps32
      go_wp2_with fail
      refine H1.mono ?_
      rintro e w1 ⟨rfl, rfl⟩
      go_wp2_with fail
      refine H2.mono ?_
      rintro e w1 ⟨rfl, rfl⟩
      go_wp2
      go_ret
      exact MadeN.nil _ _
  · have h1' : ok l = false := by simpa using h1
    rw [h1'] at H1
    have hc : binL gcdF l m = [] := by unfold binL; rw [h1']; rfl
    rw [hc]
    clear h1 h1' hl hm hc H2
    go_enter Try.func32, Try.ntmps32
    go_wp2_with fail
    refine H1.mono ?_
    rintro e w1 ⟨rfl, rfl⟩
    go_wp2
    go_ret
    exact MadeN.nil _ _

theorem spec_gcdS (g g' : Nat) (hl : l.length = n) (hm : m.length = n') (hn : n ≤ 9223372036854775807) (hn' : n' ≤ 9223372036854775807) (hA : RdS w (some ⟨g, 0, none⟩) (vi l)) (hD : RdS w (some ⟨g', 0, none⟩) (vi m)) :
    Calls Try.prog 32 #[.slice (some ⟨g, 0, none⟩) n c, .slice (some ⟨g', 0, none⟩) n' d] w (MadeN w.heap.size (binL gcdF l m) w) :=
  spec_gcdL l m ⟨g, 0, none⟩ ⟨g', 0, none⟩ n c n' d w hl hm hn hn' hA hD
end
end Go.Proofs.Ytcdibaomjojdcaa
