/-
  'NatAdd', 'NatSub', 'NatMul' at whatever lists: the model and the program answer alike.
-/
import Derived.Test.YtnejpdlikdgnnaaArC
namespace Go.Proofs.Ytnejpdlikdgnnaa
open Go.ChangeShapes Go.WideShapes Go.ChangeAt Go.RowKit
open Go.ChangeMaps (open_string shut_string)
set_option linter.unusedVariables false
set_option linter.unusedSimpArgs false

/-- What an operation on two lists answers. -/
def binL (F : Nat → Nat → List Int) (l m : List Int) : List Int := if ok l && ok m then F (val l) (val m) else []
def addF (a b : Nat) : List Int := cap60 (a + b)
def subF (a b : Nat) : List Int := if b ≤ a then nd (a - b) else []
def mulF (a b : Nat) : List Int := cap60 (a * b)
theorem cap60_len (v : Nat) : (cap60 v).length ≤ 60 := by
  unfold cap60
  split
  · rw [nd_length]; assumption
  · simp
theorem binL_len {F : Nat → Nat → List Int} (h : ∀ a b, ln a ≤ 60 → ln b ≤ 60 → (F a b).length ≤ 60) (l m : List Int) : (binL F l m).length ≤ 60 := by
  unfold binL
  split
  · rename_i hk
    rw [Bool.and_eq_true] at hk
    obtain ⟨a, rfl, ha⟩ := ok_nd hk.1
    obtain ⟨b, rfl, hb⟩ := ok_nd hk.2
    rw [val_nd, val_nd]
    exact h a b ha hb
  · simp
theorem subF_len (a b : Nat) (h : ln a ≤ 60) : (subF a b).length ≤ 60 := by
  unfold subF
  split
  · rw [nd_length]
    have := ln_mono (show a - b ≤ a by omega)
    omega
  · simp

section
variable (l m : List Int) (A D : Option Addr) (n c n' d : Nat) (w : World)

theorem impl_addL (hl : l.length = n) (hm : m.length = n') (hn : n ≤ 9223372036854775807) (hn' : n' ≤ 9223372036854775807) (hA : RdS w A (vi l)) (hD : RdS w D (vi m)) :
    Calls Try.prog 64 #[.slice A n c, .slice D n' d] w (MadeI w.heap.size (binL addF l m) w) := by
  by_cases h : (ok l && ok m) = true
  · have hc : binL addF l m = addF (val l) (val m) := by unfold binL; rw [h]; rfl
    rw [Bool.and_eq_true] at h
    obtain ⟨a, rfl, ha⟩ := ok_nd h.1
    obtain ⟨b, rfl, hb⟩ := ok_nd h.2
    rw [val_nd, val_nd] at hc
    rw [hc]
    rw [nd_length] at hl hm
    exact impl_add a b A D n c n' d w hl hm (by omega) (by omega) hA hD
  · have h' : (ok l && ok m) = false := by simpa using h
    have H1 := are_any l m A D n c n' d w hl hm hn hn' hA hD
    rw [h'] at H1
    have hc : binL addF l m = [] := by unfold binL; rw [h']; rfl
    rw [hc]
    clear h h' hl hm hc
    go_enter Try.func64, Try.ntmps64
    go_wp2_with fail
    refine H1.mono ?_
    rintro e w1 ⟨rfl, rfl⟩
    go_wp2
    go_ret
    exact MadeI.nil _ _

theorem impl_subL (hl : l.length = n) (hm : m.length = n') (hn : n ≤ 9223372036854775807) (hn' : n' ≤ 9223372036854775807) (hA : RdS w A (vi l)) (hD : RdS w D (vi m)) :
    Calls Try.prog 65 #[.slice A n c, .slice D n' d] w (MadeI w.heap.size (binL subF l m) w) := by
  by_cases h : (ok l && ok m) = true
  · have hc : binL subF l m = subF (val l) (val m) := by unfold binL; rw [h]; rfl
    rw [Bool.and_eq_true] at h
    obtain ⟨a, rfl, ha⟩ := ok_nd h.1
    obtain ⟨b, rfl, hb⟩ := ok_nd h.2
    rw [val_nd, val_nd] at hc
    rw [hc]
    rw [nd_length] at hl hm
    exact impl_sub a b A D n c n' d w hl hm (by omega) (by omega) hA hD
  · have h' : (ok l && ok m) = false := by simpa using h
    have H1 := are_any l m A D n c n' d w hl hm hn hn' hA hD
    rw [h'] at H1
    have hc : binL subF l m = [] := by unfold binL; rw [h']; rfl
    rw [hc]
    clear h h' hl hm hc
    go_enter Try.func65, Try.ntmps65
    go_wp2_with fail
    refine H1.mono ?_
    rintro e w1 ⟨rfl, rfl⟩
    go_wp2
    go_ret
    exact MadeI.nil _ _

theorem impl_mulL (hl : l.length = n) (hm : m.length = n') (hn : n ≤ 9223372036854775807) (hn' : n' ≤ 9223372036854775807) (hA : RdS w A (vi l)) (hD : RdS w D (vi m)) :
    Calls Try.prog 80 #[.slice A n c, .slice D n' d] w (MadeI w.heap.size (binL mulF l m) w) := by
  by_cases h : (ok l && ok m) = true
  · have hc : binL mulF l m = mulF (val l) (val m) := by unfold binL; rw [h]; rfl
    rw [Bool.and_eq_true] at h
    obtain ⟨a, rfl, ha⟩ := ok_nd h.1
    obtain ⟨b, rfl, hb⟩ := ok_nd h.2
    rw [val_nd, val_nd] at hc
    rw [hc]
    rw [nd_length] at hl hm
    exact impl_mul a b A D n c n' d w hl hm (by omega) (by omega) hA hD
  · have h' : (ok l && ok m) = false := by simpa using h
    have H1 := are_any l m A D n c n' d w hl hm hn hn' hA hD
    rw [h'] at H1
    have hc : binL mulF l m = [] := by unfold binL; rw [h']; rfl
    rw [hc]
    clear h h' hl hm hc
    go_enter Try.func80, Try.ntmps80
    go_wp2_with fail
    refine H1.mono ?_
    rintro e w1 ⟨rfl, rfl⟩
    go_wp2
    go_ret
    exact MadeI.nil _ _

end
end Go.Proofs.Ytnejpdlikdgnnaa
