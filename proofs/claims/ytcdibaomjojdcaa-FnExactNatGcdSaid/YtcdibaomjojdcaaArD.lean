/-
  'NatAdd', 'NatSub', 'NatMul' at whatever lists: the model and the program answer alike.
-/
import Derived.Test.YtcdibaomjojdcaaArC
namespace Go.Proofs.Ytcdibaomjojdcaa
open Go.ChangeShapes Go.WideShapes Go.ChangeAt Go.RowKit
open Go.ChangeMaps (open_string shut_string)
set_option linter.unusedVariables false
set_option linter.unusedSimpArgs false

/-- What an operation on two lists answers. -/
def binL (F : Nat → Nat → List Int) (l m : List Int) : List Int := if ok l && ok m then F (val l) (val m) else []
def addF (a b : Nat) : List Int := cap60 (a + b)
def subF (a b : Nat) : List Int := if b ≤ a then nd (a - b) else []
def mulF (a b : Nat) : List Int := cap60 (a * b)
theorem cap60_len (v : Nat) : (cap60 v).length ≤ 60 := by
  unfold cap60
  split
  · rw [nd_length]; assumption
  · simp
theorem binL_len {F : Nat → Nat → List Int} (h : ∀ a b, ln a ≤ 60 → ln b ≤ 60 → (F a b).length ≤ 60) (l m : List Int) : (binL F l m).length ≤ 60 := by
  unfold binL
  split
  · rename_i hk
    rw [Bool.and_eq_true] at hk
    obtain ⟨a, rfl, ha⟩ := ok_nd hk.1
    obtain ⟨b, rfl, hb⟩ := ok_nd hk.2
    rw [val_nd, val_nd]
    exact h a b ha hb
  · simp
theorem subF_len (a b : Nat) (h : ln a ≤ 60) : (subF a b).length ≤ 60 := by
  unfold subF
  split
  · rw [nd_length]
    have := ln_mono (show a - b ≤ a by omega)
    omega
  · simp

section
variable (l m : List Int) (A D : Option Addr) (n c n' d : Nat) (w : World)

set_option maxHeartbeats 800000 in
theorem spec_add (hl : l.length = n) (hm : m.length = n') (hn : n ≤ 9223372036854775807) (hn' : n' ≤ 9223372036854775807) (hA : RdS w A (vi l)) (hD : RdS w D (vi m)) :
    Calls Try.prog 24 #[.slice A n c, .slice D n' d] w (MadeI w.heap.size (binL addF l m) w) := by
  have H1 := spec_ok l A n c w hl hn hA
  have H2 := spec_ok m D n' d w hm hn' hD
  by_cases h1 : ok l = true
  · by_cases h2 : ok m = true
    · rw [h1] at H1
      rw [h2] at H2
      have hc : binL addF l m = addF (val l) (val m) := by unfold binL; rw [h1, h2]; rfl
      obtain ⟨a, rfl, ha⟩ := ok_nd h1
      obtain ⟨b, rfl, hb⟩ := ok_nd h2
      rw [val_nd, val_nd] at hc
      rw [hc]
      rw [nd_length] at hl hm
      clear h1 h2 hc
      have H3 := Lib.hid (spec_l02Add a b A D n c n' d w hl hm (by omega) (by omega) hA hD)
      show Calls _ _ _ _ (MadeI w.heap.size (cap60 (a + b)) w)
      clear hl hm
      go_enter Try.func24, Try.ntmps24
      go_wp2_with fail
      refine H1.mono ?_
      rintro e w1 ⟨rfl, rfl⟩
      go_wp2_with fail
      refine H2.mono ?_
      rintro e w1 ⟨rfl, rfl⟩
      go_wp2_with fail
      refine H3.out.mono ?_
      rintro e w1 ⟨A', c', K, rfl, hc', hm', hK, hT, ho, hb1⟩
      go_wp2_with fail
      refine (cap_any w.heap.size K c' (a + b) A' w1 ho hT hc' hK).mono ?_
      intro e w2 hmd
      obtain ⟨A2, c2, rfl, hc2, ho2, hb2⟩ := hmd.after hb1
      go_wp2
      go_ret
      exact ⟨A2, c2, rfl, hc2, ho2, hb2⟩
    · have h2' : ok m = false := by simpa using h2
      rw [h1] at H1
      rw [h2'] at H2
      have hc : binL addF l m = [] := by unfold binL; rw [h1, h2']; rfl
      rw [hc]
      clear h1 h2 h2' hl hm hc
      go_enter Try.func24, Try.ntmps24
      go_wp2_with fail
      refine H1.mono ?_
      rintro e w1 ⟨rfl, rfl⟩
      go_wp2_with fail
      refine H2.mono ?_
      rintro e w1 ⟨rfl, rfl⟩
      go_wp2
      go_ret
      exact MadeI.nil _ _
  · have h1' : ok l = false := by simpa using h1
    rw [h1'] at H1
    have hc : binL addF l m = [] := by unfold binL; rw [h1']; rfl
    rw [hc]
    clear h1 h1' hl hm hc
    go_enter Try.func24, Try.ntmps24
    go_wp2_with fail
    refine H1.mono ?_
    rintro e w1 ⟨rfl, rfl⟩
    go_wp2
    go_ret
    exact MadeI.nil _ _

set_option maxHeartbeats 800000 in
theorem spec_sub (hl : l.length = n) (hm : m.length = n') (hn : n ≤ 9223372036854775807) (hn' : n' ≤ 9223372036854775807) (hA : RdS w A (vi l)) (hD : RdS w D (vi m)) :
    Calls Try.prog 26 #[.slice A n c, .slice D n' d] w (MadeI w.heap.size (binL subF l m) w) := by
  have H1 := spec_ok l A n c w hl hn hA
  have H2 := spec_ok m D n' d w hm hn' hD
  by_cases h1 : ok l = true
  · by_cases h2 : ok m = true
    · rw [h1] at H1
      rw [h2] at H2
      have hc : binL subF l m = subF (val l) (val m) := by unfold binL; rw [h1, h2]; rfl
      obtain ⟨a, rfl, ha⟩ := ok_nd h1
      obtain ⟨b, rfl, hb⟩ := ok_nd h2
      rw [val_nd, val_nd] at hc
      rw [hc]
      rw [nd_length] at hl hm
      clear h1 h2 hc
      have HC := Lib.hid (spec_cmp a b A D n c n' d w hl hm (by omega) (by omega) hA hD)
      by_cases hba : b ≤ a
      · have hcm : 0 ≤ cmpN a b := by
          rcases Nat.lt_or_ge b a with h | h
          · rw [cmpN_gt h]; decide
          · rw [cmpN_eq (by omega)]; decide
        have H3 := fun W hR hR' => Lib.hid (spec_l02Sub a b A D n c n' d W hl hm hba (by omega) (by omega) hR hR')
        show Calls _ _ _ _ (MadeI w.heap.size (if b ≤ a then nd (a - b) else []) w)
        rw [if_pos hba]
        clear hl hm hba
        generalize cmpN a b = r at HC hcm
        go_enter Try.func26, Try.ntmps26
        go_wp2_with fail
        refine H1.mono ?_
        rintro e w1 ⟨rfl, rfl⟩
        go_wp2_with fail
        refine H2.mono ?_
        rintro e w1 ⟨rfl, rfl⟩
        go_wp2_with fail
        refine HC.out.mono ?_
        rintro e w1 ⟨rfl, hb1⟩
        go_wp2_with fail
        refine (H3 w1 (hA.below hb1) (hD.below hb1)).out.mono ?_
        intro e w2 hmd
        obtain ⟨A2, c2, rfl, hc2, ho2, hb2⟩ := hmd.after hb1
        go_wp2
        go_ret
        exact ⟨A2, c2, rfl, hc2, ho2.more hb1.size, hb2⟩
      · have hcm : cmpN a b = -1 := cmpN_lt (by omega)
        rw [hcm] at HC
        show Calls _ _ _ _ (MadeI w.heap.size (if b ≤ a then nd (a - b) else []) w)
        rw [if_neg hba]
        clear hl hm hba hcm
        go_enter Try.func26, Try.ntmps26
        go_wp2_with fail
        refine H1.mono ?_
        rintro e w1 ⟨rfl, rfl⟩
        go_wp2_with fail
        refine H2.mono ?_
        rintro e w1 ⟨rfl, rfl⟩
        go_wp2_with fail
        refine HC.out.mono ?_
        rintro e w1 ⟨rfl, hb1⟩
        go_wp2
        go_ret
        exact (MadeI.nil _ _).after hb1
    · have h2' : ok m = false := by simpa using h2
      rw [h1] at H1
      rw [h2'] at H2
      have hc : binL subF l m = [] := by unfold binL; rw [h1, h2']; rfl
      rw [hc]
      clear h1 h2 h2' hl hm hc
      go_enter Try.func26, Try.ntmps26
      go_wp2_with fail
      refine H1.mono ?_
      rintro e w1 ⟨rfl, rfl⟩
      go_wp2_with fail
      refine H2.mono ?_
      rintro e w1 ⟨rfl, rfl⟩
      go_wp2
      go_ret
      exact MadeI.nil _ _
  · have h1' : ok l = false := by simpa using h1
    rw [h1'] at H1
    have hc : binL subF l m = [] := by unfold binL; rw [h1']; rfl
    rw [hc]
    clear h1 h1' hl hm hc
    go_enter Try.func26, Try.ntmps26
    go_wp2_with fail
    refine H1.mono ?_
    rintro e w1 ⟨rfl, rfl⟩
    go_wp2
    go_ret
    exact MadeI.nil _ _

set_option maxHeartbeats 800000 in
theorem spec_mul (hl : l.length = n) (hm : m.length = n') (hn : n ≤ 9223372036854775807) (hn' : n' ≤ 9223372036854775807) (hA : RdS w A (vi l)) (hD : RdS w D (vi m)) :
    Calls Try.prog 28 #[.slice A n c, .slice D n' d] w (MadeI w.heap.size (binL mulF l m) w) := by
  have H1 := spec_ok l A n c w hl hn hA
  have H2 := spec_ok m D n' d w hm hn' hD
  by_cases h1 : ok l = true
  · by_cases h2 : ok m = true
    · rw [h1] at H1
      rw [h2] at H2
      have hc : binL mulF l m = mulF (val l) (val m) := by unfold binL; rw [h1, h2]; rfl
      obtain ⟨a, rfl, ha⟩ := ok_nd h1
      obtain ⟨b, rfl, hb⟩ := ok_nd h2
      rw [val_nd, val_nd] at hc
      rw [hc]
      rw [nd_length] at hl hm
      clear h1 h2 hc
      have H3 := Lib.hid (spec_l02Mul a b A D n c n' d w hl hm (by omega) (by omega) hA hD)
      show Calls _ _ _ _ (MadeI w.heap.size (cap60 (a * b)) w)
      have H4 := Lib.hid (show ln (a * b) ≤ 120 by have := mul_len hl hm; omega)
      clear hl hm
      go_enter Try.func28, Try.ntmps28
      go_wp2_with fail
      refine H1.mono ?_
      rintro e w1 ⟨rfl, rfl⟩
      go_wp2_with fail
      refine H2.mono ?_
      rintro e w1 ⟨rfl, rfl⟩
      go_wp2_with fail
      refine H3.out.mono ?_
      rintro e w1 ⟨A', c', rfl, hc', ho, hb1⟩
      have hl1 := nd_length (a * b)
      have ho' : OwnS w.heap.size w1 A' (vi (row (nd (a * b)).length ((a * b : Nat) : Int))) := by rw [hl1]; exact ho
      have hK := H4.out
      have HK : Hid (ln (a * b) ≤ (nd (a * b)).length ∧ (nd (a * b)).length ≤ 1048576) := Lib.hid ⟨by omega, by omega⟩
      clear hl1 hK ho
      generalize (nd (a * b)).length = K at HK ho' hc'
      go_wp2_with fail
      refine (cap_any w.heap.size K c' (a * b) A' w1 ho' HK.out.1 hc' HK.out.2).mono ?_
      intro e w2 hmd
      obtain ⟨A2, c2, rfl, hc2, ho2, hb2⟩ := hmd.after hb1
      go_wp2
      go_ret
      exact ⟨A2, c2, rfl, hc2, ho2, hb2⟩
    · have h2' : ok m = false := by simpa using h2
      rw [h1] at H1
      rw [h2'] at H2
      have hc : binL mulF l m = [] := by unfold binL; rw [h1, h2']; rfl
      rw [hc]
      clear h1 h2 h2' hl hm hc
      go_enter Try.func28, Try.ntmps28
      go_wp2_with fail
      refine H1.mono ?_
      rintro e w1 ⟨rfl, rfl⟩
      go_wp2_with fail
      refine H2.mono ?_
      rintro e w1 ⟨rfl, rfl⟩
      go_wp2
      go_ret
      exact MadeI.nil _ _
  · have h1' : ok l = false := by simpa using h1
    rw [h1'] at H1
    have hc : binL mulF l m = [] := by unfold binL; rw [h1']; rfl
    rw [hc]
    clear h1 h1' hl hm hc
    go_enter Try.func28, Try.ntmps28
    go_wp2_with fail
    refine H1.mono ?_
    rintro e w1 ⟨rfl, rfl⟩
    go_wp2
    go_ret
    exact MadeI.nil _ _


theorem impl_addL (hl : l.length = n) (hm : m.length = n') (hn : n ≤ 9223372036854775807) (hn' : n' ≤ 9223372036854775807) (hA : RdS w A (vi l)) (hD : RdS w D (vi m)) :
    Calls Try.prog 25 #[.slice A n c, .slice D n' d] w (MadeI w.heap.size (binL addF l m) w) := by
  by_cases h : (ok l && ok m) = true
  · have hc : binL addF l m = addF (val l) (val m) := by unfold binL; rw [h]; rfl
    rw [Bool.and_eq_true] at h
    obtain ⟨a, rfl, ha⟩ := ok_nd h.1
    obtain ⟨b, rfl, hb⟩ := ok_nd h.2
    rw [val_nd, val_nd] at hc
    rw [hc]
    rw [nd_length] at hl hm
    exact impl_add a b A D n c n' d w hl hm (by omega) (by omega) hA hD
  · have h' : (ok l && ok m) = false := by simpa using h
    have H1 := are_any l m A D n c n' d w hl hm hn hn' hA hD
    rw [h'] at H1
    have hc : binL addF l m = [] := by unfold binL; rw [h']; rfl
    rw [hc]
    clear h h' hl hm hc
    go_enter Try.func25, Try.ntmps25
    go_wp2_with fail
    refine H1.mono ?_
    rintro e w1 ⟨rfl, rfl⟩
    go_wp2
    go_ret
    exact MadeI.nil _ _

theorem impl_subL (hl : l.length = n) (hm : m.length = n') (hn : n ≤ 9223372036854775807) (hn' : n' ≤ 9223372036854775807) (hA : RdS w A (vi l)) (hD : RdS w D (vi m)) :
    Calls Try.prog 27 #[.slice A n c, .slice D n' d] w (MadeI w.heap.size (binL subF l m) w) := by
  by_cases h : (ok l && ok m) = true
  · have hc : binL subF l m = subF (val l) (val m) := by unfold binL; rw [h]; rfl
    rw [Bool.and_eq_true] at h
    obtain ⟨a, rfl, ha⟩ := ok_nd h.1
    obtain ⟨b, rfl, hb⟩ := ok_nd h.2
    rw [val_nd, val_nd] at hc
    rw [hc]
    rw [nd_length] at hl hm
    exact impl_sub a b A D n c n' d w hl hm (by omega) (by omega) hA hD
  · have h' : (ok l && ok m) = false := by simpa using h
    have H1 := are_any l m A D n c n' d w hl hm hn hn' hA hD
    rw [h'] at H1
    have hc : binL subF l m = [] := by unfold binL; rw [h']; rfl
    rw [hc]
    clear h h' hl hm hc
    go_enter Try.func27, Try.ntmps27
    go_wp2_with fail
    refine H1.mono ?_
    rintro e w1 ⟨rfl, rfl⟩
    go_wp2
    go_ret
    exact MadeI.nil _ _

theorem impl_mulL (hl : l.length = n) (hm : m.length = n') (hn : n ≤ 9223372036854775807) (hn' : n' ≤ 9223372036854775807) (hA : RdS w A (vi l)) (hD : RdS w D (vi m)) :
    Calls Try.prog 29 #[.slice A n c, .slice D n' d] w (MadeI w.heap.size (binL mulF l m) w) := by
  by_cases h : (ok l && ok m) = true
  · have hc : binL mulF l m = mulF (val l) (val m) := by unfold binL; rw [h]; rfl
    rw [Bool.and_eq_true] at h
    obtain ⟨a, rfl, ha⟩ := ok_nd h.1
    obtain ⟨b, rfl, hb⟩ := ok_nd h.2
    rw [val_nd, val_nd] at hc
    rw [hc]
    rw [nd_length] at hl hm
    exact impl_mul a b A D n c n' d w hl hm (by omega) (by omega) hA hD
  · have h' : (ok l && ok m) = false := by simpa using h
    have H1 := are_any l m A D n c n' d w hl hm hn hn' hA hD
    rw [h'] at H1
    have hc : binL mulF l m = [] := by unfold binL; rw [h']; rfl
    rw [hc]
    clear h h' hl hm hc
    go_enter Try.func29, Try.ntmps29
    go_wp2_with fail
    refine H1.mono ?_
    rintro e w1 ⟨rfl, rfl⟩
    go_wp2
    go_ret
    exact MadeI.nil _ _

end
end Go.Proofs.Ytcdibaomjojdcaa
