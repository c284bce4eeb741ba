/-
  'ParseNat' at every text: the model and the program answer alike; the exact law.
-/
import Derived.Test.YtdgfbnnohnaoaaaGreatDoorPNatI
namespace Go.Proofs.YtdgfbnnohnaoaaaGreatDoor
open Go.ChangeShapes Go.WideShapes Go.ChangeAt Go.RowKit
open Go.ChangeMaps (open_string shut_string)
set_option linter.unusedVariables false
set_option linter.unusedSimpArgs false
set_option maxRecDepth 4000

theorem prs_no {s : ByteArray} (h : okS s = false) : prsL s = [] := by unfold prsL; rw [h]; rfl
theorem prs_yes {s : ByteArray} (h : okS s = true) : prsL s = nd (Num.val s.data.toList) := by unfold prsL; rw [h]; rfl
theorem okS_dig {s : ByteArray} (h : digs s = false) : okS s = false := by unfold okS; rw [h]; rfl
theorem okS_long {s : ByteArray} (h : 540 < s.size) : okS s = false := by
  unfold okS; rw [decide_eq_false (by omega : ¬ s.size ≤ 540), Bool.and_false, Bool.false_and]
theorem okS_zero {s : ByteArray} (h1 : 1 < s.size) (h : s.data.toList.getD 0 0 = 48) : okS s = false := by
  unfold okS; rw [decide_eq_false (by omega : ¬ s.size ≤ 1), h]; simp
theorem okS_yes {s : ByteArray} (h0 : digs s = true) (h1 : s.size ≤ 540) (h2 : s.size ≤ 1 ∨ ¬ s.data.toList.getD 0 0 = 48) : okS s = true := by
  unfold okS
  rw [h0, decide_eq_true h1]
  rcases h2 with h2 | h2
  · rw [decide_eq_true h2]; rfl
  · rw [decide_eq_true h2, Bool.or_true]; rfl
theorem one_zero {s : ByteArray} (h1 : s.size = 1) (h : s.data.toList.getD 0 0 = 48) : s = ⟨#[48]⟩ := by
  obtain ⟨⟨l⟩⟩ := s
  have hl : l.length = 1 := h1
  obtain ⟨x, rfl⟩ := List.length_eq_one_iff.1 hl
  obtain rfl : x = 48 := h
  rfl
theorem first48 {s : ByteArray} (hpos : 0 < s.size) (h : s.data.toList.getD 0 0 = 48) : ((s[0]'hpos).toNat : Int) = 48 := by
  rw [getD0 hpos] at h
  rw [h]
  rfl
theorem not_one {s : ByteArray} (h1 : 1 < s.size) : (s.toList == [48]) = false := by
  rw [beq_eq_false_iff_ne]
  intro e
  rw [ByteArray.toList_eq] at e
  have : s.data.toList.length = 1 := by rw [e]; rfl
  rw [size_list] at this
  omega

set_option maxHeartbeats 1000000 in
theorem impl_prs (s : ByteArray) (w : World) (hs : s.size ≤ 1048576) :
    Calls Tryz.prog 50 #[.string s] w (PairN w.heap.size (prsL s) (okS s) w) := by
  have H1 := impl_digits s w (by simp only [maxLen]; omega)
  by_cases hd : digs s = true
  · have hpos := (digs_isdig hd).2
    by_cases h48 : s.data.toList.getD 0 0 = 48
    · by_cases h1 : 1 < s.size
      · have ho := okS_zero h1 h48
        rw [prs_no ho, ho]
        have hf := first48 hpos h48
        have hq := not_one h1
        rw [hd] at H1
        clear hd ho h48
        go_enter Tryz.func50, Tryz.ntmps50
        go_wp2_with fail
        refine H1.mono ?_
        rintro e w1 ⟨rfl, hb1⟩
        go_wp2_with fail
        go_ret2
        exact (PairN.nil _ _).after hb1
      · obtain rfl := one_zero (s := s) (by omega) h48
        have ho : okS ⟨#[48]⟩ = true := by decide
        have hv : Num.val (ByteArray.mk #[48]).data.toList = 0 := by decide
        rw [prs_yes ho, ho, hv, nd_zero]
        exact impl_prs_zero w
    · by_cases h5 : s.size ≤ 540
      · have ho := okS_yes hd h5 (.inr h48)
        rw [prs_yes ho, ho]
        exact impl_prs_main s w hd h5 h48
      · have ho := okS_long (s := s) (by omega)
        rw [prs_no ho, ho]
        have hf : ((((s[0]'hpos).toNat : Nat) : Int) == 48) = false := by
          rw [beq_eq_false_iff_ne]
          intro e
          apply h48
          rw [getD0 hpos]
          exact UInt8.toNat_inj.1 (by rw [show (s[0]'hpos).toNat = 48 by omega]; rfl)
        rw [hd] at H1
        have h5' : (540 : Int) < (s.size : Int) := by omega
        clear hd ho h48
        go_enter Tryz.func50, Tryz.ntmps50
        go_wp2_with fail
        refine H1.mono ?_
        rintro e w1 ⟨rfl, hb1⟩
        go_wp2_with fail
        go_ret2
        exact (PairN.nil _ _).after hb1
  · have hd' : digs s = false := by simpa using hd
    have ho := okS_dig hd'
    rw [prs_no ho, ho]
    rw [hd'] at H1
    clear hd hd' ho
    go_enter Tryz.func50, Tryz.ntmps50
    go_wp2_with fail
    refine H1.mono ?_
    rintro e w1 ⟨rfl, hb1⟩
    go_wp2_with fail
    go_ret2
    exact (PairN.nil _ _).after hb1

theorem prsL_len (s : ByteArray) : (prsL s).length ≤ 60 := by
  unfold prsL
  split
  · rename_i h
    unfold okS at h
    simp only [Bool.and_eq_true, decide_eq_true_eq] at h
    have hd := (digs_isdig h.1.1).1
    rw [nd_length]
    exact val_ln hd (k := 60) (by rw [size_list]; omega)
  · simp

end Go.Proofs.YtdgfbnnohnaoaaaGreatDoor

