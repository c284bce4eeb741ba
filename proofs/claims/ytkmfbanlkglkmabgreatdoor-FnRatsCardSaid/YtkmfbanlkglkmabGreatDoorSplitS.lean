/-
  'SplitAny' of the model.
-/
import Derived.Test.YtkmfbanlkglkmabGreatDoorSplitImpl
namespace Go.Proofs.YtkmfbanlkglkmabGreatDoor
open Go.ChangeShapes Go.WideShapes Go.ChangeAt Go.RowKit
open Go.ChangeMaps (open_string shut_string)
set_option linter.unusedVariables false
set_option linter.unusedSimpArgs false

set_option maxHeartbeats 1600000 in
theorem spec_split (s y : ByteArray) (w : World) (hs : s.size ≤ 1048576) (hy : y.size ≤ 1048576) :
    Calls Tryz.prog 46 #[.string s, .string y] w (Made w.heap.size (vs (splits s y)) w) := by
  have hstart : (w.alloc (.cells #[] 9)).ownsRow w.heap.size 9 1 (.slice (some ⟨w.heap.size, 0, none⟩) 0 0) (pts s y 0).length (vs (pts s y 0)) := World.ownsRow_made w #[] 0 (Nat.le_refl _) (by simp [maxLen]) rfl
  go_enter Tryz.func46, Tryz.ntmps46
  go_wp2
  go_loopw [5, 6, 7] (fun o f i w' => ∃ k : Nat, k ≤ s.size ∧ i = .int .i64 (k : Int) ∧ f = .int .i64 (frm s y k : Int) ∧ w'.ownsRow w.heap.size 9 1 o (pts s y k).length (vs (pts s y k)) ∧ Below w.heap.size w w') (fun _ _ i _ => s.size - (intOf i).toNat)
  case atStart => exact ⟨0, Nat.zero_le _, rfl, rfl, hstart, (Below.refl _ _).alloc (Nat.le_refl _) _⟩
  case round =>
    obtain ⟨k, hk, rfl, rfl, hown, hb⟩ := hrel
    clear hstart
    have hf := frm_le s y k
    have hp := pts_le s y k
    by_cases hlt : k < s.size
    · go_wp2
      obtain ⟨wo, rfl⟩ : ∃ wo : World, wo = wr := ⟨_, rfl⟩
      go_loopw [5, 6, 8] (fun o f i w' => ∃ j : Nat, j ≤ y.size ∧ i = .int .i64 (j : Int) ∧ o = u5 ∧ f = .int .i64 (frm s y k : Int) ∧ NoSep s y k j ∧ w'.ownsRow w.heap.size 9 1 u5 (pts s y k).length (vs (pts s y k)) ∧ Below w.heap.size w w') (fun _ _ i _ => y.size - (intOf i).toNat)
      case atStart => exact ⟨0, Nat.zero_le _, rfl, rfl, rfl, NoSep.zero _ _ _, hown, hb⟩
      case round =>
        clear hown hb
        obtain ⟨j, hj, rfl, rfl, rfl, hno0, hown, hb⟩ := hrel
        have hno := Lib.hid hno0
        clear hno0
        by_cases hlj : j < y.size
        · have hi0 : (0 : Int) ≤ (k : Int) := by omega
          have hi1 : (k : Int) < (s.size : Int) := by omega
          have hi2 : (0 : Int) ≤ (j : Int) := by omega
          have hi3 : (j : Int) < (y.size : Int) := by omega
          by_cases heq : s[k]'hlt = y[j]'hlj
          · have hsep := Lib.hid (sep_yes hlt hlj heq)
            have q : (((s[k]'hlt).toNat : Int) == ((y[j]'hlj).toNat : Int)) = true := by rw [heq]; exact beq_self_eq_true _
            clear heq
            go_wp2
            go_quiet (fail)
            generalize hwq : World.drewN wr nq = wq
            have hownq : wq.ownsRow w.heap.size 9 1 u5 (pts s y k).length (vs (pts s y k)) := by rw [← hwq]; exact hown
            have hbq : Below w.heap.size w wq := by rw [← hwq]; exact below_drewN hb _
            clear hwq hown hb
            go_wp2_with (at_builtin; refine append_str rfl (.tmp 29) (.tmp 34) rfl w.heap.size _ _ (pts s y k) (s.extract (frm s y k) k) wq rfl rfl hownq (by omega) hbq.size ?_; intro v' w1 hown1 hb1)
            go_wp2
            go_roundw
            case rel => exact ⟨k + 1, by omega, by go_num, by rw [frm_yes hsep.out]; go_num, by rw [pts_yes hsep.out, List.length_append]; exact hown1, hbq.trans hb1⟩
            case measure => simp [intOf]; omega
          · have q := byte_ne heq
            have hno1 := Lib.hid (hno.out.succ (fun _ _ => heq))
            clear heq
            go_wp2
            go_quiet (fail)
            go_wp2
            go_roundw
            case rel => exact ⟨j + 1, by omega, by go_num, rfl, rfl, hno1.out, hown, below_drewN hb _⟩
            case measure => simp [intOf]; omega
        · obtain rfl : j = y.size := by omega
          have hsep := hno.out.no hlt
          have hf1 := Lib.hid (frm_no hsep)
          have hp1 := Lib.hid (pts_no hsep)
          clear hsep
          go_wp2
          go_roundw
          case rel => exact ⟨k + 1, by omega, by go_num, by rw [hf1.out], by rw [hp1.out]; exact hown, hb⟩
          case measure => simp [intOf]; omega
    · obtain rfl : k = s.size := by omega
      go_wp2_with (at_builtin; refine append_str rfl (.tmp 38) (.tmp 42) rfl w.heap.size _ _ (pts s y s.size) (s.extract (frm s y s.size) s.size) wr rfl rfl hown (by omega) hb.size ?_; intro v' w1 hown1 hb1)
      go_ret
      have hl : (vs (splits s y)).length = (pts s y s.size).length + 1 := by rw [vs_length]; simp [splits]
      obtain ⟨A, c, rfl, hc, _, _⟩ := own_len hown1
      exact ⟨A, c, by rw [hl]; rfl, by rw [hl]; exact hc, OwnS.of_own hown1, hb.trans hb1⟩


end Go.Proofs.YtkmfbanlkglkmabGreatDoor
