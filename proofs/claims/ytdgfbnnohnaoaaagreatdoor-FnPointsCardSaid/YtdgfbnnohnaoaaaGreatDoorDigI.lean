/-
  'impl.IsDigits' answers as 'spec.IsDigits' does, for every string.
-/
import Derived.Test.YtdgfbnnohnaoaaaGreatDoorDigDefs
namespace Go.Proofs.YtdgfbnnohnaoaaaGreatDoor
open Go.ChangeShapes Go.WideShapes Go.ChangeAt Go.RowKit
open Go.ChangeMaps (open_string shut_string)
set_option linter.unusedVariables false
set_option linter.unusedSimpArgs false
set_option maxRecDepth 4000

set_option maxHeartbeats 400000 in
theorem impl_digits (s : ByteArray) (w : World) (hs : s.size ≤ maxLen) :
    Calls Tryz.prog 78 #[.string s] w fun e w' => e = .returned (.bool (digs s)) ∧ Below w.heap.size w w' := by
  unfold maxLen at hs
  go_enter Tryz.func78, Tryz.ntmps78
  go_wp2
  go_loopw [4] (fun _ w' => ∃ pos : Nat, w' = w.iter s pos ∧ pos ≤ s.size ∧ DigTo s pos) (fun _ w' => s.size - w'.iterPos w.heap.size)
  case atStart => exact ⟨0, rfl, Nat.zero_le _, DigTo.zero s⟩
  case round =>
    obtain ⟨pos, rfl, hk, hd0⟩ := hrel
    have hd := Lib.hid hd0
    clear hd0
    by_cases hp : pos < s.size
    · have hnx : ∀ ty, (Instr.next (.pointer (some ⟨w.heap.size, 0, none⟩)) true ty).run Tryz.prog (w.iter s pos) = _ := fun ty => run_next_any w s pos ty hp
      by_cases ha : (s[pos]'hp).toNat < 128
      · rw [decode_ascii s pos hp ha] at hnx
        by_cases h1 : 48 ≤ ((s[pos]'hp).toNat : Int)
        · by_cases h2 : ((s[pos]'hp).toNat : Int) ≤ 57
          · have hc := digR_yes h1 h2
            go_wp2_with (go_at_call 115; refine (isDigit_any _ _).mono ?_; rintro e w' ⟨rfl, rfl⟩)
            go_roundw
            case rel => exact ⟨pos + 1, rfl, by omega, hd.out.succ ⟨hp, h1, h2⟩⟩
            case measure => simp; omega
          · have hf := Lib.hid (digs_false hp (fun ⟨_, _, g⟩ => h2 g))
            have hc := digR_high h2
            go_wp2_with (go_at_call 115; refine (isDigit_any _ _).mono ?_; rintro e w' ⟨rfl, rfl⟩)
            go_ret
            exact ⟨ret_bool hf.out.symm, below_iter (Below.refl _ _) (Nat.le_refl _) _ _⟩
        · have hf := Lib.hid (digs_false hp (fun ⟨_, g, _⟩ => h1 g))
          have hc := digR_low h1
          go_wp2_with (go_at_call 115; refine (isDigit_any _ _).mono ?_; rintro e w' ⟨rfl, rfl⟩)
          go_ret
          exact ⟨ret_bool hf.out.symm, below_iter (Below.refl _ _) (Nat.le_refl _) _ _⟩
      · have hf := Lib.hid (digs_false hp (fun ⟨_, _, g⟩ => ha (by omega)))
        have hw := (decode_high s pos hp (by omega)).1
        have h2 : ¬ (((Utf8.decode s pos).1 : Int) ≤ 57) := by omega
        have hc := digR_high h2
        go_wp2_with (go_at_call 115; refine (isDigit_any _ _).mono ?_; rintro e w' ⟨rfl, rfl⟩)
        go_ret
        exact ⟨ret_bool hf.out.symm, below_iter (Below.refl _ _) (Nat.le_refl _) _ _⟩
    · have hnx : ∀ ty, (Instr.next (.pointer (some ⟨w.heap.size, 0, none⟩)) true ty).run Tryz.prog (w.iter s pos) = _ := fun ty => run_next_end w s pos ty hp
      obtain rfl : pos = s.size := by omega
      by_cases h0 : 0 < s.size
      · have hf := Lib.hid (digs_true h0 hd.out)
        go_wp2
        go_ret
        exact ⟨ret_bool (by rw [hf.out, isEmpty_pos h0]; rfl), below_iter (Below.refl _ _) (Nat.le_refl _) _ _⟩
      · have hf := Lib.hid (digs_empty h0)
        go_wp2
        go_ret
        exact ⟨ret_bool (by rw [hf.out, isEmpty_zero h0]; rfl), below_iter (Below.refl _ _) (Nat.le_refl _) _ _⟩
end Go.Proofs.YtdgfbnnohnaoaaaGreatDoor

