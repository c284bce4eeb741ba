/-
  'impl.IsDigits' answers as 'spec.IsDigits' does, for every string.
-/
import Derived.Test.YtojcbdlgecppjaaKit
namespace Go.Proofs.Ytojcbdlgecppjaa
open Go.ChangeShapes Go.WideShapes Go.ChangeAt Go.RowKit
open Go.ChangeMaps (open_string shut_string)
set_option linter.unusedVariables false
set_option linter.unusedSimpArgs false

/-- Byte j of the string is one of '0' to '9'. -/
def DigAt (s : ByteArray) (j : Nat) : Prop := ∃ h : j < s.size, 48 ≤ ((s[j]'h).toNat : Int) ∧ ((s[j]'h).toNat : Int) ≤ 57
/-- The first k bytes are digits. -/
def DigTo (s : ByteArray) (k : Nat) : Prop := ∀ j, j < k → DigAt s j
theorem DigTo.zero (s : ByteArray) : DigTo s 0 := fun _ h => absurd h (by omega)
theorem DigTo.succ {s : ByteArray} {k : Nat} (h : DigTo s k) (h1 : DigAt s k) : DigTo s (k + 1) := fun j hj => by
  rcases Nat.lt_or_ge j k with h2 | h2
  · exact h j h2
  · obtain rfl : j = k := by omega
    exact h1
/-- The answer. -/
def digs (s : ByteArray) : Bool := decide (0 < s.size) && s.data.toList.all (fun c => decide (48 ≤ (c.toNat : Int)) && decide ((c.toNat : Int) ≤ 57))
theorem digs_iff (s : ByteArray) : digs s = true ↔ 0 < s.size ∧ DigTo s s.size := by
  unfold digs
  rw [Bool.and_eq_true, decide_eq_true_eq, List.all_eq_true]
  refine and_congr_right fun _ => ⟨fun h j hj => ⟨hj, ?_⟩, fun h c hc => ?_⟩
  · have := h (s[j]'hj) (by simp [ByteArray.getElem_eq_getElem_data])
    simpa using this
  · obtain ⟨j, hj, rfl⟩ := List.getElem_of_mem hc
    obtain ⟨h1, h2⟩ := h j (by simpa using hj)
    simpa [ByteArray.getElem_eq_getElem_data] using h2
theorem digs_true {s : ByteArray} (h0 : 0 < s.size) (h : DigTo s s.size) : digs s = true := (digs_iff s).2 ⟨h0, h⟩
theorem digs_empty {s : ByteArray} (h0 : ¬ 0 < s.size) : digs s = false := by
  rw [← Bool.not_eq_true, digs_iff]; exact fun h => h0 h.1
theorem digs_false {s : ByteArray} {k : Nat} (hk : k < s.size) (h : ¬ DigAt s k) : digs s = false := by
  rw [← Bool.not_eq_true, digs_iff]; exact fun g => h (g.2 k hk)
theorem ret_bool {a b : Bool} (h : a = b) : Ending.returned (.bool a) = .returned (.bool b) := by rw [h]

set_option maxHeartbeats 400000 in
theorem spec_digits (s : ByteArray) (w : World) (hs : s.size ≤ maxLen) :
    Calls Try.prog 9 #[.string s] w fun e w' => e = .returned (.bool (digs s)) ∧ w = w' := by
  unfold maxLen at hs
  go_enter Try.func9, Try.ntmps9
  go_wp2
  go_loop [3] (fun i => ∃ k : Nat, k ≤ s.size ∧ i = .int .i64 k ∧ DigTo s k) (fun i => s.size - (intOf i).toNat)
  case atStart => exact ⟨0, Nat.zero_le _, rfl, DigTo.zero s⟩
  case round =>
    obtain ⟨k, hk, rfl, hd0⟩ := hrel
    have hd := Lib.hid hd0
    clear hd0
    by_cases hlt : k < s.size
    · by_cases h1 : 48 ≤ ((s[k]'hlt).toNat : Int)
      · by_cases h2 : ((s[k]'hlt).toNat : Int) ≤ 57
        · go_wp2
          go_round
          case rel => exact ⟨k + 1, by omega, by go_num, hd.out.succ ⟨hlt, h1, h2⟩⟩
          case measure => simp [intOf]; omega
        · have hf := Lib.hid (digs_false hlt (fun ⟨_, _, g⟩ => h2 g))
          go_wp2
          go_ret
          exact ⟨ret_bool hf.out.symm, rfl⟩
      · have hf := Lib.hid (digs_false hlt (fun ⟨_, g, _⟩ => h1 g))
        go_wp2
        go_ret
        exact ⟨ret_bool hf.out.symm, rfl⟩
    · obtain rfl : k = s.size := by omega
      by_cases h0 : 0 < s.size
      · have hf := Lib.hid (digs_true h0 hd.out)
        go_wp2
        go_ret
        exact ⟨ret_bool (by rw [hf.out]), rfl⟩
      · have hf := Lib.hid (digs_empty h0)
        go_wp2
        go_ret
        exact ⟨ret_bool (by rw [hf.out]), rfl⟩

/-- A rune from '0' to '9'. -/
def digR (r : Int) : Bool := decide (48 ≤ r) && decide (r ≤ 57)
theorem digR_yes {r : Int} (h1 : 48 ≤ r) (h2 : r ≤ 57) : digR r = true := by simp [digR, h1, h2]
theorem digR_low {r : Int} (h1 : ¬ 48 ≤ r) : digR r = false := by simp [digR, h1]
theorem digR_high {r : Int} (h1 : ¬ r ≤ 57) : digR r = false := by simp [digR, h1]
theorem isDigit_any (r : Int) (w : World) :
    Calls Try.prog 26 #[.int .i32 r] w fun e w' => e = .returned (.bool (digR r)) ∧ w = w' := by
  by_cases h1 : 48 ≤ r <;> by_cases h2 : r ≤ 57 <;>
  · go_enter Try.func26, Try.ntmps26
    go_wp2
    go_ret
    exact ⟨ret_bool (by simp [digR, h1, h2]), rfl⟩

set_option maxHeartbeats 400000 in
theorem impl_digits (s : ByteArray) (w : World) (hs : s.size ≤ maxLen) :
    Calls Try.prog 10 #[.string s] w fun e w' => e = .returned (.bool (digs s)) ∧ Below w.heap.size w w' := by
  unfold maxLen at hs
  go_enter Try.func10, Try.ntmps10
  go_wp2
  go_loopw [4] (fun _ w' => ∃ pos : Nat, w' = w.iter s pos ∧ pos ≤ s.size ∧ DigTo s pos) (fun _ w' => s.size - w'.iterPos w.heap.size)
  case atStart => exact ⟨0, rfl, Nat.zero_le _, DigTo.zero s⟩
  case round =>
    obtain ⟨pos, rfl, hk, hd0⟩ := hrel
    have hd := Lib.hid hd0
    clear hd0
    by_cases hp : pos < s.size
    · have hnx : ∀ ty, (Instr.next (.pointer (some ⟨w.heap.size, 0, none⟩)) true ty).run Try.prog (w.iter s pos) = _ := fun ty => run_next_any w s pos ty hp
      by_cases ha : (s[pos]'hp).toNat < 128
      · rw [decode_ascii s pos hp ha] at hnx
        by_cases h1 : 48 ≤ ((s[pos]'hp).toNat : Int)
        · by_cases h2 : ((s[pos]'hp).toNat : Int) ≤ 57
          · have hc := digR_yes h1 h2
            go_wp2_with (go_at_call 26; refine (isDigit_any _ _).mono ?_; rintro e w' ⟨rfl, rfl⟩)
            go_roundw
            case rel => exact ⟨pos + 1, rfl, by omega, hd.out.succ ⟨hp, h1, h2⟩⟩
            case measure => simp; omega
          · have hf := Lib.hid (digs_false hp (fun ⟨_, _, g⟩ => h2 g))
            have hc := digR_high h2
            go_wp2_with (go_at_call 26; refine (isDigit_any _ _).mono ?_; rintro e w' ⟨rfl, rfl⟩)
            go_ret
            exact ⟨ret_bool hf.out.symm, below_iter (Below.refl _ _) (Nat.le_refl _) _ _⟩
        · have hf := Lib.hid (digs_false hp (fun ⟨_, g, _⟩ => h1 g))
          have hc := digR_low h1
          go_wp2_with (go_at_call 26; refine (isDigit_any _ _).mono ?_; rintro e w' ⟨rfl, rfl⟩)
          go_ret
          exact ⟨ret_bool hf.out.symm, below_iter (Below.refl _ _) (Nat.le_refl _) _ _⟩
      · have hf := Lib.hid (digs_false hp (fun ⟨_, _, g⟩ => ha (by omega)))
        have hw := (decode_high s pos hp (by omega)).1
        have h2 : ¬ (((Utf8.decode s pos).1 : Int) ≤ 57) := by omega
        have hc := digR_high h2
        go_wp2_with (go_at_call 26; refine (isDigit_any _ _).mono ?_; rintro e w' ⟨rfl, rfl⟩)
        go_ret
        exact ⟨ret_bool hf.out.symm, below_iter (Below.refl _ _) (Nat.le_refl _) _ _⟩
    · have hnx : ∀ ty, (Instr.next (.pointer (some ⟨w.heap.size, 0, none⟩)) true ty).run Try.prog (w.iter s pos) = _ := fun ty => run_next_end w s pos ty hp
      obtain rfl : pos = s.size := by omega
      by_cases h0 : 0 < s.size
      · have hf := Lib.hid (digs_true h0 hd.out)
        go_wp2
        go_ret
        exact ⟨ret_bool (by rw [hf.out, isEmpty_pos h0]; rfl), below_iter (Below.refl _ _) (Nat.le_refl _) _ _⟩
      · have hf := Lib.hid (digs_empty h0)
        go_wp2
        go_ret
        exact ⟨ret_bool (by rw [hf.out, isEmpty_zero h0]; rfl), below_iter (Below.refl _ _) (Nat.le_refl _) _ _⟩

theorem law_digits (s : ByteArray) (w : World) (hs : s.size ≤ maxLen) :
    Calls Try.prog 3 #[.string s] w fun e w' => e = .returned (.bool true) ∧ Below w.heap.size w w' := by
  have hs' := hs
  unfold maxLen at hs'
  by_cases hg : s.size ≤ 1048576
  · go_enter Try.func3, Try.ntmps3
    go_wp2_with (first | (go_at_call 9; refine (spec_digits s _ hs).mono ?_; rintro e w' ⟨rfl, rfl⟩) | (go_at_call 10; refine (impl_digits s _ hs).mono ?_; rintro e w1 ⟨rfl, hb1⟩))
    go_ret
    exact ⟨rfl, hb1⟩
  · go_enter Try.func3, Try.ntmps3
    go_wp2
    go_ret
    exact ⟨rfl, Below.refl _ _⟩
end Go.Proofs.Ytojcbdlgecppjaa
