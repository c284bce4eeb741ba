/-
  What 'impl.IsName' answers.
-/
import Derived.Test.YtojcbdlgecppjaaDoorDigDefs
namespace Go.Proofs.YtojcbdlgecppjaaDoor
open Go.ChangeShapes Go.WideShapes Go.ChangeAt Go.RowKit
open Go.ChangeMaps (open_string shut_string)
set_option linter.unusedVariables false
set_option linter.unusedSimpArgs false

/-- Byte j may stand in a name at its place. -/
def NamAt (s : ByteArray) (j : Nat) : Prop := ∃ h : j < s.size, (97 ≤ ((s[j]'h).toNat : Int) ∧ ((s[j]'h).toNat : Int) ≤ 122) ∨ (0 < j ∧ 48 ≤ ((s[j]'h).toNat : Int) ∧ ((s[j]'h).toNat : Int) ≤ 57)
def NamTo (s : ByteArray) (k : Nat) : Prop := ∀ j, j < k → NamAt s j
theorem NamTo.zero (s : ByteArray) : NamTo s 0 := fun _ h => absurd h (by omega)
theorem NamTo.succ {s : ByteArray} {k : Nat} (h : NamTo s k) (h1 : NamAt s k) : NamTo s (k + 1) := fun j hj => by
  rcases Nat.lt_or_ge j k with h2 | h2
  · exact h j h2
  · obtain rfl : j = k := by omega
    exact h1
open Classical in
/-- The answer. -/
noncomputable def nams (s : ByteArray) : Bool := decide (1 ≤ s.size ∧ s.size ≤ 8 ∧ NamTo s s.size)
theorem nams_iff (s : ByteArray) : nams s = true ↔ 1 ≤ s.size ∧ s.size ≤ 8 ∧ NamTo s s.size := by simp only [nams, decide_eq_true_eq]
theorem nams_true {s : ByteArray} (h0 : 1 ≤ s.size) (h8 : s.size ≤ 8) (h : NamTo s s.size) : nams s = true := (nams_iff s).2 ⟨h0, h8, h⟩
theorem nams_size {s : ByteArray} (h0 : ¬ (1 ≤ s.size ∧ s.size ≤ 8)) : nams s = false := by
  rw [← Bool.not_eq_true, nams_iff]; exact fun h => h0 ⟨h.1, h.2.1⟩
theorem nams_false {s : ByteArray} {k : Nat} (hk : k < s.size) (h : ¬ NamAt s k) : nams s = false := by
  rw [← Bool.not_eq_true, nams_iff]; exact fun g => h (g.2.2 k hk)

/-- A rune from 'a' to 'z'. -/
def letR (r : Int) : Bool := decide (97 ≤ r) && decide (r ≤ 122)
theorem letR_yes {r : Int} (h1 : 97 ≤ r) (h2 : r ≤ 122) : letR r = true := by simp [letR, h1, h2]
theorem letR_no {r : Int} (h1 : ¬ (97 ≤ r ∧ r ≤ 122)) : letR r = false := by simp [letR]; omega
theorem digR_no {r : Int} (h1 : ¬ (48 ≤ r ∧ r ≤ 57)) : digR r = false := by simp [digR]; omega
theorem isLetter_any (r : Int) (w : World) :
    Calls Tryd.prog 24 #[.int .i32 r] w fun e w' => e = .returned (.bool (letR r)) ∧ w = w' := by
  by_cases h1 : 97 ≤ r <;> by_cases h2 : r ≤ 122 <;>
  · go_enter Tryd.func24, Tryd.ntmps24
    go_wp2
    go_ret
    exact ⟨ret_bool (by simp [letR, h1, h2]), rfl⟩

set_option maxHeartbeats 800000 in
theorem impl_name (s : ByteArray) (w : World) (hs : s.size ≤ maxLen) :
    Calls Tryd.prog 12 #[.string s] w fun e w' => e = .returned (.bool (nams s)) ∧ Below w.heap.size w w' := by
  unfold maxLen at hs
  by_cases h1 : s.size < 1
  · have hf := Lib.hid (nams_size (s := s) (by omega))
    go_enter Tryd.func12, Tryd.ntmps12
    go_wp2
    go_ret
    exact ⟨ret_bool hf.out.symm, Below.refl _ _⟩
  by_cases h8 : 8 < s.size
  · have hf := Lib.hid (nams_size (s := s) (by omega))
    go_enter Tryd.func12, Tryd.ntmps12
    go_wp2
    go_ret
    exact ⟨ret_bool hf.out.symm, Below.refl _ _⟩
  go_enter Tryd.func12, Tryd.ntmps12
  go_wp2
  go_loopw [4] (fun _ w' => ∃ pos : Nat, w' = w.iter s pos ∧ pos ≤ s.size ∧ NamTo s pos) (fun _ w' => s.size - w'.iterPos w.heap.size)
  case atStart => exact ⟨0, rfl, Nat.zero_le _, NamTo.zero s⟩
  case round =>
    obtain ⟨pos, rfl, hk, hd0⟩ := hrel
    have hd := Lib.hid hd0
    clear hd0
    by_cases hp : pos < s.size
    · have hnx : ∀ ty, (Instr.next (.pointer (some ⟨w.heap.size, 0, none⟩)) true ty).run Tryd.prog (w.iter s pos) = _ := fun ty => run_next_any w s pos ty hp
      by_cases ha : (s[pos]'hp).toNat < 128
      · rw [decode_ascii s pos hp ha] at hnx
        by_cases hl : 97 ≤ ((s[pos]'hp).toNat : Int) ∧ ((s[pos]'hp).toNat : Int) ≤ 122
        · have hc := letR_yes hl.1 hl.2
          have hN := Lib.hid (hd.out.succ ⟨hp, .inl hl⟩)
          clear hl
          go_wp2_with (go_at_call 24; refine (isLetter_any _ _).mono ?_; rintro e w' ⟨rfl, rfl⟩)
          go_roundw
          case rel => exact ⟨pos + 1, rfl, by omega, hN.out⟩
          case measure => simp; omega
        · have hc := letR_no hl
          by_cases h0 : 0 < pos
          · have e0 : (((pos : Nat) : Int) == 0) = false := beq_eq_false_iff_ne.2 (by omega)
            by_cases hg : 48 ≤ ((s[pos]'hp).toNat : Int) ∧ ((s[pos]'hp).toNat : Int) ≤ 57
            · have hc2 := digR_yes hg.1 hg.2
              have hN := Lib.hid (hd.out.succ ⟨hp, .inr ⟨h0, hg⟩⟩)
              clear hl hg
              go_wp2_with (first | (go_at_call 24; refine (isLetter_any _ _).mono ?_; rintro e w' ⟨rfl, rfl⟩) | (go_at_call 25; refine (isDigit_any _ _).mono ?_; rintro e w' ⟨rfl, rfl⟩))
              go_roundw
              case rel => exact ⟨pos + 1, rfl, by omega, hN.out⟩
              case measure => simp; omega
            · have hc2 := digR_no hg
              have hf := Lib.hid (nams_false hp (fun ⟨_, g⟩ => by omega))
              clear hl hg
              go_wp2_with (first | (go_at_call 24; refine (isLetter_any _ _).mono ?_; rintro e w' ⟨rfl, rfl⟩) | (go_at_call 25; refine (isDigit_any _ _).mono ?_; rintro e w' ⟨rfl, rfl⟩))
              go_ret
              exact ⟨ret_bool hf.out.symm, below_iter (Below.refl _ _) (Nat.le_refl _) _ _⟩
          · have hf := Lib.hid (nams_false hp (fun ⟨_, g⟩ => by omega))
            obtain rfl : pos = 0 := by omega
            clear hl
            go_wp2_with (first | (go_at_call 24; refine (isLetter_any _ _).mono ?_; rintro e w' ⟨rfl, rfl⟩) | (go_at_call 25; refine (isDigit_any _ _).mono ?_; rintro e w' ⟨rfl, rfl⟩))
            go_ret
            exact ⟨ret_bool hf.out.symm, below_iter (Below.refl _ _) (Nat.le_refl _) _ _⟩
      · have hf := Lib.hid (nams_false hp (fun ⟨_, g⟩ => by omega))
        have hw := (decode_high s pos hp (by omega)).1
        have hc := letR_no (r := ((Utf8.decode s pos).1 : Int)) (by omega)
        have hc2 := digR_no (r := ((Utf8.decode s pos).1 : Int)) (by omega)
        by_cases h0 : 0 < pos
        · have e0 : (((pos : Nat) : Int) == 0) = false := beq_eq_false_iff_ne.2 (by omega)
          go_wp2_with (first | (go_at_call 24; refine (isLetter_any _ _).mono ?_; rintro e w' ⟨rfl, rfl⟩) | (go_at_call 25; refine (isDigit_any _ _).mono ?_; rintro e w' ⟨rfl, rfl⟩))
          go_ret
          exact ⟨ret_bool hf.out.symm, below_iter (Below.refl _ _) (Nat.le_refl _) _ _⟩
        · obtain rfl : pos = 0 := by omega
          go_wp2_with (first | (go_at_call 24; refine (isLetter_any _ _).mono ?_; rintro e w' ⟨rfl, rfl⟩) | (go_at_call 25; refine (isDigit_any _ _).mono ?_; rintro e w' ⟨rfl, rfl⟩))
          go_ret
          exact ⟨ret_bool hf.out.symm, below_iter (Below.refl _ _) (Nat.le_refl _) _ _⟩
    · have hnx : ∀ ty, (Instr.next (.pointer (some ⟨w.heap.size, 0, none⟩)) true ty).run Tryd.prog (w.iter s pos) = _ := fun ty => run_next_end w s pos ty hp
      obtain rfl : pos = s.size := by omega
      have hf := Lib.hid (nams_true (by omega) (by omega) hd.out)
      go_wp2
      go_ret
      exact ⟨ret_bool hf.out.symm, below_iter (Below.refl _ _) (Nat.le_refl _) _ _⟩

end Go.Proofs.YtojcbdlgecppjaaDoor
