/-
  Digits: what 'spec.IsDigits' and 'impl.isDigit' answer.
-/
import Derived.Test.YtdgfbnnohnaoaaaGreatDoorDkA
namespace Go.Proofs.YtdgfbnnohnaoaaaGreatDoor
open Go.ChangeShapes Go.WideShapes Go.ChangeAt Go.RowKit
open Go.ChangeMaps (open_string shut_string)
set_option linter.unusedVariables false
set_option linter.unusedSimpArgs false

/-- Byte j of the string is one of '0' to '9'. -/
def DigAt (s : ByteArray) (j : Nat) : Prop := ∃ h : j < s.size, 48 ≤ ((s[j]'h).toNat : Int) ∧ ((s[j]'h).toNat : Int) ≤ 57
/-- The first k bytes are digits. -/
def DigTo (s : ByteArray) (k : Nat) : Prop := ∀ j, j < k → DigAt s j
theorem DigTo.zero (s : ByteArray) : DigTo s 0 := fun _ h => absurd h (by omega)
theorem DigTo.succ {s : ByteArray} {k : Nat} (h : DigTo s k) (h1 : DigAt s k) : DigTo s (k + 1) := fun j hj => by
  rcases Nat.lt_or_ge j k with h2 | h2
  · exact h j h2
  · obtain rfl : j = k := by omega
    exact h1
/-- The answer. -/
def digs (s : ByteArray) : Bool := decide (0 < s.size) && s.data.toList.all (fun c => decide (48 ≤ (c.toNat : Int)) && decide ((c.toNat : Int) ≤ 57))
theorem digs_iff (s : ByteArray) : digs s = true ↔ 0 < s.size ∧ DigTo s s.size := by
  unfold digs
  rw [Bool.and_eq_true, decide_eq_true_eq, List.all_eq_true]
  refine and_congr_right fun _ => ⟨fun h j hj => ⟨hj, ?_⟩, fun h c hc => ?_⟩
  · have := h (s[j]'hj) (by simp [ByteArray.getElem_eq_getElem_data])
    simpa using this
  · obtain ⟨j, hj, rfl⟩ := List.getElem_of_mem hc
    obtain ⟨h1, h2⟩ := h j (by simpa using hj)
    simpa [ByteArray.getElem_eq_getElem_data] using h2
theorem digs_true {s : ByteArray} (h0 : 0 < s.size) (h : DigTo s s.size) : digs s = true := (digs_iff s).2 ⟨h0, h⟩
theorem digs_empty {s : ByteArray} (h0 : ¬ 0 < s.size) : digs s = false := by
  rw [← Bool.not_eq_true, digs_iff]; exact fun h => h0 h.1
theorem digs_false {s : ByteArray} {k : Nat} (hk : k < s.size) (h : ¬ DigAt s k) : digs s = false := by
  rw [← Bool.not_eq_true, digs_iff]; exact fun g => h (g.2 k hk)
theorem ret_bool {a b : Bool} (h : a = b) : Ending.returned (.bool a) = .returned (.bool b) := by rw [h]

/-- A rune from '0' to '9'. -/
def digR (r : Int) : Bool := decide (48 ≤ r) && decide (r ≤ 57)
theorem digR_yes {r : Int} (h1 : 48 ≤ r) (h2 : r ≤ 57) : digR r = true := by simp [digR, h1, h2]
theorem digR_low {r : Int} (h1 : ¬ 48 ≤ r) : digR r = false := by simp [digR, h1]
theorem digR_high {r : Int} (h1 : ¬ r ≤ 57) : digR r = false := by simp [digR, h1]
theorem isDigit_any (r : Int) (w : World) :
    Calls Tryz.prog 115 #[.int .i32 r] w fun e w' => e = .returned (.bool (digR r)) ∧ w = w' := by
  by_cases h1 : 48 ≤ r <;> by_cases h2 : r ≤ 57 <;>
  · go_enter Tryz.func115, Tryz.ntmps115
    go_wp2
    go_ret
    exact ⟨ret_bool (by simp [digR, h1, h2]), rfl⟩

end Go.Proofs.YtdgfbnnohnaoaaaGreatDoor

