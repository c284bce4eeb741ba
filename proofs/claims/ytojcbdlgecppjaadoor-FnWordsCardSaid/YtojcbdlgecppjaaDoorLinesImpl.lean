/-
  What 'impl.SplitLines' answers.
-/
import Derived.Test.YtojcbdlgecppjaaDoorSplitImpl
namespace Go.Proofs.YtojcbdlgecppjaaDoor
open Go.ChangeShapes Go.WideShapes Go.ChangeAt Go.RowKit
open Go.ChangeMaps (open_string shut_string)
set_option linter.unusedVariables false
set_option linter.unusedSimpArgs false

/-- The newline. -/
def nl : ByteArray := ⟨#[10]⟩
/-- The last part. -/
def lastPart (s : ByteArray) : ByteArray := s.extract (frm s nl s.size) s.size
/-- The answer. -/
def lines (s : ByteArray) : List ByteArray := if 0 < (lastPart s).size then splits s nl else pts s nl s.size
theorem lines_yes {s : ByteArray} (h : 0 < (lastPart s).size) : lines s = splits s nl := by rw [lines, if_pos h]
theorem lines_no {s : ByteArray} (h : ¬ 0 < (lastPart s).size) : lines s = pts s nl s.size := by rw [lines, if_neg h]
theorem lines_length (s : ByteArray) : (vs (lines s)).length ≤ s.size + 1 := by
  have h1 := pts_le s nl s.size
  rw [vs_length]
  by_cases h : 0 < (lastPart s).size
  · rw [lines_yes h, splits, List.length_append]; simp; omega
  · rw [lines_no h]; omega
/-- What SplitAny leaves, with the last part apart. -/
def MadeLast (s : ByteArray) (w : World) (e : Ending) (w' : World) : Prop :=
  ∃ g c, e = .returned (.slice (some ⟨g, 0, none⟩) ((pts s nl s.size).length + 1) c) ∧ (pts s nl s.size).length + 1 ≤ c ∧ w.heap.size ≤ g ∧ w'.cell? ⟨g, (pts s nl s.size).length, none⟩ = some (.string (lastPart s)) ∧ OwnS w.heap.size w' (some ⟨g, 0, none⟩) (vs (splits s nl)) ∧ Below w.heap.size w w'
theorem MadeLast.of {s : ByteArray} {w : World} {e : Ending} {w' : World} (h : Made w.heap.size (vs (splits s nl)) w e w') : MadeLast s w e w' := by
  obtain ⟨A, c, rfl, hc, hown, hb⟩ := h
  have hl : (vs (splits s nl)).length = (pts s nl s.size).length + 1 := by rw [vs_length]; simp [splits]
  obtain ⟨g, rfl, hg, _, hcell, _⟩ := hown.block (by omega)
  refine ⟨g, c, by rw [hl], by omega, hg, ?_, hown, hb⟩
  rw [hcell _ (by omega), vs_get (by rw [vs_length] at hl; omega)]
  simp [splits, lastPart]

theorem vs_splits_take (s y : ByteArray) : (vs (splits s y)).take (pts s y s.size).length = vs (pts s y s.size) := by
  rw [splits, vs_append, ← vs_length, List.take_left]
theorem made_all {s : ByteArray} {w w1 : World} {g c : Nat} (h0 : 0 < (lastPart s).size) (hc : (pts s nl s.size).length + 1 ≤ c) (hown : OwnS w.heap.size w1 (some ⟨g, 0, none⟩) (vs (splits s nl))) (hb : Below w.heap.size w w1) :
    Made w.heap.size (vs (lines s)) w (.returned (.slice (some ⟨g, 0, none⟩) ((pts s nl s.size).length + 1) c)) w1 := by
  have hl : (vs (splits s nl)).length = (pts s nl s.size).length + 1 := by rw [vs_length]; simp [splits]
  refine ⟨some ⟨g, 0, none⟩, c, ?_, ?_, ?_, hb⟩
  · rw [lines_yes h0, hl]
  · rw [lines_yes h0, hl]; exact hc
  · rw [lines_yes h0]; exact hown
theorem made_front {s : ByteArray} {w w1 : World} {g c : Nat} (h0 : ¬ 0 < (lastPart s).size) (hc : (pts s nl s.size).length + 1 ≤ c) (hown : OwnS w.heap.size w1 (some ⟨g, 0, none⟩) (vs (splits s nl))) (hb : Below w.heap.size w w1) :
    Made w.heap.size (vs (lines s)) w (.returned (.slice (some ⟨g, 0, none⟩) (pts s nl s.size).length c)) w1 := by
  refine ⟨some ⟨g, 0, none⟩, c, ?_, ?_, ?_, hb⟩
  · rw [lines_no h0, vs_length]
  · rw [lines_no h0, vs_length]; omega
  · rw [lines_no h0, ← vs_splits_take]; exact hown.take _

set_option maxHeartbeats 1600000 in
theorem impl_lines (s : ByteArray) (w : World) (hs : s.size ≤ 1048576) :
    Calls Tryd.prog 13 #[.string s] w (Made w.heap.size (vs (lines s)) w) := by
  have hp := pts_le s nl s.size
  have hn : (nl).size ≤ 1048576 := by decide
  go_enter Tryd.func13, Tryd.ntmps13
  go_wp2_with fail
  refine (impl_split s nl _ hs hn).mono ?_
  rintro e w1 hm
  obtain ⟨g, c, rfl, hc, hg, hcell, hown, hb⟩ := MadeLast.of hm
  clear hm
  by_cases h0 : 0 < (lastPart s).size
  · have q := isEmpty_pos h0
    have HE := Lib.hid (made_all h0 hc hown hb)
    go_wp2
    go_ret
    exact HE.out
  · have q := isEmpty_zero h0
    have HE := Lib.hid (made_front h0 hc hown hb)
    go_wp2
    go_ret
    exact HE.out

end Go.Proofs.YtojcbdlgecppjaaDoor
