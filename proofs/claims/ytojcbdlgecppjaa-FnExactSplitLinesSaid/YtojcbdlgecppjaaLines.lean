/-
  'impl.SplitLines' answers as 'spec.SplitLines' does, for every string.
-/
import Derived.Test.YtojcbdlgecppjaaSplit
namespace Go.Proofs.Ytojcbdlgecppjaa
open Go.ChangeShapes Go.WideShapes Go.ChangeAt Go.RowKit
open Go.ChangeMaps (open_string shut_string)
set_option linter.unusedVariables false
set_option linter.unusedSimpArgs false

/-- The newline. -/
def nl : ByteArray := ⟨#[10]⟩
/-- The last part. -/
def lastPart (s : ByteArray) : ByteArray := s.extract (frm s nl s.size) s.size
/-- The answer. -/
def lines (s : ByteArray) : List ByteArray := if 0 < (lastPart s).size then splits s nl else pts s nl s.size
theorem lines_yes {s : ByteArray} (h : 0 < (lastPart s).size) : lines s = splits s nl := by rw [lines, if_pos h]
theorem lines_no {s : ByteArray} (h : ¬ 0 < (lastPart s).size) : lines s = pts s nl s.size := by rw [lines, if_neg h]
theorem lines_length (s : ByteArray) : (vs (lines s)).length ≤ s.size + 1 := by
  have h1 := pts_le s nl s.size
  rw [vs_length]
  by_cases h : 0 < (lastPart s).size
  · rw [lines_yes h, splits, List.length_append]; simp; omega
  · rw [lines_no h]; omega
/-- What SplitAny leaves, with the last part apart. -/
def MadeLast (s : ByteArray) (w : World) (e : Ending) (w' : World) : Prop :=
  ∃ g c, e = .returned (.slice (some ⟨g, 0, none⟩) ((pts s nl s.size).length + 1) c) ∧ (pts s nl s.size).length + 1 ≤ c ∧ w.heap.size ≤ g ∧ w'.cell? ⟨g, (pts s nl s.size).length, none⟩ = some (.string (lastPart s)) ∧ OwnS w.heap.size w' (some ⟨g, 0, none⟩) (vs (splits s nl)) ∧ Below w.heap.size w w'
theorem MadeLast.of {s : ByteArray} {w : World} {e : Ending} {w' : World} (h : Made w.heap.size (vs (splits s nl)) w e w') : MadeLast s w e w' := by
  obtain ⟨A, c, rfl, hc, hown, hb⟩ := h
  have hl : (vs (splits s nl)).length = (pts s nl s.size).length + 1 := by rw [vs_length]; simp [splits]
  obtain ⟨g, rfl, hg, _, hcell, _⟩ := hown.block (by omega)
  refine ⟨g, c, by rw [hl], by omega, hg, ?_, hown, hb⟩
  rw [hcell _ (by omega), vs_get (by rw [vs_length] at hl; omega)]
  simp [splits, lastPart]

theorem vs_splits_take (s y : ByteArray) : (vs (splits s y)).take (pts s y s.size).length = vs (pts s y s.size) := by
  rw [splits, vs_append, ← vs_length, List.take_left]
theorem made_all {s : ByteArray} {w w1 : World} {g c : Nat} (h0 : 0 < (lastPart s).size) (hc : (pts s nl s.size).length + 1 ≤ c) (hown : OwnS w.heap.size w1 (some ⟨g, 0, none⟩) (vs (splits s nl))) (hb : Below w.heap.size w w1) :
    Made w.heap.size (vs (lines s)) w (.returned (.slice (some ⟨g, 0, none⟩) ((pts s nl s.size).length + 1) c)) w1 := by
  have hl : (vs (splits s nl)).length = (pts s nl s.size).length + 1 := by rw [vs_length]; simp [splits]
  refine ⟨some ⟨g, 0, none⟩, c, ?_, ?_, ?_, hb⟩
  · rw [lines_yes h0, hl]
  · rw [lines_yes h0, hl]; exact hc
  · rw [lines_yes h0]; exact hown
theorem made_front {s : ByteArray} {w w1 : World} {g c : Nat} (h0 : ¬ 0 < (lastPart s).size) (hc : (pts s nl s.size).length + 1 ≤ c) (hown : OwnS w.heap.size w1 (some ⟨g, 0, none⟩) (vs (splits s nl))) (hb : Below w.heap.size w w1) :
    Made w.heap.size (vs (lines s)) w (.returned (.slice (some ⟨g, 0, none⟩) (pts s nl s.size).length c)) w1 := by
  refine ⟨some ⟨g, 0, none⟩, c, ?_, ?_, ?_, hb⟩
  · rw [lines_no h0, vs_length]
  · rw [lines_no h0, vs_length]; omega
  · rw [lines_no h0, ← vs_splits_take]; exact hown.take _

set_option maxHeartbeats 1600000 in
theorem spec_lines (s : ByteArray) (w : World) (hs : s.size ≤ 1048576) :
    Calls Try.prog 18 #[.string s] w (Made w.heap.size (vs (lines s)) w) := by
  have hp := pts_le s nl s.size
  have hn : (nl).size ≤ 1048576 := by decide
  go_enter Try.func18, Try.ntmps18
  go_wp2_with fail
  refine (spec_split s nl _ hs hn).mono ?_
  rintro e w1 hm
  obtain ⟨g, c, rfl, hc, hg, hcell, hown, hb⟩ := MadeLast.of hm
  clear hm
  by_cases h0 : 0 < (lastPart s).size
  · have q := isEmpty_pos h0
    have HE := Lib.hid (made_all h0 hc hown hb)
    go_wp2
    go_ret
    exact HE.out
  · have q := isEmpty_zero h0
    have HE := Lib.hid (made_front h0 hc hown hb)
    go_wp2
    go_ret
    exact HE.out

set_option maxHeartbeats 1600000 in
theorem impl_lines (s : ByteArray) (w : World) (hs : s.size ≤ 1048576) :
    Calls Try.prog 19 #[.string s] w (Made w.heap.size (vs (lines s)) w) := by
  have hp := pts_le s nl s.size
  have hn : (nl).size ≤ 1048576 := by decide
  go_enter Try.func19, Try.ntmps19
  go_wp2_with fail
  refine (impl_split s nl _ hs hn).mono ?_
  rintro e w1 hm
  obtain ⟨g, c, rfl, hc, hg, hcell, hown, hb⟩ := MadeLast.of hm
  clear hm
  by_cases h0 : 0 < (lastPart s).size
  · have q := isEmpty_pos h0
    have HE := Lib.hid (made_all h0 hc hown hb)
    go_wp2
    go_ret
    exact HE.out
  · have q := isEmpty_zero h0
    have HE := Lib.hid (made_front h0 hc hown hb)
    go_wp2
    go_ret
    exact HE.out

set_option maxHeartbeats 400000 in
theorem law_lines (s : ByteArray) (w : World) (hs : s.size ≤ maxLen) :
    Calls Try.prog 6 #[.string s] w fun e w' => e = .returned (.bool true) ∧ Below w.heap.size w w' := by
  have hs' := hs
  unfold maxLen at hs'
  by_cases hg : s.size ≤ 1048576
  · have hl1 := lines_length s
    have H1 := Lib.hid (fun w => spec_lines s w hg)
    have H2 := Lib.hid (fun w => impl_lines s w hg)
    generalize lines s = L at H1 H2 hl1
    have hl0 := mk1_nonneg (vs L).length
    go_enter Try.func6, Try.ntmps6
    go_wp2_with fail
    refine (H1.out _).mono ?_
    rintro e w1 ⟨A0, c0, rfl, hc0, own0, hb1⟩
    go_wp2_with fail
    refine (H2.out _).mono ?_
    rintro e w2 ⟨A1, c1, rfl, hc1, own1, hb2⟩
    go_wp2_with fail
    refine (eqStringS_same _ _ _ _ _ _ (by omega) own1.rd (own0.below hb2).rd).mono ?_
    rintro e w3 ⟨rfl, hb3⟩
    go_wp2_with fail
    refine (markStringS_one w1.heap.size _ _ _ _ (by omega) (own1.below hb3)).mono ?_
    rintro e w4 ⟨rfl, own4, hg4⟩
    have hb4 : Below w1.heap.size w3 w4 := below_of_grown hg4 (Nat.le_trans hb2.size hb3.size) own1.row
    clear hg4
    go_wp2_with fail
    refine (heldStringS_one _ _ _ _ (by omega) own4.rd).mono ?_
    rintro e w5 ⟨rfl, hb5⟩
    go_wp2_with fail
    refine (H2.out _).mono ?_
    rintro e w6 ⟨A2, c2, rfl, hc2, own2, hb6⟩
    have hb16 : Below w1.heap.size w1 w6 := ((hb2.trans (hb3.mono hb2.size)).trans hb4).trans ((hb5.trans (hb6.mono hb5.size)).mono (Nat.le_trans (Nat.le_trans hb2.size hb3.size) hb4.size))
    have own6 := own4.below (hb5.trans (hb6.mono hb5.size))
    go_wp2_with fail
    refine (eqStringS_same _ _ _ _ _ _ (by omega) own2.rd (own0.below hb16).rd).mono ?_
    rintro e w7 ⟨rfl, hb7⟩
    go_wp2_with fail
    refine (heldStringS_one _ _ _ _ (by omega) (own6.below hb7).rd).mono ?_
    rintro e w8 ⟨rfl, hb8⟩
    go_wp2
    go_ret
    exact ⟨rfl, hb1.trans ((hb16.trans ((hb7.trans (hb8.mono hb7.size)).mono hb16.size)).mono hb1.size)⟩
  · go_enter Try.func6, Try.ntmps6
    go_wp2
    go_ret
    exact ⟨rfl, Below.refl _ _⟩
end Go.Proofs.Ytojcbdlgecppjaa
