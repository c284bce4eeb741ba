/-
  'ParseNat', of the model and of the program.
-/
import Derived.Test.YtdgfbnnohnaoaaaGreatDoorPNatMath
import Derived.Test.YtdgfbnnohnaoaaaGreatDoorNatRow
import Derived.Test.YtdgfbnnohnaoaaaGreatDoorDkA
import Derived.Test.YtdgfbnnohnaoaaaGreatDoorDigI
import Derived.Test.YtdgfbnnohnaoaaaGreatDoorShelf
namespace Go.Proofs.YtdgfbnnohnaoaaaGreatDoor
open Go.ChangeShapes Go.WideShapes Go.ChangeAt Go.RowKit
open Go.ChangeMaps (open_string shut_string)
set_option linter.unusedVariables false
set_option linter.unusedSimpArgs false
set_option maxRecDepth 4000

/-- The text is a numeral without a zero ahead, of at most 540 digits. -/
def okS (s : ByteArray) : Bool := digs s && decide (s.size ≤ 540) && (decide (s.size ≤ 1) || decide (s.data.toList.getD 0 0 ≠ 48))
/-- The answer. -/
def prsL (s : ByteArray) : List Int := if okS s then nd (Num.val s.data.toList) else []
def PairN (B : Nat) (L : List Int) (b : Bool) (w : World) (e : Ending) (w' : World) : Prop :=
  ∃ A c, e = .returned (.tuple #[.slice A L.length c, .bool b]) ∧ L.length ≤ c ∧ OwnS B w' A (vi L) ∧ Below w.heap.size w w'
theorem PairN.nil (B : Nat) (w : World) : PairN B [] false w (.returned (.tuple #[.slice none 0 0, .bool false])) w := ⟨none, 0, rfl, Nat.le_refl _, .inl rfl, Below.refl _ _⟩
theorem PairN.after {B : Nat} {L : List Int} {b : Bool} {w w1 w2 : World} {e : Ending} (h : PairN B L b w1 e w2) (hb : Below w.heap.size w w1) : PairN B L b w e w2 := by
  obtain ⟨A, c, he, hc, ho, hb2⟩ := h
  exact ⟨A, c, he, hc, ho, bt hb hb2⟩
theorem digs_isdig {s : ByteArray} (h : digs s = true) : (∀ c ∈ s.data.toList, Num.IsDig c) ∧ 0 < s.size := by
  unfold digs at h
  rw [Bool.and_eq_true, decide_eq_true_eq, List.all_eq_true] at h
  refine ⟨fun c hc => ?_, h.1⟩
  have := h.2 c hc
  simp only [Bool.and_eq_true, decide_eq_true_eq] at this
  unfold Num.IsDig
  omega
theorem size_list (s : ByteArray) : s.data.toList.length = s.size := by simp
theorem ext_list (s : ByteArray) (a b : Nat) : (s.extract a b).data.toList = (s.data.toList.take b).drop a := by
  simp [ByteArray.data_extract, List.extract_eq_take_drop, List.drop_take]
theorem getD0 {s : ByteArray} (h : 0 < s.size) : s.data.toList.getD 0 0 = s[0]'h := by
  rw [List.getD_eq_getElem?_getD, List.getElem?_eq_getElem (by simpa using h)]; rfl

/-- The bytes from place lo up to place j. -/
def mid (l : List UInt8) (lo j : Nat) : List UInt8 := (l.take j).drop lo
theorem mid_lt {l : List UInt8} (h : ∀ c ∈ l, Num.IsDig c) {lo j : Nat} (h9 : j ≤ lo + 9) (_ : True ∨ True) : Num.val (mid l lo j) < 1000000000 := by
  have h1 := val_lt (mid l lo j) (fun c hc => h c (List.mem_of_mem_take (List.mem_of_mem_drop hc)))
  have h2 : (mid l lo j).length ≤ 9 := by unfold mid; rw [List.length_drop, List.length_take]; omega
  have h3 : 10 ^ (mid l lo j).length ≤ 10 ^ 9 := Nat.pow_le_pow_right (by decide) h2
  exact Nat.lt_of_lt_of_le h1 h3
end Go.Proofs.YtdgfbnnohnaoaaaGreatDoor

