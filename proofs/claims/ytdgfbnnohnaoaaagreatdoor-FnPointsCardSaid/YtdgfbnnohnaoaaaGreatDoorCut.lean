/-
  A text cut at its first slash, and its parts. Plain mathematics.
-/
import Derived.Test.YtdgfbnnohnaoaaaGreatDoorCanon
import Derived.Test.YtdgfbnnohnaoaaaGreatDoorSplitS
import Derived.Lib.IndexMore
import Derived.Lib.IndexLaws
import Derived.Lib.IndexBytes
namespace Go.Proofs.YtdgfbnnohnaoaaaGreatDoor
open Go.ChangeShapes Go.WideShapes Go.ChangeAt Go.RowKit
open Go.ChangeMaps (open_string shut_string)
set_option linter.unusedVariables false
set_option linter.unusedSimpArgs false
set_option maxRecDepth 4000

/-- No slash. -/
def NoS (l : List UInt8) : Prop := ∀ c ∈ l, c ≠ 47
theorem cut_cases (l : List UInt8) : (NoS l ∧ Lib.cut l [47] = (l, [], false)) ∨ ∃ a b, NoS a ∧ l = a ++ 47 :: b ∧ Lib.cut l [47] = (a, b, true) := by
  rcases Lib.index_spec l [47] with ⟨h, _⟩ | ⟨i, h, _, _, _⟩
  · left
    refine ⟨?_, by unfold Lib.cut; rw [h]; rfl⟩
    rw [Lib.index_one] at h
    intro c hc e
    subst e
    obtain ⟨k, hk, he⟩ := List.getElem_of_mem hc
    exact Lib.indexByte_none h k (by rw [List.getElem?_eq_getElem hk, he])
  · right
    have h' := h
    rw [Lib.index_one] at h'
    obtain ⟨h1, h2⟩ := Lib.indexByte_some h'
    have hlt : i < l.length := by
      rcases Nat.lt_or_ge i l.length with g | g
      · exact g
      · rw [List.getElem?_eq_none g] at h1; cases h1
    have hi : l[i] = 47 := by rw [List.getElem?_eq_getElem hlt] at h1; injection h1
    refine ⟨l.take i, l.drop (i + 1), ?_, ?_, ?_⟩
    · intro c hc e
      subst e
      obtain ⟨k, hk, he⟩ := List.getElem_of_mem hc
      rw [List.length_take] at hk
      refine h2 k (by omega) ?_
      rw [List.getElem_take] at he
      rw [List.getElem?_eq_getElem (by omega), he]
    · rw [← hi, List.getElem_cons_drop, List.take_append_drop]
    · unfold Lib.cut
      rw [h, if_pos (by omega)]
      simp
theorem slash_unique : ∀ {a a' b b' : List UInt8}, NoS a → NoS a' → a ++ 47 :: b = a' ++ 47 :: b' → a = a' ∧ b = b'
  | [], [], _, _, _, _, h => by injection h with _ h; exact ⟨rfl, h⟩
  | [], c :: r, _, _, _, h', h => by injection h with h1 _; exact absurd h1.symm (h' c (by simp))
  | c :: r, [], _, _, h', _, h => by injection h with h1 _; exact absurd h1 (h' c (by simp))
  | c :: r, c' :: r', b, b', h1, h2, h => by
    injection h with e1 e2
    obtain ⟨p, q⟩ := slash_unique (fun x hx => h1 x (by simp [hx])) (fun x hx => h2 x (by simp [hx])) e2
    exact ⟨by rw [e1, p], q⟩
theorem byte_eq {s t : ByteArray} (h : s.data.toList = t.data.toList) : s = t := by
  obtain ⟨⟨l⟩⟩ := s
  obtain ⟨⟨m⟩⟩ := t
  simp at h
  rw [h]
end Go.Proofs.YtdgfbnnohnaoaaaGreatDoor

