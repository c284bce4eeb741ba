/-
  A text cut at its first slash, and its parts. Plain mathematics.
-/
import Derived.Test.YtkmfbanlkglkmabGreatDoorCanon
import Derived.Test.YtkmfbanlkglkmabGreatDoorSplitS
import Derived.Lib.IndexMore
import Derived.Lib.IndexLaws
import Derived.Lib.IndexBytes
namespace Go.Proofs.YtkmfbanlkglkmabGreatDoor
open Go.ChangeShapes Go.WideShapes Go.ChangeAt Go.RowKit
open Go.ChangeMaps (open_string shut_string)
set_option linter.unusedVariables false
set_option linter.unusedSimpArgs false
set_option maxRecDepth 4000

/-- No slash. -/
def NoS (l : List UInt8) : Prop := ∀ c ∈ l, c ≠ 47
theorem cut_cases (l : List UInt8) : (NoS l ∧ Lib.cut l [47] = (l, [], false)) ∨ ∃ a b, NoS a ∧ l = a ++ 47 :: b ∧ Lib.cut l [47] = (a, b, true) := by
  rcases Lib.index_spec l [47] with ⟨h, _⟩ | ⟨i, h, _, _, _⟩
  · left
    refine ⟨?_, by unfold Lib.cut; rw [h]; rfl⟩
    rw [Lib.index_one] at h
    intro c hc e
    subst e
    obtain ⟨k, hk, he⟩ := List.getElem_of_mem hc
    exact Lib.indexByte_none h k (by rw [List.getElem?_eq_getElem hk, he])
  · right
    have h' := h
    rw [Lib.index_one] at h'
    obtain ⟨h1, h2⟩ := Lib.indexByte_some h'
    have hlt : i < l.length := by
      rcases Nat.lt_or_ge i l.length with g | g
      · exact g
      · rw [List.getElem?_eq_none g] at h1; cases h1
    have hi : l[i] = 47 := by rw [List.getElem?_eq_getElem hlt] at h1; injection h1
    refine ⟨l.take i, l.drop (i + 1), ?_, ?_, ?_⟩
    · intro c hc e
      subst e
      obtain ⟨k, hk, he⟩ := List.getElem_of_mem hc
      rw [List.length_take] at hk
      refine h2 k (by omega) ?_
      rw [List.getElem_take] at he
      rw [List.getElem?_eq_getElem (by omega), he]
    · rw [← hi, List.getElem_cons_drop, List.take_append_drop]
    · unfold Lib.cut
      rw [h, if_pos (by omega)]
      simp
theorem slash_unique : ∀ {a a' b b' : List UInt8}, NoS a → NoS a' → a ++ 47 :: b = a' ++ 47 :: b' → a = a' ∧ b = b'
  | [], [], _, _, _, _, h => by injection h with _ h; exact ⟨rfl, h⟩
  | [], c :: r, _, _, _, h', h => by injection h with h1 _; exact absurd h1.symm (h' c (by simp))
  | c :: r, [], _, _, h', _, h => by injection h with h1 _; exact absurd h1 (h' c (by simp))
  | c :: r, c' :: r', b, b', h1, h2, h => by
    injection h with e1 e2
    obtain ⟨p, q⟩ := slash_unique (fun x hx => h1 x (by simp [hx])) (fun x hx => h2 x (by simp [hx])) e2
    exact ⟨by rw [e1, p], q⟩
def slash : ByteArray := ⟨#[47]⟩
theorem sep_iff (s : ByteArray) (i : Nat) : sepAt s slash i = (s.data.toList.getD i 0 == 47) := by
  unfold sepAt slash
  generalize s.data.toList.getD i 0 = c
  show List.contains [47] c = _
  rw [List.contains_cons]
  simp
theorem byte_eq {s t : ByteArray} (h : s.data.toList = t.data.toList) : s = t := by
  obtain ⟨⟨l⟩⟩ := s
  obtain ⟨⟨m⟩⟩ := t
  simp at h
  rw [h]
theorem of_list (l : List UInt8) : (⟨l.toArray⟩ : ByteArray).data.toList = l := by simp
/-- Ahead of place k there is no slash. -/
theorem pts_none (s : ByteArray) : ∀ k, (∀ j, j < k → s.data.toList.getD j 0 ≠ 47) → pts s slash k = [] ∧ frm s slash k = 0
  | 0, _ => ⟨rfl, rfl⟩
  | k + 1, h => by
    obtain ⟨h1, h2⟩ := pts_none s k (fun j hj => h j (by omega))
    have hs : sepAt s slash k = false := by rw [sep_iff]; simpa using h k (by omega)
    rw [pts_no hs, frm_no hs]
    exact ⟨h1, h2⟩
/-- Behind the first slash, at place o. -/
theorem pts_head (s : ByteArray) (o : Nat) (ho : s.data.toList.getD o 0 = 47) (h : ∀ j, j < o → s.data.toList.getD j 0 ≠ 47) : ∀ k, ∃ r, pts s slash (o + 1 + k) = s.extract 0 o :: r
  | 0 => by
    obtain ⟨h1, h2⟩ := pts_none s o h
    have hs : sepAt s slash o = true := by rw [sep_iff, ho]; rfl
    exact ⟨[], by rw [Nat.add_zero, pts_yes hs, h1, h2]; rfl⟩
  | k + 1 => by
    obtain ⟨r, hr⟩ := pts_head s o ho h k
    by_cases hs : sepAt s slash (o + 1 + k) = true
    · exact ⟨r ++ [s.extract (frm s slash (o + 1 + k)) (o + 1 + k)], by rw [show o + 1 + (k + 1) = o + 1 + k + 1 by omega, pts_yes hs, hr]; rfl⟩
    · exact ⟨r, by rw [show o + 1 + (k + 1) = o + 1 + k + 1 by omega, pts_no (by simpa using hs), hr]⟩
theorem pts_one (s : ByteArray) (o : Nat) (ho : s.data.toList.getD o 0 = 47) (h : ∀ j, j < o → s.data.toList.getD j 0 ≠ 47) : ∀ k, (∀ j, o < j → j < o + 1 + k → s.data.toList.getD j 0 ≠ 47) → pts s slash (o + 1 + k) = [s.extract 0 o] ∧ frm s slash (o + 1 + k) = o + 1
  | 0, _ => by
    obtain ⟨h1, h2⟩ := pts_none s o h
    have hs : sepAt s slash o = true := by rw [sep_iff, ho]; rfl
    exact ⟨by rw [Nat.add_zero, pts_yes hs, h1, h2]; rfl, by rw [Nat.add_zero, frm_yes hs]⟩
  | k + 1, h2 => by
    obtain ⟨a, b⟩ := pts_one s o ho h k (fun j h3 h4 => h2 j h3 (by omega))
    have hs : sepAt s slash (o + 1 + k) = false := by rw [sep_iff]; simpa using h2 (o + 1 + k) (by omega) (by omega)
    rw [show o + 1 + (k + 1) = o + 1 + k + 1 by omega, pts_no hs, frm_no hs]
    exact ⟨a, b⟩
theorem splits_none {s : ByteArray} (h : NoS s.data.toList) : splits s slash = [s] := by
  have hk : ∀ j, j < s.size → s.data.toList.getD j 0 ≠ 47 := fun j hj => by
    rw [List.getD_eq_getElem?_getD, List.getElem?_eq_getElem (by simpa using hj)]
    exact h _ (List.getElem_mem _)
  obtain ⟨h1, h2⟩ := pts_none s s.size hk
  unfold splits
  rw [h1, h2]
  have : s.extract 0 s.size = s := byte_eq (by rw [ext_list, List.take_of_length_le (by rw [size_list]; exact Nat.le_refl _)]; rfl)
  rw [this]
  rfl
theorem getD_at {a b : List UInt8} : (a ++ 47 :: b).getD a.length 0 = 47 := by simp [List.getD_eq_getElem?_getD]
theorem getD_ahead {a b : List UInt8} (h : NoS a) {j : Nat} (hj : j < a.length) : (a ++ 47 :: b).getD j 0 ≠ 47 := by
  rw [List.getD_eq_getElem?_getD, List.getElem?_append_left hj, List.getElem?_eq_getElem hj]
  exact h _ (List.getElem_mem _)
theorem splits_one {s : ByteArray} {a b : List UInt8} (hl : s.data.toList = a ++ 47 :: b) (ha : NoS a) (hb : NoS b) : splits s slash = [⟨a.toArray⟩, ⟨b.toArray⟩] := by
  have hsz : s.size = a.length + 1 + b.length := by
    have : s.data.toList.length = s.size := by simp
    rw [← this, hl]; simp; omega
  obtain ⟨h1, h2⟩ := pts_one s a.length (by rw [hl]; exact getD_at) (fun j hj => by rw [hl]; exact getD_ahead ha hj) b.length (fun j h3 h4 => by
    rw [hl, List.getD_eq_getElem?_getD, List.getElem?_append_right (by omega)]
    obtain ⟨i, rfl⟩ : ∃ i, j = a.length + (i + 1) := ⟨j - a.length - 1, by omega⟩
    rw [show a.length + (i + 1) - a.length = i + 1 by omega, List.getElem?_cons_succ, List.getElem?_eq_getElem (by omega)]
    exact hb _ (List.getElem_mem _))
  unfold splits
  rw [hsz, h1, h2]
  have e1 : s.extract 0 a.length = ⟨a.toArray⟩ := byte_eq (by rw [ext_list, hl]; simp)
  have e2 : s.extract (a.length + 1) (a.length + 1 + b.length) = ⟨b.toArray⟩ := byte_eq (by
    rw [ext_list, hl, List.take_of_length_le (by simp; omega)]
    simp)
  rw [e1, e2]
  rfl
theorem splits_many {s : ByteArray} {a b : List UInt8} (hl : s.data.toList = a ++ 47 :: b) (ha : NoS a) : ∃ w1 r, splits s slash = ⟨a.toArray⟩ :: w1 :: r := by
  have hsz : s.size = a.length + 1 + b.length := by
    have : s.data.toList.length = s.size := by simp
    rw [← this, hl]; simp; omega
  obtain ⟨r, hr⟩ := pts_head s a.length (by rw [hl]; exact getD_at) (fun j hj => by rw [hl]; exact getD_ahead ha hj) b.length
  have e1 : s.extract 0 a.length = ⟨a.toArray⟩ := byte_eq (by rw [ext_list, hl]; simp)
  unfold splits
  rw [hsz, hr, e1]
  cases r with
  | nil => exact ⟨_, [], rfl⟩
  | cons x r => exact ⟨x, r ++ _, rfl⟩
end Go.Proofs.YtkmfbanlkglkmabGreatDoor
