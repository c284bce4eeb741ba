/-
  What 'impl.Join' answers.
-/
import Derived.Test.YtdgfbnnohnaoaaaGreatDoorDkA
import Derived.Test.YtdgfbnnohnaoaaaGreatDoorShelf
namespace Go.Proofs.YtdgfbnnohnaoaaaGreatDoor
open Go.ChangeShapes Go.WideShapes Go.ChangeAt Go.RowKit
open Go.ChangeMaps (open_string shut_string)
set_option linter.unusedVariables false
set_option linter.unusedSimpArgs false

/-- The strings' sizes, added up. -/
def total (l : List ByteArray) : Nat := (l.map ByteArray.size).sum
theorem total_take_succ {l : List ByteArray} {k : Nat} (h : k < l.length) : total (l.take (k + 1)) = total (l.take k) + l[k].size := by
  rw [List.take_succ_eq_append_getElem h]
  unfold total
  rw [List.map_append, List.sum_append]
  rfl
/-- The first k strings, joined. -/
def jn (l : List ByteArray) (sep : List UInt8) (k : Nat) : List UInt8 := Lib.join ((l.map (·.data.toList)).take k) sep
theorem jn_zero (l : List ByteArray) (sep : List UInt8) : jn l sep 0 = [] := rfl
theorem jn_succ {l : List ByteArray} {sep : List UInt8} {k : Nat} (h : k < l.length) : jn l sep (k + 1) = (if k = 0 then jn l sep k else jn l sep k ++ sep) ++ l[k].data.toList := by
  unfold jn
  obtain _ | ⟨x, r⟩ := l
  · simp at h
  · rw [List.map_cons]
    obtain _ | k := k
    · simp [Lib.join_one, Lib.join_nil]
    · have hr : (r.map (·.data.toList))[k]? = some (r[k]'(by simpa using h)).data.toList := by
        rw [List.getElem?_map, List.getElem?_eq_getElem (by simpa using h)]; rfl
      rw [List.take_succ_cons, List.take_succ_cons, Lib.join_cons, Lib.join_cons, Lib.joinTail_take_succ sep _ k _ hr, if_neg (by omega)]
      simp
theorem jn_all (l : List ByteArray) (sep : List UInt8) : jn l sep l.length = Lib.join (l.map (·.data.toList)) sep := by
  unfold jn
  rw [List.take_of_length_le (by simp)]
theorem jn_len (l : List ByteArray) (sep : List UInt8) : ∀ k, k ≤ l.length → (jn l sep k).length ≤ total (l.take k) + sep.length * k
  | 0, _ => by rw [jn_zero]; simp
  | k + 1, h => by
    have ih := jn_len l sep k (by omega)
    rw [jn_succ (by omega), total_take_succ (by omega), List.length_append]
    have hs : (l[k]'(by omega)).data.toList.length = (l[k]'(by omega)).size := by simp
    rw [hs, Nat.mul_add, Nat.mul_one]
    split
    · omega
    · rw [List.length_append]; omega
theorem total_take_le (l : List ByteArray) : ∀ k, k ≤ l.length → total (l.take k) ≤ total l
  | k, h => by
    have : l = l.take k ++ l.drop k := (List.take_append_drop k l).symm
    have e : total l = total (l.take k) + total (l.drop k) := by
      unfold total
      rw [← List.sum_append, ← List.map_append, List.take_append_drop]
    omega
theorem jn_bound {l : List ByteArray} {sep : List UInt8} (ht : l.length + total l ≤ 1048576) (hs : sep.length ≤ 1048576) {k : Nat} (hk : k ≤ l.length) : (jn l sep k).length ≤ 2199023255552 := by
  have h1 := jn_len l sep k hk
  have h2 := total_take_le l k hk
  have h3 : sep.length * k ≤ 1048576 * 1048576 := Nat.mul_le_mul hs (by omega)
  omega
theorem joinParts_any (l : List ByteArray) (sep : List UInt8) (A : Option Addr) (n c : Nat) (w : World) (hl : l.length = n) (hc : n ≤ c) (ht : l.length + total l ≤ 1048576) (hs : sep.length ≤ 1048576) (hA : RdS w A (vs l)) :
    Calls Tryz.prog 24 #[.string ⟨sep.toArray⟩, .slice A n c] w fun e w' => e = .returned (.string ⟨(jn l sep n).toArray⟩) ∧ Below w.heap.size w w' := by
  have hj : Lib.join (l.map (·.data.toList)) (ByteArray.mk sep.toArray).data.toList = jn l sep n := by rw [← hl, jn_all]
  have hb := jn_bound ht hs (k := l.length) (Nat.le_refl _)
  rw [hl] at hb
  have H : Hid (Calls Tryz.prog 53 #[.slice A n c, .string ⟨sep.toArray⟩] w fun e w' => e = .returned (.string ⟨(jn l sep n).toArray⟩) ∧ Below w.heap.size w w') := by
    rcases Nat.eq_zero_or_pos n with h0 | h0
    · subst h0
      exact (Tryz.strings_Join_none A c ⟨sep.toArray⟩ w).mono fun e w' ⟨he, hw⟩ => ⟨by rw [he, jn_zero], by rw [hw]; exact Below.refl _ _⟩
    · obtain ⟨bk, o, rfl, hbk, hcell⟩ := hA.block (by rw [vs_length]; omega)
      have hS := Tryz.strings_Join bk o c l ⟨sep.toArray⟩ w (fun j x hx => by
        have hjl := (List.getElem?_eq_some_iff.1 hx).1
        rw [hcell j (by rw [vs_length]; exact hjl), vs_get hjl, (List.getElem?_eq_some_iff.1 hx).2]) hbk (by omega) (by omega) (by rw [hj]; omega)
      rw [hj, hl] at hS
      exact hS
  clear hj hb ht hA
  go_enter Tryz.func24, Tryz.ntmps24
  go_wp2_with fail
  refine (Hid.out H).mono ?_
  rintro e w1 ⟨rfl, hb⟩
  go_wp2
  go_ret
  exact ⟨rfl, hb⟩
theorem impl_join (l : List ByteArray) (sep : List UInt8) (A : Option Addr) (n c : Nat) (w : World) (hl : l.length = n) (hc : n ≤ c) (ht : l.length + total l ≤ 1048576) (hs : sep.length ≤ 1048576) (hA : RdS w A (vs l)) :
    Calls Tryz.prog 86 #[.slice A n c, .string ⟨sep.toArray⟩] w fun e w' => e = .returned (.string ⟨(jn l sep n).toArray⟩) ∧ Below w.heap.size w w' := by
  have H := Lib.hid (joinParts_any l sep A n c w hl hc ht hs hA)
  clear hl hc ht hA
  go_enter Tryz.func86, Tryz.ntmps86
  go_wp2_with fail
  refine (Hid.out H).mono ?_
  rintro e w1 ⟨rfl, hb⟩
  go_wp2
  go_ret
  exact ⟨rfl, hb⟩

end Go.Proofs.YtdgfbnnohnaoaaaGreatDoor

