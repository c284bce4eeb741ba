/-
  'FormatNat', of the model and of the program: the numeral of the highest limb, then nine digits for each limb below it.
-/
import Derived.Test.YtmmgcdfifcbabaaGreatDoorPad
import Derived.Test.YtmmgcdfifcbabaaGreatDoorJoinImpl
import Derived.Test.YtmmgcdfifcbabaaGreatDoorCmp
namespace Go.Proofs.YtmmgcdfifcbabaaGreatDoor
open Go.ChangeShapes Go.WideShapes Go.ChangeAt Go.RowKit
open Go.ChangeMaps (open_string shut_string)
set_option linter.unusedVariables false
set_option linter.unusedSimpArgs false
set_option maxRecDepth 4000

/-- The numeral of limb j. -/
def dpart (a j : Nat) : List UInt8 := Lib.itoa (dgt a j)
/-- The text when t limbs below the highest of n are written. -/
def ftx (a n : Nat) : Nat → List UInt8
  | 0 => dpart a (n - 1)
  | t + 1 => ftx a n t ++ padL (dpart a (n - 2 - t)) 9
/-- Its parts. -/
def fps (a n : Nat) : Nat → List ByteArray
  | 0 => [⟨(dpart a (n - 1)).toArray⟩]
  | t + 1 => fps a n t ++ [⟨(padL (dpart a (n - 2 - t)) 9).toArray⟩]
def fmtN (a : Nat) : List UInt8 := if a = 0 then [48] else ftx a (ln a) (ln a - 1)
def fmtL (l : List Int) : List UInt8 := if ok l then fmtN (val l) else []
theorem dec_pow : ∀ (k u : Nat), u < 10 ^ (k + 1) → (Lib.decDigits u).length ≤ k + 1
  | 0, u, h => by
    rw [dec_small (by omega)]
    simp
  | k + 1, u, h => by
    by_cases h1 : u < 10
    · rw [dec_small h1]; simp
    · rw [dec_big h1, List.length_append]
      have := dec_pow k (u / 10) (by rw [Nat.pow_succ] at h; omega)
      simp
      omega
theorem dpart_len (a j : Nat) : (dpart a j).length ≤ 9 := by
  have h0 := dgt_nonneg a j
  have h1 := dgt_lt a j
  unfold dpart
  rw [Lib.itoa, if_neg (by omega)]
  exact dec_pow 8 _ (by omega)
theorem pad9_len {l : List UInt8} (h : l.length ≤ 9) : (padL l 9).length = 9 := by
  rw [padL_long (by decide), List.length_append, List.length_replicate]
  have : (9 : Int).toNat = 9 := rfl
  omega
theorem ftx_len (a n : Nat) : ∀ t, (ftx a n t).length ≤ 9 * (t + 1)
  | 0 => dpart_len _ _
  | t + 1 => by
    have := ftx_len a n t
    rw [ftx, List.length_append, pad9_len (dpart_len _ _)]
    omega
theorem fps_length (a n : Nat) : ∀ t, (fps a n t).length = t + 1
  | 0 => rfl
  | t + 1 => by rw [fps, List.length_append, fps_length a n t]; rfl
theorem total_append (l m : List ByteArray) : total (l ++ m) = total l + total m := by unfold total; rw [List.map_append, List.sum_append]
theorem fps_total (a n : Nat) : ∀ t, total (fps a n t) ≤ 9 * (t + 1)
  | 0 => by
    have := dpart_len a (n - 1)
    simp [fps, total, ByteArray.size]
    omega
  | t + 1 => by
    have := fps_total a n t
    have h9 := pad9_len (dpart_len a (n - 2 - t))
    rw [fps, total_append]
    have : total [(⟨(padL (dpart a (n - 2 - t)) 9).toArray⟩ : ByteArray)] = 9 := by simp [total, ByteArray.size, h9]
    omega
theorem jn_append (l : List ByteArray) (x : ByteArray) : jn (l ++ [x]) [] (l.length + 1) = jn l [] l.length ++ x.data.toList := by
  rw [jn_succ (by simp)]
  have h1 : (l ++ [x])[l.length]'(by simp) = x := by simp
  have h2 : jn (l ++ [x]) [] l.length = jn l [] l.length := by
    unfold jn
    rw [List.map_append, List.take_append_of_le_length (by simp)]
  rw [h1, h2]
  split <;> simp
theorem fps_join (a n : Nat) : ∀ t, jn (fps a n t) [] (t + 1) = ftx a n t
  | 0 => by
    have h := jn_append [] ⟨(dpart a (n - 1)).toArray⟩
    simpa [fps, ftx, jn_zero] using h
  | t + 1 => by
    have h := jn_append (fps a n t) ⟨(padL (dpart a (n - 2 - t)) 9).toArray⟩
    rw [fps_length] at h
    rw [fps, h, fps_join a n t, ftx]

end Go.Proofs.YtmmgcdfifcbabaaGreatDoor
