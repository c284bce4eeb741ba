/-
  The sum of the products of two lists' elements: words for both.
-/
import Derived.Test.YtdoimhnhafmcaaaGreatRl
import Derived.Test.YtdoimhnhafmcaaaGreatPkJ
import Derived.Test.YtdoimhnhafmcaaaGreatTk
import Derived.Test.YtdoimhnhafmcaaaGreatPtI
namespace Go.Proofs.YtdoimhnhafmcaaaGreat
open Go.ChangeShapes Go.WideShapes Go.ChangeAt Go.RowKit
open Go.ChangeMaps (open_string shut_string)
set_option linter.unusedVariables false
set_option linter.unusedSimpArgs false
set_option maxRecDepth 4000
/-- The sum so far. -/
def accQ (o : Option Rat) (l : List (R3 × R3)) : Option Rat := l.foldl (fun o p => binQ addQ o (binQ mulQ (valx p.1) (valx p.2))) o
def prs (L M : List RV) : List (R3 × R3) := (datQ L).zip (datQ M)
def innO (L M : List RV) : Option Rat := if L.length = M.length then accQ (some 0) (prs L M) else none
theorem accQ_app (o : Option Rat) (l : List (R3 × R3)) (x : R3 × R3) : accQ o (l ++ [x]) = binQ addQ (accQ o l) (binQ mulQ (valx x.1) (valx x.2)) := by simp [accQ, List.foldl_append]
theorem binadd_fit (x y : Option Rat) : FitO (binQ addQ x y) := FitO.bin (fun r s t h => cutQ_fit h) x y
theorem binmul_fit (x y : Option Rat) : FitO (binQ mulQ x y) := FitO.bin (fun r s t h => cutQ_fit h) x y
theorem zeroQ_fit : FitO (some (0 : Rat)) := fitO_some ⟨by show ln 0 ≤ 24; rw [ln_zero]; omega, by show ln 1 ≤ 24; have := ln_word (show (1 : Nat) ≤ 9223372036854775808 by omega); omega⟩
theorem accQ_fit {o : Option Rat} (h : FitO o) (l : List (R3 × R3)) : FitO (accQ o l) := by
  induction l generalizing o with
  | nil => exact h
  | cons x l ih => exact ih (binadd_fit _ _)
theorem innO_fit (L M : List RV) : FitO (innO L M) := by
  unfold innO
  split
  · exact accQ_fit zeroQ_fit _
  · exact fitO_none
theorem innO_dat {L M L' M' : List RV} (h : datQ L' = datQ L) (h' : datQ M' = datQ M) : innO L' M' = innO L M := by
  unfold innO prs
  rw [datQ_len h, datQ_len h', h, h']
theorem prs_step {L M : List RV} {j : Nat} {p q : RV} (hp : L[j]? = some p) (hq : M[j]? = some q) : (prs L M).take (j + 1) = (prs L M).take j ++ [(p.x, q.x)] := by
  have h : (prs L M)[j]? = some (p.x, q.x) := by
    unfold prs datQ
    rw [List.getElem?_zip_eq_some]
    simp [hp, hq]
  rw [List.take_add_one, h]; rfl
theorem prs_all {L M : List RV} {n : Nat} (hn : n = L.length) : (prs L M).take n = prs L M := by
  apply List.take_of_length_le
  unfold prs datQ
  rw [List.length_zip, List.length_map, List.length_map, hn]
  exact Nat.min_le_left _ _
theorem ofO_zero_made {B : Nat} {w w' : World} {e : Ending} (k : MadeR B (zn 0) (zm 0) (nd 1) w e w') : MadeQ B (ofO (some 0)) w e w' := MadeR.toQ (x := ofO (some 0)) k
end Go.Proofs.YtdoimhnhafmcaaaGreat
