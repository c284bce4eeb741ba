/-
  Rows of values that a function gives: words for matrices of a few rows.
-/
import Derived.Test.YtppdholccpgcpaaGreatRl
import Derived.Test.YtppdholccpgcpaaGreatRm
namespace Go.Proofs.YtppdholccpgcpaaGreat
open Go.ChangeShapes Go.WideShapes Go.ChangeAt Go.RowKit
set_option linter.unusedVariables false
set_option linter.unusedSimpArgs false
set_option maxRecDepth 4000
def rowF (f : Nat → Option Rat) (n : Nat) : List RV := (List.range n).map (fun k => ⟨ofO (f k), noA⟩)
def matF (f : Nat → Nat → Option Rat) (m n : Nat) : List SV := (List.range m).map (fun i => ⟨rowF (f i) n, none, 0⟩)
def okF (f : Nat → Nat → Option Rat) (m n : Nat) : Bool := (List.range m).all (fun i => (List.range n).all (fun k => (f i k).isSome))
def fullM (f : Nat → Nat → Option Rat) (m n : Nat) : List SV := if okF f m n = true then matF f m n else []
theorem rowF_len (f : Nat → Option Rat) (n : Nat) : (rowF f n).length = n := by simp [rowF]
theorem matF_len (f : Nat → Nat → Option Rat) (m n : Nat) : (matF f m n).length = m := by simp [matF]
theorem fullM_ext {f g : Nat → Nat → Option Rat} {m n : Nat} (h : ∀ i k, i < m → k < n → f i k = g i k) : fullM f m n = fullM g m n := by
  have e1 : matF f m n = matF g m n := by
    unfold matF
    refine List.map_congr_left fun i hi => ?_
    have : rowF (f i) n = rowF (g i) n := List.map_congr_left fun k hk => by rw [h i k (List.mem_range.1 hi) (List.mem_range.1 hk)]
    rw [this]
  have e2 : okF f m n = okF g m n := by
    unfold okF
    rw [Bool.eq_iff_iff]
    simp only [List.all_eq_true, List.mem_range]
    constructor
    · intro hh i hi k hk; rw [← h i k hi hk]; exact hh i hi k hk
    · intro hh i hi k hk; rw [h i k hi hk]; exact hh i hi k hk
  unfold fullM
  rw [e1, e2]
end Go.Proofs.YtppdholccpgcpaaGreat
