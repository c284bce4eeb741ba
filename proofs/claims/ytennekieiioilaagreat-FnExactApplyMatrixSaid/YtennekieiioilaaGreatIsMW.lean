/-
  Matrices that are valid: words for both.
-/
import Derived.Test.YtennekieiioilaaGreatMx
import Derived.Test.YtennekieiioilaaGreatValB
import Derived.Test.YtennekieiioilaaGreatPkH
namespace Go.Proofs.YtennekieiioilaaGreat
open Go.ChangeShapes Go.WideShapes Go.ChangeAt Go.RowKit
open Go.ChangeMaps (open_string shut_string)
set_option linter.unusedVariables false
set_option linter.unusedSimpArgs false
set_option maxRecDepth 4000
/-- The element number i of a row of a matrix of n rows. -/
def elB (n : Nat) (p : MR) (i : Nat) : Bool := decide (0 ≤ (p.cs[i]?).getD 0 ∧ (p.cs[i]?).getD 0 ≤ (n : Int) - 1) && (((i == 0) || decide ((p.cs[i - 1]?).getD 0 < (p.cs[i]?).getD 0)) && (sgnO (valx (((datQ p.V)[i]?).getD noR)) != 0))
def rowB (n : Nat) (p : MR) : Bool := decide (p.cs.length = p.V.length) && (validB p.V && (List.range p.cs.length).all (elB n p))
def isMx (R : List MR) : Bool := decide (R.length ≤ 40) && R.all (rowB R.length)
theorem rowB_dat {n : Nat} {p q : MR} (h : q.cs = p.cs) (h' : datQ q.V = datQ p.V) : rowB n q = rowB n p := by
  have e : elB n q = elB n p := by funext i; unfold elB; rw [h, h']
  unfold rowB
  rw [h, datQ_len h', validB_dat h', e]
theorem isMx_dat {R T : List MR} (h : datX T = datX R) : isMx T = isMx R := by
  have k : ∀ n, T.all (rowB n) = R.all (rowB n) := fun n => by
    induction R generalizing T with
    | nil => obtain rfl : T = [] := List.eq_nil_of_length_eq_zero (datX_len h); rfl
    | cons p R ih =>
      match T, h with
      | q :: T, h =>
        simp only [datX, List.map_cons, List.cons.injEq, Prod.mk.injEq] at h
        rw [List.all_cons, List.all_cons, rowB_dat h.1.1 h.1.2, ih h.2]
  unfold isMx
  rw [datX_len h, k]
theorem allB_at {R : List MR} {n : Nat} (h : R.all (rowB n) = true) {i : Nat} {p : MR} (hp : R[i]? = some p) : rowB n p = true := List.all_eq_true.1 h p (List.mem_of_getElem? hp)
theorem allB_take {R : List MR} {n i : Nat} {p : MR} (hp : R[i]? = some p) (h : (R.take i).all (rowB n) = true) : (R.take (i + 1)).all (rowB n) = rowB n p := by
  rw [take_succX hp, List.all_append, h]; simp
theorem elB_mem {n m : Nat} {p : MR} (h : (List.range m).all (elB n p) = true) {j : Nat} (hj : j < m) : elB n p j = true := List.all_eq_true.1 h j (List.mem_range.2 hj)
theorem elB_succ {n j : Nat} {p : MR} (h : (List.range j).all (elB n p) = true) : (List.range (j + 1)).all (elB n p) = elB n p j := by
  rw [List.range_succ, List.all_append, h]; simp
theorem vi_cell {w : World} {A : Option Addr} {l : List Int} (h : RdS w A (vi l)) {i : Nat} {y : Int} (hy : l[i]? = some y) : ∃ g o, A = some ⟨g, o, none⟩ ∧ g < w.heap.size ∧ w.cell? ⟨g, o + i, none⟩ = some (.int .i64 y) := by
  have hl : i < l.length := by
    rcases Nat.lt_or_ge i l.length with h1 | h1
    · exact h1
    · rw [List.getElem?_eq_none h1] at hy; cases hy
  obtain ⟨g, o, ha, hg, hc⟩ := h.block (by rw [vi_length]; omega)
  refine ⟨g, o, ha, hg, ?_⟩
  rw [hc i (by rw [vi_length]; exact hl)]
  unfold vi
  rw [List.getElem?_map, hy]; rfl
end Go.Proofs.YtennekieiioilaaGreat
