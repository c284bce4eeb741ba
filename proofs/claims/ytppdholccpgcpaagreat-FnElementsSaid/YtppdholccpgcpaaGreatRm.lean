/-
  Lists of lists of fractions: the row of their rows; equality, marks.
-/
import Derived.Test.YtppdholccpgcpaaGreatRl
import Derived.Test.YtppdholccpgcpaaGreatWp
namespace Go.Proofs.YtppdholccpgcpaaGreat
open Go.ChangeShapes Go.WideShapes Go.ChangeAt Go.RowKit
set_option linter.unusedVariables false
set_option linter.unusedSimpArgs false
set_option maxRecDepth 4000
structure SV where
  L : List RV
  A : Option Addr
  c : Nat
def scl (p : SV) : Value := .slice p.A p.L.length p.c
def rrowS (p : SV) : List Row := srowQ p.A p.L
def flatS (R : List SV) : List Value := R.map scl
def lrowS (R : List SV) : List Row := R.flatMap rrowS
def srowS (B : Option Addr) (R : List SV) : List Row := (B, flatS R) :: lrowS R
def datS (R : List SV) : List (List R3) := R.map (fun p => datQ p.L)
theorem flatS_length (R : List SV) : (flatS R).length = R.length := List.length_map _
theorem getS {R : List SV} {i : Nat} (h : i < R.length) : ∃ p, R[i]? = some p := ⟨R[i], List.getElem?_eq_getElem h⟩
theorem lt_of_getS {R : List SV} {i : Nat} {p : SV} (h : R[i]? = some p) : i < R.length := by
  rcases Nat.lt_or_ge i R.length with h1 | h1
  · exact h1
  · rw [List.getElem?_eq_none h1] at h; cases h
theorem RdS.row {w : World} {A : Option Addr} {R : List SV} (h : RdS w A (flatS R)) {i : Nat} {p : SV} (hp : R[i]? = some p) :
    ∃ g o, A = some ⟨g, o, none⟩ ∧ g < w.heap.size ∧ w.cell? ⟨g, o + i, none⟩ = some (.slice p.A p.L.length p.c) := by
  have hl := lt_of_getS hp
  obtain ⟨g, o, ha, hg, hc⟩ := h.block (by rw [flatS_length]; omega)
  refine ⟨g, o, ha, hg, ?_⟩
  rw [hc i (by rw [flatS_length]; exact hl)]
  unfold flatS
  rw [List.getElem?_map, hp]; rfl
theorem Rds.atS {w : World} {R : List SV} (h : Rds w (lrowS R)) {i : Nat} {p : SV} (hp : R[i]? = some p) : Rds w (rrowS p) := fun r hr =>
  h r (List.mem_flatMap.2 ⟨p, List.mem_of_getElem? hp, hr⟩)
theorem datS_len {R T : List SV} (h : datS T = datS R) : T.length = R.length := by
  have := congrArg List.length h
  simpa [datS] using this
theorem datS_get {R T : List SV} (h : datS T = datS R) {i : Nat} {p : SV} (hp : R[i]? = some p) : ∃ q, T[i]? = some q ∧ datQ q.L = datQ p.L := by
  have h1 : (datS T)[i]? = some (datQ p.L) := by rw [h]; simp [datS, hp]
  unfold datS at h1
  rw [List.getElem?_map] at h1
  cases hq : T[i]? with
  | none => rw [hq] at h1; cases h1
  | some q =>
    rw [hq] at h1
    injection h1 with h1
    exact ⟨q, rfl, h1⟩
end Go.Proofs.YtppdholccpgcpaaGreat
