/-
  Lists of fractions: the row of their cells (three a fraction), the rows of their limbs.
-/
import Derived.Test.YtppdholccpgcpaaGreatSl
namespace Go.Proofs.YtppdholccpgcpaaGreat
open Go.ChangeShapes Go.WideShapes Go.ChangeAt Go.RowKit
set_option linter.unusedVariables false
set_option linter.unusedSimpArgs false
set_option maxRecDepth 4000
structure RV where
  x : R3
  a : Ad
def RV0 : RV := ⟨noR, noA⟩
def qcl (p : RV) : List Value := [.bool p.x.p, .slice p.a.A p.x.l.length p.a.c, .slice p.a.D p.x.m.length p.a.d]
def qrow (p : RV) : List (Option Addr × List Value) := rows p.x p.a
def flatQ (L : List RV) : List Value := L.flatMap qcl
def lrowQ (L : List RV) : List (Option Addr × List Value) := L.flatMap qrow
def datQ (L : List RV) : List R3 := L.map (fun p => p.x)
def CapQ (p : RV) : Prop := p.x.l.length ≤ p.a.c ∧ p.x.m.length ≤ p.a.d
def LenQ (p : RV) : Prop := p.x.l.length ≤ 9223372036854775807 ∧ p.x.m.length ≤ 9223372036854775807
theorem qcl_length (p : RV) : (qcl p).length = 3 := rfl
theorem flatQ_cons (p : RV) (L : List RV) : flatQ (p :: L) = qcl p ++ flatQ L := by simp [flatQ]
theorem flatQ_app (L M : List RV) : flatQ (L ++ M) = flatQ L ++ flatQ M := by simp [flatQ]
theorem lrowQ_app (L M : List RV) : lrowQ (L ++ M) = lrowQ L ++ lrowQ M := by simp [lrowQ]
theorem lrowQ_one (p : RV) : lrowQ [p] = qrow p := by simp [lrowQ]
theorem flatQ_length (L : List RV) : (flatQ L).length = L.length * 3 := by
  induction L with
  | nil => rfl
  | cons p L ih => rw [flatQ_cons, List.length_append, ih, qcl_length, List.length_cons]; omega
theorem flatQ_get {L : List RV} {i : Nat} {p : RV} (h : L[i]? = some p) (k : Nat) (hk : k < 3) : (flatQ L)[i * 3 + k]? = (qcl p)[k]? := by
  induction L generalizing i with
  | nil => cases h
  | cons q L ih =>
    rw [flatQ_cons]
    cases i with
    | zero =>
      obtain rfl : q = p := by simpa using h
      rw [List.getElem?_append_left (by rw [qcl_length]; omega)]
      simp
    | succ i =>
      have h' : L[i]? = some p := by simpa using h
      rw [List.getElem?_append_right (by rw [qcl_length]; omega), ← ih h']
      congr 1
      rw [qcl_length]; omega
theorem getQ {L : List RV} {i : Nat} (h : i < L.length) : ∃ p, L[i]? = some p := ⟨L[i], List.getElem?_eq_getElem h⟩
theorem lt_of_getQ {L : List RV} {i : Nat} {p : RV} (h : L[i]? = some p) : i < L.length := by
  rcases Nat.lt_or_ge i L.length with h1 | h1
  · exact h1
  · rw [List.getElem?_eq_none h1] at h; cases h
theorem RdS.three {w : World} {A : Option Addr} {L : List RV} (h : RdS w A (flatQ L)) {i : Nat} {p : RV} (hp : L[i]? = some p) :
    ∃ g o, A = some ⟨g, o, none⟩ ∧ g < w.heap.size ∧ w.cell? ⟨g, o + i * 3, none⟩ = some (.bool p.x.p) ∧ w.cell? ⟨g, o + i * 3 + 1, none⟩ = some (.slice p.a.A p.x.l.length p.a.c) ∧ w.cell? ⟨g, o + i * 3 + 2, none⟩ = some (.slice p.a.D p.x.m.length p.a.d) := by
  have hl := lt_of_getQ hp
  have hf := flatQ_length L
  obtain ⟨g, o, ha, hg, hc⟩ := h.block (by omega)
  have C : ∀ k, k < 3 → w.cell? ⟨g, o + i * 3 + k, none⟩ = (qcl p)[k]? := fun k hk => by
    rw [← flatQ_get hp k hk, Nat.add_assoc]; exact hc (i * 3 + k) (by omega)
  exact ⟨g, o, ha, hg, C 0 (by omega), C 1 (by omega), C 2 (by omega)⟩
theorem Rds.atQ {w : World} {L : List RV} (h : Rds w (lrowQ L)) {i : Nat} {p : RV} (hp : L[i]? = some p) : Rds w (qrow p) := fun r hr =>
  h r (List.mem_flatMap.2 ⟨p, List.mem_of_getElem? hp, hr⟩)
theorem datQ_app (L M : List RV) : datQ (L ++ M) = datQ L ++ datQ M := by simp [datQ]
end Go.Proofs.YtppdholccpgcpaaGreat
