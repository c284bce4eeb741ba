/-
  Big integers as a sign and a list of limbs: plain mathematics.
-/
import Derived.Test.YtmmgcdfifcbabaaGreatDoorCmp
namespace Go.Proofs.YtmmgcdfifcbabaaGreatDoor
open Go.ChangeShapes Go.WideShapes Go.ChangeAt Go.RowKit
open Go.ChangeMaps (open_string shut_string)
set_option linter.unusedVariables false
set_option linter.unusedSimpArgs false

/-- The sign and the limbs of an integer. -/
def zn (z : Int) : Bool := decide (z < 0)
def zm (z : Int) : List Int := nd z.natAbs
/-- The answer of the operations: 0 if it would be too long. -/
def czi (z : Int) : Int := if ln z.natAbs ≤ 60 then z else 0
/-- What 'BigIntOk' asks. -/
def okB (p : Bool) (l : List Int) : Bool := ok l && !(p && decide (l = []))
/-- The value. -/
def valB (p : Bool) (l : List Int) : Int := if p then -(val l : Int) else (val l : Int)
theorem nd_nil_iff {v : Nat} : nd v = [] ↔ v = 0 := by
  constructor
  · intro h
    have h1 : (nd v).length = 0 := by rw [h]; rfl
    rw [nd_length] at h1
    exact ln_eq_zero.1 h1
  · rintro rfl; exact nd_zero
theorem zn_zero : zn 0 = false := rfl
theorem zm_zero : zm 0 = [] := nd_zero
theorem zm_length (z : Int) : (zm z).length = ln z.natAbs := nd_length _
theorem okB_z {p : Bool} {l : List Int} (h : okB p l = true) : ∃ z : Int, p = zn z ∧ l = zm z ∧ ln z.natAbs ≤ 60 := by
  unfold okB at h
  rw [Bool.and_eq_true] at h
  obtain ⟨h1, h2⟩ := h
  obtain ⟨v, rfl, hv⟩ := ok_nd h1
  cases p
  · exact ⟨(v : Int), by unfold zn; simp, by unfold zm; simp, by simpa using hv⟩
  · have h0 : v ≠ 0 := by
      rintro rfl
      simp [nd_zero] at h2
    refine ⟨-(v : Int), ?_, by unfold zm; simp, by simpa using hv⟩
    unfold zn
    exact (decide_eq_true (by omega)).symm
theorem okB_mk {z : Int} (h : ln z.natAbs ≤ 60) : okB (zn z) (zm z) = true := by
  unfold okB zn zm
  rw [nd_ok h]
  simp [nd_nil_iff]
  omega
theorem valB_z (z : Int) : valB (zn z) (zm z) = z := by
  unfold valB zn zm
  rw [val_nd]
  by_cases h : z < 0
  · rw [decide_eq_true h]; simp; omega
  · rw [decide_eq_false h]; simp; omega
theorem okB_no {p : Bool} {l : List Int} (h : ok l = false) : okB p l = false := by unfold okB; rw [h]; rfl
theorem okB_neg : okB true [] = false := rfl
/-- One argument, two arguments: 0 where one of them is not valid. -/
def unZ (F : Int → Int) (p : Bool) (l : List Int) : Int := if okB p l then F (valB p l) else 0
def binZ (F : Int → Int → Int) (p : Bool) (l : List Int) (q : Bool) (m : List Int) : Int := if okB p l && okB q m then F (valB p l) (valB q m) else 0
theorem unZ_no {F : Int → Int} {p : Bool} {l : List Int} (h : okB p l = false) : unZ F p l = 0 := by unfold unZ; rw [h]; rfl
theorem unZ_yes {F : Int → Int} {z : Int} (h : ln z.natAbs ≤ 60) : unZ F (zn z) (zm z) = F z := by unfold unZ; rw [okB_mk h, valB_z]; rfl
theorem binZ_no {F : Int → Int → Int} {p q : Bool} {l m : List Int} (h : (okB p l && okB q m) = false) : binZ F p l q m = 0 := by unfold binZ; rw [h]; rfl
theorem binZ_yes {F : Int → Int → Int} {z y : Int} (h : ln z.natAbs ≤ 60) (h' : ln y.natAbs ≤ 60) : binZ F (zn z) (zm z) (zn y) (zm y) = F z y := by unfold binZ; rw [okB_mk h, okB_mk h', valB_z, valB_z]; rfl
theorem czi_in {z : Int} (h : ln z.natAbs ≤ 60) : czi z = z := if_pos h
theorem czi_out {z : Int} (h : 60 < ln z.natAbs) : czi z = 0 := if_neg (by omega)
theorem czi_len (z : Int) : ln (czi z).natAbs ≤ 60 := by
  unfold czi
  split
  · assumption
  · simp [ln_zero]
/-- What a sign and limbs that were cut make. -/
theorem cap60_yes' {T : Nat} (h : ln T ≤ 60) : cap60 T = nd T := if_pos h
theorem cap60_no' {T : Nat} (h : 60 < ln T) : cap60 T = [] := if_neg (by omega)
theorem cut_zn (p : Bool) (a : Nat) : (p && decide (cap60 a ≠ [])) = zn (czi (if p then -(a : Int) else (a : Int))) ∧ cap60 a = zm (czi (if p then -(a : Int) else (a : Int))) := by
  have hab : (if p then -(a : Int) else (a : Int)).natAbs = a := by cases p <;> simp
  by_cases h : ln a ≤ 60
  · rw [czi_in (by rw [hab]; exact h), cap60_yes' h]
    unfold zm zn
    rw [hab]
    refine ⟨?_, rfl⟩
    cases p
    · simp
    · have h1 : decide (nd a ≠ []) = decide (-(a : Int) < 0) := decide_eq_decide.2 (by rw [Ne, nd_nil_iff]; omega)
      simpa using h1
  · rw [czi_out (by rw [hab]; omega), cap60_no' (by omega), zm_zero, zn_zero]
    simp
end Go.Proofs.YtmmgcdfifcbabaaGreatDoor
