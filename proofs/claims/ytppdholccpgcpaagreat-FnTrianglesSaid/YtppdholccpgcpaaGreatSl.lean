/-
  Lists of points: the row of their cells (six a point), the rows of their limbs; what may be read of them, what the call made itself.
-/
import Derived.Test.YtppdholccpgcpaaGreatPtE
import Derived.Test.YtppdholccpgcpaaGreatPtH
namespace Go.Proofs.YtppdholccpgcpaaGreat
open Go.ChangeShapes Go.WideShapes Go.ChangeAt Go.RowKit
set_option linter.unusedVariables false
set_option linter.unusedSimpArgs false
set_option maxRecDepth 4000
structure PV where
  x : R3
  y : R3
  a : Ad
  b : Ad
def noA : Ad := ⟨none, 0, none, 0⟩
def PV0 : PV := ⟨noR, noR, noA, noA⟩
def pcl (p : PV) : List Value := [.bool p.x.p, .slice p.a.A p.x.l.length p.a.c, .slice p.a.D p.x.m.length p.a.d, .bool p.y.p, .slice p.b.A p.y.l.length p.b.c, .slice p.b.D p.y.m.length p.b.d]
def prow (p : PV) : List (Option Addr × List Value) := rows p.x p.a ++ rows p.y p.b
def flat (L : List PV) : List Value := L.flatMap pcl
def lrow (L : List PV) : List (Option Addr × List Value) := L.flatMap prow
def srow (A : Option Addr) (L : List PV) : List (Option Addr × List Value) := (A, flat L) :: lrow L
def dat (L : List PV) : List (R3 × R3) := L.map (fun p => (p.x, p.y))
def CapP (p : PV) : Prop := p.x.l.length ≤ p.a.c ∧ p.x.m.length ≤ p.a.d ∧ p.y.l.length ≤ p.b.c ∧ p.y.m.length ≤ p.b.d
def LenP (p : PV) : Prop := (p.x.l.length ≤ 9223372036854775807 ∧ p.x.m.length ≤ 9223372036854775807) ∧ p.y.l.length ≤ 9223372036854775807 ∧ p.y.m.length ≤ 9223372036854775807
theorem pcl_length (p : PV) : (pcl p).length = 6 := rfl
theorem flat_cons (p : PV) (L : List PV) : flat (p :: L) = pcl p ++ flat L := by simp [flat]
theorem flat_app (L M : List PV) : flat (L ++ M) = flat L ++ flat M := by simp [flat]
theorem lrow_cons (p : PV) (L : List PV) : lrow (p :: L) = prow p ++ lrow L := by simp [lrow]
theorem lrow_app (L M : List PV) : lrow (L ++ M) = lrow L ++ lrow M := by simp [lrow]
theorem lrow_one (p : PV) : lrow [p] = prow p := by simp [lrow]
theorem flat_length (L : List PV) : (flat L).length = L.length * 6 := by
  induction L with
  | nil => rfl
  | cons p L ih => rw [flat_cons, List.length_append, ih, pcl_length, List.length_cons]; omega
theorem flat_get {L : List PV} {i : Nat} {p : PV} (h : L[i]? = some p) (k : Nat) (hk : k < 6) : (flat L)[i * 6 + k]? = (pcl p)[k]? := by
  induction L generalizing i with
  | nil => cases h
  | cons q L ih =>
    rw [flat_cons]
    cases i with
    | zero =>
      obtain rfl : q = p := by simpa using h
      rw [List.getElem?_append_left (by rw [pcl_length]; omega)]
      simp
    | succ i =>
      have h' : L[i]? = some p := by simpa using h
      rw [List.getElem?_append_right (by rw [pcl_length]; omega), ← ih h']
      congr 1
      rw [pcl_length]; omega
theorem getP {L : List PV} {i : Nat} (h : i < L.length) : ∃ p, L[i]? = some p := ⟨L[i], List.getElem?_eq_getElem h⟩
theorem lt_of_getP {L : List PV} {i : Nat} {p : PV} (h : L[i]? = some p) : i < L.length := by
  rcases Nat.lt_or_ge i L.length with h1 | h1
  · exact h1
  · rw [List.getElem?_eq_none h1] at h; cases h
theorem RdS.six {w : World} {A : Option Addr} {L : List PV} (h : RdS w A (flat L)) {i : Nat} {p : PV} (hp : L[i]? = some p) :
    ∃ g o, A = some ⟨g, o, none⟩ ∧ g < w.heap.size ∧ w.cell? ⟨g, o + i * 6, none⟩ = some (.bool p.x.p) ∧ w.cell? ⟨g, o + i * 6 + 1, none⟩ = some (.slice p.a.A p.x.l.length p.a.c) ∧ w.cell? ⟨g, o + i * 6 + 2, none⟩ = some (.slice p.a.D p.x.m.length p.a.d) ∧ w.cell? ⟨g, o + i * 6 + 3, none⟩ = some (.bool p.y.p) ∧ w.cell? ⟨g, o + i * 6 + 4, none⟩ = some (.slice p.b.A p.y.l.length p.b.c) ∧ w.cell? ⟨g, o + i * 6 + 5, none⟩ = some (.slice p.b.D p.y.m.length p.b.d) := by
  have hl := lt_of_getP hp
  have hf := flat_length L
  obtain ⟨g, o, ha, hg, hc⟩ := h.block (by omega)
  have C : ∀ k, k < 6 → w.cell? ⟨g, o + i * 6 + k, none⟩ = (pcl p)[k]? := fun k hk => by
    rw [← flat_get hp k hk, Nat.add_assoc]; exact hc (i * 6 + k) (by omega)
  exact ⟨g, o, ha, hg, C 0 (by omega), C 1 (by omega), C 2 (by omega), C 3 (by omega), C 4 (by omega), C 5 (by omega)⟩
theorem Rds.at {w : World} {L : List PV} (h : Rds w (lrow L)) {i : Nat} {p : PV} (hp : L[i]? = some p) : Rds w (prow p) := fun r hr =>
  h r (List.mem_flatMap.2 ⟨p, List.mem_of_getElem? hp, hr⟩)
theorem flat_split {L : List PV} {i : Nat} {p : PV} (h : L[i]? = some p) : flat L = flat (L.take i) ++ (pcl p ++ flat (L.drop (i + 1))) := by
  have hl := lt_of_getP h
  have e : L = L.take i ++ p :: L.drop (i + 1) := by
    have h1 := List.take_append_drop i L
    rw [List.drop_eq_getElem_cons hl] at h1
    have h2 : L[i] = p := by rw [List.getElem?_eq_getElem hl] at h; injection h
    rw [h2] at h1
    exact h1.symm
  conv => lhs; rw [e, flat_app, flat_cons]
def MadePS (B : Nat) (L : List PV) (w : World) (e : Ending) (w' : World) : Prop :=
  ∃ (M : List PV) (A : Option Addr) (c : Nat), e = .returned (.slice A M.length c) ∧ M.length ≤ c ∧ dat M = dat L ∧ (∀ p, p ∈ M → CapP p) ∧ Owns B w'.heap.size w' (srow A M) ∧ Aparts (srow A M) ∧ Below w.heap.size w w'
theorem dat_app (L M : List PV) : dat (L ++ M) = dat L ++ dat M := by simp [dat]
theorem set_app (M : List PV) (n : Nat) (q r : PV) (R : List PV) : (M ++ r :: R).set M.length q = (M ++ [q]) ++ R := by
  rw [List.set_append_right _ _ (Nat.le_refl _)]; simp
theorem below_cell {w w' : World} {g i : Nat} {v : Value} (hb : Below w.heap.size w w') (h : w.cell? ⟨g, i, none⟩ = some v) : w'.cell? ⟨g, i, none⟩ = some v := by
  rw [hb.cell (p := ⟨g, i, none⟩) (World.block_lt_of_cell? w _ h)]; exact h
end Go.Proofs.YtppdholccpgcpaaGreat
