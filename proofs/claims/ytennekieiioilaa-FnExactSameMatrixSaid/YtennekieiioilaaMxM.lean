/-
  Marks in matrices.
-/
import Derived.Test.YtennekieiioilaaMxE
import Derived.Test.YtennekieiioilaaRm
namespace Go.Proofs.Ytennekieiioilaa
open Go.ChangeShapes Go.WideShapes Go.ChangeAt Go.RowKit
open Go.ChangeMaps (open_string shut_string)
set_option linter.unusedVariables false
set_option linter.unusedSimpArgs false
set_option maxRecDepth 4000

/-- What the marks leave. -/
def mkX (k : Int) (p : MR) : MR := ⟨marks k p.cs.length, p.A, p.c, mkqs (k + (p.cs.length : Int)) p.V, p.B, p.d⟩
def nxX (k : Int) (p : MR) : Int := nxqs (k + (p.cs.length : Int)) p.V
theorem nxX_eq (k : Int) (p : MR) : nxX k p = k + szr p := by unfold nxX szr; rw [nxqs_eq]; omega
def mkxs : Int → List MR → List MR
  | _, [] => []
  | k, p :: R => mkX k p :: mkxs (nxX k p) R
def nxxs : Int → List MR → Int
  | k, [] => k
  | k, p :: R => nxxs (nxX k p) R
theorem nxxs_eq (k : Int) (R : List MR) : nxxs k R = k + szrs R := by
  induction R generalizing k with
  | nil => simp [nxxs, szrs]
  | cons p R ih => show nxxs (nxX k p) R = k + (szr p + szrs R); rw [ih, nxX_eq]; omega
theorem nxxs_app (k : Int) (R T : List MR) : nxxs k (R ++ T) = nxxs (nxxs k R) T := by
  induction R generalizing k with
  | nil => rfl
  | cons p R ih => exact ih _
theorem mkxs_app (k : Int) (R T : List MR) : mkxs k (R ++ T) = mkxs k R ++ mkxs (nxxs k R) T := by
  induction R generalizing k with
  | nil => rfl
  | cons p R ih => show mkX k p :: mkxs (nxX k p) (R ++ T) = mkX k p :: (mkxs (nxX k p) R ++ mkxs (nxxs (nxX k p) R) T); rw [ih]
theorem mkxs_length (k : Int) (R : List MR) : (mkxs k R).length = R.length := by
  induction R generalizing k with
  | nil => rfl
  | cons p R ih => show (mkxs (nxX k p) R).length + 1 = _; rw [ih]; rfl
theorem mkxs_step {k : Int} {R : List MR} {j : Nat} {p : MR} (hp : R[j]? = some p) :
    mkxs k (R.take j) ++ R.drop j = mkxs k (R.take j) ++ p :: R.drop (j + 1) ∧ mkxs k (R.take (j + 1)) ++ R.drop (j + 1) = mkxs k (R.take j) ++ mkX (nxxs k (R.take j)) p :: R.drop (j + 1) ∧ nxxs k (R.take (j + 1)) = nxX (nxxs k (R.take j)) p := by
  have hl := lt_of_getX hp
  have h2 : R[j] = p := by rw [List.getElem?_eq_getElem hl] at hp; injection hp
  refine ⟨by rw [List.drop_eq_getElem_cons hl, h2], ?_, ?_⟩
  · rw [take_succX hp, mkxs_app]
    show (mkxs k (R.take j) ++ [mkX (nxxs k (R.take j)) p]) ++ R.drop (j + 1) = _
    rw [List.append_assoc]; rfl
  · rw [take_succX hp, nxxs_app]; rfl
theorem mcl_mk (k : Int) (p : MR) : mcl (mkX k p) = mcl p := by
  unfold mcl mkX
  rw [marks_length, mkqs_length]
theorem flatX_mk (M1 M2 : List MR) (k : Int) (p : MR) : flatX (M1 ++ mkX k p :: M2) = flatX (M1 ++ p :: M2) := by
  rw [flatX_app, flatX_app, flatX_cons, flatX_cons, mcl_mk]
/-- The rows of one row first, all others behind. -/
theorem srowX_perm (A : Option Addr) (M1 M2 : List MR) (p : MR) : (srowX A (M1 ++ p :: M2)).Perm (rmx p ++ ((A, flatX (M1 ++ p :: M2)) :: (lrowX M1 ++ lrowX M2))) := by
  unfold srowX
  rw [lrowX_app, lrowX_cons]
  generalize (A, flatX (M1 ++ p :: M2)) = X
  generalize rmx p = Y
  refine (List.Perm.cons X ?_).trans List.perm_middle.symm
  exact List.perm_append_comm_assoc _ _ _
theorem mkxs_get {k : Int} {R : List MR} {j : Nat} {p : MR} (hp : R[j]? = some p) : (mkxs k R)[j]? = some (mkX (nxxs k (R.take j)) p) := by
  have hl := lt_of_getX hp
  have h2 : R[j] = p := by rw [List.getElem?_eq_getElem hl] at hp; injection hp
  have e : R = R.take j ++ p :: R.drop (j + 1) := by
    have h1 := List.take_append_drop j R
    rw [List.drop_eq_getElem_cons hl, h2] at h1
    exact h1.symm
  have e2 : mkxs k R = mkxs k (R.take j) ++ mkX (nxxs k (R.take j)) p :: mkxs (nxX (nxxs k (R.take j)) p) (R.drop (j + 1)) := by
    conv => lhs; rw [e, mkxs_app]
    rfl
  rw [e2, List.getElem?_append_right (by rw [mkxs_length, List.length_take]; omega), mkxs_length, List.length_take, Nat.min_eq_left (by omega), Nat.sub_self]
  rfl
end Go.Proofs.Ytennekieiioilaa
