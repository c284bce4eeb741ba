/-
  Marks in lists of fractions: what the harness writes into them.
-/
import Derived.Test.YtennekieiioilaaRl
import Derived.Test.YtennekieiioilaaSlM
namespace Go.Proofs.Ytennekieiioilaa
open Go.ChangeShapes Go.WideShapes Go.ChangeAt Go.RowKit
open Go.ChangeMaps (open_string shut_string)
set_option linter.unusedVariables false
set_option linter.unusedSimpArgs false
set_option maxRecDepth 4000

def mkQ (k : Int) (p : RV) : RV := ⟨mkS k p.x, p.a⟩
def nxQ (k : Int) (p : RV) : Int := nxS k p.x
def mkqs : Int → List RV → List RV
  | _, [] => []
  | k, p :: L => mkQ k p :: mkqs (nxQ k p) L
def nxqs : Int → List RV → Int
  | k, [] => k
  | k, p :: L => nxqs (nxQ k p) L
theorem nxQ_eq (k : Int) (p : RV) : nxQ k p = k + 1 + szq p := by unfold nxQ nxS szq szx; omega
theorem nxqs_eq (k : Int) (L : List RV) : nxqs k L = k + (L.length : Int) + szqs L := by
  induction L generalizing k with
  | nil => simp [nxqs, szqs]
  | cons p L ih => show nxqs (nxQ k p) L = _; rw [ih, nxQ_eq, List.length_cons]; show _ = k + ((L.length + 1 : Nat) : Int) + (szq p + szqs L); omega
theorem nxqs_app (k : Int) (L M : List RV) : nxqs k (L ++ M) = nxqs (nxqs k L) M := by
  induction L generalizing k with
  | nil => rfl
  | cons p L ih => exact ih _
theorem mkqs_app (k : Int) (L M : List RV) : mkqs k (L ++ M) = mkqs k L ++ mkqs (nxqs k L) M := by
  induction L generalizing k with
  | nil => rfl
  | cons p L ih => show mkQ k p :: mkqs (nxQ k p) (L ++ M) = mkQ k p :: (mkqs (nxQ k p) L ++ mkqs (nxqs (nxQ k p) L) M); rw [ih]
theorem mkqs_length (k : Int) (L : List RV) : (mkqs k L).length = L.length := by
  induction L generalizing k with
  | nil => rfl
  | cons p L ih => show (mkqs (nxQ k p) L).length + 1 = _; rw [ih]; rfl
theorem flatQ_one {L : List RV} {i : Nat} {p q : RV} (h : L[i]? = some p) (u : Value) (hq : qcl q = (qcl p).set 0 u) : (flatQ L).set (i * 3) u = flatQ (L.set i q) := by
  have hl := lt_of_getQ h
  have hlen : (flatQ (L.take i)).length = i * 3 := by rw [flatQ_length, List.length_take, Nat.min_eq_left (by omega)]
  have hq' : (L.set i q)[i]? = some q := List.getElem?_set_self hl
  have hk : ∀ (l M R : List Value) (k : Nat) (v : Value), l.length = i * 3 → k < M.length → (l ++ (M ++ R)).set (i * 3 + k) v = l ++ (M.set k v ++ R) := fun l M R k v hl hk => by
    rw [List.set_append_right _ _ (by omega), hl, Nat.add_sub_cancel_left, List.set_append_left _ _ hk]
  have e1 : (L.set i q).take i = L.take i := List.take_set_of_le (Nat.le_refl _)
  have e2 : (L.set i q).drop (i + 1) = L.drop (i + 1) := List.drop_set_of_lt (Nat.lt_succ_self _)
  rw [flatQ_split h, flatQ_split hq', e1, e2, hq]
  rw [show (i * 3) = i * 3 + 0 from rfl, hk _ _ _ 0 _ hlen (by rw [qcl_length]; omega)]
theorem qcl_mk (k : Int) (p : RV) : qcl (mkQ k p) = (qcl p).set 0 (.bool (k % 3 == 0)) := by
  show [_, _, _] = [_, _, _]
  simp [mkQ, mkS, marks_length]
/-- The outer row, rows ahead, two rows, rows behind. -/
def trow (X : Row) (P : List Row) (r1 r2 : Row) (Q : List Row) : List Row := X :: (P ++ r1 :: r2 :: Q)
section
variable {lo hi : Nat} {w w' : World} {X r1 r2 : Row} {P Q : List Row} {A : Option Addr} {l l' : List Value}
theorem trow_0 (h : Owns lo hi w (trow (A, l) P r1 r2 Q)) (ap : Aparts (trow (A, l) P r1 r2 Q)) (hg : w.grownBy w' (rowOf l.length A)) (ho : OwnS lo w' A l') (hl : l'.length = l.length) :
    Owns lo hi w' (trow (A, l') P r1 r2 Q) ∧ Aparts (trow (A, l') P r1 r2 Q) ∧ Turn lo hi w w' := Owns.repl (R1 := []) h ap hg ho hl
theorem trow_1 (h : Owns lo hi w (trow X P (A, l) r2 Q)) (ap : Aparts (trow X P (A, l) r2 Q)) (hg : w.grownBy w' (rowOf l.length A)) (ho : OwnS lo w' A l') (hl : l'.length = l.length) :
    Owns lo hi w' (trow X P (A, l') r2 Q) ∧ Aparts (trow X P (A, l') r2 Q) ∧ Turn lo hi w w' := Owns.repl (R1 := X :: P) h ap hg ho hl
theorem trow_2 (h : Owns lo hi w (trow X P r1 (A, l) Q)) (ap : Aparts (trow X P r1 (A, l) Q)) (hg : w.grownBy w' (rowOf l.length A)) (ho : OwnS lo w' A l') (hl : l'.length = l.length) :
    Owns lo hi w' (trow X P r1 (A, l') Q) ∧ Aparts (trow X P r1 (A, l') Q) ∧ Turn lo hi w w' := by
  have e : ∀ r, trow X P r1 r Q = (X :: (P ++ [r1])) ++ r :: Q := fun r => by simp [trow]
  rw [e] at h ap ⊢
  exact Owns.repl h ap hg ho hl
theorem trow_at (h : Owns lo hi w (trow X P r1 r2 Q)) : OwnS lo w X.1 X.2 ∧ OwnS lo w r1.1 r1.2 ∧ OwnS lo w r2.1 r2.2 :=
  ⟨(h X (by simp [trow])).1, (h r1 (by simp [trow])).1, (h r2 (by simp [trow])).1⟩
end
theorem srowQ_trow (A : Option Addr) (M1 M2 : List RV) (p : RV) : srowQ A (M1 ++ p :: M2) = trow (A, flatQ (M1 ++ p :: M2)) (lrowQ M1) (p.a.A, vi p.x.l) (p.a.D, vi p.x.m) (lrowQ M2) := by
  unfold srowQ trow
  rw [lrowQ_app, lrowQ_cons]
  rfl
theorem mkqs_step {k : Int} {L : List RV} {j : Nat} {p : RV} (hp : L[j]? = some p) :
    mkqs k (L.take j) ++ L.drop j = mkqs k (L.take j) ++ p :: L.drop (j + 1) ∧ mkqs k (L.take (j + 1)) ++ L.drop (j + 1) = mkqs k (L.take j) ++ mkQ (nxqs k (L.take j)) p :: L.drop (j + 1) ∧ nxqs k (L.take (j + 1)) = nxQ (nxqs k (L.take j)) p := by
  have hl := lt_of_getQ hp
  have h2 : L[j] = p := by rw [List.getElem?_eq_getElem hl] at hp; injection hp
  refine ⟨by rw [List.drop_eq_getElem_cons hl, h2], ?_, ?_⟩
  · rw [take_succQ hp, mkqs_app]
    show (mkqs k (L.take j) ++ [mkQ (nxqs k (L.take j)) p]) ++ L.drop (j + 1) = _
    rw [List.append_assoc]; rfl
  · rw [take_succQ hp, nxqs_app]; rfl
end Go.Proofs.Ytennekieiioilaa
