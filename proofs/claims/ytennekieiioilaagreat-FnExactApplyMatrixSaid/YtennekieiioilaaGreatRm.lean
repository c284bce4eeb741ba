/-
  Lists of lists of fractions: the row of their rows; equality, marks.
-/
import Derived.Test.YtennekieiioilaaGreatRlE
import Derived.Test.YtennekieiioilaaGreatRlQ
import Derived.Test.YtennekieiioilaaGreatRlN
namespace Go.Proofs.YtennekieiioilaaGreat
open Go.ChangeShapes Go.WideShapes Go.ChangeAt Go.RowKit
open Go.ChangeMaps (open_string shut_string)
set_option linter.unusedVariables false
set_option linter.unusedSimpArgs false
set_option maxRecDepth 4000

/-- A row: its elements, where they lie. -/
structure SV where
  L : List RV
  A : Option Addr
  c : Nat
def scl (p : SV) : Value := .slice p.A p.L.length p.c
def rrowS (p : SV) : List Row := srowQ p.A p.L
def flatS (R : List SV) : List Value := R.map scl
def lrowS (R : List SV) : List Row := R.flatMap rrowS
def srowS (B : Option Addr) (R : List SV) : List Row := (B, flatS R) :: lrowS R
/-- The data alone. -/
def datS (R : List SV) : List (List R3) := R.map (fun p => datQ p.L)
def ShortS (p : SV) : Prop := p.L.length ≤ 1048576 ∧ ∀ x, x ∈ p.L → ShortQ x
/-- A list of rows in rows of the call's own, with the data of R. -/
def MadeRSS (B : Nat) (R : List SV) (w : World) (e : Ending) (w' : World) : Prop :=
  ∃ (M : List SV) (A : Option Addr) (c : Nat), e = .returned (.slice A M.length c) ∧ datS M = datS R ∧ Owns B w'.heap.size w' (srowS A M) ∧ Aparts (srowS A M) ∧ Below w.heap.size w w'
theorem flatS_length (R : List SV) : (flatS R).length = R.length := List.length_map _
theorem lrowS_app (R T : List SV) : lrowS (R ++ T) = lrowS R ++ lrowS T := by simp [lrowS]
theorem lrowS_cons (p : SV) (R : List SV) : lrowS (p :: R) = rrowS p ++ lrowS R := by simp [lrowS]
theorem getS {R : List SV} {i : Nat} (h : i < R.length) : ∃ p, R[i]? = some p := ⟨R[i], List.getElem?_eq_getElem h⟩
theorem lt_of_getS {R : List SV} {i : Nat} {p : SV} (h : R[i]? = some p) : i < R.length := by
  rcases Nat.lt_or_ge i R.length with h1 | h1
  · exact h1
  · rw [List.getElem?_eq_none h1] at h; cases h
theorem take_succS {R : List SV} {i : Nat} {p : SV} (h : R[i]? = some p) : R.take (i + 1) = R.take i ++ [p] := by
  rw [List.take_add_one, h]; rfl
theorem RdS.row {w : World} {A : Option Addr} {R : List SV} (h : RdS w A (flatS R)) {i : Nat} {p : SV} (hp : R[i]? = some p) :
    ∃ g o, A = some ⟨g, o, none⟩ ∧ g < w.heap.size ∧ w.cell? ⟨g, o + i, none⟩ = some (.slice p.A p.L.length p.c) := by
  have hl := lt_of_getS hp
  obtain ⟨g, o, ha, hg, hc⟩ := h.block (by rw [flatS_length]; omega)
  refine ⟨g, o, ha, hg, ?_⟩
  rw [hc i (by rw [flatS_length]; exact hl)]
  unfold flatS
  rw [List.getElem?_map, hp]; rfl
theorem Rds.atS {w : World} {R : List SV} (h : Rds w (lrowS R)) {i : Nat} {p : SV} (hp : R[i]? = some p) : Rds w (rrowS p) := fun r hr =>
  h r (List.mem_flatMap.2 ⟨p, List.mem_of_getElem? hp, hr⟩)
theorem datS_len {R T : List SV} (h : datS T = datS R) : T.length = R.length := by
  have := congrArg List.length h
  simpa [datS] using this
theorem datS_get {R T : List SV} (h : datS T = datS R) {i : Nat} {p : SV} (hp : R[i]? = some p) : ∃ q, T[i]? = some q ∧ datQ q.L = datQ p.L := by
  have h1 : (datS T)[i]? = some (datQ p.L) := by rw [h]; simp [datS, hp]
  unfold datS at h1
  rw [List.getElem?_map] at h1
  cases hq : T[i]? with
  | none => rw [hq] at h1; cases h1
  | some q =>
    rw [hq] at h1
    injection h1 with h1
    exact ⟨q, rfl, h1⟩
/-- What the marks leave. -/
def mkS2 (k : Int) (p : SV) : SV := ⟨mkqs k p.L, p.A, p.c⟩
def mkm : Int → List SV → List SV
  | _, [] => []
  | k, p :: R => mkS2 k p :: mkm (nxqs k p.L) R
def nxm : Int → List SV → Int
  | k, [] => k
  | k, p :: R => nxm (nxqs k p.L) R
def szm2 : List SV → Int
  | [] => 0
  | p :: R => (p.L.length : Int) + szqs p.L + szm2 R
theorem szm2_pos (R : List SV) : 0 ≤ szm2 R := by
  induction R with
  | nil => exact Int.le_refl _
  | cons p R ih => have := szqs_pos p.L; unfold szm2; omega
theorem nxm_eq (k : Int) (R : List SV) : nxm k R = k + szm2 R := by
  induction R generalizing k with
  | nil => simp [nxm, szm2]
  | cons p R ih => show nxm (nxqs k p.L) R = k + ((p.L.length : Int) + szqs p.L + szm2 R); rw [ih, nxqs_eq]; omega
theorem szm2_app (R T : List SV) : szm2 (R ++ T) = szm2 R + szm2 T := by
  induction R with
  | nil => simp [szm2]
  | cons p R ih => show (p.L.length : Int) + szqs p.L + szm2 (R ++ T) = (p.L.length : Int) + szqs p.L + szm2 R + szm2 T; rw [ih]; omega
theorem szm2_take {R : List SV} {j : Nat} {p : SV} (h : R[j]? = some p) : szm2 (R.take (j + 1)) = szm2 (R.take j) + ((p.L.length : Int) + szqs p.L) := by
  rw [take_succS h, szm2_app]; simp [szm2]
theorem szm2_le (R : List SV) (j : Nat) : szm2 (R.take j) ≤ szm2 R := by
  have h := szm2_app (R.take j) (R.drop j)
  rw [List.take_append_drop] at h
  have := szm2_pos (R.drop j)
  omega
theorem nxm_app (k : Int) (R T : List SV) : nxm k (R ++ T) = nxm (nxm k R) T := by
  induction R generalizing k with
  | nil => rfl
  | cons p R ih => exact ih _
theorem mkm_app (k : Int) (R T : List SV) : mkm k (R ++ T) = mkm k R ++ mkm (nxm k R) T := by
  induction R generalizing k with
  | nil => rfl
  | cons p R ih => show mkS2 k p :: mkm (nxqs k p.L) (R ++ T) = mkS2 k p :: (mkm (nxqs k p.L) R ++ mkm (nxm (nxqs k p.L) R) T); rw [ih]
theorem mkm_length (k : Int) (R : List SV) : (mkm k R).length = R.length := by
  induction R generalizing k with
  | nil => rfl
  | cons p R ih => show (mkm (nxqs k p.L) R).length + 1 = _; rw [ih]; rfl
theorem mkm_step {k : Int} {R : List SV} {j : Nat} {p : SV} (hp : R[j]? = some p) :
    mkm k (R.take j) ++ R.drop j = mkm k (R.take j) ++ p :: R.drop (j + 1) ∧ mkm k (R.take (j + 1)) ++ R.drop (j + 1) = mkm k (R.take j) ++ mkS2 (nxm k (R.take j)) p :: R.drop (j + 1) ∧ nxm k (R.take (j + 1)) = nxqs (nxm k (R.take j)) p.L := by
  have hl := lt_of_getS hp
  have h2 : R[j] = p := by rw [List.getElem?_eq_getElem hl] at hp; injection hp
  refine ⟨by rw [List.drop_eq_getElem_cons hl, h2], ?_, ?_⟩
  · rw [take_succS hp, mkm_app]
    show (mkm k (R.take j) ++ [mkS2 (nxm k (R.take j)) p]) ++ R.drop (j + 1) = _
    rw [List.append_assoc]; rfl
  · rw [take_succS hp, nxm_app]; rfl
theorem flatS_mk (M1 M2 : List SV) (k : Int) (p : SV) : flatS (M1 ++ mkS2 k p :: M2) = flatS (M1 ++ p :: M2) := by
  unfold flatS
  rw [List.map_append, List.map_append, List.map_cons, List.map_cons]
  congr 2
  show Value.slice p.A (mkqs k p.L).length p.c = _
  rw [mkqs_length]; rfl
/-- The rows of one row first, all others behind. -/
theorem srowS_perm (A : Option Addr) (M1 M2 : List SV) (p : SV) : (srowS A (M1 ++ p :: M2)).Perm (srowQ p.A p.L ++ ((A, flatS (M1 ++ p :: M2)) :: (lrowS M1 ++ lrowS M2))) := by
  unfold srowS
  rw [lrowS_app, lrowS_cons]
  unfold rrowS
  generalize (A, flatS (M1 ++ p :: M2)) = X
  generalize srowQ p.A p.L = Y
  refine (List.Perm.cons X ?_).trans List.perm_middle.symm
  refine (List.perm_append_comm_assoc _ _ _).trans ?_
  exact List.Perm.refl _
theorem Owns.perm {lo hi : Nat} {w : World} {l l' : List Row} (h : Owns lo hi w l) (p : l.Perm l') : Owns lo hi w l' := fun r hr => h r (p.mem_iff.2 hr)
theorem Aparts.perm {l l' : List Row} (h : Aparts l) (p : l.Perm l') : Aparts l' := (List.Perm.pairwise_iff (fun h => h.symm) p).1 h
theorem mkm_get {k : Int} {R : List SV} {j : Nat} {p : SV} (hp : R[j]? = some p) : (mkm k R)[j]? = some (mkS2 (nxm k (R.take j)) p) := by
  have hl := lt_of_getS hp
  have h2 : R[j] = p := by rw [List.getElem?_eq_getElem hl] at hp; injection hp
  have e : R = R.take j ++ p :: R.drop (j + 1) := by
    have h1 := List.take_append_drop j R
    rw [List.drop_eq_getElem_cons hl, h2] at h1
    exact h1.symm
  have e2 : mkm k R = mkm k (R.take j) ++ mkS2 (nxm k (R.take j)) p :: mkm (nxqs (nxm k (R.take j)) p.L) (R.drop (j + 1)) := by
    conv => lhs; rw [e, mkm_app]
    rfl
  rw [e2, List.getElem?_append_right (by rw [mkm_length, List.length_take]; omega), mkm_length, List.length_take, Nat.min_eq_left (by omega), Nat.sub_self]
  rfl
theorem szm2_dat {R T : List SV} (h : datS T = datS R) : szm2 T = szm2 R := by
  have z : ∀ {L M : List RV}, datQ M = datQ L → szqs M = szqs L := fun {L} => by
    induction L with
    | nil => intro M h; obtain rfl : M = [] := List.eq_nil_of_length_eq_zero (datQ_len h); rfl
    | cons p L ih =>
      intro M h
      match M, h with
      | q :: M, h =>
        simp only [datQ, List.map_cons, List.cons.injEq] at h
        show szq q + szqs M = szq p + szqs L
        rw [ih h.2]; unfold szq; rw [h.1]
  induction R generalizing T with
  | nil => obtain rfl : T = [] := List.eq_nil_of_length_eq_zero (datS_len h); rfl
  | cons p R ih =>
    match T, h with
    | q :: T, h =>
      simp only [datS, List.map_cons, List.cons.injEq] at h
      show (q.L.length : Int) + szqs q.L + szm2 T = (p.L.length : Int) + szqs p.L + szm2 R
      rw [ih h.2, datQ_len h.1, z h.1]
end Go.Proofs.YtennekieiioilaaGreat
