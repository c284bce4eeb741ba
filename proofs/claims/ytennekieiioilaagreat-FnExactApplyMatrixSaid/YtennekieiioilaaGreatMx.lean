/-
  Matrices in memory: rows of columns and values.
-/
import Derived.Test.YtennekieiioilaaGreatRlE
import Derived.Test.YtennekieiioilaaGreatRlQ
import Derived.Test.YtennekieiioilaaGreatRlN
import Derived.Test.YtennekieiioilaaGreatRlT
namespace Go.Proofs.YtennekieiioilaaGreat
open Go.ChangeShapes Go.WideShapes Go.ChangeAt Go.RowKit
open Go.ChangeMaps (open_string shut_string)
set_option linter.unusedVariables false
set_option linter.unusedSimpArgs false
set_option maxRecDepth 4000
/-- A row: its columns and its values, and where they lie. -/
structure MR where
  cs : List Int
  A : Option Addr
  c : Nat
  V : List RV
  B : Option Addr
  d : Nat
def MR0 : MR := ⟨[], none, 0, [], none, 0⟩
def mcl (p : MR) : List Value := [.slice p.A p.cs.length p.c, .slice p.B p.V.length p.d]
def rmx (p : MR) : List (Option Addr × List Value) := (p.A, vi p.cs) :: srowQ p.B p.V
def flatX (L : List MR) : List Value := L.flatMap mcl
def lrowX (L : List MR) : List (Option Addr × List Value) := L.flatMap rmx
def srowX (A : Option Addr) (L : List MR) : List (Option Addr × List Value) := (A, flatX L) :: lrowX L
/-- The data alone. -/
def datX (L : List MR) : List (List Int × List R3) := L.map (fun p => (p.cs, datQ p.V))
def ShortX (p : MR) : Prop := p.cs.length ≤ 1048576 ∧ p.V.length ≤ 1048576 ∧ ∀ x, x ∈ p.V → ShortQ x
def CapX (p : MR) : Prop := p.cs.length ≤ p.c ∧ p.V.length ≤ p.d ∧ ∀ x, x ∈ p.V → CapQ x
def LenX (p : MR) : Prop := p.cs.length ≤ 9223372036854775807 ∧ p.V.length ≤ 9223372036854775807 ∧ ∀ x, x ∈ p.V → LenQ x
theorem ShortX.len {p : MR} (h : ShortX p) : LenX p := by
  obtain ⟨h1, h2, h3⟩ := h
  exact ⟨by omega, by omega, fun x hx => (h3 x hx).len⟩
/-- What a row takes of the harness' room. -/
def szr (p : MR) : Int := (p.cs.length : Int) + ((p.V.length : Int) + szqs p.V)
def szrs : List MR → Int
  | [] => 0
  | p :: L => szr p + szrs L
theorem szr_pos (p : MR) : 0 ≤ szr p := by have := szqs_pos p.V; unfold szr; omega
theorem szr_short {p : MR} {left : Int} (h : szr p ≤ left) (h1 : left ≤ 1048576) : ShortX p := by
  have := szqs_pos p.V
  unfold szr at h
  exact ⟨by omega, by omega, szqs_short (left := left) (by omega) h1⟩
theorem mcl_length (p : MR) : (mcl p).length = 2 := rfl
theorem flatX_nil : flatX [] = [] := rfl
theorem flatX_cons (p : MR) (L : List MR) : flatX (p :: L) = mcl p ++ flatX L := by simp [flatX]
theorem flatX_app (L M : List MR) : flatX (L ++ M) = flatX L ++ flatX M := by simp [flatX]
theorem lrowX_cons (p : MR) (L : List MR) : lrowX (p :: L) = rmx p ++ lrowX L := by simp [lrowX]
theorem lrowX_app (L M : List MR) : lrowX (L ++ M) = lrowX L ++ lrowX M := by simp [lrowX]
theorem lrowX_one (p : MR) : lrowX [p] = rmx p := by simp [lrowX]
theorem flatX_length (L : List MR) : (flatX L).length = L.length * 2 := by
  induction L with
  | nil => rfl
  | cons p L ih => rw [flatX_cons, List.length_append, ih, mcl_length, List.length_cons]; omega
theorem flatX_get {L : List MR} {i : Nat} {p : MR} (h : L[i]? = some p) (k : Nat) (hk : k < 2) : (flatX L)[i * 2 + k]? = (mcl p)[k]? := by
  induction L generalizing i with
  | nil => cases h
  | cons q L ih =>
    rw [flatX_cons]
    cases i with
    | zero =>
      obtain rfl : q = p := by simpa using h
      rw [List.getElem?_append_left (by rw [mcl_length]; omega)]
      simp
    | succ i =>
      have h' : L[i]? = some p := by simpa using h
      rw [List.getElem?_append_right (by rw [mcl_length]; omega), ← ih h']
      congr 1
      rw [mcl_length]; omega
theorem getX {L : List MR} {i : Nat} (h : i < L.length) : ∃ p, L[i]? = some p := ⟨L[i], List.getElem?_eq_getElem h⟩
theorem lt_of_getX {L : List MR} {i : Nat} {p : MR} (h : L[i]? = some p) : i < L.length := by
  rcases Nat.lt_or_ge i L.length with h1 | h1
  · exact h1
  · rw [List.getElem?_eq_none h1] at h; cases h
theorem take_succX {L : List MR} {i : Nat} {p : MR} (h : L[i]? = some p) : L.take (i + 1) = L.take i ++ [p] := by
  have hl := lt_of_getX h
  rw [List.take_add_one, h]; rfl
/-- Three cells of a list of fractions, to be read. -/
theorem RdS.two {w : World} {A : Option Addr} {L : List MR} (h : RdS w A (flatX L)) {i : Nat} {p : MR} (hp : L[i]? = some p) :
    ∃ g o, A = some ⟨g, o, none⟩ ∧ g < w.heap.size ∧ w.cell? ⟨g, o + i * 2, none⟩ = some (.slice p.A p.cs.length p.c) ∧ w.cell? ⟨g, o + i * 2 + 1, none⟩ = some (.slice p.B p.V.length p.d) := by
  have hl := lt_of_getX hp
  have hf := flatX_length L
  obtain ⟨g, o, ha, hg, hc⟩ := h.block (by omega)
  have C : ∀ k, k < 2 → w.cell? ⟨g, o + i * 2 + k, none⟩ = (mcl p)[k]? := fun k hk => by
    rw [← flatX_get hp k hk, Nat.add_assoc]; exact hc (i * 2 + k) (by omega)
  exact ⟨g, o, ha, hg, C 0 (by omega), C 1 (by omega)⟩
theorem Rds.atX {w : World} {L : List MR} (h : Rds w (lrowX L)) {i : Nat} {p : MR} (hp : L[i]? = some p) : Rds w (rmx p) := fun r hr =>
  h r (List.mem_flatMap.2 ⟨p, List.mem_of_getElem? hp, hr⟩)
theorem Owns.atX {lo hi : Nat} {w : World} {L : List MR} (h : Owns lo hi w (lrowX L)) {i : Nat} {p : MR} (hp : L[i]? = some p) : Owns lo hi w (rmx p) := fun r hr =>
  h r (List.mem_flatMap.2 ⟨p, List.mem_of_getElem? hp, hr⟩)
theorem szrs_pos (L : List MR) : 0 ≤ szrs L := by
  induction L with
  | nil => exact Int.le_refl _
  | cons p L ih => have := szr_pos p; unfold szrs; omega
theorem szrs_app (L M : List MR) : szrs (L ++ M) = szrs L + szrs M := by
  induction L with
  | nil => simp [szrs]
  | cons p L ih => rw [List.cons_append]; show szr p + szrs (L ++ M) = szr p + szrs L + szrs M; rw [ih]; omega
theorem szrs_take {L : List MR} {i : Nat} {p : MR} (h : L[i]? = some p) : szrs (L.take (i + 1)) = szrs (L.take i) + szr p := by
  rw [take_succX h, szrs_app]; simp [szrs]
theorem szrs_le (L : List MR) (i : Nat) : szrs (L.take i) ≤ szrs L := by
  have h := szrs_app (L.take i) (L.drop i)
  rw [List.take_append_drop] at h
  have := szrs_pos (L.drop i)
  omega
theorem szrs_short {L : List MR} {left : Int} (h : szrs L ≤ left) (h1 : left ≤ 1048576) : ∀ p, p ∈ L → ShortX p := by
  induction L with
  | nil => intro p hp; cases hp
  | cons q L ih =>
    unfold szrs at h
    have h2 := szr_pos q
    have h3 := szrs_pos L
    intro p hp
    rcases List.mem_cons.1 hp with e | e
    · subst e; exact szr_short (left := left) (by omega) h1
    · exact ih (by omega) p e
theorem flatX_split {L : List MR} {i : Nat} {p : MR} (h : L[i]? = some p) : flatX L = flatX (L.take i) ++ (mcl p ++ flatX (L.drop (i + 1))) := by
  have hl := lt_of_getX h
  have e : L = L.take i ++ p :: L.drop (i + 1) := by
    have h1 := List.take_append_drop i L
    rw [List.drop_eq_getElem_cons hl] at h1
    have h2 : L[i] = p := by rw [List.getElem?_eq_getElem hl] at h; injection h
    rw [h2] at h1
    exact h1.symm
  conv => lhs; rw [e, flatX_app, flatX_cons]
theorem flatX_set {L : List MR} {i : Nat} {p : MR} (h : L[i]? = some p) (k : Nat) (hk : k < 2) (v : Value) : (flatX L).set (i * 2 + k) v = flatX (L.take i) ++ ((mcl p).set k v ++ flatX (L.drop (i + 1))) := by
  have hl := lt_of_getX h
  have hlen : (flatX (L.take i)).length = i * 2 := by rw [flatX_length, List.length_take, Nat.min_eq_left (by omega)]
  rw [flatX_split h, List.set_append_right _ _ (by omega), hlen, Nat.add_sub_cancel_left, List.set_append_left _ _ (by rw [mcl_length]; exact hk)]
theorem rep_getX (n : Nat) {i : Nat} (h : i < n) : (List.replicate n MR0)[i]? = some MR0 := by simp [List.getElem?_replicate, h]
theorem made_flatX (n : Nat) : (madeCells (Value.agg #[.slice none 0 0, .slice none 0 0]).cells (n * 2)).toList = flatX (List.replicate n MR0) := by
  apply List.ext_getElem?
  intro j
  by_cases hj : j < n * 2
  · have h1 : j / 2 < n := by omega
    have h2 : j % 2 < 2 := Nat.mod_lt _ (by omega)
    have h3 := flatX_get (rep_getX n h1) (j % 2) h2
    rw [show j / 2 * 2 + j % 2 = j by omega] at h3
    rw [h3]
    have h4 : (madeCells (Value.agg #[.slice none 0 0, .slice none 0 0]).cells (n * 2)).toList[j]? = some ((#[Value.slice none 0 0, .slice none 0 0] : Array Value)[j % 2]!) := by
      unfold madeCells
      simp [hj, Value.cells]
    rw [h4]
    have h5 : ∀ k, k < 2 → some ((#[Value.slice none 0 0, .slice none 0 0] : Array Value)[k]!) = (mcl MR0)[k]? := fun k hk => by
      match k, hk with
      | 0, _ => rfl
      | 1, _ => rfl
    exact h5 _ h2
  · rw [List.getElem?_eq_none (by rw [Array.length_toList, size_madeCells]; omega), List.getElem?_eq_none (by rw [flatX_length, List.length_replicate]; omega)]
/-- Three cells of a row of the call's own, to be written. -/
theorem OwnS.twoc {B g i : Nat} {w : World} {L : List MR} {p : MR} (h : OwnS B w (some ⟨g, 0, none⟩) (flatX L)) (hp : L[i]? = some p) :
    (w.cell? ⟨g, i * 2, none⟩ = some (.slice p.A p.cs.length p.c) ∧ w.cell? ⟨g, i * 2 + 1, none⟩ = some (.slice p.B p.V.length p.d)) ∧
    w.frozen? ⟨g, i * 2, none⟩ = false ∧ w.frozen? ⟨g, i * 2 + 1, none⟩ = false := by
  have hl := lt_of_getX hp
  have hf := flatX_length L
  obtain ⟨g', ha, hB, hs, hc, hfr⟩ := h.block (by omega)
  obtain rfl : g = g' := by injection ha with e; injection e
  have C : ∀ k, k < 2 → w.cell? ⟨g, i * 2 + k, none⟩ = (mcl p)[k]? := fun k hk => by
    rw [← flatX_get hp k hk]; exact hc (i * 2 + k) (by omega)
  have Fz : ∀ k, k < 2 → w.frozen? ⟨g, i * 2 + k, none⟩ = false := fun k hk => hfr (i * 2 + k) (by omega)
  exact ⟨⟨C 0 (by omega), C 1 (by omega)⟩, Fz 0 (by omega), Fz 1 (by omega)⟩
/-- A list of fractions in rows of the call's own, with the data of L. -/
def MadeMS (B : Nat) (L : List MR) (w : World) (e : Ending) (w' : World) : Prop :=
  ∃ (M : List MR) (A : Option Addr) (c : Nat), e = .returned (.slice A M.length c) ∧ M.length ≤ c ∧ datX M = datX L ∧ (∀ p, p ∈ M → CapX p) ∧ Owns B w'.heap.size w' (srowX A M) ∧ Aparts (srowX A M) ∧ Below w.heap.size w w'
theorem datX_len {L M : List MR} (h : datX M = datX L) : M.length = L.length := by
  have := congrArg List.length h
  simpa [datX] using this
theorem datX_app (L M : List MR) : datX (L ++ M) = datX L ++ datX M := by simp [datX]
theorem datX_get {L M : List MR} (h : datX M = datX L) {i : Nat} {p : MR} (hp : L[i]? = some p) : ∃ q, M[i]? = some q ∧ q.cs = p.cs ∧ datQ q.V = datQ p.V := by
  have h1 : (datX M)[i]? = some (p.cs, datQ p.V) := by rw [h]; simp [datX, hp]
  unfold datX at h1
  rw [List.getElem?_map] at h1
  cases hq : M[i]? with
  | none => rw [hq] at h1; cases h1
  | some q =>
    rw [hq] at h1
    injection h1 with h1
    injection h1 with h1 h2
    exact ⟨q, rfl, h1, h2⟩
theorem set_appX (M : List MR) (n : Nat) (q r : MR) (R : List MR) : (M ++ r :: R).set M.length q = (M ++ [q]) ++ R := by
  rw [List.set_append_right _ _ (Nat.le_refl _)]; simp
theorem szrs_dat {L M : List MR} (h : datX M = datX L) : szrs M = szrs L := by
  have z : ∀ {L M : List RV}, datQ M = datQ L → szqs M = szqs L := fun {L} => by
    induction L with
    | nil => intro M h; obtain rfl : M = [] := List.eq_nil_of_length_eq_zero (datQ_len h); rfl
    | cons p L ih =>
      intro M h
      match M, h with
      | q :: M, h =>
        simp only [datQ, List.map_cons, List.cons.injEq] at h
        show szq q + szqs M = szq p + szqs L
        rw [ih h.2]; unfold szq; rw [h.1]
  induction L generalizing M with
  | nil => obtain rfl : M = [] := List.eq_nil_of_length_eq_zero (datX_len h); rfl
  | cons p L ih =>
    match M, h with
    | q :: M, h =>
      simp only [datX, List.map_cons, List.cons.injEq, Prod.mk.injEq] at h
      show szr q + szrs M = szr p + szrs L
      rw [ih h.2]; unfold szr; rw [h.1.1, datQ_len h.1.2, z h.1.2]
end Go.Proofs.YtennekieiioilaaGreat
