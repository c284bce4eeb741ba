/-
  Lists of fractions: the row of their cells (three a fraction), the rows of their limbs.
-/
import Derived.Test.YtennekieiioilaaGreatSl
namespace Go.Proofs.YtennekieiioilaaGreat
open Go.ChangeShapes Go.WideShapes Go.ChangeAt Go.RowKit
open Go.ChangeMaps (open_string shut_string)
set_option linter.unusedVariables false
set_option linter.unusedSimpArgs false
set_option maxRecDepth 4000

/-- A fraction: its data and where its rows lie. -/
structure RV where
  x : R3
  a : Ad
def RV0 : RV := ⟨noR, noA⟩
def qcl (p : RV) : List Value := [.bool p.x.p, .slice p.a.A p.x.l.length p.a.c, .slice p.a.D p.x.m.length p.a.d]
def qrow (p : RV) : List (Option Addr × List Value) := rows p.x p.a
def flatQ (L : List RV) : List Value := L.flatMap qcl
def lrowQ (L : List RV) : List (Option Addr × List Value) := L.flatMap qrow
def srowQ (A : Option Addr) (L : List RV) : List (Option Addr × List Value) := (A, flatQ L) :: lrowQ L
/-- The data alone. -/
def datQ (L : List RV) : List R3 := L.map (fun p => p.x)
def ShortQ (p : RV) : Prop := Short p.x
def CapQ (p : RV) : Prop := p.x.l.length ≤ p.a.c ∧ p.x.m.length ≤ p.a.d
def LenQ (p : RV) : Prop := p.x.l.length ≤ 9223372036854775807 ∧ p.x.m.length ≤ 9223372036854775807
theorem ShortQ.len {p : RV} (h : ShortQ p) : LenQ p := by
  obtain ⟨h1, h2⟩ := h
  exact ⟨by omega, by omega⟩
theorem qcl_length (p : RV) : (qcl p).length = 3 := rfl
theorem flatQ_nil : flatQ [] = [] := rfl
theorem flatQ_cons (p : RV) (L : List RV) : flatQ (p :: L) = qcl p ++ flatQ L := by simp [flatQ]
theorem flatQ_app (L M : List RV) : flatQ (L ++ M) = flatQ L ++ flatQ M := by simp [flatQ]
theorem lrowQ_cons (p : RV) (L : List RV) : lrowQ (p :: L) = qrow p ++ lrowQ L := by simp [lrowQ]
theorem lrowQ_app (L M : List RV) : lrowQ (L ++ M) = lrowQ L ++ lrowQ M := by simp [lrowQ]
theorem lrowQ_one (p : RV) : lrowQ [p] = qrow p := by simp [lrowQ]
theorem flatQ_length (L : List RV) : (flatQ L).length = L.length * 3 := by
  induction L with
  | nil => rfl
  | cons p L ih => rw [flatQ_cons, List.length_append, ih, qcl_length, List.length_cons]; omega
theorem flatQ_get {L : List RV} {i : Nat} {p : RV} (h : L[i]? = some p) (k : Nat) (hk : k < 3) : (flatQ L)[i * 3 + k]? = (qcl p)[k]? := by
  induction L generalizing i with
  | nil => cases h
  | cons q L ih =>
    rw [flatQ_cons]
    cases i with
    | zero =>
      obtain rfl : q = p := by simpa using h
      rw [List.getElem?_append_left (by rw [qcl_length]; omega)]
      simp
    | succ i =>
      have h' : L[i]? = some p := by simpa using h
      rw [List.getElem?_append_right (by rw [qcl_length]; omega), ← ih h']
      congr 1
      rw [qcl_length]; omega
theorem getQ {L : List RV} {i : Nat} (h : i < L.length) : ∃ p, L[i]? = some p := ⟨L[i], List.getElem?_eq_getElem h⟩
theorem lt_of_getQ {L : List RV} {i : Nat} {p : RV} (h : L[i]? = some p) : i < L.length := by
  rcases Nat.lt_or_ge i L.length with h1 | h1
  · exact h1
  · rw [List.getElem?_eq_none h1] at h; cases h
theorem take_succQ {L : List RV} {i : Nat} {p : RV} (h : L[i]? = some p) : L.take (i + 1) = L.take i ++ [p] := by
  have hl := lt_of_getQ h
  rw [List.take_add_one, h]; rfl
/-- Three cells of a list of fractions, to be read. -/
theorem RdS.three {w : World} {A : Option Addr} {L : List RV} (h : RdS w A (flatQ L)) {i : Nat} {p : RV} (hp : L[i]? = some p) :
    ∃ g o, A = some ⟨g, o, none⟩ ∧ g < w.heap.size ∧ w.cell? ⟨g, o + i * 3, none⟩ = some (.bool p.x.p) ∧ w.cell? ⟨g, o + i * 3 + 1, none⟩ = some (.slice p.a.A p.x.l.length p.a.c) ∧ w.cell? ⟨g, o + i * 3 + 2, none⟩ = some (.slice p.a.D p.x.m.length p.a.d) := by
  have hl := lt_of_getQ hp
  have hf := flatQ_length L
  obtain ⟨g, o, ha, hg, hc⟩ := h.block (by omega)
  have C : ∀ k, k < 3 → w.cell? ⟨g, o + i * 3 + k, none⟩ = (qcl p)[k]? := fun k hk => by
    rw [← flatQ_get hp k hk, Nat.add_assoc]; exact hc (i * 3 + k) (by omega)
  exact ⟨g, o, ha, hg, C 0 (by omega), C 1 (by omega), C 2 (by omega)⟩
theorem Rds.atQ {w : World} {L : List RV} (h : Rds w (lrowQ L)) {i : Nat} {p : RV} (hp : L[i]? = some p) : Rds w (qrow p) := fun r hr =>
  h r (List.mem_flatMap.2 ⟨p, List.mem_of_getElem? hp, hr⟩)
theorem Owns.atQ {lo hi : Nat} {w : World} {L : List RV} (h : Owns lo hi w (lrowQ L)) {i : Nat} {p : RV} (hp : L[i]? = some p) : Owns lo hi w (qrow p) := fun r hr =>
  h r (List.mem_flatMap.2 ⟨p, List.mem_of_getElem? hp, hr⟩)
/-- What a list of fractions takes of the harness' room. -/
def szq (p : RV) : Int := szx p.x
def szqs : List RV → Int
  | [] => 0
  | p :: L => szq p + szqs L
theorem szq_pos (p : RV) : 0 ≤ szq p := by have := szx_pos p.x; unfold szq; omega
theorem szqs_pos (L : List RV) : 0 ≤ szqs L := by
  induction L with
  | nil => exact Int.le_refl _
  | cons p L ih => have := szq_pos p; unfold szqs; omega
theorem szqs_app (L M : List RV) : szqs (L ++ M) = szqs L + szqs M := by
  induction L with
  | nil => simp [szqs]
  | cons p L ih => rw [List.cons_append]; show szq p + szqs (L ++ M) = szq p + szqs L + szqs M; rw [ih]; omega
theorem szqs_take {L : List RV} {i : Nat} {p : RV} (h : L[i]? = some p) : szqs (L.take (i + 1)) = szqs (L.take i) + szq p := by
  rw [take_succQ h, szqs_app]; simp [szqs]
theorem szqs_le (L : List RV) (i : Nat) : szqs (L.take i) ≤ szqs L := by
  have h := szqs_app (L.take i) (L.drop i)
  rw [List.take_append_drop] at h
  have := szqs_pos (L.drop i)
  omega
theorem szq_short {p : RV} {left : Int} (h : szq p ≤ left) (h1 : left ≤ 1048576) : ShortQ p := szx_short (left := left) h h1
theorem szqs_short {L : List RV} {left : Int} (h : szqs L ≤ left) (h1 : left ≤ 1048576) : ∀ p, p ∈ L → ShortQ p := by
  induction L with
  | nil => intro p hp; cases hp
  | cons q L ih =>
    unfold szqs at h
    have h2 := szq_pos q
    have h3 := szqs_pos L
    intro p hp
    rcases List.mem_cons.1 hp with e | e
    · subst e; exact szq_short (left := left) (by omega) h1
    · exact ih (by omega) p e
theorem flatQ_split {L : List RV} {i : Nat} {p : RV} (h : L[i]? = some p) : flatQ L = flatQ (L.take i) ++ (qcl p ++ flatQ (L.drop (i + 1))) := by
  have hl := lt_of_getQ h
  have e : L = L.take i ++ p :: L.drop (i + 1) := by
    have h1 := List.take_append_drop i L
    rw [List.drop_eq_getElem_cons hl] at h1
    have h2 : L[i] = p := by rw [List.getElem?_eq_getElem hl] at h; injection h
    rw [h2] at h1
    exact h1.symm
  conv => lhs; rw [e, flatQ_app, flatQ_cons]
theorem flatQ_set {L : List RV} {i : Nat} {p : RV} (h : L[i]? = some p) (k : Nat) (hk : k < 3) (v : Value) : (flatQ L).set (i * 3 + k) v = flatQ (L.take i) ++ ((qcl p).set k v ++ flatQ (L.drop (i + 1))) := by
  have hl := lt_of_getQ h
  have hlen : (flatQ (L.take i)).length = i * 3 := by rw [flatQ_length, List.length_take, Nat.min_eq_left (by omega)]
  rw [flatQ_split h, List.set_append_right _ _ (by omega), hlen, Nat.add_sub_cancel_left, List.set_append_left _ _ (by rw [qcl_length]; exact hk)]
theorem flatQ_three {L : List RV} {i : Nat} {p : RV} (h : L[i]? = some p) (q : RV) :
    (((flatQ L).set (i * 3) (.bool q.x.p)).set (i * 3 + 1) (.slice q.a.A q.x.l.length q.a.c)).set (i * 3 + 2) (.slice q.a.D q.x.m.length q.a.d) = flatQ (L.set i q) := by
  have hl := lt_of_getQ h
  have hlen : (flatQ (L.take i)).length = i * 3 := by rw [flatQ_length, List.length_take, Nat.min_eq_left (by omega)]
  have hq : (L.set i q)[i]? = some q := List.getElem?_set_self hl
  have hk : ∀ (l M R : List Value) (k : Nat) (v : Value), l.length = i * 3 → k < M.length → (l ++ (M ++ R)).set (i * 3 + k) v = l ++ (M.set k v ++ R) := fun l M R k v hl hk => by
    rw [List.set_append_right _ _ (by omega), hl, Nat.add_sub_cancel_left, List.set_append_left _ _ hk]
  rw [flatQ_split h, flatQ_split hq]
  have e1 : (L.set i q).take i = L.take i := List.take_set_of_le (Nat.le_refl _)
  have e2 : (L.set i q).drop (i + 1) = L.drop (i + 1) := List.drop_set_of_lt (Nat.lt_succ_self _)
  rw [e1, e2]
  rw [show (i * 3) = i * 3 + 0 from rfl, hk _ _ _ 0 _ hlen (by rw [qcl_length]; omega), show i * 3 + 0 + 1 = i * 3 + 1 from rfl, hk _ _ _ 1 _ hlen (by simp [qcl_length]), show i * 3 + 0 + 2 = i * 3 + 2 from rfl, hk _ _ _ 2 _ hlen (by simp [qcl_length])]
  rfl
theorem rep_getQ (n : Nat) {i : Nat} (h : i < n) : (List.replicate n RV0)[i]? = some RV0 := by simp [List.getElem?_replicate, h]
theorem made_flatQ (n : Nat) : (madeCells (Value.agg #[.bool false, .slice none 0 0, .slice none 0 0]).cells (n * 3)).toList = flatQ (List.replicate n RV0) := by
  apply List.ext_getElem?
  intro j
  by_cases hj : j < n * 3
  · have h1 : j / 3 < n := by omega
    have h2 : j % 3 < 3 := Nat.mod_lt _ (by omega)
    have h3 := flatQ_get (rep_getQ n h1) (j % 3) h2
    rw [show j / 3 * 3 + j % 3 = j by omega] at h3
    rw [h3]
    have h4 : (madeCells (Value.agg #[.bool false, .slice none 0 0, .slice none 0 0]).cells (n * 3)).toList[j]? = some ((#[Value.bool false, .slice none 0 0, .slice none 0 0] : Array Value)[j % 3]!) := by
      unfold madeCells
      simp [hj, Value.cells]
    rw [h4]
    have h5 : ∀ k, k < 3 → some ((#[Value.bool false, .slice none 0 0, .slice none 0 0] : Array Value)[k]!) = (qcl RV0)[k]? := fun k hk => by
      match k, hk with
      | 0, _ => rfl
      | 1, _ => rfl
      | 2, _ => rfl
    exact h5 _ h2
  · rw [List.getElem?_eq_none (by rw [Array.length_toList, size_madeCells]; omega), List.getElem?_eq_none (by rw [flatQ_length, List.length_replicate]; omega)]
/-- Three cells of a row of the call's own, to be written. -/
theorem OwnS.threec {B g i : Nat} {w : World} {L : List RV} {p : RV} (h : OwnS B w (some ⟨g, 0, none⟩) (flatQ L)) (hp : L[i]? = some p) :
    (w.cell? ⟨g, i * 3, none⟩ = some (.bool p.x.p) ∧ w.cell? ⟨g, i * 3 + 1, none⟩ = some (.slice p.a.A p.x.l.length p.a.c) ∧ w.cell? ⟨g, i * 3 + 2, none⟩ = some (.slice p.a.D p.x.m.length p.a.d)) ∧
    w.frozen? ⟨g, i * 3, none⟩ = false ∧ w.frozen? ⟨g, i * 3 + 1, none⟩ = false ∧ w.frozen? ⟨g, i * 3 + 2, none⟩ = false := by
  have hl := lt_of_getQ hp
  have hf := flatQ_length L
  obtain ⟨g', ha, hB, hs, hc, hfr⟩ := h.block (by omega)
  obtain rfl : g = g' := by injection ha with e; injection e
  have C : ∀ k, k < 3 → w.cell? ⟨g, i * 3 + k, none⟩ = (qcl p)[k]? := fun k hk => by
    rw [← flatQ_get hp k hk]; exact hc (i * 3 + k) (by omega)
  have Fz : ∀ k, k < 3 → w.frozen? ⟨g, i * 3 + k, none⟩ = false := fun k hk => hfr (i * 3 + k) (by omega)
  exact ⟨⟨C 0 (by omega), C 1 (by omega), C 2 (by omega)⟩, Fz 0 (by omega), Fz 1 (by omega), Fz 2 (by omega)⟩
/-- A list of fractions in rows of the call's own, with the data of L. -/
def MadeRS (B : Nat) (L : List RV) (w : World) (e : Ending) (w' : World) : Prop :=
  ∃ (M : List RV) (A : Option Addr) (c : Nat), e = .returned (.slice A M.length c) ∧ M.length ≤ c ∧ datQ M = datQ L ∧ (∀ p, p ∈ M → CapQ p) ∧ Owns B w'.heap.size w' (srowQ A M) ∧ Aparts (srowQ A M) ∧ Below w.heap.size w w'
theorem datQ_len {L M : List RV} (h : datQ M = datQ L) : M.length = L.length := by
  have := congrArg List.length h
  simpa [datQ] using this
theorem datQ_app (L M : List RV) : datQ (L ++ M) = datQ L ++ datQ M := by simp [datQ]
theorem datQ_get {L M : List RV} (h : datQ M = datQ L) {i : Nat} {p : RV} (hp : L[i]? = some p) : ∃ q, M[i]? = some q ∧ q.x = p.x := by
  have h1 : (datQ M)[i]? = some p.x := by rw [h]; simp [datQ, hp]
  unfold datQ at h1
  rw [List.getElem?_map] at h1
  cases hq : M[i]? with
  | none => rw [hq] at h1; cases h1
  | some q =>
    rw [hq] at h1
    injection h1 with h1
    exact ⟨q, rfl, h1⟩
theorem set_appQ (M : List RV) (n : Nat) (q r : RV) (R : List RV) : (M ++ r :: R).set M.length q = (M ++ [q]) ++ R := by
  rw [List.set_append_right _ _ (Nat.le_refl _)]; simp
end Go.Proofs.YtennekieiioilaaGreat
