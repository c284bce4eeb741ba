/-
  Lists of points: the row of their cells (six a point), the rows of their limbs; what may be read of them, what the call made itself.
-/
import Derived.Test.YtennekieiioilaaGreatPtE
import Derived.Test.YtennekieiioilaaGreatPtH
namespace Go.Proofs.YtennekieiioilaaGreat
open Go.ChangeShapes Go.WideShapes Go.ChangeAt Go.RowKit
open Go.ChangeMaps (open_string shut_string)
set_option linter.unusedVariables false
set_option linter.unusedSimpArgs false
set_option maxRecDepth 4000

/-- A point: its data and where its rows lie. -/
structure PV where
  x : R3
  y : R3
  a : Ad
  b : Ad
def noA : Ad := ⟨none, 0, none, 0⟩
def PV0 : PV := ⟨noR, noR, noA, noA⟩
def pcl (p : PV) : List Value := [.bool p.x.p, .slice p.a.A p.x.l.length p.a.c, .slice p.a.D p.x.m.length p.a.d, .bool p.y.p, .slice p.b.A p.y.l.length p.b.c, .slice p.b.D p.y.m.length p.b.d]
def prow (p : PV) : List (Option Addr × List Value) := rows p.x p.a ++ rows p.y p.b
def flat (L : List PV) : List Value := L.flatMap pcl
def lrow (L : List PV) : List (Option Addr × List Value) := L.flatMap prow
def srow (A : Option Addr) (L : List PV) : List (Option Addr × List Value) := (A, flat L) :: lrow L
/-- The data alone. -/
def dat (L : List PV) : List (R3 × R3) := L.map (fun p => (p.x, p.y))
def ShortP (p : PV) : Prop := Short p.x ∧ Short p.y
def CapP (p : PV) : Prop := p.x.l.length ≤ p.a.c ∧ p.x.m.length ≤ p.a.d ∧ p.y.l.length ≤ p.b.c ∧ p.y.m.length ≤ p.b.d
def LenP (p : PV) : Prop := (p.x.l.length ≤ 9223372036854775807 ∧ p.x.m.length ≤ 9223372036854775807) ∧ p.y.l.length ≤ 9223372036854775807 ∧ p.y.m.length ≤ 9223372036854775807
theorem ShortP.len {p : PV} (h : ShortP p) : LenP p := by
  obtain ⟨⟨h1, h2⟩, h3, h4⟩ := h
  exact ⟨⟨by omega, by omega⟩, by omega, by omega⟩
theorem pcl_length (p : PV) : (pcl p).length = 6 := rfl
theorem flat_nil : flat [] = [] := rfl
theorem flat_cons (p : PV) (L : List PV) : flat (p :: L) = pcl p ++ flat L := by simp [flat]
theorem flat_app (L M : List PV) : flat (L ++ M) = flat L ++ flat M := by simp [flat]
theorem lrow_cons (p : PV) (L : List PV) : lrow (p :: L) = prow p ++ lrow L := by simp [lrow]
theorem lrow_app (L M : List PV) : lrow (L ++ M) = lrow L ++ lrow M := by simp [lrow]
theorem lrow_one (p : PV) : lrow [p] = prow p := by simp [lrow]
theorem flat_length (L : List PV) : (flat L).length = L.length * 6 := by
  induction L with
  | nil => rfl
  | cons p L ih => rw [flat_cons, List.length_append, ih, pcl_length, List.length_cons]; omega
theorem flat_get {L : List PV} {i : Nat} {p : PV} (h : L[i]? = some p) (k : Nat) (hk : k < 6) : (flat L)[i * 6 + k]? = (pcl p)[k]? := by
  induction L generalizing i with
  | nil => cases h
  | cons q L ih =>
    rw [flat_cons]
    cases i with
    | zero =>
      obtain rfl : q = p := by simpa using h
      rw [List.getElem?_append_left (by rw [pcl_length]; omega)]
      simp
    | succ i =>
      have h' : L[i]? = some p := by simpa using h
      rw [List.getElem?_append_right (by rw [pcl_length]; omega), ← ih h']
      congr 1
      rw [pcl_length]; omega
theorem getP {L : List PV} {i : Nat} (h : i < L.length) : ∃ p, L[i]? = some p := ⟨L[i], List.getElem?_eq_getElem h⟩
theorem lt_of_getP {L : List PV} {i : Nat} {p : PV} (h : L[i]? = some p) : i < L.length := by
  rcases Nat.lt_or_ge i L.length with h1 | h1
  · exact h1
  · rw [List.getElem?_eq_none h1] at h; cases h
theorem take_succP {L : List PV} {i : Nat} {p : PV} (h : L[i]? = some p) : L.take (i + 1) = L.take i ++ [p] := by
  have hl := lt_of_getP h
  rw [List.take_add_one, h]; rfl
/-- Six cells of a list of points, to be read. -/
theorem RdS.six {w : World} {A : Option Addr} {L : List PV} (h : RdS w A (flat L)) {i : Nat} {p : PV} (hp : L[i]? = some p) :
    ∃ g o, A = some ⟨g, o, none⟩ ∧ g < w.heap.size ∧ w.cell? ⟨g, o + i * 6, none⟩ = some (.bool p.x.p) ∧ w.cell? ⟨g, o + i * 6 + 1, none⟩ = some (.slice p.a.A p.x.l.length p.a.c) ∧ w.cell? ⟨g, o + i * 6 + 2, none⟩ = some (.slice p.a.D p.x.m.length p.a.d) ∧ w.cell? ⟨g, o + i * 6 + 3, none⟩ = some (.bool p.y.p) ∧ w.cell? ⟨g, o + i * 6 + 4, none⟩ = some (.slice p.b.A p.y.l.length p.b.c) ∧ w.cell? ⟨g, o + i * 6 + 5, none⟩ = some (.slice p.b.D p.y.m.length p.b.d) := by
  have hl := lt_of_getP hp
  have hf := flat_length L
  obtain ⟨g, o, ha, hg, hc⟩ := h.block (by omega)
  have C : ∀ k, k < 6 → w.cell? ⟨g, o + i * 6 + k, none⟩ = (pcl p)[k]? := fun k hk => by
    rw [← flat_get hp k hk, Nat.add_assoc]; exact hc (i * 6 + k) (by omega)
  exact ⟨g, o, ha, hg, C 0 (by omega), C 1 (by omega), C 2 (by omega), C 3 (by omega), C 4 (by omega), C 5 (by omega)⟩
theorem Rds.at {w : World} {L : List PV} (h : Rds w (lrow L)) {i : Nat} {p : PV} (hp : L[i]? = some p) : Rds w (prow p) := fun r hr =>
  h r (List.mem_flatMap.2 ⟨p, List.mem_of_getElem? hp, hr⟩)
theorem Owns.at {lo hi : Nat} {w : World} {L : List PV} (h : Owns lo hi w (lrow L)) {i : Nat} {p : PV} (hp : L[i]? = some p) : Owns lo hi w (prow p) := fun r hr =>
  h r (List.mem_flatMap.2 ⟨p, List.mem_of_getElem? hp, hr⟩)
/-- What a list of points takes of the harness' room. -/
def szp (p : PV) : Int := szx p.x + szx p.y
def szs : List PV → Int
  | [] => 0
  | p :: L => szp p + szs L
theorem szp_pos (p : PV) : 0 ≤ szp p := by have := szx_pos p.x; have := szx_pos p.y; unfold szp; omega
theorem szs_pos (L : List PV) : 0 ≤ szs L := by
  induction L with
  | nil => exact Int.le_refl _
  | cons p L ih => have := szp_pos p; unfold szs; omega
theorem szs_app (L M : List PV) : szs (L ++ M) = szs L + szs M := by
  induction L with
  | nil => simp [szs]
  | cons p L ih => rw [List.cons_append]; show szp p + szs (L ++ M) = szp p + szs L + szs M; rw [ih]; omega
theorem szs_take {L : List PV} {i : Nat} {p : PV} (h : L[i]? = some p) : szs (L.take (i + 1)) = szs (L.take i) + szp p := by
  rw [take_succP h, szs_app]; simp [szs]
theorem szs_le (L : List PV) (i : Nat) : szs (L.take i) ≤ szs L := by
  have h := szs_app (L.take i) (L.drop i)
  rw [List.take_append_drop] at h
  have := szs_pos (L.drop i)
  omega
theorem szp_short {p : PV} {left : Int} (h : szp p ≤ left) (h1 : left ≤ 1048576) : ShortP p := by
  have h2 := szx_pos p.x
  have h3 := szx_pos p.y
  unfold szp at h
  exact ⟨szx_short (left := left) (by omega) h1, szx_short (left := left) (by omega) h1⟩
theorem szs_short {L : List PV} {left : Int} (h : szs L ≤ left) (h1 : left ≤ 1048576) : ∀ p, p ∈ L → ShortP p := by
  induction L with
  | nil => intro p hp; cases hp
  | cons q L ih =>
    unfold szs at h
    have h2 := szp_pos q
    have h3 := szs_pos L
    intro p hp
    rcases List.mem_cons.1 hp with e | e
    · subst e; exact szp_short (left := left) (by omega) h1
    · exact ih (by omega) p e
/-- A cell of a row is written. -/
theorem OwnS.set {B g j : Nat} {w : World} {l : List Value} (h : OwnS B w (some ⟨g, 0, none⟩) l) (hj : j < l.length) (v : Value) : OwnS B (w.setCell ⟨g, j, none⟩ v) (some ⟨g, 0, none⟩) (l.set j v) := by
  obtain ⟨g', ha, hB, hs, hc, hf⟩ := h.block (by omega)
  obtain rfl : g = g' := by injection ha with e; injection e
  refine .inr ⟨g, rfl, hB, by simpa [World.setCell] using hs, fun i hi => ?_, fun i hi => ?_⟩
  · rw [List.length_set] at hi
    by_cases e : i = j
    · subst e
      have hu : w.cell? ⟨g, i, none⟩ = some l[i] := by rw [hc i hi, List.getElem?_eq_getElem hi]
      rw [World.cell?_setCell_same w ⟨g, i, none⟩ v hu, List.getElem?_set_self hi]
    · rw [World.cell?_setCell_other w ⟨g, j, none⟩ ⟨g, i, none⟩ v (by intro q; injection q with _ q2; exact e q2.symm), List.getElem?_set_ne (fun q => e q.symm)]
      exact hc i hi
  · rw [List.length_set] at hi
    rw [World.frozen?_setCell]; exact hf i hi
theorem OwnS.lt {B g : Nat} {w : World} {l : List Value} (h : OwnS B w (some ⟨g, 0, none⟩) l) (h0 : 0 < l.length) : B ≤ g ∧ g < w.heap.size := by
  obtain ⟨g', ha, hB, hs, _, _⟩ := h.block h0
  obtain rfl : g = g' := by injection ha with e; injection e
  exact ⟨hB, hs⟩
theorem flat_split {L : List PV} {i : Nat} {p : PV} (h : L[i]? = some p) : flat L = flat (L.take i) ++ (pcl p ++ flat (L.drop (i + 1))) := by
  have hl := lt_of_getP h
  have e : L = L.take i ++ p :: L.drop (i + 1) := by
    have h1 := List.take_append_drop i L
    rw [List.drop_eq_getElem_cons hl] at h1
    have h2 : L[i] = p := by rw [List.getElem?_eq_getElem hl] at h; injection h
    rw [h2] at h1
    exact h1.symm
  conv => lhs; rw [e, flat_app, flat_cons]
theorem flat_set {L : List PV} {i : Nat} {p : PV} (h : L[i]? = some p) (k : Nat) (hk : k < 6) (v : Value) : (flat L).set (i * 6 + k) v = flat (L.take i) ++ ((pcl p).set k v ++ flat (L.drop (i + 1))) := by
  have hl := lt_of_getP h
  have hlen : (flat (L.take i)).length = i * 6 := by rw [flat_length, List.length_take, Nat.min_eq_left (by omega)]
  rw [flat_split h, List.set_append_right _ _ (by omega), hlen, Nat.add_sub_cancel_left, List.set_append_left _ _ (by rw [pcl_length]; exact hk)]
theorem flat_six {L : List PV} {i : Nat} {p : PV} (h : L[i]? = some p) (q : PV) :
    ((((((flat L).set (i * 6) (.bool q.x.p)).set (i * 6 + 1) (.slice q.a.A q.x.l.length q.a.c)).set (i * 6 + 2) (.slice q.a.D q.x.m.length q.a.d)).set (i * 6 + 3) (.bool q.y.p)).set (i * 6 + 4) (.slice q.b.A q.y.l.length q.b.c)).set (i * 6 + 5) (.slice q.b.D q.y.m.length q.b.d) = flat (L.set i q) := by
  have hl := lt_of_getP h
  have hlen : (flat (L.take i)).length = i * 6 := by rw [flat_length, List.length_take, Nat.min_eq_left (by omega)]
  have hq : (L.set i q)[i]? = some q := List.getElem?_set_self hl
  have hk : ∀ (l M R : List Value) (k : Nat) (v : Value), l.length = i * 6 → k < M.length → (l ++ (M ++ R)).set (i * 6 + k) v = l ++ (M.set k v ++ R) := fun l M R k v hl hk => by
    rw [List.set_append_right _ _ (by omega), hl, Nat.add_sub_cancel_left, List.set_append_left _ _ hk]
  rw [flat_split h, flat_split hq]
  have e1 : (L.set i q).take i = L.take i := List.take_set_of_le (Nat.le_refl _)
  have e2 : (L.set i q).drop (i + 1) = L.drop (i + 1) := List.drop_set_of_lt (Nat.lt_succ_self _)
  rw [e1, e2]
  rw [show (i * 6) = i * 6 + 0 from rfl, hk _ _ _ 0 _ hlen (by rw [pcl_length]; omega), show i * 6 + 0 + 1 = i * 6 + 1 from rfl, hk _ _ _ 1 _ hlen (by simp [pcl_length]), show i * 6 + 0 + 2 = i * 6 + 2 from rfl, hk _ _ _ 2 _ hlen (by simp [pcl_length]), show i * 6 + 0 + 3 = i * 6 + 3 from rfl, hk _ _ _ 3 _ hlen (by simp [pcl_length]), show i * 6 + 0 + 4 = i * 6 + 4 from rfl, hk _ _ _ 4 _ hlen (by simp [pcl_length]), show i * 6 + 0 + 5 = i * 6 + 5 from rfl, hk _ _ _ 5 _ hlen (by simp [pcl_length])]
  rfl
/-- Six stores into a row of points. -/
theorem OwnS.six {B g i : Nat} {w : World} {L : List PV} {p : PV} (h : OwnS B w (some ⟨g, 0, none⟩) (flat L)) (hp : L[i]? = some p) (q : PV) :
    OwnS B ((((((w.setCell ⟨g, i * 6, none⟩ (.bool q.x.p)).setCell ⟨g, i * 6 + 1, none⟩ (.slice q.a.A q.x.l.length q.a.c)).setCell ⟨g, i * 6 + 2, none⟩ (.slice q.a.D q.x.m.length q.a.d)).setCell ⟨g, i * 6 + 3, none⟩ (.bool q.y.p)).setCell ⟨g, i * 6 + 4, none⟩ (.slice q.b.A q.y.l.length q.b.c)).setCell ⟨g, i * 6 + 5, none⟩ (.slice q.b.D q.y.m.length q.b.d)) (some ⟨g, 0, none⟩) (flat (L.set i q)) := by
  have hl := lt_of_getP hp
  have hf := flat_length L
  rw [← flat_six hp q]
  exact (((((h.set (by omega) _).set (by simp; omega) _).set (by simp; omega) _).set (by simp; omega) _).set (by simp; omega) _).set (by simp; omega) _
theorem OwnS.of_own6 {w : World} {base : Nat} {e : TypeId} {A : Option Addr} {n c : Nat} {l : List Value} (h : w.ownsRow base e 6 (.slice A n c) n l) : OwnS base w A l := by
  by_cases h0 : l = []
  · exact .inl h0
  · have hl : l.length = n * 6 := h.1
    have hn : 0 < n := by
      rcases Nat.eq_zero_or_pos n with h1 | h1
      · subst h1; simp at hl; exact absurd hl h0
      · exact h1
    rcases h.2 with ⟨_, he⟩ | ⟨g, cap, cur, hv, hbg, hh, hnc, _, hsz, htake⟩
    · omega
    · have hA : A = some ⟨g, 0, none⟩ := by injection hv
      refine .inr ⟨g, hA, hbg, (Array.getElem?_eq_some_iff.1 hh).1, fun j hj => ?_, fun j hj => ?_⟩
      · rw [cell_of_row w g j cur e (0, 0) hh, ← htake, List.getElem?_take, if_pos (by omega)]
        simp
      · simp [World.frozen?, hh]
theorem rep_get (n : Nat) {i : Nat} (h : i < n) : (List.replicate n PV0)[i]? = some PV0 := by simp [List.getElem?_replicate, h]
theorem made_flat (n : Nat) : (madeCells (Value.agg #[.bool false, .slice none 0 0, .slice none 0 0, .bool false, .slice none 0 0, .slice none 0 0]).cells (n * 6)).toList = flat (List.replicate n PV0) := by
  apply List.ext_getElem?
  intro j
  by_cases hj : j < n * 6
  · have h1 : j / 6 < n := by omega
    have h2 : j % 6 < 6 := Nat.mod_lt _ (by omega)
    have h3 := flat_get (rep_get n h1) (j % 6) h2
    rw [show j / 6 * 6 + j % 6 = j by omega] at h3
    rw [h3]
    have h4 : (madeCells (Value.agg #[.bool false, .slice none 0 0, .slice none 0 0, .bool false, .slice none 0 0, .slice none 0 0]).cells (n * 6)).toList[j]? = some ((#[Value.bool false, .slice none 0 0, .slice none 0 0, .bool false, .slice none 0 0, .slice none 0 0] : Array Value)[j % 6]!) := by
      unfold madeCells
      simp [hj, Value.cells]
    rw [h4]
    have h5 : ∀ k, k < 6 → some ((#[Value.bool false, .slice none 0 0, .slice none 0 0, .bool false, .slice none 0 0, .slice none 0 0] : Array Value)[k]!) = (pcl PV0)[k]? := fun k hk => by
      match k, hk with
      | 0, _ => rfl
      | 1, _ => rfl
      | 2, _ => rfl
      | 3, _ => rfl
      | 4, _ => rfl
      | 5, _ => rfl
    exact h5 _ h2
  · rw [List.getElem?_eq_none (by rw [Array.length_toList, size_madeCells]; omega), List.getElem?_eq_none (by rw [flat_length, List.length_replicate]; omega)]
/-- Six cells of a row of the call's own, to be written. -/
theorem OwnS.sixc {B g i : Nat} {w : World} {L : List PV} {p : PV} (h : OwnS B w (some ⟨g, 0, none⟩) (flat L)) (hp : L[i]? = some p) :
    (w.cell? ⟨g, i * 6, none⟩ = some (.bool p.x.p) ∧ w.cell? ⟨g, i * 6 + 1, none⟩ = some (.slice p.a.A p.x.l.length p.a.c) ∧ w.cell? ⟨g, i * 6 + 2, none⟩ = some (.slice p.a.D p.x.m.length p.a.d) ∧ w.cell? ⟨g, i * 6 + 3, none⟩ = some (.bool p.y.p) ∧ w.cell? ⟨g, i * 6 + 4, none⟩ = some (.slice p.b.A p.y.l.length p.b.c) ∧ w.cell? ⟨g, i * 6 + 5, none⟩ = some (.slice p.b.D p.y.m.length p.b.d)) ∧
    w.frozen? ⟨g, i * 6, none⟩ = false ∧ w.frozen? ⟨g, i * 6 + 1, none⟩ = false ∧ w.frozen? ⟨g, i * 6 + 2, none⟩ = false ∧ w.frozen? ⟨g, i * 6 + 3, none⟩ = false ∧ w.frozen? ⟨g, i * 6 + 4, none⟩ = false ∧ w.frozen? ⟨g, i * 6 + 5, none⟩ = false := by
  have hl := lt_of_getP hp
  have hf := flat_length L
  obtain ⟨g', ha, hB, hs, hc, hfr⟩ := h.block (by omega)
  obtain rfl : g = g' := by injection ha with e; injection e
  have C : ∀ k, k < 6 → w.cell? ⟨g, i * 6 + k, none⟩ = (pcl p)[k]? := fun k hk => by
    rw [← flat_get hp k hk]; exact hc (i * 6 + k) (by omega)
  have Fz : ∀ k, k < 6 → w.frozen? ⟨g, i * 6 + k, none⟩ = false := fun k hk => hfr (i * 6 + k) (by omega)
  exact ⟨⟨C 0 (by omega), C 1 (by omega), C 2 (by omega), C 3 (by omega), C 4 (by omega), C 5 (by omega)⟩, Fz 0 (by omega), Fz 1 (by omega), Fz 2 (by omega), Fz 3 (by omega), Fz 4 (by omega), Fz 5 (by omega)⟩
/-- A list of points in rows of the call's own, with the data of L. -/
def MadePS (B : Nat) (L : List PV) (w : World) (e : Ending) (w' : World) : Prop :=
  ∃ (M : List PV) (A : Option Addr) (c : Nat), e = .returned (.slice A M.length c) ∧ M.length ≤ c ∧ dat M = dat L ∧ (∀ p, p ∈ M → CapP p) ∧ Owns B w'.heap.size w' (srow A M) ∧ Aparts (srow A M) ∧ Below w.heap.size w w'
theorem dat_len {L M : List PV} (h : dat M = dat L) : M.length = L.length := by
  have := congrArg List.length h
  simpa [dat] using this
theorem dat_app (L M : List PV) : dat (L ++ M) = dat L ++ dat M := by simp [dat]
theorem dat_get {L M : List PV} (h : dat M = dat L) {i : Nat} {p : PV} (hp : L[i]? = some p) : ∃ q, M[i]? = some q ∧ q.x = p.x ∧ q.y = p.y := by
  have h1 : (dat M)[i]? = some (p.x, p.y) := by rw [h]; simp [dat, hp]
  unfold dat at h1
  rw [List.getElem?_map] at h1
  cases hq : M[i]? with
  | none => rw [hq] at h1; cases h1
  | some q =>
    rw [hq] at h1
    injection h1 with h1
    injection h1 with h2 h3
    exact ⟨q, rfl, h2, h3⟩
theorem set_app (M : List PV) (n : Nat) (q r : PV) (R : List PV) : (M ++ r :: R).set M.length q = (M ++ [q]) ++ R := by
  rw [List.set_append_right _ _ (Nat.le_refl _)]; simp
theorem below_cell {w w' : World} {g i : Nat} {v : Value} (hb : Below w.heap.size w w') (h : w.cell? ⟨g, i, none⟩ = some v) : w'.cell? ⟨g, i, none⟩ = some v := by
  rw [hb.cell (p := ⟨g, i, none⟩) (World.block_lt_of_cell? w _ h)]; exact h
end Go.Proofs.YtennekieiioilaaGreat
