/-
  Marks in lists of points: what the harness writes into them, and finds again.
-/
import Derived.Test.YtennekieiioilaaGreatSl
namespace Go.Proofs.YtennekieiioilaaGreat
open Go.ChangeShapes Go.WideShapes Go.ChangeAt Go.RowKit
open Go.ChangeMaps (open_string shut_string)
set_option linter.unusedVariables false
set_option linter.unusedSimpArgs false
set_option maxRecDepth 4000

def mkS (k : Int) (x : R3) : R3 := ⟨k % 3 == 0, marks (k + 1) x.l.length, marks (k + 1 + (x.l.length : Int)) x.m.length⟩
def nxS (k : Int) (x : R3) : Int := k + 1 + (x.l.length : Int) + (x.m.length : Int)
def mkP (k : Int) (p : PV) : PV := ⟨mkS k p.x, mkS (nxS k p.x) p.y, p.a, p.b⟩
def nxP (k : Int) (p : PV) : Int := nxS (nxS k p.x) p.y
def mks : Int → List PV → List PV
  | _, [] => []
  | k, p :: L => mkP k p :: mks (nxP k p) L
def nxs : Int → List PV → Int
  | k, [] => k
  | k, p :: L => nxs (nxP k p) L
theorem nxP_eq (k : Int) (p : PV) : nxP k p = k + 2 + szp p := by unfold nxP nxS szp szx; omega
theorem nxs_eq (k : Int) (L : List PV) : nxs k L = k + 2 * (L.length : Int) + szs L := by
  induction L generalizing k with
  | nil => simp [nxs, szs]
  | cons p L ih => show nxs (nxP k p) L = _; rw [ih, nxP_eq, List.length_cons]; show _ = k + 2 * ((L.length + 1 : Nat) : Int) + (szp p + szs L); omega
theorem nxs_app (k : Int) (L M : List PV) : nxs k (L ++ M) = nxs (nxs k L) M := by
  induction L generalizing k with
  | nil => rfl
  | cons p L ih => exact ih _
theorem mks_app (k : Int) (L M : List PV) : mks k (L ++ M) = mks k L ++ mks (nxs k L) M := by
  induction L generalizing k with
  | nil => rfl
  | cons p L ih => show mkP k p :: mks (nxP k p) (L ++ M) = mkP k p :: (mks (nxP k p) L ++ mks (nxs (nxP k p) L) M); rw [ih]
theorem mks_length (k : Int) (L : List PV) : (mks k L).length = L.length := by
  induction L generalizing k with
  | nil => rfl
  | cons p L ih => show (mks (nxP k p) L).length + 1 = _; rw [ih]; rfl
theorem flat_two {L : List PV} {i : Nat} {p q : PV} (h : L[i]? = some p) (u v : Value) (hq : pcl q = ((pcl p).set 0 u).set 3 v) : ((flat L).set (i * 6) u).set (i * 6 + 3) v = flat (L.set i q) := by
  have hl := lt_of_getP h
  have hlen : (flat (L.take i)).length = i * 6 := by rw [flat_length, List.length_take, Nat.min_eq_left (by omega)]
  have hq' : (L.set i q)[i]? = some q := List.getElem?_set_self hl
  have hk : ∀ (l M R : List Value) (k : Nat) (v : Value), l.length = i * 6 → k < M.length → (l ++ (M ++ R)).set (i * 6 + k) v = l ++ (M.set k v ++ R) := fun l M R k v hl hk => by
    rw [List.set_append_right _ _ (by omega), hl, Nat.add_sub_cancel_left, List.set_append_left _ _ hk]
  have e1 : (L.set i q).take i = L.take i := List.take_set_of_le (Nat.le_refl _)
  have e2 : (L.set i q).drop (i + 1) = L.drop (i + 1) := List.drop_set_of_lt (Nat.lt_succ_self _)
  rw [flat_split h, flat_split hq', e1, e2, hq]
  rw [show (i * 6) = i * 6 + 0 from rfl, hk _ _ _ 0 _ hlen (by rw [pcl_length]; omega), show i * 6 + 0 + 3 = i * 6 + 3 from rfl, hk _ _ _ 3 _ hlen (by simp [pcl_length])]
theorem pcl_mk (k : Int) (p : PV) : pcl (mkP k p) = ((pcl p).set 0 (.bool (k % 3 == 0))).set 3 (.bool (nxS k p.x % 3 == 0)) := by
  show [_, _, _, _, _, _] = [_, _, _, _, _, _]
  simp [mkP, mkS, marks_length]
/-- One row of several is written: the others stay. -/
theorem Owns.repl {lo hi : Nat} {w w' : World} {R1 R2 : List (Option Addr × List Value)} {A : Option Addr} {l l' : List Value} (h : Owns lo hi w (R1 ++ (A, l) :: R2)) (ap : Aparts (R1 ++ (A, l) :: R2))
    (hg : w.grownBy w' (rowOf l.length A)) (ho : OwnS lo w' A l') (hl : l'.length = l.length) : Owns lo hi w' (R1 ++ (A, l') :: R2) ∧ Aparts (R1 ++ (A, l') :: R2) ∧ Turn lo hi w w' := by
  obtain ⟨p1, p2, p3⟩ := List.pairwise_append.1 ap
  have hA := h (A, l) (by simp)
  refine ⟨fun r hr => ?_, ?_, Turn.of_grown hg hA.2⟩
  · rcases List.mem_append.1 hr with e | e
    · exact ⟨(h r (by simp [e])).1.apartN rfl hg (p3 r e (A, l) (by simp)), (h r (by simp [e])).2⟩
    · rcases List.mem_cons.1 e with e | e
      · subst e
        exact ⟨ho, by show InR l'.length A lo hi; rw [hl]; exact hA.2⟩
      · exact ⟨(h r (by simp [e])).1.apartN rfl hg ((List.pairwise_cons.1 p2).1 r e).symm, (h r (by simp [e])).2⟩
  · refine List.pairwise_append.2 ⟨p1, List.pairwise_cons.2 ⟨fun s hs => ?_, (List.pairwise_cons.1 p2).2⟩, fun r hr s hs => ?_⟩
    · show Apart l'.length A s.2.length s.1
      rw [hl]; exact (List.pairwise_cons.1 p2).1 s hs
    · rcases List.mem_cons.1 hs with e | e
      · subst e
        show Apart r.2.length r.1 l'.length A
        rw [hl]; exact p3 r hr (A, l) (by simp)
      · exact p3 r hr s (by simp [e])
abbrev Row := Option Addr × List Value
/-- The outer row, rows ahead, four rows, rows behind. -/
def five (X : Row) (P : List Row) (r1 r2 r3 r4 : Row) (Q : List Row) : List Row := X :: (P ++ r1 :: r2 :: r3 :: r4 :: Q)
section
variable {lo hi : Nat} {w w' : World} {X r1 r2 r3 r4 : Row} {P Q : List Row} {A : Option Addr} {l l' : List Value}
theorem five0 (h : Owns lo hi w (five (A, l) P r1 r2 r3 r4 Q)) (ap : Aparts (five (A, l) P r1 r2 r3 r4 Q)) (hg : w.grownBy w' (rowOf l.length A)) (ho : OwnS lo w' A l') (hl : l'.length = l.length) :
    Owns lo hi w' (five (A, l') P r1 r2 r3 r4 Q) ∧ Aparts (five (A, l') P r1 r2 r3 r4 Q) ∧ Turn lo hi w w' := Owns.repl (R1 := []) h ap hg ho hl
theorem five1 (h : Owns lo hi w (five X P (A, l) r2 r3 r4 Q)) (ap : Aparts (five X P (A, l) r2 r3 r4 Q)) (hg : w.grownBy w' (rowOf l.length A)) (ho : OwnS lo w' A l') (hl : l'.length = l.length) :
    Owns lo hi w' (five X P (A, l') r2 r3 r4 Q) ∧ Aparts (five X P (A, l') r2 r3 r4 Q) ∧ Turn lo hi w w' := Owns.repl (R1 := X :: P) h ap hg ho hl
theorem five2 (h : Owns lo hi w (five X P r1 (A, l) r3 r4 Q)) (ap : Aparts (five X P r1 (A, l) r3 r4 Q)) (hg : w.grownBy w' (rowOf l.length A)) (ho : OwnS lo w' A l') (hl : l'.length = l.length) :
    Owns lo hi w' (five X P r1 (A, l') r3 r4 Q) ∧ Aparts (five X P r1 (A, l') r3 r4 Q) ∧ Turn lo hi w w' := by
  have e : ∀ r, five X P r1 r r3 r4 Q = (X :: (P ++ [r1])) ++ r :: (r3 :: r4 :: Q) := fun r => by simp [five]
  rw [e] at h ap ⊢
  exact Owns.repl h ap hg ho hl
theorem five3 (h : Owns lo hi w (five X P r1 r2 (A, l) r4 Q)) (ap : Aparts (five X P r1 r2 (A, l) r4 Q)) (hg : w.grownBy w' (rowOf l.length A)) (ho : OwnS lo w' A l') (hl : l'.length = l.length) :
    Owns lo hi w' (five X P r1 r2 (A, l') r4 Q) ∧ Aparts (five X P r1 r2 (A, l') r4 Q) ∧ Turn lo hi w w' := by
  have e : ∀ r, five X P r1 r2 r r4 Q = (X :: (P ++ [r1, r2])) ++ r :: (r4 :: Q) := fun r => by simp [five]
  rw [e] at h ap ⊢
  exact Owns.repl h ap hg ho hl
theorem five4 (h : Owns lo hi w (five X P r1 r2 r3 (A, l) Q)) (ap : Aparts (five X P r1 r2 r3 (A, l) Q)) (hg : w.grownBy w' (rowOf l.length A)) (ho : OwnS lo w' A l') (hl : l'.length = l.length) :
    Owns lo hi w' (five X P r1 r2 r3 (A, l') Q) ∧ Aparts (five X P r1 r2 r3 (A, l') Q) ∧ Turn lo hi w w' := by
  have e : ∀ r, five X P r1 r2 r3 r Q = (X :: (P ++ [r1, r2, r3])) ++ r :: Q := fun r => by simp [five]
  rw [e] at h ap ⊢
  exact Owns.repl h ap hg ho hl
theorem five_at (h : Owns lo hi w (five X P r1 r2 r3 r4 Q)) : OwnS lo w X.1 X.2 ∧ OwnS lo w r1.1 r1.2 ∧ OwnS lo w r2.1 r2.2 ∧ OwnS lo w r3.1 r3.2 ∧ OwnS lo w r4.1 r4.2 :=
  ⟨(h X (by simp [five])).1, (h r1 (by simp [five])).1, (h r2 (by simp [five])).1, (h r3 (by simp [five])).1, (h r4 (by simp [five])).1⟩
end
theorem srow_five (A : Option Addr) (M1 M2 : List PV) (p : PV) : srow A (M1 ++ p :: M2) = five (A, flat (M1 ++ p :: M2)) (lrow M1) (p.a.A, vi p.x.l) (p.a.D, vi p.x.m) (p.b.A, vi p.y.l) (p.b.D, vi p.y.m) (lrow M2) := by
  unfold srow five
  rw [lrow_app, lrow_cons]
  rfl
theorem OwnS.cellv {B g j : Nat} {w : World} {F : List Value} {v : Value} (h : OwnS B w (some ⟨g, 0, none⟩) F) (hj : F[j]? = some v) : w.cell? ⟨g, j, none⟩ = some v ∧ w.frozen? ⟨g, j, none⟩ = false := by
  have hl : j < F.length := by
    rcases Nat.lt_or_ge j F.length with h1 | h1
    · exact h1
    · rw [List.getElem?_eq_none h1] at hj; cases hj
  obtain ⟨g', ha, hB, hs, hc, hf⟩ := h.block (by omega)
  obtain rfl : g = g' := by injection ha with e; injection e
  exact ⟨by rw [hc j hl, hj], hf j hl⟩
theorem put_grown (w : World) (g j : Nat) (v : Value) {F : List Value} (h0 : 0 < F.length) : w.grownBy (w.setCell ⟨g, j, none⟩ v) (rowOf F.length (some ⟨g, 0, none⟩)) := by
  unfold rowOf
  rw [if_neg (by omega)]
  exact grown_setCell (grown_refl _ _) j v
theorem OwnS.addr {B : Nat} {w : World} {A : Option Addr} {F : List Value} (h : OwnS B w A F) (h0 : 0 < F.length) : ∃ g, A = some ⟨g, 0, none⟩ := by
  obtain ⟨g, ha, _⟩ := h.block h0
  exact ⟨g, ha⟩
theorem mks_step {k : Int} {L : List PV} {j : Nat} {p : PV} (hp : L[j]? = some p) :
    mks k (L.take j) ++ L.drop j = mks k (L.take j) ++ p :: L.drop (j + 1) ∧ mks k (L.take (j + 1)) ++ L.drop (j + 1) = mks k (L.take j) ++ mkP (nxs k (L.take j)) p :: L.drop (j + 1) ∧ nxs k (L.take (j + 1)) = nxP (nxs k (L.take j)) p := by
  have hl := lt_of_getP hp
  have h2 : L[j] = p := by rw [List.getElem?_eq_getElem hl] at hp; injection hp
  refine ⟨by rw [List.drop_eq_getElem_cons hl, h2], ?_, ?_⟩
  · rw [take_succP hp, mks_app]
    show (mks k (L.take j) ++ [mkP (nxs k (L.take j)) p]) ++ L.drop (j + 1) = _
    rw [List.append_assoc]; rfl
  · rw [take_succP hp, nxs_app]; rfl
end Go.Proofs.YtennekieiioilaaGreat
