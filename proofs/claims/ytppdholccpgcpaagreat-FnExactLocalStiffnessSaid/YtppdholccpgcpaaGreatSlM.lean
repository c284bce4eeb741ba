/-
  Marks in lists of points: what the harness writes into them, and finds again.
-/
import Derived.Test.YtppdholccpgcpaaGreatSl
namespace Go.Proofs.YtppdholccpgcpaaGreat
open Go.ChangeShapes Go.WideShapes Go.ChangeAt Go.RowKit
set_option linter.unusedVariables false
set_option linter.unusedSimpArgs false
set_option maxRecDepth 4000
def mkS (k : Int) (x : R3) : R3 := ⟨k % 3 == 0, marks (k + 1) x.l.length, marks (k + 1 + (x.l.length : Int)) x.m.length⟩
def nxS (k : Int) (x : R3) : Int := k + 1 + (x.l.length : Int) + (x.m.length : Int)
def mkP (k : Int) (p : PV) : PV := ⟨mkS k p.x, mkS (nxS k p.x) p.y, p.a, p.b⟩
def nxP (k : Int) (p : PV) : Int := nxS (nxS k p.x) p.y
def mks : Int → List PV → List PV
  | _, [] => []
  | k, p :: L => mkP k p :: mks (nxP k p) L
def nxs : Int → List PV → Int
  | k, [] => k
  | k, p :: L => nxs (nxP k p) L
theorem nxP_eq (k : Int) (p : PV) : nxP k p = k + 2 + szp p := by unfold nxP nxS szp szx; omega
theorem nxs_eq (k : Int) (L : List PV) : nxs k L = k + 2 * (L.length : Int) + szs L := by
  induction L generalizing k with
  | nil => simp [nxs, szs]
  | cons p L ih => show nxs (nxP k p) L = _; rw [ih, nxP_eq, List.length_cons]; show _ = k + 2 * ((L.length + 1 : Nat) : Int) + (szp p + szs L); omega
theorem nxs_app (k : Int) (L M : List PV) : nxs k (L ++ M) = nxs (nxs k L) M := by
  induction L generalizing k with
  | nil => rfl
  | cons p L ih => exact ih _
theorem mks_app (k : Int) (L M : List PV) : mks k (L ++ M) = mks k L ++ mks (nxs k L) M := by
  induction L generalizing k with
  | nil => rfl
  | cons p L ih => show mkP k p :: mks (nxP k p) (L ++ M) = mkP k p :: (mks (nxP k p) L ++ mks (nxs (nxP k p) L) M); rw [ih]
theorem mks_length (k : Int) (L : List PV) : (mks k L).length = L.length := by
  induction L generalizing k with
  | nil => rfl
  | cons p L ih => show (mks (nxP k p) L).length + 1 = _; rw [ih]; rfl
theorem flat_two {L : List PV} {i : Nat} {p q : PV} (h : L[i]? = some p) (u v : Value) (hq : pcl q = ((pcl p).set 0 u).set 3 v) : ((flat L).set (i * 6) u).set (i * 6 + 3) v = flat (L.set i q) := by
  have hl := lt_of_getP h
  have hlen : (flat (L.take i)).length = i * 6 := by rw [flat_length, List.length_take, Nat.min_eq_left (by omega)]
  have hq' : (L.set i q)[i]? = some q := List.getElem?_set_self hl
  have hk : ∀ (l M R : List Value) (k : Nat) (v : Value), l.length = i * 6 → k < M.length → (l ++ (M ++ R)).set (i * 6 + k) v = l ++ (M.set k v ++ R) := fun l M R k v hl hk => by
    rw [List.set_append_right _ _ (by omega), hl, Nat.add_sub_cancel_left, List.set_append_left _ _ hk]
  have e1 : (L.set i q).take i = L.take i := List.take_set_of_le (Nat.le_refl _)
  have e2 : (L.set i q).drop (i + 1) = L.drop (i + 1) := List.drop_set_of_lt (Nat.lt_succ_self _)
  rw [flat_split h, flat_split hq', e1, e2, hq]
  rw [show (i * 6) = i * 6 + 0 from rfl, hk _ _ _ 0 _ hlen (by rw [pcl_length]; omega), show i * 6 + 0 + 3 = i * 6 + 3 from rfl, hk _ _ _ 3 _ hlen (by simp [pcl_length])]
theorem pcl_mk (k : Int) (p : PV) : pcl (mkP k p) = ((pcl p).set 0 (.bool (k % 3 == 0))).set 3 (.bool (nxS k p.x % 3 == 0)) := by
  show [_, _, _, _, _, _] = [_, _, _, _, _, _]
  simp [mkP, mkS, marks_length]
theorem Owns.repl {lo hi : Nat} {w w' : World} {R1 R2 : List (Option Addr × List Value)} {A : Option Addr} {l l' : List Value} (h : Owns lo hi w (R1 ++ (A, l) :: R2)) (ap : Aparts (R1 ++ (A, l) :: R2))
    (hg : w.grownBy w' (rowOf l.length A)) (ho : OwnS lo w' A l') (hl : l'.length = l.length) : Owns lo hi w' (R1 ++ (A, l') :: R2) ∧ Aparts (R1 ++ (A, l') :: R2) ∧ Turn lo hi w w' := by
  obtain ⟨p1, p2, p3⟩ := List.pairwise_append.1 ap
  have hA := h (A, l) (by simp)
  refine ⟨fun r hr => ?_, ?_, Turn.of_grown hg hA.2⟩
  · rcases List.mem_append.1 hr with e | e
    · exact ⟨(h r (by simp [e])).1.apartN rfl hg (p3 r e (A, l) (by simp)), (h r (by simp [e])).2⟩
    · rcases List.mem_cons.1 e with e | e
      · subst e
        exact ⟨ho, by show InR l'.length A lo hi; rw [hl]; exact hA.2⟩
      · exact ⟨(h r (by simp [e])).1.apartN rfl hg ((List.pairwise_cons.1 p2).1 r e).symm, (h r (by simp [e])).2⟩
  · refine List.pairwise_append.2 ⟨p1, List.pairwise_cons.2 ⟨fun s hs => ?_, (List.pairwise_cons.1 p2).2⟩, fun r hr s hs => ?_⟩
    · show Apart l'.length A s.2.length s.1
      rw [hl]; exact (List.pairwise_cons.1 p2).1 s hs
    · rcases List.mem_cons.1 hs with e | e
      · subst e
        show Apart r.2.length r.1 l'.length A
        rw [hl]; exact p3 r hr (A, l) (by simp)
      · exact p3 r hr s (by simp [e])
abbrev Row := Option Addr × List Value
def five (X : Row) (P : List Row) (r1 r2 r3 r4 : Row) (Q : List Row) : List Row := X :: (P ++ r1 :: r2 :: r3 :: r4 :: Q)
section
variable {lo hi : Nat} {w w' : World} {X r1 r2 r3 r4 : Row} {P Q : List Row} {A : Option Addr} {l l' : List Value}
theorem five0 (h : Owns lo hi w (five (A, l) P r1 r2 r3 r4 Q)) (ap : Aparts (five (A, l) P r1 r2 r3 r4 Q)) (hg : w.grownBy w' (rowOf l.length A)) (ho : OwnS lo w' A l') (hl : l'.length = l.length) :
    Owns lo hi w' (five (A, l') P r1 r2 r3 r4 Q) ∧ Aparts (five (A, l') P r1 r2 r3 r4 Q) ∧ Turn lo hi w w' := Owns.repl (R1 := []) h ap hg ho hl
theorem five1 (h : Owns lo hi w (five X P (A, l) r2 r3 r4 Q)) (ap : Aparts (five X P (A, l) r2 r3 r4 Q)) (hg : w.grownBy w' (rowOf l.length A)) (ho : OwnS lo w' A l') (hl : l'.length = l.length) :
    Owns lo hi w' (five X P (A, l') r2 r3 r4 Q) ∧ Aparts (five X P (A, l') r2 r3 r4 Q) ∧ Turn lo hi w w' := Owns.repl (R1 := X :: P) h ap hg ho hl
theorem five2 (h : Owns lo hi w (five X P r1 (A, l) r3 r4 Q)) (ap : Aparts (five X P r1 (A, l) r3 r4 Q)) (hg : w.grownBy w' (rowOf l.length A)) (ho : OwnS lo w' A l') (hl : l'.length = l.length) :
    Owns lo hi w' (five X P r1 (A, l') r3 r4 Q) ∧ Aparts (five X P r1 (A, l') r3 r4 Q) ∧ Turn lo hi w w' := by
  have e : ∀ r, five X P r1 r r3 r4 Q = (X :: (P ++ [r1])) ++ r :: (r3 :: r4 :: Q) := fun r => by simp [five]
  rw [e] at h ap ⊢
  exact Owns.repl h ap hg ho hl
theorem five3 (h : Owns lo hi w (five X P r1 r2 (A, l) r4 Q)) (ap : Aparts (five X P r1 r2 (A, l) r4 Q)) (hg : w.grownBy w' (rowOf l.length A)) (ho : OwnS lo w' A l') (hl : l'.length = l.length) :
    Owns lo hi w' (five X P r1 r2 (A, l') r4 Q) ∧ Aparts (five X P r1 r2 (A, l') r4 Q) ∧ Turn lo hi w w' := by
  have e : ∀ r, five X P r1 r2 r r4 Q = (X :: (P ++ [r1, r2])) ++ r :: (r4 :: Q) := fun r => by simp [five]
  rw [e] at h ap ⊢
  exact Owns.repl h ap hg ho hl
theorem five4 (h : Owns lo hi w (five X P r1 r2 r3 (A, l) Q)) (ap : Aparts (five X P r1 r2 r3 (A, l) Q)) (hg : w.grownBy w' (rowOf l.length A)) (ho : OwnS lo w' A l') (hl : l'.length = l.length) :
    Owns lo hi w' (five X P r1 r2 r3 (A, l') Q) ∧ Aparts (five X P r1 r2 r3 (A, l') Q) ∧ Turn lo hi w w' := by
  have e : ∀ r, five X P r1 r2 r3 r Q = (X :: (P ++ [r1, r2, r3])) ++ r :: Q := fun r => by simp [five]
  rw [e] at h ap ⊢
  exact Owns.repl h ap hg ho hl
theorem five_at (h : Owns lo hi w (five X P r1 r2 r3 r4 Q)) : OwnS lo w X.1 X.2 ∧ OwnS lo w r1.1 r1.2 ∧ OwnS lo w r2.1 r2.2 ∧ OwnS lo w r3.1 r3.2 ∧ OwnS lo w r4.1 r4.2 :=
  ⟨(h X (by simp [five])).1, (h r1 (by simp [five])).1, (h r2 (by simp [five])).1, (h r3 (by simp [five])).1, (h r4 (by simp [five])).1⟩
end
theorem srow_five (A : Option Addr) (M1 M2 : List PV) (p : PV) : srow A (M1 ++ p :: M2) = five (A, flat (M1 ++ p :: M2)) (lrow M1) (p.a.A, vi p.x.l) (p.a.D, vi p.x.m) (p.b.A, vi p.y.l) (p.b.D, vi p.y.m) (lrow M2) := by
  unfold srow five
  rw [lrow_app, lrow_cons]
  rfl
theorem OwnS.cellv {B g j : Nat} {w : World} {F : List Value} {v : Value} (h : OwnS B w (some ⟨g, 0, none⟩) F) (hj : F[j]? = some v) : w.cell? ⟨g, j, none⟩ = some v ∧ w.frozen? ⟨g, j, none⟩ = false := by
  have hl : j < F.length := by
    rcases Nat.lt_or_ge j F.length with h1 | h1
    · exact h1
    · rw [List.getElem?_eq_none h1] at hj; cases hj
  obtain ⟨g', ha, hB, hs, hc, hf⟩ := h.block (by omega)
  obtain rfl : g = g' := by injection ha with e; injection e
  exact ⟨by rw [hc j hl, hj], hf j hl⟩
theorem put_grown (w : World) (g j : Nat) (v : Value) {F : List Value} (h0 : 0 < F.length) : w.grownBy (w.setCell ⟨g, j, none⟩ v) (rowOf F.length (some ⟨g, 0, none⟩)) := by
  unfold rowOf
  rw [if_neg (by omega)]
  exact grown_setCell (grown_refl _ _) j v
theorem OwnS.addr {B : Nat} {w : World} {A : Option Addr} {F : List Value} (h : OwnS B w A F) (h0 : 0 < F.length) : ∃ g, A = some ⟨g, 0, none⟩ := by
  obtain ⟨g, ha, _⟩ := h.block h0
  exact ⟨g, ha⟩
theorem mks_step {k : Int} {L : List PV} {j : Nat} {p : PV} (hp : L[j]? = some p) :
    mks k (L.take j) ++ L.drop j = mks k (L.take j) ++ p :: L.drop (j + 1) ∧ mks k (L.take (j + 1)) ++ L.drop (j + 1) = mks k (L.take j) ++ mkP (nxs k (L.take j)) p :: L.drop (j + 1) ∧ nxs k (L.take (j + 1)) = nxP (nxs k (L.take j)) p := by
  have hl := lt_of_getP hp
  have h2 : L[j] = p := by rw [List.getElem?_eq_getElem hl] at hp; injection hp
  refine ⟨by rw [List.drop_eq_getElem_cons hl, h2], ?_, ?_⟩
  · rw [take_succP hp, mks_app]
    show (mks k (L.take j) ++ [mkP (nxs k (L.take j)) p]) ++ L.drop (j + 1) = _
    rw [List.append_assoc]; rfl
  · rw [take_succP hp, nxs_app]; rfl
set_option maxHeartbeats 2000000 in
theorem markPS_r (lo hi : Nat) (L : List PV) (A : Option Addr) (c : Nat) (k : Int) (w : World) (hk : 0 < k) (hk2 : k ≤ 1048576) (hg : (L.length : Int) + szs L ≤ 1048576) (hh : hi ≤ w.heap.size) (h : Owns lo hi w (srow A L)) (ap : Aparts (srow A L)) :
    Calls Tryz.prog 40 #[.slice A L.length c, .int .i64 k] w (fun e w' => e = .returned (.int .i64 (nxs k L)) ∧ Owns lo hi w' (srow A (mks k L)) ∧ Turn lo hi w w') := by
  have hS := szs_short (L := L) (left := 1048576) (by have := szs_pos L; omega) (by omega)
  have hsp := szs_pos L
  obtain ⟨n, hn⟩ : ∃ n, n = L.length := ⟨_, rfl⟩
  rw [← hn] at hg ⊢
  have HN := Lib.hid hn
  clear hn
  go_enter Tryz.func40, Tryz.ntmps40
  go_wp2
  go_loopw [1, 5] (fun q i w' => ∃ (j : Nat) (q' : Int), j ≤ n ∧ i = .int .i64 (j : Int) ∧ q = .int .i64 q' ∧ q' = nxs k (L.take j) ∧ Owns lo hi w' (srow A (mks k (L.take j) ++ L.drop j)) ∧ Aparts (srow A (mks k (L.take j) ++ L.drop j)) ∧ Turn lo hi w w') (fun _ i _ => n - (intOf i).toNat)
  case atStart => exact ⟨0, k, Nat.zero_le _, rfl, rfl, rfl, h, ap, ⟨rfl, rfl, rfl, Nat.le_refl _, fun _ _ _ => rfl⟩⟩
  case round =>
    obtain ⟨j, q, hj, rfl, rfl, hq, hO, hap, hT⟩ := hrel
    clear h ap
    by_cases hlt : j < n
    · obtain ⟨p, hp⟩ := getP (show j < L.length by rw [← HN.out]; exact hlt)
      have hjl : j < L.length := lt_of_getP hp
      obtain ⟨e1, e2, e3⟩ := mks_step (k := k) hp
      have hps := hS p (List.mem_of_getElem? hp)
      have hle := szs_le L (j + 1)
      rw [szs_take hp] at hle
      have hqe : q = k + 2 * (j : Int) + szs (L.take j) := by rw [hq, nxs_eq, List.length_take, Nat.min_eq_left (by omega)]
      have hp0 := szs_pos (L.take j)
      have hszp : szp p = (p.x.l.length : Int) + (p.x.m.length : Int) + ((p.y.l.length : Int) + (p.y.m.length : Int)) := rfl
      have hq0 : 0 < q := by omega
      have hq1 : q ≤ 4194304 := by omega
      have hl1 : (p.x.l.length : Int) ≤ 1048576 := by omega
      have hl2 : (p.x.m.length : Int) ≤ 1048576 := by omega
      have hl3 : (p.y.l.length : Int) ≤ 1048576 := by omega
      have hl4 : (p.y.m.length : Int) ≤ 1048576 := by omega
      rw [e1, srow_five] at hO hap
      have hM : (mks k (L.take j) ++ p :: L.drop (j + 1))[j]? = some p := by
        rw [List.getElem?_append_right (by rw [mks_length, List.length_take]; omega), mks_length, List.length_take, Nat.min_eq_left (by omega), Nat.sub_self]; rfl
      have hFl : (flat (mks k (L.take j) ++ p :: L.drop (j + 1))).length = n * 6 := by
        rw [flat_length, List.length_append, mks_length, List.length_take, List.length_cons, List.length_drop, ← HN.out]; congr 1; omega
      have hF := fun m (hm : m < 6) => flat_get hM m hm
      have HF : Hid (((flat (mks k (L.take j) ++ p :: L.drop (j + 1))).set (j * 6) (.bool (q % 3 == 0))).set (j * 6 + 3) (.bool (nxS q p.x % 3 == 0)) = flat (mks k (L.take j) ++ mkP q p :: L.drop (j + 1))) := Lib.hid (by
        rw [flat_two hM _ _ (pcl_mk q p)]
        congr 1
        rw [List.set_append_right _ _ (by rw [mks_length, List.length_take]; omega), mks_length, List.length_take, Nat.min_eq_left (by omega), Nat.sub_self]; rfl)
      have HE : Hid (mks k (L.take (j + 1)) ++ L.drop (j + 1) = mks k (L.take j) ++ mkP q p :: L.drop (j + 1) ∧ nxs k (L.take (j + 1)) = nxP q p) := Lib.hid (by rw [hq]; exact ⟨e2, e3⟩)
      generalize flat (mks k (L.take j) ++ p :: L.drop (j + 1)) = F at *
      obtain ⟨g, rfl⟩ := (five_at hO).1.addr (by show 0 < F.length; rw [hFl]; omega)
      have hF0 : F[j * 6]? = some (.bool p.x.p) := hF 0 (by omega)
      have hF1 : F[j * 6 + 1]? = some (.slice p.a.A p.x.l.length p.a.c) := hF 1 (by omega)
      have hF2 : F[j * 6 + 2]? = some (.slice p.a.D p.x.m.length p.a.d) := hF 2 (by omega)
      have hF3 : F[j * 6 + 3]? = some (.bool p.y.p) := hF 3 (by omega)
      have hF4 : F[j * 6 + 4]? = some (.slice p.b.A p.y.l.length p.b.c) := hF 4 (by omega)
      have hF5 : F[j * 6 + 5]? = some (.slice p.b.D p.y.m.length p.b.d) := hF 5 (by omega)
      obtain ⟨F1, hF1e⟩ : ∃ F1, F1 = F.set (j * 6) (.bool (q % 3 == 0)) := ⟨_, rfl⟩
      obtain ⟨F2, hF2e⟩ : ∃ F2, F2 = F1.set (j * 6 + 3) (.bool (nxS q p.x % 3 == 0)) := ⟨_, rfl⟩
      have k2 : F1[j * 6 + 2]? = some (.slice p.a.D p.x.m.length p.a.d) := by rw [hF1e, List.getElem?_set_ne (by omega)]; exact hF2
      have k3 : F1[j * 6 + 3]? = some (.bool p.y.p) := by rw [hF1e, List.getElem?_set_ne (by omega)]; exact hF3
      have k4 : F1[j * 6 + 4]? = some (.slice p.b.A p.y.l.length p.b.c) := by rw [hF1e, List.getElem?_set_ne (by omega)]; exact hF4
      have k5 : F2[j * 6 + 5]? = some (.slice p.b.D p.y.m.length p.b.d) := by rw [hF2e, List.getElem?_set_ne (by omega), hF1e, List.getElem?_set_ne (by omega)]; exact hF5
      have hl1' : F1.length = F.length := by rw [hF1e, List.length_set]
      have hl2' : F2.length = F1.length := by rw [hF2e, List.length_set]
      have HF2 : Hid (F2 = flat (mks k (L.take j) ++ mkP q p :: L.drop (j + 1))) := Lib.hid (by rw [hF2e, hF1e]; exact HF.out)
      have o0 := (five_at hO).1
      obtain ⟨c0, f0⟩ := o0.cellv hF0
      obtain ⟨c1, _⟩ := o0.cellv hF1
      have s1 := five0 (l' := F1) hO hap (put_grown wr g (j * 6) (.bool (q % 3 == 0)) (F := F) (by rw [hFl]; omega)) (by rw [hF1e]; exact o0.set (by rw [hFl]; omega) _) hl1'
      have hi0 : (0 : Int) ≤ (j : Int) := by omega
      have hi1 : (j : Int) < (n : Int) := by omega
      have HS := Lib.hid s1
      have HT := Lib.hid hT
      have HL := Lib.hid (And.intro hFl (And.intro hl1' hl2'))
      have HK := Lib.hid (And.intro k2 (And.intro k3 (And.intro k4 k5)))
      have HFE := Lib.hid (And.intro hF1e hF2e)
      clear hjl hO hap hT o0 s1 hF hM e1 e2 e3 hps hle hqe hp0 hszp hF0 hF1 hF2 hF3 hF4 hF5 HF hF1e hF2e k2 k3 k4 k5 hl1' hl2' hp hq hFl
      go_wp2_with fail
      clear c0 f0 c1
      refine (markIntS_any lo (vi p.x.l) p.a.A p.x.l.length p.a.c (q + 1) _ (vi_length _) (by omega) (by omega) (five_at HS.out.1).2.1).mono ?_
      rintro e w2 ⟨rfl, ow, hg2⟩
      have s2 := five1 (l' := vi (marks (q + 1) p.x.l.length)) HS.out.1 HS.out.2.1 (by rw [vi_length]; exact hg2) ow (by rw [vi_length, vi_length, marks_length])
      have HS2 := Lib.hid s2
      obtain ⟨c2, _⟩ := (five_at s2.1).1.cellv HK.out.1
      clear s2 ow hg2
      go_wp2_with fail
      clear c2
      refine (markIntS_any lo (vi p.x.m) p.a.D p.x.m.length p.a.d (q + 1 + (p.x.l.length : Int)) _ (vi_length _) (by omega) (by omega) (five_at HS2.out.1).2.2.1).mono ?_
      rintro e w3 ⟨rfl, ow, hg2⟩
      have s3 := five2 (l' := vi (marks (q + 1 + (p.x.l.length : Int)) p.x.m.length)) HS2.out.1 HS2.out.2.1 (by rw [vi_length]; exact hg2) ow (by rw [vi_length, vi_length, marks_length])
      obtain ⟨c3, f3⟩ := (five_at s3.1).1.cellv HK.out.2.1
      obtain ⟨c4, _⟩ := (five_at s3.1).1.cellv HK.out.2.2.1
      have s4 := five0 (l' := F2) s3.1 s3.2.1 (put_grown w3 g (j * 6 + 3) (.bool (nxS q p.x % 3 == 0)) (F := F1) (by rw [HL.out.2.1, HL.out.1]; omega)) (by rw [HFE.out.2]; exact (five_at s3.1).1.set (by rw [HL.out.2.1, HL.out.1]; omega) _) HL.out.2.2
      have HS3 := Lib.hid s3
      have HS4 := Lib.hid s4
      clear s3 s4 ow hg2
      have hnx : Hid (nxS q p.x = q + 1 + (p.x.l.length : Int) + (p.x.m.length : Int)) := Lib.hid rfl
      rw [hnx.out] at HS4
      go_wp2_with fail
      clear c3 f3 c4
      refine (markIntS_any lo (vi p.y.l) p.b.A p.y.l.length p.b.c (q + 1 + (p.x.l.length : Int) + (p.x.m.length : Int) + 1) _ (vi_length _) (by omega) (by omega) (five_at HS4.out.1).2.2.2.1).mono ?_
      rintro e w5 ⟨rfl, ow, hg2⟩
      have s5 := five3 (l' := vi (marks (q + 1 + (p.x.l.length : Int) + (p.x.m.length : Int) + 1) p.y.l.length)) HS4.out.1 HS4.out.2.1 (by rw [vi_length]; exact hg2) ow (by rw [vi_length, vi_length, marks_length])
      obtain ⟨c5, _⟩ := (five_at s5.1).1.cellv HK.out.2.2.2
      have HS5 := Lib.hid s5
      clear s5 ow hg2
      go_wp2_with fail
      clear c5
      refine (markIntS_any lo (vi p.y.m) p.b.D p.y.m.length p.b.d (q + 1 + (p.x.l.length : Int) + (p.x.m.length : Int) + 1 + (p.y.l.length : Int)) _ (vi_length _) (by omega) (by omega) (five_at HS5.out.1).2.2.2.2).mono ?_
      rintro e w6 ⟨rfl, ow, hg2⟩
      have s6 := five4 (l' := vi (marks (q + 1 + (p.x.l.length : Int) + (p.x.m.length : Int) + 1 + (p.y.l.length : Int)) p.y.m.length)) HS5.out.1 HS5.out.2.1 (by rw [vi_length]; exact hg2) ow (by rw [vi_length, vi_length, marks_length])
      have HS6 := Lib.hid s6
      clear s6 ow hg2
      go_wp2
      go_roundw
      case rel =>
        refine ⟨j + 1, _, hlt, by go_num, rfl, ?_, ?_, ?_, ?_⟩
        · rw [HE.out.2]; unfold nxP; rw [hnx.out]; rfl
        · rw [HE.out.1, srow_five, ← HF2.out]; exact HS6.out.1
        · rw [HE.out.1, srow_five, ← HF2.out]; exact HS6.out.2.1
        · exact ((((((HT.out.trans HS.out.2.2).trans HS2.out.2.2).trans HS3.out.2.2).trans HS4.out.2.2).trans HS5.out.2.2).trans HS6.out.2.2)
      case measure => simp [intOf]; omega
    · obtain rfl : j = n := by omega
      rw [show L.take j = L by rw [HN.out, List.take_length], show L.drop j = [] by rw [HN.out, List.drop_length], List.append_nil] at hO
      rw [show L.take j = L by rw [HN.out, List.take_length]] at hq
      have HF : Hid (q = nxs k L ∧ Owns lo hi wr (srow A (mks k L)) ∧ Turn lo hi w wr) := Lib.hid ⟨hq, hO, hT⟩
      clear hq hO hT hap
      go_wp2
      go_ret
      exact ⟨by rw [HF.out.1]; rfl, HF.out.2⟩
end Go.Proofs.YtppdholccpgcpaaGreat
