/-
  What the harness' functions do over lists of points: the room they take, copies, equality.
-/
import Derived.Test.YtppdholccpgcpaaGreatSl
import Derived.Test.YtppdholccpgcpaaGreatSlH
import Derived.Test.YtppdholccpgcpaaGreatSlM
namespace Go.Proofs.YtppdholccpgcpaaGreat
open Go.ChangeShapes Go.WideShapes Go.ChangeAt Go.RowKit
set_option linter.unusedVariables false
set_option linter.unusedSimpArgs false
set_option maxRecDepth 4000
set_option maxHeartbeats 1000000 in
theorem eqPS_t (L M M' : List PV) (A A' : Option Addr) (c c' : Nat) (w : World) (hn' : L.length ≤ 1048576) (hS : ∀ p, p ∈ L → ShortP p) (hd : dat M = dat L) (hd' : dat M' = dat L) (hA : Rds w (srow A M)) (hA' : Rds w (srow A' M')) :
    Calls Tryz.prog 39 #[.slice A M.length c, .slice A' M'.length c'] w (fun e w' => e = .returned (.bool true) ∧ Below w.heap.size w w') := by
  obtain ⟨n, hn⟩ : ∃ n, n = L.length := ⟨_, rfl⟩
  have hm := dat_len hd
  have hm' := dat_len hd'
  rw [hm, hm', ← hn]
  rw [← hn] at hn'
  have HN := Lib.hid hn
  clear hn hm hm'
  go_enter Tryz.func39, Tryz.ntmps39
  go_wp2
  go_loopw [5] (fun i w' => ∃ k : Nat, k ≤ n ∧ i = .int .i64 (k : Int) ∧ Below w.heap.size w w') (fun i _ => n - (intOf i).toNat)
  case atStart => exact ⟨0, Nat.zero_le _, rfl, Below.refl _ _⟩
  case round =>
    obtain ⟨k, hk, rfl, hb⟩ := hrel
    by_cases hlt : k < n
    · obtain ⟨p, hp⟩ := getP (show k < L.length by rw [← HN.out]; exact hlt)
      obtain ⟨q, hq, qx, qy⟩ := dat_get hd hp
      obtain ⟨r, hr, rx, ry⟩ := dat_get hd' hp
      obtain ⟨g, o, rfl, hg, c0, c1, c2, c3, c4, c5⟩ := (hA.hd.below hb).six hq
      obtain ⟨g', o', rfl, hg', d0, d1, d2, d3, d4, d5⟩ := (hA'.hd.below hb).six hr
      have hps := hS p (List.mem_of_getElem? hp)
      have r1 := (hA.tl.below hb).at hq
      have r2 := (hA'.tl.below hb).at hr
      unfold prow at r1 r2
      rw [qx] at r1 c0 c1 c2
      rw [qy] at r1 c3 c4 c5
      rw [rx] at r2 d0 d1 d2
      rw [ry] at r2 d3 d4 d5
      have EQ := Lib.hid (fun W h h' => eqPt_t p.x p.y q.a q.b r.a r.b W hps.1 hps.2 h h')
      have R1 : Hid (∀ W, Below wr.heap.size wr W → Rds W (rows p.x q.a ++ rows p.y q.b) ∧ Rds W (rows p.x r.a ++ rows p.y r.b)) := Lib.hid (fun W hB => ⟨r1.below hB, r2.below hB⟩)
      have hi0 : (0 : Int) ≤ (k : Int) := by omega
      have hi1 : (k : Int) < (n : Int) := by omega
      have SB : Hid (∀ w', Below wr.heap.size wr w' → (w'.cell? ⟨g, o + k * 6, none⟩ = some (.bool p.x.p) ∧ w'.cell? ⟨g, o + k * 6 + 1, none⟩ = some (.slice q.a.A p.x.l.length q.a.c) ∧ w'.cell? ⟨g, o + k * 6 + 2, none⟩ = some (.slice q.a.D p.x.m.length q.a.d) ∧ w'.cell? ⟨g, o + k * 6 + 3, none⟩ = some (.bool p.y.p) ∧ w'.cell? ⟨g, o + k * 6 + 4, none⟩ = some (.slice q.b.A p.y.l.length q.b.c) ∧ w'.cell? ⟨g, o + k * 6 + 5, none⟩ = some (.slice q.b.D p.y.m.length q.b.d) ∧ w'.cell? ⟨g', o' + k * 6, none⟩ = some (.bool p.x.p) ∧ w'.cell? ⟨g', o' + k * 6 + 1, none⟩ = some (.slice r.a.A p.x.l.length r.a.c) ∧ w'.cell? ⟨g', o' + k * 6 + 2, none⟩ = some (.slice r.a.D p.x.m.length r.a.d) ∧ w'.cell? ⟨g', o' + k * 6 + 3, none⟩ = some (.bool p.y.p) ∧ w'.cell? ⟨g', o' + k * 6 + 4, none⟩ = some (.slice r.b.A p.y.l.length r.b.c) ∧ w'.cell? ⟨g', o' + k * 6 + 5, none⟩ = some (.slice r.b.D p.y.m.length r.b.d) ∧ Below wr.heap.size wr w')) := Lib.hid (fun w' hB => ⟨(below_cell hB c0), (below_cell hB c1), (below_cell hB c2), (below_cell hB c3), (below_cell hB c4), (below_cell hB c5), (below_cell hB d0), (below_cell hB d1), (below_cell hB d2), (below_cell hB d3), (below_cell hB d4), (below_cell hB d5), hB⟩)
      have HB := Lib.hid hb
      clear r1 r2 hps hq hr qx qy rx ry hp hb c0 c1 c2 c3 c4 c5 d0 d1 d2 d3 d4 d5
      go_wp2_with fail
      go_region_held3 (fun w' => w'.cell? ⟨g, o + k * 6, none⟩ = some (.bool p.x.p) ∧ w'.cell? ⟨g, o + k * 6 + 1, none⟩ = some (.slice q.a.A p.x.l.length q.a.c) ∧ w'.cell? ⟨g, o + k * 6 + 2, none⟩ = some (.slice q.a.D p.x.m.length q.a.d) ∧ w'.cell? ⟨g, o + k * 6 + 3, none⟩ = some (.bool p.y.p) ∧ w'.cell? ⟨g, o + k * 6 + 4, none⟩ = some (.slice q.b.A p.y.l.length q.b.c) ∧ w'.cell? ⟨g, o + k * 6 + 5, none⟩ = some (.slice q.b.D p.y.m.length q.b.d) ∧ w'.cell? ⟨g', o' + k * 6, none⟩ = some (.bool p.x.p) ∧ w'.cell? ⟨g', o' + k * 6 + 1, none⟩ = some (.slice r.a.A p.x.l.length r.a.c) ∧ w'.cell? ⟨g', o' + k * 6 + 2, none⟩ = some (.slice r.a.D p.x.m.length r.a.d) ∧ w'.cell? ⟨g', o' + k * 6 + 3, none⟩ = some (.bool p.y.p) ∧ w'.cell? ⟨g', o' + k * 6 + 4, none⟩ = some (.slice r.b.A p.y.l.length r.b.c) ∧ w'.cell? ⟨g', o' + k * 6 + 5, none⟩ = some (.slice r.b.D p.y.m.length r.b.d) ∧ Below wr.heap.size wr w')
        (first | (with_reducible exact SB.out _ (Below.refl _ _)) | (with_reducible exact SB.out _ (Below.refl _ _).drew) | (go_split_ands; with_reducible exact SB.out _ (bt (by assumption : Below wr.heap.size wr _) hb)))
        (first | (go_at_call 45; go_split_ands; ((with_reducible refine (EQ.out _ (R1.out _ (by assumption : Below wr.heap.size wr _)).1 (R1.out _ (by assumption : Below wr.heap.size wr _)).2).mono ?_); rintro e w2 ⟨rfl, hb⟩; skip)))
      all_goals
        have hfin := (‹_ ∧ _ ∧ _ ∧ _ ∧ _ ∧ _ ∧ _ ∧ _ ∧ _ ∧ _ ∧ _ ∧ _ ∧ Below wr.heap.size wr _›).2.2.2.2.2.2.2.2.2.2.2.2
        go_wp2
        go_roundw
        case rel => exact ⟨k + 1, by omega, by go_num, bt HB.out hfin⟩
        case measure => simp [intOf]; omega
    · obtain rfl : k = n := by omega
      go_wp2
      go_ret
      exact ⟨rfl, hb⟩
end Go.Proofs.YtppdholccpgcpaaGreat
namespace Go.Proofs.YtppdholccpgcpaaGreat
open Go.ChangeShapes Go.WideShapes Go.ChangeAt Go.RowKit
set_option linter.unusedVariables false
set_option linter.unusedSimpArgs false
set_option maxRecDepth 4000
def mkQ (k : Int) (p : RV) : RV := ⟨mkS k p.x, p.a⟩
def nxQ (k : Int) (p : RV) : Int := nxS k p.x
def mkqs : Int → List RV → List RV
  | _, [] => []
  | k, p :: L => mkQ k p :: mkqs (nxQ k p) L
def nxqs : Int → List RV → Int
  | k, [] => k
  | k, p :: L => nxqs (nxQ k p) L
theorem nxQ_eq (k : Int) (p : RV) : nxQ k p = k + 1 + szq p := by unfold nxQ nxS szq szx; omega
theorem nxqs_eq (k : Int) (L : List RV) : nxqs k L = k + (L.length : Int) + szqs L := by
  induction L generalizing k with
  | nil => simp [nxqs, szqs]
  | cons p L ih => show nxqs (nxQ k p) L = _; rw [ih, nxQ_eq, List.length_cons]; show _ = k + ((L.length + 1 : Nat) : Int) + (szq p + szqs L); omega
theorem nxqs_app (k : Int) (L M : List RV) : nxqs k (L ++ M) = nxqs (nxqs k L) M := by
  induction L generalizing k with
  | nil => rfl
  | cons p L ih => exact ih _
theorem mkqs_app (k : Int) (L M : List RV) : mkqs k (L ++ M) = mkqs k L ++ mkqs (nxqs k L) M := by
  induction L generalizing k with
  | nil => rfl
  | cons p L ih => show mkQ k p :: mkqs (nxQ k p) (L ++ M) = mkQ k p :: (mkqs (nxQ k p) L ++ mkqs (nxqs (nxQ k p) L) M); rw [ih]
theorem mkqs_length (k : Int) (L : List RV) : (mkqs k L).length = L.length := by
  induction L generalizing k with
  | nil => rfl
  | cons p L ih => show (mkqs (nxQ k p) L).length + 1 = _; rw [ih]; rfl
theorem flatQ_one {L : List RV} {i : Nat} {p q : RV} (h : L[i]? = some p) (u : Value) (hq : qcl q = (qcl p).set 0 u) : (flatQ L).set (i * 3) u = flatQ (L.set i q) := by
  have hl := lt_of_getQ h
  have hlen : (flatQ (L.take i)).length = i * 3 := by rw [flatQ_length, List.length_take, Nat.min_eq_left (by omega)]
  have hq' : (L.set i q)[i]? = some q := List.getElem?_set_self hl
  have hk : ∀ (l M R : List Value) (k : Nat) (v : Value), l.length = i * 3 → k < M.length → (l ++ (M ++ R)).set (i * 3 + k) v = l ++ (M.set k v ++ R) := fun l M R k v hl hk => by
    rw [List.set_append_right _ _ (by omega), hl, Nat.add_sub_cancel_left, List.set_append_left _ _ hk]
  have e1 : (L.set i q).take i = L.take i := List.take_set_of_le (Nat.le_refl _)
  have e2 : (L.set i q).drop (i + 1) = L.drop (i + 1) := List.drop_set_of_lt (Nat.lt_succ_self _)
  rw [flatQ_split h, flatQ_split hq', e1, e2, hq]
  rw [show (i * 3) = i * 3 + 0 from rfl, hk _ _ _ 0 _ hlen (by rw [qcl_length]; omega)]
theorem qcl_mk (k : Int) (p : RV) : qcl (mkQ k p) = (qcl p).set 0 (.bool (k % 3 == 0)) := by
  show [_, _, _] = [_, _, _]
  simp [mkQ, mkS, marks_length]
def trow (X : Row) (P : List Row) (r1 r2 : Row) (Q : List Row) : List Row := X :: (P ++ r1 :: r2 :: Q)
section
variable {lo hi : Nat} {w w' : World} {X r1 r2 : Row} {P Q : List Row} {A : Option Addr} {l l' : List Value}
theorem trow_0 (h : Owns lo hi w (trow (A, l) P r1 r2 Q)) (ap : Aparts (trow (A, l) P r1 r2 Q)) (hg : w.grownBy w' (rowOf l.length A)) (ho : OwnS lo w' A l') (hl : l'.length = l.length) :
    Owns lo hi w' (trow (A, l') P r1 r2 Q) ∧ Aparts (trow (A, l') P r1 r2 Q) ∧ Turn lo hi w w' := Owns.repl (R1 := []) h ap hg ho hl
theorem trow_1 (h : Owns lo hi w (trow X P (A, l) r2 Q)) (ap : Aparts (trow X P (A, l) r2 Q)) (hg : w.grownBy w' (rowOf l.length A)) (ho : OwnS lo w' A l') (hl : l'.length = l.length) :
    Owns lo hi w' (trow X P (A, l') r2 Q) ∧ Aparts (trow X P (A, l') r2 Q) ∧ Turn lo hi w w' := Owns.repl (R1 := X :: P) h ap hg ho hl
theorem trow_2 (h : Owns lo hi w (trow X P r1 (A, l) Q)) (ap : Aparts (trow X P r1 (A, l) Q)) (hg : w.grownBy w' (rowOf l.length A)) (ho : OwnS lo w' A l') (hl : l'.length = l.length) :
    Owns lo hi w' (trow X P r1 (A, l') Q) ∧ Aparts (trow X P r1 (A, l') Q) ∧ Turn lo hi w w' := by
  have e : ∀ r, trow X P r1 r Q = (X :: (P ++ [r1])) ++ r :: Q := fun r => by simp [trow]
  rw [e] at h ap ⊢
  exact Owns.repl h ap hg ho hl
theorem trow_at (h : Owns lo hi w (trow X P r1 r2 Q)) : OwnS lo w X.1 X.2 ∧ OwnS lo w r1.1 r1.2 ∧ OwnS lo w r2.1 r2.2 :=
  ⟨(h X (by simp [trow])).1, (h r1 (by simp [trow])).1, (h r2 (by simp [trow])).1⟩
end
theorem srowQ_trow (A : Option Addr) (M1 M2 : List RV) (p : RV) : srowQ A (M1 ++ p :: M2) = trow (A, flatQ (M1 ++ p :: M2)) (lrowQ M1) (p.a.A, vi p.x.l) (p.a.D, vi p.x.m) (lrowQ M2) := by
  unfold srowQ trow
  rw [lrowQ_app, lrowQ_cons]
  rfl
theorem mkqs_step {k : Int} {L : List RV} {j : Nat} {p : RV} (hp : L[j]? = some p) :
    mkqs k (L.take j) ++ L.drop j = mkqs k (L.take j) ++ p :: L.drop (j + 1) ∧ mkqs k (L.take (j + 1)) ++ L.drop (j + 1) = mkqs k (L.take j) ++ mkQ (nxqs k (L.take j)) p :: L.drop (j + 1) ∧ nxqs k (L.take (j + 1)) = nxQ (nxqs k (L.take j)) p := by
  have hl := lt_of_getQ hp
  have h2 : L[j] = p := by rw [List.getElem?_eq_getElem hl] at hp; injection hp
  refine ⟨by rw [List.drop_eq_getElem_cons hl, h2], ?_, ?_⟩
  · rw [take_succQ hp, mkqs_app]
    show (mkqs k (L.take j) ++ [mkQ (nxqs k (L.take j)) p]) ++ L.drop (j + 1) = _
    rw [List.append_assoc]; rfl
  · rw [take_succQ hp, nxqs_app]; rfl
end Go.Proofs.YtppdholccpgcpaaGreat
