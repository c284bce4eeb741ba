/-
  Marks in lists of fractions: what the harness writes into them.
-/
import Derived.Test.YtennekieiioilaaGreatRl
import Derived.Test.YtennekieiioilaaGreatSlM
namespace Go.Proofs.YtennekieiioilaaGreat
open Go.ChangeShapes Go.WideShapes Go.ChangeAt Go.RowKit
open Go.ChangeMaps (open_string shut_string)
set_option linter.unusedVariables false
set_option linter.unusedSimpArgs false
set_option maxRecDepth 4000

def mkQ (k : Int) (p : RV) : RV := ⟨mkS k p.x, p.a⟩
def nxQ (k : Int) (p : RV) : Int := nxS k p.x
def mkqs : Int → List RV → List RV
  | _, [] => []
  | k, p :: L => mkQ k p :: mkqs (nxQ k p) L
def nxqs : Int → List RV → Int
  | k, [] => k
  | k, p :: L => nxqs (nxQ k p) L
theorem nxQ_eq (k : Int) (p : RV) : nxQ k p = k + 1 + szq p := by unfold nxQ nxS szq szx; omega
theorem nxqs_eq (k : Int) (L : List RV) : nxqs k L = k + (L.length : Int) + szqs L := by
  induction L generalizing k with
  | nil => simp [nxqs, szqs]
  | cons p L ih => show nxqs (nxQ k p) L = _; rw [ih, nxQ_eq, List.length_cons]; show _ = k + ((L.length + 1 : Nat) : Int) + (szq p + szqs L); omega
theorem nxqs_app (k : Int) (L M : List RV) : nxqs k (L ++ M) = nxqs (nxqs k L) M := by
  induction L generalizing k with
  | nil => rfl
  | cons p L ih => exact ih _
theorem mkqs_app (k : Int) (L M : List RV) : mkqs k (L ++ M) = mkqs k L ++ mkqs (nxqs k L) M := by
  induction L generalizing k with
  | nil => rfl
  | cons p L ih => show mkQ k p :: mkqs (nxQ k p) (L ++ M) = mkQ k p :: (mkqs (nxQ k p) L ++ mkqs (nxqs (nxQ k p) L) M); rw [ih]
theorem mkqs_length (k : Int) (L : List RV) : (mkqs k L).length = L.length := by
  induction L generalizing k with
  | nil => rfl
  | cons p L ih => show (mkqs (nxQ k p) L).length + 1 = _; rw [ih]; rfl
theorem flatQ_one {L : List RV} {i : Nat} {p q : RV} (h : L[i]? = some p) (u : Value) (hq : qcl q = (qcl p).set 0 u) : (flatQ L).set (i * 3) u = flatQ (L.set i q) := by
  have hl := lt_of_getQ h
  have hlen : (flatQ (L.take i)).length = i * 3 := by rw [flatQ_length, List.length_take, Nat.min_eq_left (by omega)]
  have hq' : (L.set i q)[i]? = some q := List.getElem?_set_self hl
  have hk : ∀ (l M R : List Value) (k : Nat) (v : Value), l.length = i * 3 → k < M.length → (l ++ (M ++ R)).set (i * 3 + k) v = l ++ (M.set k v ++ R) := fun l M R k v hl hk => by
    rw [List.set_append_right _ _ (by omega), hl, Nat.add_sub_cancel_left, List.set_append_left _ _ hk]
  have e1 : (L.set i q).take i = L.take i := List.take_set_of_le (Nat.le_refl _)
  have e2 : (L.set i q).drop (i + 1) = L.drop (i + 1) := List.drop_set_of_lt (Nat.lt_succ_self _)
  rw [flatQ_split h, flatQ_split hq', e1, e2, hq]
  rw [show (i * 3) = i * 3 + 0 from rfl, hk _ _ _ 0 _ hlen (by rw [qcl_length]; omega)]
theorem qcl_mk (k : Int) (p : RV) : qcl (mkQ k p) = (qcl p).set 0 (.bool (k % 3 == 0)) := by
  show [_, _, _] = [_, _, _]
  simp [mkQ, mkS, marks_length]
/-- The outer row, rows ahead, two rows, rows behind. -/
def trow (X : Row) (P : List Row) (r1 r2 : Row) (Q : List Row) : List Row := X :: (P ++ r1 :: r2 :: Q)
section
variable {lo hi : Nat} {w w' : World} {X r1 r2 : Row} {P Q : List Row} {A : Option Addr} {l l' : List Value}
theorem trow_0 (h : Owns lo hi w (trow (A, l) P r1 r2 Q)) (ap : Aparts (trow (A, l) P r1 r2 Q)) (hg : w.grownBy w' (rowOf l.length A)) (ho : OwnS lo w' A l') (hl : l'.length = l.length) :
    Owns lo hi w' (trow (A, l') P r1 r2 Q) ∧ Aparts (trow (A, l') P r1 r2 Q) ∧ Turn lo hi w w' := Owns.repl (R1 := []) h ap hg ho hl
theorem trow_1 (h : Owns lo hi w (trow X P (A, l) r2 Q)) (ap : Aparts (trow X P (A, l) r2 Q)) (hg : w.grownBy w' (rowOf l.length A)) (ho : OwnS lo w' A l') (hl : l'.length = l.length) :
    Owns lo hi w' (trow X P (A, l') r2 Q) ∧ Aparts (trow X P (A, l') r2 Q) ∧ Turn lo hi w w' := Owns.repl (R1 := X :: P) h ap hg ho hl
theorem trow_2 (h : Owns lo hi w (trow X P r1 (A, l) Q)) (ap : Aparts (trow X P r1 (A, l) Q)) (hg : w.grownBy w' (rowOf l.length A)) (ho : OwnS lo w' A l') (hl : l'.length = l.length) :
    Owns lo hi w' (trow X P r1 (A, l') Q) ∧ Aparts (trow X P r1 (A, l') Q) ∧ Turn lo hi w w' := by
  have e : ∀ r, trow X P r1 r Q = (X :: (P ++ [r1])) ++ r :: Q := fun r => by simp [trow]
  rw [e] at h ap ⊢
  exact Owns.repl h ap hg ho hl
theorem trow_at (h : Owns lo hi w (trow X P r1 r2 Q)) : OwnS lo w X.1 X.2 ∧ OwnS lo w r1.1 r1.2 ∧ OwnS lo w r2.1 r2.2 :=
  ⟨(h X (by simp [trow])).1, (h r1 (by simp [trow])).1, (h r2 (by simp [trow])).1⟩
end
theorem srowQ_trow (A : Option Addr) (M1 M2 : List RV) (p : RV) : srowQ A (M1 ++ p :: M2) = trow (A, flatQ (M1 ++ p :: M2)) (lrowQ M1) (p.a.A, vi p.x.l) (p.a.D, vi p.x.m) (lrowQ M2) := by
  unfold srowQ trow
  rw [lrowQ_app, lrowQ_cons]
  rfl
theorem mkqs_step {k : Int} {L : List RV} {j : Nat} {p : RV} (hp : L[j]? = some p) :
    mkqs k (L.take j) ++ L.drop j = mkqs k (L.take j) ++ p :: L.drop (j + 1) ∧ mkqs k (L.take (j + 1)) ++ L.drop (j + 1) = mkqs k (L.take j) ++ mkQ (nxqs k (L.take j)) p :: L.drop (j + 1) ∧ nxqs k (L.take (j + 1)) = nxQ (nxqs k (L.take j)) p := by
  have hl := lt_of_getQ hp
  have h2 : L[j] = p := by rw [List.getElem?_eq_getElem hl] at hp; injection hp
  refine ⟨by rw [List.drop_eq_getElem_cons hl, h2], ?_, ?_⟩
  · rw [take_succQ hp, mkqs_app]
    show (mkqs k (L.take j) ++ [mkQ (nxqs k (L.take j)) p]) ++ L.drop (j + 1) = _
    rw [List.append_assoc]; rfl
  · rw [take_succQ hp, nxqs_app]; rfl
set_option maxHeartbeats 2000000 in
theorem markRS_r (lo hi : Nat) (L : List RV) (A : Option Addr) (c : Nat) (k : Int) (w : World) (hk : 0 < k) (hk2 : k ≤ 16777216) (hg : (L.length : Int) + szqs L ≤ 1048576) (hh : hi ≤ w.heap.size) (h : Owns lo hi w (srowQ A L)) (ap : Aparts (srowQ A L)) :
    Calls Tryz.prog 20 #[.slice A L.length c, .int .i64 k] w (fun e w' => e = .returned (.int .i64 (nxqs k L)) ∧ Owns lo hi w' (srowQ A (mkqs k L)) ∧ Turn lo hi w w') := by
  have hS := szqs_short (L := L) (left := 1048576) (by have := szqs_pos L; omega) (by omega)
  have hsp := szqs_pos L
  obtain ⟨n, hn⟩ : ∃ n, n = L.length := ⟨_, rfl⟩
  rw [← hn] at hg ⊢
  have HN := Lib.hid hn
  clear hn
  go_enter Tryz.func20, Tryz.ntmps20
  go_wp2
  go_loopw [1, 5] (fun q i w' => ∃ (j : Nat) (q' : Int), j ≤ n ∧ i = .int .i64 (j : Int) ∧ q = .int .i64 q' ∧ q' = nxqs k (L.take j) ∧ Owns lo hi w' (srowQ A (mkqs k (L.take j) ++ L.drop j)) ∧ Aparts (srowQ A (mkqs k (L.take j) ++ L.drop j)) ∧ Turn lo hi w w') (fun _ i _ => n - (intOf i).toNat)
  case atStart => exact ⟨0, k, Nat.zero_le _, rfl, rfl, rfl, h, ap, ⟨rfl, rfl, rfl, Nat.le_refl _, fun _ _ _ => rfl⟩⟩
  case round =>
    obtain ⟨j, q, hj, rfl, rfl, hq, hO, hap, hT⟩ := hrel
    clear h ap
    by_cases hlt : j < n
    · obtain ⟨p, hp⟩ := getQ (show j < L.length by rw [← HN.out]; exact hlt)
      have hjl : j < L.length := lt_of_getQ hp
      obtain ⟨e1, e2, e3⟩ := mkqs_step (k := k) hp
      have hps := hS p (List.mem_of_getElem? hp)
      have hle := szqs_le L (j + 1)
      rw [szqs_take hp] at hle
      have hqe : q = k + (j : Int) + szqs (L.take j) := by rw [hq, nxqs_eq, List.length_take, Nat.min_eq_left (by omega)]
      have hp0 := szqs_pos (L.take j)
      have hszp : szq p = (p.x.l.length : Int) + (p.x.m.length : Int) := rfl
      have hq0 : 0 < q := by omega
      have hq1 : q ≤ 33554432 := by omega
      have hl1 : (p.x.l.length : Int) ≤ 1048576 := by omega
      have hl2 : (p.x.m.length : Int) ≤ 1048576 := by omega
      rw [e1, srowQ_trow] at hO hap
      have hM : (mkqs k (L.take j) ++ p :: L.drop (j + 1))[j]? = some p := by
        rw [List.getElem?_append_right (by rw [mkqs_length, List.length_take]; omega), mkqs_length, List.length_take, Nat.min_eq_left (by omega), Nat.sub_self]; rfl
      have hFl : (flatQ (mkqs k (L.take j) ++ p :: L.drop (j + 1))).length = n * 3 := by
        rw [flatQ_length, List.length_append, mkqs_length, List.length_take, List.length_cons, List.length_drop, ← HN.out]; congr 1; omega
      have hF := fun m (hm : m < 3) => flatQ_get hM m hm
      have HF : Hid ((flatQ (mkqs k (L.take j) ++ p :: L.drop (j + 1))).set (j * 3) (.bool (q % 3 == 0)) = flatQ (mkqs k (L.take j) ++ mkQ q p :: L.drop (j + 1))) := Lib.hid (by
        rw [flatQ_one hM _ (qcl_mk q p)]
        congr 1
        rw [List.set_append_right _ _ (by rw [mkqs_length, List.length_take]; omega), mkqs_length, List.length_take, Nat.min_eq_left (by omega), Nat.sub_self]; rfl)
      have HE : Hid (mkqs k (L.take (j + 1)) ++ L.drop (j + 1) = mkqs k (L.take j) ++ mkQ q p :: L.drop (j + 1) ∧ nxqs k (L.take (j + 1)) = nxQ q p) := Lib.hid (by rw [hq]; exact ⟨e2, e3⟩)
      generalize flatQ (mkqs k (L.take j) ++ p :: L.drop (j + 1)) = F at *
      obtain ⟨g, rfl⟩ := (trow_at hO).1.addr (by show 0 < F.length; rw [hFl]; omega)
      have hF0 : F[j * 3]? = some (.bool p.x.p) := hF 0 (by omega)
      have hF1 : F[j * 3 + 1]? = some (.slice p.a.A p.x.l.length p.a.c) := hF 1 (by omega)
      have hF2 : F[j * 3 + 2]? = some (.slice p.a.D p.x.m.length p.a.d) := hF 2 (by omega)
      obtain ⟨F1, hF1e⟩ : ∃ F1, F1 = F.set (j * 3) (.bool (q % 3 == 0)) := ⟨_, rfl⟩
      have k2 : F1[j * 3 + 2]? = some (.slice p.a.D p.x.m.length p.a.d) := by rw [hF1e, List.getElem?_set_ne (by omega)]; exact hF2
      have hl1' : F1.length = F.length := by rw [hF1e, List.length_set]
      have HF2 : Hid (F1 = flatQ (mkqs k (L.take j) ++ mkQ q p :: L.drop (j + 1))) := Lib.hid (by rw [hF1e]; exact HF.out)
      have o0 := (trow_at hO).1
      obtain ⟨c0, f0⟩ := o0.cellv hF0
      obtain ⟨c1, _⟩ := o0.cellv hF1
      have s1 := trow_0 (l' := F1) hO hap (put_grown wr g (j * 3) (.bool (q % 3 == 0)) (F := F) (by rw [hFl]; omega)) (by rw [hF1e]; exact o0.set (by rw [hFl]; omega) _) hl1'
      have hi0 : (0 : Int) ≤ (j : Int) := by omega
      have hi1 : (j : Int) < (n : Int) := by omega
      have HS := Lib.hid s1
      have HT := Lib.hid hT
      have HK := Lib.hid k2
      clear hjl hO hap hT o0 s1 hF hM e1 e2 e3 hps hle hqe hp0 hszp hF0 hF1 hF2 HF hF1e k2 hl1' hp hq hFl
      go_wp2_with fail
      clear c0 f0 c1
      refine (markIntS_any lo (vi p.x.l) p.a.A p.x.l.length p.a.c (q + 1) _ (vi_length _) (by omega) (by omega) (trow_at HS.out.1).2.1).mono ?_
      rintro e w2 ⟨rfl, ow, hg2⟩
      have s2 := trow_1 (l' := vi (marks (q + 1) p.x.l.length)) HS.out.1 HS.out.2.1 (by rw [vi_length]; exact hg2) ow (by rw [vi_length, vi_length, marks_length])
      have HS2 := Lib.hid s2
      obtain ⟨c2, _⟩ := (trow_at s2.1).1.cellv HK.out
      clear s2 ow hg2
      go_wp2_with fail
      clear c2
      refine (markIntS_any lo (vi p.x.m) p.a.D p.x.m.length p.a.d (q + 1 + (p.x.l.length : Int)) _ (vi_length _) (by omega) (by omega) (trow_at HS2.out.1).2.2).mono ?_
      rintro e w3 ⟨rfl, ow, hg2⟩
      have s3 := trow_2 (l' := vi (marks (q + 1 + (p.x.l.length : Int)) p.x.m.length)) HS2.out.1 HS2.out.2.1 (by rw [vi_length]; exact hg2) ow (by rw [vi_length, vi_length, marks_length])
      have HS3 := Lib.hid s3
      clear s3 ow hg2
      go_wp2
      go_roundw
      case rel =>
        refine ⟨j + 1, _, hlt, by go_num, rfl, ?_, ?_, ?_, ?_⟩
        · rw [HE.out.2]; rfl
        · rw [HE.out.1, srowQ_trow, ← HF2.out]; exact HS3.out.1
        · rw [HE.out.1, srowQ_trow, ← HF2.out]; exact HS3.out.2.1
        · exact (((HT.out.trans HS.out.2.2).trans HS2.out.2.2).trans HS3.out.2.2)
      case measure => simp [intOf]; omega
    · obtain rfl : j = n := by omega
      rw [show L.take j = L by rw [HN.out, List.take_length], show L.drop j = [] by rw [HN.out, List.drop_length], List.append_nil] at hO
      rw [show L.take j = L by rw [HN.out, List.take_length]] at hq
      have HF : Hid (q = nxqs k L ∧ Owns lo hi wr (srowQ A (mkqs k L)) ∧ Turn lo hi w wr) := Lib.hid ⟨hq, hO, hT⟩
      clear hq hO hT hap
      go_wp2
      go_ret
      exact ⟨by rw [HF.out.1]; rfl, HF.out.2⟩
end Go.Proofs.YtennekieiioilaaGreat
