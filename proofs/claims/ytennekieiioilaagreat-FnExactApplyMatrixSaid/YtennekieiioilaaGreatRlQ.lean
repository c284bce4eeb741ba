/-
  Marks in lists of fractions, beside further rows.
-/
import Derived.Test.YtennekieiioilaaGreatRlM
namespace Go.Proofs.YtennekieiioilaaGreat
open Go.ChangeShapes Go.WideShapes Go.ChangeAt Go.RowKit
open Go.ChangeMaps (open_string shut_string)
set_option linter.unusedVariables false
set_option linter.unusedSimpArgs false
set_option maxRecDepth 4000

theorem srowQ_trowq (A : Option Addr) (M1 M2 : List RV) (p : RV) (Q0 : List Row) : srowQ A (M1 ++ p :: M2) ++ Q0 = trow (A, flatQ (M1 ++ p :: M2)) (lrowQ M1) (p.a.A, vi p.x.l) (p.a.D, vi p.x.m) (lrowQ M2 ++ Q0) := by
  rw [srowQ_trow]
  unfold trow
  simp
set_option maxHeartbeats 2000000 in
theorem markRS_q (Q0 : List Row) (lo hi : Nat) (L : List RV) (A : Option Addr) (c : Nat) (k : Int) (w : World) (hk : 0 < k) (hk2 : k ≤ 16777216) (hg : (L.length : Int) + szqs L ≤ 1048576) (hh : hi ≤ w.heap.size) (h : Owns lo hi w (srowQ A L ++ Q0)) (ap : Aparts (srowQ A L ++ Q0)) :
    Calls Tryz.prog 20 #[.slice A L.length c, .int .i64 k] w (fun e w' => e = .returned (.int .i64 (nxqs k L)) ∧ Owns lo hi w' (srowQ A (mkqs k L) ++ Q0) ∧ Aparts (srowQ A (mkqs k L) ++ Q0) ∧ Turn lo hi w w') := by
  have hS := szqs_short (L := L) (left := 1048576) (by have := szqs_pos L; omega) (by omega)
  have hsp := szqs_pos L
  obtain ⟨n, hn⟩ : ∃ n, n = L.length := ⟨_, rfl⟩
  rw [← hn] at hg ⊢
  have HN := Lib.hid hn
  clear hn
  go_enter Tryz.func20, Tryz.ntmps20
  go_wp2
  go_loopw [1, 5] (fun q i w' => ∃ (j : Nat) (q' : Int), j ≤ n ∧ i = .int .i64 (j : Int) ∧ q = .int .i64 q' ∧ q' = nxqs k (L.take j) ∧ Owns lo hi w' (srowQ A (mkqs k (L.take j) ++ L.drop j) ++ Q0) ∧ Aparts (srowQ A (mkqs k (L.take j) ++ L.drop j) ++ Q0) ∧ Turn lo hi w w') (fun _ i _ => n - (intOf i).toNat)
  case atStart => exact ⟨0, k, Nat.zero_le _, rfl, rfl, rfl, h, ap, ⟨rfl, rfl, rfl, Nat.le_refl _, fun _ _ _ => rfl⟩⟩
  case round =>
    obtain ⟨j, q, hj, rfl, rfl, hq, hO, hap, hT⟩ := hrel
    clear h ap
    by_cases hlt : j < n
    · obtain ⟨p, hp⟩ := getQ (show j < L.length by rw [← HN.out]; exact hlt)
      have hjl : j < L.length := lt_of_getQ hp
      obtain ⟨e1, e2, e3⟩ := mkqs_step (k := k) hp
      have hps := hS p (List.mem_of_getElem? hp)
      have hle := szqs_le L (j + 1)
      rw [szqs_take hp] at hle
      have hqe : q = k + (j : Int) + szqs (L.take j) := by rw [hq, nxqs_eq, List.length_take, Nat.min_eq_left (by omega)]
      have hp0 := szqs_pos (L.take j)
      have hszp : szq p = (p.x.l.length : Int) + (p.x.m.length : Int) := rfl
      have hq0 : 0 < q := by omega
      have hq1 : q ≤ 33554432 := by omega
      have hl1 : (p.x.l.length : Int) ≤ 1048576 := by omega
      have hl2 : (p.x.m.length : Int) ≤ 1048576 := by omega
      rw [e1, srowQ_trowq] at hO hap
      have hM : (mkqs k (L.take j) ++ p :: L.drop (j + 1))[j]? = some p := by
        rw [List.getElem?_append_right (by rw [mkqs_length, List.length_take]; omega), mkqs_length, List.length_take, Nat.min_eq_left (by omega), Nat.sub_self]; rfl
      have hFl : (flatQ (mkqs k (L.take j) ++ p :: L.drop (j + 1))).length = n * 3 := by
        rw [flatQ_length, List.length_append, mkqs_length, List.length_take, List.length_cons, List.length_drop, ← HN.out]; congr 1; omega
      have hF := fun m (hm : m < 3) => flatQ_get hM m hm
      have HF : Hid ((flatQ (mkqs k (L.take j) ++ p :: L.drop (j + 1))).set (j * 3) (.bool (q % 3 == 0)) = flatQ (mkqs k (L.take j) ++ mkQ q p :: L.drop (j + 1))) := Lib.hid (by
        rw [flatQ_one hM _ (qcl_mk q p)]
        congr 1
        rw [List.set_append_right _ _ (by rw [mkqs_length, List.length_take]; omega), mkqs_length, List.length_take, Nat.min_eq_left (by omega), Nat.sub_self]; rfl)
      have HE : Hid (mkqs k (L.take (j + 1)) ++ L.drop (j + 1) = mkqs k (L.take j) ++ mkQ q p :: L.drop (j + 1) ∧ nxqs k (L.take (j + 1)) = nxQ q p) := Lib.hid (by rw [hq]; exact ⟨e2, e3⟩)
      generalize flatQ (mkqs k (L.take j) ++ p :: L.drop (j + 1)) = F at *
      obtain ⟨g, rfl⟩ := (trow_at hO).1.addr (by show 0 < F.length; rw [hFl]; omega)
      have hF0 : F[j * 3]? = some (.bool p.x.p) := hF 0 (by omega)
      have hF1 : F[j * 3 + 1]? = some (.slice p.a.A p.x.l.length p.a.c) := hF 1 (by omega)
      have hF2 : F[j * 3 + 2]? = some (.slice p.a.D p.x.m.length p.a.d) := hF 2 (by omega)
      obtain ⟨F1, hF1e⟩ : ∃ F1, F1 = F.set (j * 3) (.bool (q % 3 == 0)) := ⟨_, rfl⟩
      have k2 : F1[j * 3 + 2]? = some (.slice p.a.D p.x.m.length p.a.d) := by rw [hF1e, List.getElem?_set_ne (by omega)]; exact hF2
      have hl1' : F1.length = F.length := by rw [hF1e, List.length_set]
      have HF2 : Hid (F1 = flatQ (mkqs k (L.take j) ++ mkQ q p :: L.drop (j + 1))) := Lib.hid (by rw [hF1e]; exact HF.out)
      have o0 := (trow_at hO).1
      obtain ⟨c0, f0⟩ := o0.cellv hF0
      obtain ⟨c1, _⟩ := o0.cellv hF1
      have s1 := trow_0 (l' := F1) hO hap (put_grown wr g (j * 3) (.bool (q % 3 == 0)) (F := F) (by rw [hFl]; omega)) (by rw [hF1e]; exact o0.set (by rw [hFl]; omega) _) hl1'
      have hi0 : (0 : Int) ≤ (j : Int) := by omega
      have hi1 : (j : Int) < (n : Int) := by omega
      have HS := Lib.hid s1
      have HT := Lib.hid hT
      have HK := Lib.hid k2
      clear hjl hO hap hT o0 s1 hF hM e1 e2 e3 hps hle hqe hp0 hszp hF0 hF1 hF2 HF hF1e k2 hl1' hp hq hFl
      go_wp2_with fail
      clear c0 f0 c1
      refine (markIntS_any lo (vi p.x.l) p.a.A p.x.l.length p.a.c (q + 1) _ (vi_length _) (by omega) (by omega) (trow_at HS.out.1).2.1).mono ?_
      rintro e w2 ⟨rfl, ow, hg2⟩
      have s2 := trow_1 (l' := vi (marks (q + 1) p.x.l.length)) HS.out.1 HS.out.2.1 (by rw [vi_length]; exact hg2) ow (by rw [vi_length, vi_length, marks_length])
      have HS2 := Lib.hid s2
      obtain ⟨c2, _⟩ := (trow_at s2.1).1.cellv HK.out
      clear s2 ow hg2
      go_wp2_with fail
      clear c2
      refine (markIntS_any lo (vi p.x.m) p.a.D p.x.m.length p.a.d (q + 1 + (p.x.l.length : Int)) _ (vi_length _) (by omega) (by omega) (trow_at HS2.out.1).2.2).mono ?_
      rintro e w3 ⟨rfl, ow, hg2⟩
      have s3 := trow_2 (l' := vi (marks (q + 1 + (p.x.l.length : Int)) p.x.m.length)) HS2.out.1 HS2.out.2.1 (by rw [vi_length]; exact hg2) ow (by rw [vi_length, vi_length, marks_length])
      have HS3 := Lib.hid s3
      clear s3 ow hg2
      go_wp2
      go_roundw
      case rel =>
        refine ⟨j + 1, _, hlt, by go_num, rfl, ?_, ?_, ?_, ?_⟩
        · rw [HE.out.2]; rfl
        · rw [HE.out.1, srowQ_trowq, ← HF2.out]; exact HS3.out.1
        · rw [HE.out.1, srowQ_trowq, ← HF2.out]; exact HS3.out.2.1
        · exact (((HT.out.trans HS.out.2.2).trans HS2.out.2.2).trans HS3.out.2.2)
      case measure => simp [intOf]; omega
    · obtain rfl : j = n := by omega
      rw [show L.take j = L by rw [HN.out, List.take_length], show L.drop j = [] by rw [HN.out, List.drop_length], List.append_nil] at hO hap
      rw [show L.take j = L by rw [HN.out, List.take_length]] at hq
      have HF : Hid (q = nxqs k L ∧ Owns lo hi wr (srowQ A (mkqs k L) ++ Q0) ∧ Aparts (srowQ A (mkqs k L) ++ Q0) ∧ Turn lo hi w wr) := Lib.hid ⟨hq, hO, hap, hT⟩
      clear hq hO hT hap
      go_wp2
      go_ret
      exact ⟨by rw [HF.out.1]; rfl, HF.out.2⟩
end Go.Proofs.YtennekieiioilaaGreat
