/-
  Marks in a list of points beside further rows.
-/
import Derived.Test.YtjcbaiphkchehaaSlM
namespace Go.Proofs.Ytjcbaiphkchehaa
open Go.ChangeShapes Go.WideShapes Go.ChangeAt Go.RowKit
open Go.ChangeMaps (open_string shut_string)
set_option linter.unusedVariables false
set_option linter.unusedSimpArgs false
set_option maxRecDepth 4000

theorem srow_fiveq (A : Option Addr) (M1 M2 : List PV) (p : PV) (Q0 : List Row) : srow A (M1 ++ p :: M2) ++ Q0 = five (A, flat (M1 ++ p :: M2)) (lrow M1) (p.a.A, vi p.x.l) (p.a.D, vi p.x.m) (p.b.A, vi p.y.l) (p.b.D, vi p.y.m) (lrow M2 ++ Q0) := by
  unfold srow five
  rw [lrow_app, lrow_cons]
  simp [prow, rows]
set_option maxHeartbeats 2000000 in
theorem markPS_q (Q0 : List Row) (lo hi : Nat) (L : List PV) (A : Option Addr) (c : Nat) (k : Int) (w : World) (hk : 0 < k) (hk2 : k ≤ 1048576) (hg : (L.length : Int) + szs L ≤ 1048576) (hh : hi ≤ w.heap.size) (h : Owns lo hi w (srow A L ++ Q0)) (ap : Aparts (srow A L ++ Q0)) :
    Calls Try.prog 20 #[.slice A L.length c, .int .i64 k] w (fun e w' => e = .returned (.int .i64 (nxs k L)) ∧ Owns lo hi w' (srow A (mks k L) ++ Q0) ∧ Aparts (srow A (mks k L) ++ Q0) ∧ Turn lo hi w w') := by
  have hS := szs_short (L := L) (left := 1048576) (by have := szs_pos L; omega) (by omega)
  have hsp := szs_pos L
  obtain ⟨n, hn⟩ : ∃ n, n = L.length := ⟨_, rfl⟩
  rw [← hn] at hg ⊢
  have HN := Lib.hid hn
  clear hn
  go_enter Try.func20, Try.ntmps20
  go_wp2
  go_loopw [1, 5] (fun q i w' => ∃ (j : Nat) (q' : Int), j ≤ n ∧ i = .int .i64 (j : Int) ∧ q = .int .i64 q' ∧ q' = nxs k (L.take j) ∧ Owns lo hi w' (srow A (mks k (L.take j) ++ L.drop j) ++ Q0) ∧ Aparts (srow A (mks k (L.take j) ++ L.drop j) ++ Q0) ∧ Turn lo hi w w') (fun _ i _ => n - (intOf i).toNat)
  case atStart => exact ⟨0, k, Nat.zero_le _, rfl, rfl, rfl, h, ap, ⟨rfl, rfl, rfl, Nat.le_refl _, fun _ _ _ => rfl⟩⟩
  case round =>
    obtain ⟨j, q, hj, rfl, rfl, hq, hO, hap, hT⟩ := hrel
    clear h ap
    by_cases hlt : j < n
    · obtain ⟨p, hp⟩ := getP (show j < L.length by rw [← HN.out]; exact hlt)
      have hjl : j < L.length := lt_of_getP hp
      obtain ⟨e1, e2, e3⟩ := mks_step (k := k) hp
      have hps := hS p (List.mem_of_getElem? hp)
      have hle := szs_le L (j + 1)
      rw [szs_take hp] at hle
      have hqe : q = k + 2 * (j : Int) + szs (L.take j) := by rw [hq, nxs_eq, List.length_take, Nat.min_eq_left (by omega)]
      have hp0 := szs_pos (L.take j)
      have hszp : szp p = (p.x.l.length : Int) + (p.x.m.length : Int) + ((p.y.l.length : Int) + (p.y.m.length : Int)) := rfl
      have hq0 : 0 < q := by omega
      have hq1 : q ≤ 4194304 := by omega
      have hl1 : (p.x.l.length : Int) ≤ 1048576 := by omega
      have hl2 : (p.x.m.length : Int) ≤ 1048576 := by omega
      have hl3 : (p.y.l.length : Int) ≤ 1048576 := by omega
      have hl4 : (p.y.m.length : Int) ≤ 1048576 := by omega
      rw [e1, srow_fiveq] at hO hap
      have hM : (mks k (L.take j) ++ p :: L.drop (j + 1))[j]? = some p := by
        rw [List.getElem?_append_right (by rw [mks_length, List.length_take]; omega), mks_length, List.length_take, Nat.min_eq_left (by omega), Nat.sub_self]; rfl
      have hFl : (flat (mks k (L.take j) ++ p :: L.drop (j + 1))).length = n * 6 := by
        rw [flat_length, List.length_append, mks_length, List.length_take, List.length_cons, List.length_drop, ← HN.out]; congr 1; omega
      have hF := fun m (hm : m < 6) => flat_get hM m hm
      have HF : Hid (((flat (mks k (L.take j) ++ p :: L.drop (j + 1))).set (j * 6) (.bool (q % 3 == 0))).set (j * 6 + 3) (.bool (nxS q p.x % 3 == 0)) = flat (mks k (L.take j) ++ mkP q p :: L.drop (j + 1))) := Lib.hid (by
        rw [flat_two hM _ _ (pcl_mk q p)]
        congr 1
        rw [List.set_append_right _ _ (by rw [mks_length, List.length_take]; omega), mks_length, List.length_take, Nat.min_eq_left (by omega), Nat.sub_self]; rfl)
      have HE : Hid (mks k (L.take (j + 1)) ++ L.drop (j + 1) = mks k (L.take j) ++ mkP q p :: L.drop (j + 1) ∧ nxs k (L.take (j + 1)) = nxP q p) := Lib.hid (by rw [hq]; exact ⟨e2, e3⟩)
      generalize flat (mks k (L.take j) ++ p :: L.drop (j + 1)) = F at *
      obtain ⟨g, rfl⟩ := (five_at hO).1.addr (by show 0 < F.length; rw [hFl]; omega)
      have hF0 : F[j * 6]? = some (.bool p.x.p) := hF 0 (by omega)
      have hF1 : F[j * 6 + 1]? = some (.slice p.a.A p.x.l.length p.a.c) := hF 1 (by omega)
      have hF2 : F[j * 6 + 2]? = some (.slice p.a.D p.x.m.length p.a.d) := hF 2 (by omega)
      have hF3 : F[j * 6 + 3]? = some (.bool p.y.p) := hF 3 (by omega)
      have hF4 : F[j * 6 + 4]? = some (.slice p.b.A p.y.l.length p.b.c) := hF 4 (by omega)
      have hF5 : F[j * 6 + 5]? = some (.slice p.b.D p.y.m.length p.b.d) := hF 5 (by omega)
      obtain ⟨F1, hF1e⟩ : ∃ F1, F1 = F.set (j * 6) (.bool (q % 3 == 0)) := ⟨_, rfl⟩
      obtain ⟨F2, hF2e⟩ : ∃ F2, F2 = F1.set (j * 6 + 3) (.bool (nxS q p.x % 3 == 0)) := ⟨_, rfl⟩
      have k2 : F1[j * 6 + 2]? = some (.slice p.a.D p.x.m.length p.a.d) := by rw [hF1e, List.getElem?_set_ne (by omega)]; exact hF2
      have k3 : F1[j * 6 + 3]? = some (.bool p.y.p) := by rw [hF1e, List.getElem?_set_ne (by omega)]; exact hF3
      have k4 : F1[j * 6 + 4]? = some (.slice p.b.A p.y.l.length p.b.c) := by rw [hF1e, List.getElem?_set_ne (by omega)]; exact hF4
      have k5 : F2[j * 6 + 5]? = some (.slice p.b.D p.y.m.length p.b.d) := by rw [hF2e, List.getElem?_set_ne (by omega), hF1e, List.getElem?_set_ne (by omega)]; exact hF5
      have hl1' : F1.length = F.length := by rw [hF1e, List.length_set]
      have hl2' : F2.length = F1.length := by rw [hF2e, List.length_set]
      have HF2 : Hid (F2 = flat (mks k (L.take j) ++ mkP q p :: L.drop (j + 1))) := Lib.hid (by rw [hF2e, hF1e]; exact HF.out)
      have o0 := (five_at hO).1
      obtain ⟨c0, f0⟩ := o0.cellv hF0
      obtain ⟨c1, _⟩ := o0.cellv hF1
      have s1 := five0 (l' := F1) hO hap (put_grown wr g (j * 6) (.bool (q % 3 == 0)) (F := F) (by rw [hFl]; omega)) (by rw [hF1e]; exact o0.set (by rw [hFl]; omega) _) hl1'
      have hi0 : (0 : Int) ≤ (j : Int) := by omega
      have hi1 : (j : Int) < (n : Int) := by omega
      have HS := Lib.hid s1
      have HT := Lib.hid hT
      have HL := Lib.hid (And.intro hFl (And.intro hl1' hl2'))
      have HK := Lib.hid (And.intro k2 (And.intro k3 (And.intro k4 k5)))
      have HFE := Lib.hid (And.intro hF1e hF2e)
      clear hjl hO hap hT o0 s1 hF hM e1 e2 e3 hps hle hqe hp0 hszp hF0 hF1 hF2 hF3 hF4 hF5 HF hF1e hF2e k2 k3 k4 k5 hl1' hl2' hp hq hFl
      go_wp2_with fail
      clear c0 f0 c1
      refine (markIntS_any lo (vi p.x.l) p.a.A p.x.l.length p.a.c (q + 1) _ (vi_length _) (by omega) (by omega) (five_at HS.out.1).2.1).mono ?_
      rintro e w2 ⟨rfl, ow, hg2⟩
      have s2 := five1 (l' := vi (marks (q + 1) p.x.l.length)) HS.out.1 HS.out.2.1 (by rw [vi_length]; exact hg2) ow (by rw [vi_length, vi_length, marks_length])
      have HS2 := Lib.hid s2
      obtain ⟨c2, _⟩ := (five_at s2.1).1.cellv HK.out.1
      clear s2 ow hg2
      go_wp2_with fail
      clear c2
      refine (markIntS_any lo (vi p.x.m) p.a.D p.x.m.length p.a.d (q + 1 + (p.x.l.length : Int)) _ (vi_length _) (by omega) (by omega) (five_at HS2.out.1).2.2.1).mono ?_
      rintro e w3 ⟨rfl, ow, hg2⟩
      have s3 := five2 (l' := vi (marks (q + 1 + (p.x.l.length : Int)) p.x.m.length)) HS2.out.1 HS2.out.2.1 (by rw [vi_length]; exact hg2) ow (by rw [vi_length, vi_length, marks_length])
      obtain ⟨c3, f3⟩ := (five_at s3.1).1.cellv HK.out.2.1
      obtain ⟨c4, _⟩ := (five_at s3.1).1.cellv HK.out.2.2.1
      have s4 := five0 (l' := F2) s3.1 s3.2.1 (put_grown w3 g (j * 6 + 3) (.bool (nxS q p.x % 3 == 0)) (F := F1) (by rw [HL.out.2.1, HL.out.1]; omega)) (by rw [HFE.out.2]; exact (five_at s3.1).1.set (by rw [HL.out.2.1, HL.out.1]; omega) _) HL.out.2.2
      have HS3 := Lib.hid s3
      have HS4 := Lib.hid s4
      clear s3 s4 ow hg2
      have hnx : Hid (nxS q p.x = q + 1 + (p.x.l.length : Int) + (p.x.m.length : Int)) := Lib.hid rfl
      rw [hnx.out] at HS4
      go_wp2_with fail
      clear c3 f3 c4
      refine (markIntS_any lo (vi p.y.l) p.b.A p.y.l.length p.b.c (q + 1 + (p.x.l.length : Int) + (p.x.m.length : Int) + 1) _ (vi_length _) (by omega) (by omega) (five_at HS4.out.1).2.2.2.1).mono ?_
      rintro e w5 ⟨rfl, ow, hg2⟩
      have s5 := five3 (l' := vi (marks (q + 1 + (p.x.l.length : Int) + (p.x.m.length : Int) + 1) p.y.l.length)) HS4.out.1 HS4.out.2.1 (by rw [vi_length]; exact hg2) ow (by rw [vi_length, vi_length, marks_length])
      obtain ⟨c5, _⟩ := (five_at s5.1).1.cellv HK.out.2.2.2
      have HS5 := Lib.hid s5
      clear s5 ow hg2
      go_wp2_with fail
      clear c5
      refine (markIntS_any lo (vi p.y.m) p.b.D p.y.m.length p.b.d (q + 1 + (p.x.l.length : Int) + (p.x.m.length : Int) + 1 + (p.y.l.length : Int)) _ (vi_length _) (by omega) (by omega) (five_at HS5.out.1).2.2.2.2).mono ?_
      rintro e w6 ⟨rfl, ow, hg2⟩
      have s6 := five4 (l' := vi (marks (q + 1 + (p.x.l.length : Int) + (p.x.m.length : Int) + 1 + (p.y.l.length : Int)) p.y.m.length)) HS5.out.1 HS5.out.2.1 (by rw [vi_length]; exact hg2) ow (by rw [vi_length, vi_length, marks_length])
      have HS6 := Lib.hid s6
      clear s6 ow hg2
      go_wp2
      go_roundw
      case rel =>
        refine ⟨j + 1, _, hlt, by go_num, rfl, ?_, ?_, ?_, ?_⟩
        · rw [HE.out.2]; unfold nxP; rw [hnx.out]; rfl
        · rw [HE.out.1, srow_fiveq, ← HF2.out]; exact HS6.out.1
        · rw [HE.out.1, srow_fiveq, ← HF2.out]; exact HS6.out.2.1
        · exact ((((((HT.out.trans HS.out.2.2).trans HS2.out.2.2).trans HS3.out.2.2).trans HS4.out.2.2).trans HS5.out.2.2).trans HS6.out.2.2)
      case measure => simp [intOf]; omega
    · obtain rfl : j = n := by omega
      rw [show L.take j = L by rw [HN.out, List.take_length], show L.drop j = [] by rw [HN.out, List.drop_length], List.append_nil] at hO hap
      rw [show L.take j = L by rw [HN.out, List.take_length]] at hq
      have HF : Hid (q = nxs k L ∧ Owns lo hi wr (srow A (mks k L) ++ Q0) ∧ Aparts (srow A (mks k L) ++ Q0) ∧ Turn lo hi w wr) := Lib.hid ⟨hq, hO, hap, hT⟩
      clear hq hO hT hap
      go_wp2
      go_ret
      exact ⟨by rw [HF.out.1]; rfl, HF.out.2⟩
end Go.Proofs.Ytjcbaiphkchehaa
