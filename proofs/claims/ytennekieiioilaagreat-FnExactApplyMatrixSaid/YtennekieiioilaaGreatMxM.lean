/-
  Marks in matrices.
-/
import Derived.Test.YtennekieiioilaaGreatMxE
import Derived.Test.YtennekieiioilaaGreatRm
namespace Go.Proofs.YtennekieiioilaaGreat
open Go.ChangeShapes Go.WideShapes Go.ChangeAt Go.RowKit
open Go.ChangeMaps (open_string shut_string)
set_option linter.unusedVariables false
set_option linter.unusedSimpArgs false
set_option maxRecDepth 4000

/-- What the marks leave. -/
def mkX (k : Int) (p : MR) : MR := ⟨marks k p.cs.length, p.A, p.c, mkqs (k + (p.cs.length : Int)) p.V, p.B, p.d⟩
def nxX (k : Int) (p : MR) : Int := nxqs (k + (p.cs.length : Int)) p.V
theorem nxX_eq (k : Int) (p : MR) : nxX k p = k + szr p := by unfold nxX szr; rw [nxqs_eq]; omega
def mkxs : Int → List MR → List MR
  | _, [] => []
  | k, p :: R => mkX k p :: mkxs (nxX k p) R
def nxxs : Int → List MR → Int
  | k, [] => k
  | k, p :: R => nxxs (nxX k p) R
theorem nxxs_eq (k : Int) (R : List MR) : nxxs k R = k + szrs R := by
  induction R generalizing k with
  | nil => simp [nxxs, szrs]
  | cons p R ih => show nxxs (nxX k p) R = k + (szr p + szrs R); rw [ih, nxX_eq]; omega
theorem nxxs_app (k : Int) (R T : List MR) : nxxs k (R ++ T) = nxxs (nxxs k R) T := by
  induction R generalizing k with
  | nil => rfl
  | cons p R ih => exact ih _
theorem mkxs_app (k : Int) (R T : List MR) : mkxs k (R ++ T) = mkxs k R ++ mkxs (nxxs k R) T := by
  induction R generalizing k with
  | nil => rfl
  | cons p R ih => show mkX k p :: mkxs (nxX k p) (R ++ T) = mkX k p :: (mkxs (nxX k p) R ++ mkxs (nxxs (nxX k p) R) T); rw [ih]
theorem mkxs_length (k : Int) (R : List MR) : (mkxs k R).length = R.length := by
  induction R generalizing k with
  | nil => rfl
  | cons p R ih => show (mkxs (nxX k p) R).length + 1 = _; rw [ih]; rfl
theorem mkxs_step {k : Int} {R : List MR} {j : Nat} {p : MR} (hp : R[j]? = some p) :
    mkxs k (R.take j) ++ R.drop j = mkxs k (R.take j) ++ p :: R.drop (j + 1) ∧ mkxs k (R.take (j + 1)) ++ R.drop (j + 1) = mkxs k (R.take j) ++ mkX (nxxs k (R.take j)) p :: R.drop (j + 1) ∧ nxxs k (R.take (j + 1)) = nxX (nxxs k (R.take j)) p := by
  have hl := lt_of_getX hp
  have h2 : R[j] = p := by rw [List.getElem?_eq_getElem hl] at hp; injection hp
  refine ⟨by rw [List.drop_eq_getElem_cons hl, h2], ?_, ?_⟩
  · rw [take_succX hp, mkxs_app]
    show (mkxs k (R.take j) ++ [mkX (nxxs k (R.take j)) p]) ++ R.drop (j + 1) = _
    rw [List.append_assoc]; rfl
  · rw [take_succX hp, nxxs_app]; rfl
theorem mcl_mk (k : Int) (p : MR) : mcl (mkX k p) = mcl p := by
  unfold mcl mkX
  rw [marks_length, mkqs_length]
theorem flatX_mk (M1 M2 : List MR) (k : Int) (p : MR) : flatX (M1 ++ mkX k p :: M2) = flatX (M1 ++ p :: M2) := by
  rw [flatX_app, flatX_app, flatX_cons, flatX_cons, mcl_mk]
/-- The rows of one row first, all others behind. -/
theorem srowX_perm (A : Option Addr) (M1 M2 : List MR) (p : MR) : (srowX A (M1 ++ p :: M2)).Perm (rmx p ++ ((A, flatX (M1 ++ p :: M2)) :: (lrowX M1 ++ lrowX M2))) := by
  unfold srowX
  rw [lrowX_app, lrowX_cons]
  generalize (A, flatX (M1 ++ p :: M2)) = X
  generalize rmx p = Y
  refine (List.Perm.cons X ?_).trans List.perm_middle.symm
  exact List.perm_append_comm_assoc _ _ _
theorem mkxs_get {k : Int} {R : List MR} {j : Nat} {p : MR} (hp : R[j]? = some p) : (mkxs k R)[j]? = some (mkX (nxxs k (R.take j)) p) := by
  have hl := lt_of_getX hp
  have h2 : R[j] = p := by rw [List.getElem?_eq_getElem hl] at hp; injection hp
  have e : R = R.take j ++ p :: R.drop (j + 1) := by
    have h1 := List.take_append_drop j R
    rw [List.drop_eq_getElem_cons hl, h2] at h1
    exact h1.symm
  have e2 : mkxs k R = mkxs k (R.take j) ++ mkX (nxxs k (R.take j)) p :: mkxs (nxX (nxxs k (R.take j)) p) (R.drop (j + 1)) := by
    conv => lhs; rw [e, mkxs_app]
    rfl
  rw [e2, List.getElem?_append_right (by rw [mkxs_length, List.length_take]; omega), mkxs_length, List.length_take, Nat.min_eq_left (by omega), Nat.sub_self]
  rfl
set_option maxHeartbeats 2000000 in
theorem markMS_r (lo hi : Nat) (R : List MR) (A : Option Addr) (c : Nat) (k : Int) (w : World) (hn : R.length ≤ 1048576) (hk : 0 < k) (hk2 : k ≤ 4194304) (hg : szrs R ≤ 1048576) (hh : hi ≤ w.heap.size) (h : Owns lo hi w (srowX A R)) (ap : Aparts (srowX A R)) :
    Calls Tryz.prog 35 #[.slice A R.length c, .int .i64 k] w (fun e w' => e = .returned (.int .i64 (nxxs k R)) ∧ Owns lo hi w' (srowX A (mkxs k R)) ∧ Turn lo hi w w') := by
  obtain ⟨n, hnn⟩ : ∃ n, n = R.length := ⟨_, rfl⟩
  rw [← hnn] at hn ⊢
  have HN := Lib.hid hnn
  clear hnn
  go_enter Tryz.func35, Tryz.ntmps35
  go_wp2
  go_loopw [1, 5] (fun q i w' => ∃ (j : Nat) (q' : Int), j ≤ n ∧ i = .int .i64 (j : Int) ∧ q = .int .i64 q' ∧ q' = nxxs k (R.take j) ∧ Owns lo hi w' (srowX A (mkxs k (R.take j) ++ R.drop j)) ∧ Aparts (srowX A (mkxs k (R.take j) ++ R.drop j)) ∧ Turn lo hi w w') (fun _ i _ => n - (intOf i).toNat)
  case atStart => exact ⟨0, k, Nat.zero_le _, rfl, rfl, rfl, h, ap, ⟨rfl, rfl, rfl, Nat.le_refl _, fun _ _ _ => rfl⟩⟩
  case round =>
    obtain ⟨j, q, hj, rfl, rfl, hq, hO, hap, hT⟩ := hrel
    clear h ap
    by_cases hlt : j < n
    · obtain ⟨p, hp⟩ := getX (show j < R.length by rw [← HN.out]; exact hlt)
      obtain ⟨e1, e2, e3⟩ := mkxs_step (k := k) hp
      have hle := szrs_le R (j + 1)
      rw [szrs_take hp] at hle
      have hp0 := szrs_pos (R.take j)
      have hsp := szqs_pos p.V
      have hsr : szr p = (p.cs.length : Int) + ((p.V.length : Int) + szqs p.V) := rfl
      have hqe : q = k + szrs (R.take j) := by rw [hq, nxxs_eq]
      have hq0 : 0 < q := by omega
      have hq1 : q ≤ 5242880 := by omega
      have hM : (mkxs k (R.take j) ++ p :: R.drop (j + 1))[j]? = some p := by
        have hjl := lt_of_getX hp
        rw [List.getElem?_append_right (by rw [mkxs_length, List.length_take]; omega), mkxs_length, List.length_take, Nat.min_eq_left (by omega), Nat.sub_self]; rfl
      rw [e1] at hO hap
      have hsz : hi ≤ wr.heap.size := Nat.le_trans hh hT.size
      have oP := hO.perm (srowX_perm _ _ _ _)
      have aP := hap.perm (srowX_perm _ _ _ _)
      obtain ⟨Q0, hQ0⟩ : ∃ Q0, Q0 = (A, flatX (mkxs k (R.take j) ++ p :: R.drop (j + 1))) :: (lrowX (mkxs k (R.take j)) ++ lrowX (R.drop (j + 1))) := ⟨_, rfl⟩
      rw [← hQ0] at oP aP
      have M1 := Lib.hid (markIntS_any lo (vi p.cs) p.A p.cs.length p.c q wr (vi_length _) hq0 (by omega) oP.hd)
      have M2 : Hid (∀ W, W.heap.size ≥ wr.heap.size → Owns lo hi W (srowQ p.B p.V ++ ((p.A, vi (marks q p.cs.length)) :: Q0)) → Aparts (srowQ p.B p.V ++ ((p.A, vi (marks q p.cs.length)) :: Q0)) → Calls Tryz.prog 20 #[.slice p.B p.V.length p.d, .int .i64 (q + (p.cs.length : Int))] W ((fun e w' => e = .returned (.int .i64 (nxX q p)) ∧ Owns lo hi w' (srowQ p.B (mkqs (q + (p.cs.length : Int)) p.V) ++ ((p.A, vi (marks q p.cs.length)) :: Q0)) ∧ Aparts (srowQ p.B (mkqs (q + (p.cs.length : Int)) p.V) ++ ((p.A, vi (marks q p.cs.length)) :: Q0)) ∧ Turn lo hi W w'))) := Lib.hid (fun W hW ho ha => markRS_q _ lo hi p.V p.B p.d _ W (by omega) (by omega) (by omega) (by omega) ho ha)
      have RP : Hid (∀ W, OwnS lo W p.A (vi (marks q p.cs.length)) → wr.grownBy W (rowOf p.cs.length p.A) → Owns lo hi W (srowQ p.B p.V ++ ((p.A, vi (marks q p.cs.length)) :: Q0)) ∧ Aparts (srowQ p.B p.V ++ ((p.A, vi (marks q p.cs.length)) :: Q0)) ∧ Turn lo hi wr W) := Lib.hid (fun W ho hg => by
        obtain ⟨h1, h2, h3⟩ := Owns.repl (R1 := []) (l := vi p.cs) (l' := vi (marks q p.cs.length)) oP aP (by rw [vi_length]; exact hg) ho (by rw [vi_length, vi_length, marks_length])
        exact ⟨h1.perm List.perm_middle.symm, h2.perm List.perm_middle.symm, h3⟩)
      obtain ⟨g, o, rfl, _, c0, c1⟩ := hO.rds.hd.two hM
      have HE : Hid (mkxs k (R.take (j + 1)) ++ R.drop (j + 1) = mkxs k (R.take j) ++ mkX q p :: R.drop (j + 1) ∧ nxxs k (R.take (j + 1)) = nxX q p) := Lib.hid (by rw [hq]; exact ⟨e2, e3⟩)
      have HQ := Lib.hid hQ0
      have HT := Lib.hid hT
      have HL : Hid (∀ W, Rds W Q0 → W.cell? ⟨g, o + j * 2 + 1, none⟩ = some (.slice p.B p.V.length p.d)) := Lib.hid (fun W hW => by
        rw [hQ0] at hW
        obtain ⟨_, _, he, _, _, h1⟩ := hW.hd.two hM
        cases he
        exact h1)
      have hi0 : (0 : Int) ≤ (j : Int) := by omega
      have hi1 : (j : Int) < (n : Int) := by omega
      clear e1 e2 e3 hle hp0 hsp hsr hqe hM hO hap hT hp hq oP aP hQ0
      generalize hnx : nxX q p = q2 at M2 HE
      clear hnx
      go_wp2_with fail
      clear c0 c1
      refine M1.out.mono ?_
      rintro e w2 ⟨rfl, o1, hg⟩
      obtain ⟨o2, ap2, hT2⟩ := RP.out _ o1 hg
      have c1 := HL.out _ (rds_r o2.rds).tl
      have hz2 := hg.size
      clear o1 hg
      have HO := Lib.hid (And.intro o2 (And.intro ap2 (And.intro hT2 hz2)))
      clear o2 ap2 hT2 hz2
      go_wp2_with fail
      clear c1
      refine (M2.out _ HO.out.2.2.2 HO.out.1 HO.out.2.1).mono ?_
      rintro e w3 ⟨rfl, o3, ap3, hT3⟩
      have HF := Lib.hid (And.intro o3 (And.intro ap3 (HO.out.2.2.1.trans hT3)))
      clear o3 ap3 hT3
      go_wp2
      go_roundw
      case rel =>
        have hperm : (srowQ p.B (mkqs (q + (p.cs.length : Int)) p.V) ++ ((p.A, vi (marks q p.cs.length)) :: Q0)).Perm (srowX (some ⟨g, o, none⟩) (mkxs k (R.take j) ++ mkX q p :: R.drop (j + 1))) := by
          have z := (srowX_perm (some ⟨g, o, none⟩) (mkxs k (R.take j)) (R.drop (j + 1)) (mkX q p)).symm
          rw [flatX_mk] at z
          rw [HQ.out]
          exact List.perm_middle.trans z
        refine ⟨j + 1, _, hlt, by go_num, rfl, HE.out.2.symm, ?_, ?_, HT.out.trans HF.out.2.2⟩
        · rw [HE.out.1]; exact HF.out.1.perm hperm
        · rw [HE.out.1]; exact HF.out.2.1.perm hperm
      case measure => simp [intOf]; omega
    · obtain rfl : j = n := by omega
      rw [show R.take j = R by rw [HN.out, List.take_length], show R.drop j = [] by rw [HN.out, List.drop_length], List.append_nil] at hO
      rw [show R.take j = R by rw [HN.out, List.take_length]] at hq
      have HF : Hid (q = nxxs k R ∧ Owns lo hi wr (srowX A (mkxs k R)) ∧ Turn lo hi w wr) := Lib.hid ⟨hq, hO, hT⟩
      clear hq hO hT hap
      go_wp2
      go_ret
      exact ⟨by rw [HF.out.1]; rfl, HF.out.2⟩
set_option maxHeartbeats 1000000 in
theorem markMx_r (lo hi : Nat) (R : List MR) (A : Option Addr) (c : Nat) (k : Int) (w : World) (hn : R.length ≤ 1048576) (hk : 0 < k) (hk2 : k ≤ 4194304) (hg : szrs R ≤ 1048576) (hh : hi ≤ w.heap.size) (h : Owns lo hi w (srowX A R)) (ap : Aparts (srowX A R)) :
    Calls Tryz.prog 12 #[.agg #[.slice A R.length c], .int .i64 k] w (fun e w' => e = .returned (.int .i64 (nxxs k R)) ∧ Owns lo hi w' (srowX A (mkxs k R)) ∧ Turn lo hi w w') := by
  have S := Lib.hid (fun W (hb : Below w.heap.size w W) => markMS_r lo hi R A c k W hn hk hk2 hg (Nat.le_trans hh hb.size) (h.below hb) ap)
  generalize R.length = n at *
  have P_e := heap_alloc_new w (.cells #[.slice A n c] 34)
  have kb := ba1 w (.cells #[.slice A n c] 34)
  have c0 : (w.alloc (.cells #[.slice A n c] 34)).cell? ⟨w.heap.size, 0, none⟩ = some (.slice A n c) := rblk_cell P_e 0
  clear h ap hg
  generalize nxxs k R = k2 at S ⊢
  go_enter Tryz.func12, Tryz.ntmps12
  go_wp2_with fail
  clear c0
  refine (S.out _ kb).mono ?_
  rintro e w2 ⟨rfl, o2, t2⟩
  have HF := Lib.hid (And.intro o2 ((Turn.of_below kb).trans t2))
  clear o2 t2
  go_wp2
  go_ret
  exact ⟨rfl, HF.out⟩
end Go.Proofs.YtennekieiioilaaGreat
