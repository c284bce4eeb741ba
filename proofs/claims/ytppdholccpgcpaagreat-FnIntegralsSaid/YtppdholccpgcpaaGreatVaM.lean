/-
  The program's value of a linear function at a point, for valid values.
-/
import Derived.Test.YtppdholccpgcpaaGreatWg
import Derived.Test.YtppdholccpgcpaaGreatCoM
import Derived.Test.YtppdholccpgcpaaGreatShM
import Derived.Test.YtppdholccpgcpaaGreatPtQ
import Derived.Test.YtppdholccpgcpaaGreatLawP
import Derived.Test.YtppdholccpgcpaaGreatPtJ
namespace Go.Proofs.YtppdholccpgcpaaGreat
open Go.ChangeShapes Go.WideShapes Go.ChangeAt Go.RowKit
set_option linter.unusedVariables false
set_option linter.unusedSimpArgs false
set_option maxRecDepth 4000
def accV (F : Nat → Option Rat) (U : List RV) : Nat → Option Rat
  | 0 => some 0
  | t + 1 => binQ addQ (accV F U t) (binQ mulQ (valU U t) (F t))
theorem accV_fit (F : Nat → Option Rat) (U : List RV) (t : Nat) : FitO (accV F U t) := by
  cases t with
  | zero => exact zeroQ_fit
  | succ t => exact binadd_fit _ _
theorem cD_get {p q r z : PV} {M : List RV} (hd : datQ M = cD p q r z) {j : Nat} (hj : j < 3) {m : RV} (hm : M[j]? = some m) : m.x = ofO (cO p q r z j) := by
  have h1 : (datQ M)[j]? = some m.x := by unfold datQ; rw [List.getElem?_map, hm]; rfl
  rw [hd] at h1
  have c2 : j = 0 ∨ j = 1 ∨ j = 2 := by omega
  rcases c2 with rfl | rfl | rfl <;> exact (Option.some.inj h1).symm
attribute [local go_sem ↓] Go.wp_at_zero Go.wp_at_succ
set_option maxHeartbeats 4000000 in
theorem value_m (p q r z : PV) (U : List RV) (D : Option Addr) (d : Nat) (w : World) (h : TriOk w p q r) (nz : NiceP z) (hz : Rds w (prow z)) (hU : U.length = 3) (hL : ∀ p, p ∈ U → LenQ p) (hv : validB U = true) (hA : RdS w D (flatQ U)) (hR : Rds w (lrowQ U)) :
    Calls Tryz.prog 96 #[.agg (p18 p q r), .slice D 3 d, .agg (p6 z)] w (MadeQ w.heap.size (ofO (accV (cO p q r z) U 3)) w) := by
  have HCo := Lib.hid (fun W hB => coordinates_m p q r z W (TriOk.below h hB) nz (Rds.below hz hB))
  have HZ := Lib.hid (fun W => show Calls Tryz.prog 22 #[.int .i64 0] W (MadeQ W.heap.size (ofO (some 0)) W) from (impl_rfi 0 W (by decide)).mono fun e w' k => MadeR.toQ (x := ofO (some 0)) k)
  have RA : Hid (∀ W, Below w.heap.size w W → RdS W D (flatQ U) ∧ Rds W (lrowQ U)) := Lib.hid (fun W hb => ⟨hA.below hb, hR.below hb⟩)
  have HLL := Lib.hid (And.intro hL hv)
  have HU3 := Lib.hid hU
  have HFF := Lib.hid (And.intro (cO_fit p q r z) (fun (M : List RV) (hd : datQ M = cD p q r z) (j : Nat) (hj : j < 3) (m : RV) (hm : M[j]? = some m) => cD_get hd hj hm))
  generalize cD p q r z = CD at HCo HFF
  generalize cO p q r z = F at HFF ⊢
  clear h nz hz hU hL hv hA hR
  obtain ⟨T, hT⟩ : ∃ T, T = ofO (accV F U 3) := ⟨_, rfl⟩
  rw [← hT]
  have HT := Lib.hid hT
  have HZ0 : Hid (ofO (some 0) = ofO (accV F U 0)) := Lib.hid rfl
  clear hT
  unfold MadeQ at HZ
  unfold MadeQ3 at HCo
  generalize ofO (some (0 : Rat)) = Z0 at HZ HZ0
  obtain ⟨P_t, P_z, P_o⟩ := blocks3 w (.cells (p18 p q r) 81) (.cells (p6 z) 31) (.cells z3 29)
  have kb := ba3 w (.cells (p18 p q r) 81) (.cells (p6 z) 31) (.cells z3 29)
  go_enter Tryz.func96, Tryz.ntmps96
  go_wp2_with fail
  generalize ((w.alloc (.cells (p18 p q r) 81)).alloc (.cells (p6 z) 31)).alloc (.cells z3 29) = W1 at P_t P_z P_o kb ⊢
  refine (HZ.out _).mono ?_
  rintro e W3 ⟨a0, rfl, hcx0, hcy0, oz, hapz, hb⟩
  have hlo := rblk_lt P_o
  replace P_t := rblk_below P_t hb
  replace P_z := rblk_below P_z hb
  replace P_o := rblk_below P_o hb
  replace kb := bt kb hb
  clear hb
  have P_l := heap_alloc_new W3 (.cells (r3 Z0 a0) 29)
  have hb := ba1 W3 (.cells (r3 Z0 a0) 29)
  have hgl : w.heap.size + 1 + 1 < W3.heap.size := rblk_lt P_o
  replace P_t := rblk_below P_t hb
  replace P_z := rblk_below P_z hb
  replace P_o := rblk_below P_o hb
  replace oz := (oz.below hb).wide (Nat.succ_le_of_lt hlo) hb.size
  replace kb := bt kb hb
  clear hb hlo
  have hld := cells_row P_t
  have s0 := rblk_cell P_z 0
  have s1 := rblk_cell P_z 1
  have s2 := rblk_cell P_z 2
  have s3 := rblk_cell P_z 3
  have s4 := rblk_cell P_z 4
  have s5 := rblk_cell P_z 5
  go_wp2_with (first | refine wpList_load_at rfl 81 (.tmp 3) rfl (w.heap.size) 0 (p18 p q r) rfl tri_agg (run_size tri_size) hld ?_)
  clear hld s0 s1 s2 s3 s4 s5
  generalize W3.alloc (.cells (r3 Z0 a0) 29) = W4 at P_t P_z P_o P_l oz kb ⊢
  generalize W3.heap.size = gl at P_l hgl ⊢
  refine (HCo.out _ kb).mono ?_
  rintro e W5 ⟨M, rfl, h3, hdm, _, oM, _, hb⟩
  have hlg := rblk_lt P_l
  clear P_t P_z HCo
  replace P_o := rblk_below P_o hb
  replace P_l := rblk_below P_l hb
  replace oz := (oz.below hb).wide (Nat.le_refl _) hb.size
  replace kb := bt kb hb
  clear hb
  have HJ := Lib.hid (fun (j : Nat) (p : RV) h W => run_idxR h3 (j := j) (p := p) h W)
  have HMD : Hid (M.length = 3 ∧ datQ M = CD) := Lib.hid ⟨h3, hdm⟩
  have HGL := Lib.hid (And.intro hgl hlg)
  clear hdm hgl hlg h3
  generalize hC : (flatQ M).toArray = C at HJ
  clear hC
  go_wp2_with fail
  go_loopw [14] (fun k w' => ∃ (j : Nat) (X : R3) (a : Ad), j ≤ 3 ∧ k = .int .i64 (j : Int) ∧ X = ofO (accV F U j) ∧ (X.l.length ≤ a.c ∧ X.m.length ≤ a.d) ∧ w'.heap[gl]? = some (.cells (r3 X a) 29 (0, 0)) ∧ Owns (w.heap.size + 1 + 1 + 1) w'.heap.size w' (rows X a) ∧ Aparts (rows X a) ∧ Owns W4.heap.size W5.heap.size w' (lrowQ M) ∧ w'.heap[w.heap.size + 1 + 1]? = some (.cells z3 29 (0, 0)) ∧ Below w.heap.size w w') (fun k _ => 3 - (intOf k).toNat)
  case atStart => exact ⟨0, Z0, a0, by omega, rfl, HZ0.out, ⟨hcx0, hcy0⟩, P_l, oz, hapz, oM, P_o, kb⟩
  case round =>
    clear P_l oz P_o kb hcx0 hcy0 hapz oM
    obtain ⟨j, X, ax, hj, rfl, hX, hcx, P_l, ol, hapl, oM, P_o, kb⟩ := hrel
    by_cases hlt : j < 3
    · obtain ⟨m, hm⟩ := getQ (L := M) (i := j) (by rw [HMD.out.1]; omega)
      have hjdx := HJ.out j m hm
      have em := HFF.out.2 M HMD.out.2 j hlt m hm
      obtain ⟨u, hu⟩ := getQ (L := U) (i := j) (by rw [HU3.out]; exact hlt)
      have nu : u.x = ofO (valx u.x) := nice_ok (validB_at HLL.out.2 hu)
      obtain ⟨gu, ou, rfl, _, _, _, _⟩ := (RA.out _ kb).1.three hu
      have HM2 := Lib.hid (fun W h h' => show Calls Tryz.prog 140 #[.agg (r3 u.x u.a), .agg (r3 m.x m.a)] W (MadeQ W.heap.size (ofO (binQ mulQ (valx u.x) (F j))) W) from by
        have K := times_r (valx u.x) (F j) u.a m.a W (FitO.val _) (HFF.out.1 j) (by rw [← nu]; exact h) (by rw [← em]; exact h')
        rw [← em, ← nu] at K; exact K)
      have HD := Lib.hid (fun (a c : Ad) W h h' => plus_r (accV F U j) (binQ mulQ (valx u.x) (F j)) a c W (accV_fit _ _ _) (binmul_fit _ _) h h')
      have HX2 : Hid (ofO (binQ addQ (accV F U j) (binQ mulQ (valx u.x) (F j))) = ofO (accV F U (j + 1))) := Lib.hid (by
        show _ = ofO (binQ addQ (accV F U j) (binQ mulQ (valU U j) (F j)))
        rw [valU_get hu])
      rw [← hX] at HD
      generalize ofO (binQ addQ (accV F U j) (binQ mulQ (valx u.x) (F j))) = X2 at HD HX2
      generalize ofO (binQ mulQ (valx u.x) (F j)) = T2 at HM2 HD
      unfold MadeQ at HM2 HD
      have HUV := Lib.hid hu
      have OM := Lib.hid oM
      have HPO := Lib.hid P_o
      have HPL := Lib.hid P_l
      have HGE : Hid (gl < wr.heap.size) := Lib.hid (rblk_lt P_l)
      have HRL := Lib.hid (And.intro ol.rds (And.intro ((RA.out _ kb).2.atQ hu) (oM.rds.atQ hm)))
      have HOFF := Lib.hid (offG_owns oM HGL.out.2)
      have hj0 : (0 : Int) ≤ (j : Int) := by omega
      have hj1 : (j : Int) < 3 := by omega
      have KW0 := Lib.hid kb
      clear hX hm em hu nu oM ol hapl hcx P_l P_o kb
      have P_e := heap_alloc_new wr (.cells (r3 m.x m.a) 29)
      have HBQ := Lib.hid (ba1 wr (.cells (r3 m.x m.a) 29))
      go_wp2_with (simp only [hjdx])
      clear hjdx
      generalize wr.alloc (.cells (r3 m.x m.a) 29) = Wq at P_e HBQ ⊢
      generalize wr.heap.size = ge at P_e HGE ⊢
      have KW := Lib.hid (bt KW0.out HBQ.out)
      have ne_e : gl ≠ ge := by have := HGE.out; omega
      have ne_o : gl ≠ w.heap.size + 1 + 1 := by have := HGL.out.1; omega
      have hle : w.heap.size ≤ gl := by have := HGL.out.1; omega
      have HPLq := Lib.hid (rblk_below HPL.out HBQ.out)
      have KST := Keep3.start HPLq.out
      have P_c : Wq.drew.heap[gl]? = some (.cells (r3 X ax) 29 (0, 0)) := HPLq.out
      have HRw : Rds Wq.drew (rows X ax) := (HRL.out.1.below HBQ.out).below ((Below.refl _ _).drew)
      have HRu : Rds Wq.drew (rows u.x u.a) := (HRL.out.2.1.below HBQ.out).below ((Below.refl _ _).drew)
      have HRm : Rds Wq.drew (rows m.x m.a) := (HRL.out.2.2.below HBQ.out).below ((Below.refl _ _).drew)
      refine wp_region_held_drew (S := fun w' => Keep3 Wq w' gl ∧ w'.heap[ge]? = some (.cells (r3 m.x m.a) 29 (0, 0))) (by kernel_rfl) ⟨KST.drew, P_e⟩ (fun hHeld => ?_)
      refine tk (i := 1) (v := ?vg2_1) rfl (by kernel_rfl) (fun _ _ _ h => h) (Or.inl ⟨by rfl, ?hg2_1⟩) hHeld ?_
      case hg2_1 => (intro w hSw; (try dsimp only at hSw); clear hSw; go_simp; (try with_reducible rfl))
      try simp only [ps]
      refine tk (i := 2) (v := ?vg2_2) rfl (by kernel_rfl) (fun _ _ _ h => h) (Or.inl ⟨by rfl, ?hg2_2⟩) hHeld ?_
      case hg2_2 => (intro w hSw; (try dsimp only at hSw); clear hSw; go_simp; (try with_reducible rfl))
      try simp only [ps]
      refine tk (i := 3) (v := ?vg2_3) rfl (by kernel_rfl) (fun _ _ _ h => h) (Or.inl ⟨by rfl, ?hg2_3⟩) hHeld ?_
      case hg2_3 => (intro w hSw; (try dsimp only at hSw); clear hSw; go_simp; (try with_reducible rfl))
      try simp only [ps]
      refine tk (i := 4) (v := ?vg2_4) rfl (by kernel_rfl) (fun _ _ _ h => h) (Or.inl ⟨by rfl, ?hg2_4⟩) hHeld ?_
      case hg2_4 => (intro w hSw; (try dsimp only at hSw); obtain ⟨_, _, he, _, z0, z1, z2⟩ := (RA.out _ (hSw.1.base KW.out hle)).1.three HUV.out; cases he; clear hSw; go_simp; (try with_reducible rfl))
      try simp only [ps]
      refine tk (i := 5) (v := ?vg2_5) rfl (by kernel_rfl) (fun _ _ _ h => h) (Or.inl ⟨by rfl, ?hg2_5⟩) hHeld ?_
      case hg2_5 => (intro w hSw; (try dsimp only at hSw); have t0 := rblk_cell hSw.2 0; have t1 := rblk_cell hSw.2 1; have t2 := rblk_cell hSw.2 2; clear hSw; go_simp; (try with_reducible rfl))
      try simp only [ps]
      refine wpAnyH_ready (rs := [0, 6]) (by kernel_rfl) (by simp) ?_
      refine rc1 rfl (fun K hK => ?_) (rc1 rfl (fun K hK => ?_) AllReadyH.nil)
      · skip
        have t0 := rblk_cell P_c 0
        have t1 := rblk_cell P_c 1
        have t2 := rblk_cell P_c 2
        go_simp
        clear t0 t1 t2
        refine hK.out _ _ hHeld (fun hH => ?_)
        clear hK K hH
        try simp only [ps]
        refine rd1 (i := 6) (by kernel_rfl) rfl (fun K hK => ?_)
        go_simp
        (go_at_call 140; ((with_reducible refine (HM2.out _ HRu HRm).mono ?_); rintro e Wr2_6 ⟨an, rfl, _, _, on, _, hb⟩))
        refine hK.out _ _ ⟨hHeld.1.below hb, rblk_below hHeld.2 hb⟩ (fun hH => ?_)
        replace hHeld := hH
        clear hK K hH
        replace P_c := rblk_below P_c hb
        replace HRw := HRw.below hb
        replace HRu := HRu.below hb
        replace HRm := HRm.below hb
        replace on := on.rds
        clear hb
        try simp only [ps]
        refine rd1 (i := 7) (by kernel_rfl) rfl (fun K hK => ?_)
        go_simp
        (go_at_call 78; ((with_reducible refine (HD.out _ _ _ HRw on).mono ?_); rintro e Wr2_7 ⟨a3, rfl, h3x, h3y, o3, hap3, hb⟩))
        have hz3 := hHeld.1.lt
        refine hK.out _ _ ⟨hHeld.1.below hb, rblk_below hHeld.2 hb⟩ (fun hH => ?_)
        replace hHeld := hH
        clear hK K hH
        replace P_c := rblk_below P_c hb
        replace HRw := HRw.below hb
        replace HRu := HRu.below hb
        replace HRm := HRm.below hb
        replace on := on.below hb
        clear hb
        try simp only [ps]
        refine rd1 (i := 8) (by kernel_rfl) rfl (fun K hK => ?_)
        have t0 := rblk_cell P_c 0
        have q0 := rblk_free P_c 0
        have t1 := rblk_cell P_c 1
        have q1 := rblk_free P_c 1
        have t2 := rblk_cell P_c 2
        have q2 := rblk_free P_c 2
        go_simp
        clear t0 q0 t1 q1 t2 q2
        refine hK.out _ _ ⟨hHeld.1.put3 (.bool X2.p) (.slice a3.A X2.l.length a3.c) (.slice a3.D X2.m.length a3.d), (rblk_other (rblk_other (rblk_other hHeld.2 0 (.bool X2.p) ne_e) 1 (.slice a3.A X2.l.length a3.c) ne_e) 2 (.slice a3.D X2.m.length a3.d) ne_e)⟩ (fun hH => ?_)
        clear hK K hHeld
        have hHeld := hH
        clear hH
        have P_f := rblk_set (rblk_set (rblk_set P_c 0 (.bool X2.p)) 1 (.slice a3.A X2.l.length a3.c)) 2 (.slice a3.D X2.m.length a3.d)
        replace o3 := owns_put3 (r := gl) o3 (.inl hz3) (.bool X2.p) (.slice a3.A X2.l.length a3.c) (.slice a3.D X2.m.length a3.d)
        try simp only [ps]
        refine wpAnyH_done (by kernel_rfl) ?_ _
        replace hHeld := hHeld.1
        have P_o3 := hHeld.block (rblk_below HPO.out HBQ.out) ne_o
        have kz := hHeld.base KW.out hle
        have oM3 := owns_grown (OM.out.below HBQ.out) hHeld.2 (fun g e => by injection e with e; subst e; exact HOFF.out)
        have HF := Lib.hid (And.intro P_f (And.intro o3 (And.intro P_o3 (And.intro kz (And.intro hz3 oM3)))))
        clear P_f o3 P_o3 kz hz3 oM3 hHeld P_c
        go_wp2
        go_roundw
        case rel => exact ⟨j + 1, X2, a3, hlt, by go_num, HX2.out, ⟨h3x, h3y⟩, HF.out.1, HF.out.2.1.wide (by have h1 := HF.out.2.2.2.2.1; have h2 := HGL.out.1; omega) (by first | rw [size_put3]; exact Nat.le_refl _ | exact Nat.le_refl _), hap3, HF.out.2.2.2.2.2, HF.out.2.2.1, HF.out.2.2.2.1⟩
        case measure => simp [intOf]; omega
      · skip
        go_simp
        (go_at_call 140; ((with_reducible refine (HM2.out _ HRu HRm).mono ?_); rintro e Wr2_8 ⟨an, rfl, _, _, on, _, hb⟩))
        refine hK.out _ _ ⟨hHeld.1.below hb, rblk_below hHeld.2 hb⟩ (fun hH => ?_)
        replace hHeld := hH
        clear hK K hH
        replace P_c := rblk_below P_c hb
        replace HRw := HRw.below hb
        replace HRu := HRu.below hb
        replace HRm := HRm.below hb
        replace on := on.rds
        clear hb
        try simp only [ps]
        refine rd1 (i := 0) (by kernel_rfl) rfl (fun K hK => ?_)
        have t0 := rblk_cell P_c 0
        have t1 := rblk_cell P_c 1
        have t2 := rblk_cell P_c 2
        go_simp
        clear t0 t1 t2
        refine hK.out _ _ hHeld (fun hH => ?_)
        clear hK K hH
        try simp only [ps]
        refine rd1 (i := 7) (by kernel_rfl) rfl (fun K hK => ?_)
        go_simp
        (go_at_call 78; ((with_reducible refine (HD.out _ _ _ HRw on).mono ?_); rintro e Wr2_9 ⟨a3, rfl, h3x, h3y, o3, hap3, hb⟩))
        have hz3 := hHeld.1.lt
        refine hK.out _ _ ⟨hHeld.1.below hb, rblk_below hHeld.2 hb⟩ (fun hH => ?_)
        replace hHeld := hH
        clear hK K hH
        replace P_c := rblk_below P_c hb
        replace HRw := HRw.below hb
        replace HRu := HRu.below hb
        replace HRm := HRm.below hb
        replace on := on.below hb
        clear hb
        try simp only [ps]
        refine rd1 (i := 8) (by kernel_rfl) rfl (fun K hK => ?_)
        have t0 := rblk_cell P_c 0
        have q0 := rblk_free P_c 0
        have t1 := rblk_cell P_c 1
        have q1 := rblk_free P_c 1
        have t2 := rblk_cell P_c 2
        have q2 := rblk_free P_c 2
        go_simp
        clear t0 q0 t1 q1 t2 q2
        refine hK.out _ _ ⟨hHeld.1.put3 (.bool X2.p) (.slice a3.A X2.l.length a3.c) (.slice a3.D X2.m.length a3.d), (rblk_other (rblk_other (rblk_other hHeld.2 0 (.bool X2.p) ne_e) 1 (.slice a3.A X2.l.length a3.c) ne_e) 2 (.slice a3.D X2.m.length a3.d) ne_e)⟩ (fun hH => ?_)
        clear hK K hHeld
        have hHeld := hH
        clear hH
        have P_f := rblk_set (rblk_set (rblk_set P_c 0 (.bool X2.p)) 1 (.slice a3.A X2.l.length a3.c)) 2 (.slice a3.D X2.m.length a3.d)
        replace o3 := owns_put3 (r := gl) o3 (.inl hz3) (.bool X2.p) (.slice a3.A X2.l.length a3.c) (.slice a3.D X2.m.length a3.d)
        try simp only [ps]
        refine wpAnyH_done (by kernel_rfl) ?_ _
        replace hHeld := hHeld.1
        have P_o3 := hHeld.block (rblk_below HPO.out HBQ.out) ne_o
        have kz := hHeld.base KW.out hle
        have oM3 := owns_grown (OM.out.below HBQ.out) hHeld.2 (fun g e => by injection e with e; subst e; exact HOFF.out)
        have HF := Lib.hid (And.intro P_f (And.intro o3 (And.intro P_o3 (And.intro kz (And.intro hz3 oM3)))))
        clear P_f o3 P_o3 kz hz3 oM3 hHeld P_c
        go_wp2
        go_roundw
        case rel => exact ⟨j + 1, X2, a3, hlt, by go_num, HX2.out, ⟨h3x, h3y⟩, HF.out.1, HF.out.2.1.wide (by have h1 := HF.out.2.2.2.2.1; have h2 := HGL.out.1; omega) (by first | rw [size_put3]; exact Nat.le_refl _ | exact Nat.le_refl _), hap3, HF.out.2.2.2.2.2, HF.out.2.2.1, HF.out.2.2.2.1⟩
        case measure => simp [intOf]; omega
    · obtain rfl : j = 3 := by omega
      have e1 : X = T := hX.trans HT.out.symm
      subst e1
      clear hX oM
      have l0 := rblk_cell P_l 0
      have l1 := rblk_cell P_l 1
      have l2 := rblk_cell P_l 2
      have o0 := rblk_cell P_o 0
      have f0 := rblk_free P_o 0
      have o1 := rblk_cell P_o 1
      have f1 := rblk_free P_o 1
      have o2 := rblk_cell P_o 2
      have f2 := rblk_free P_o 2
      go_wp2
      exact bodyPost_ret (v := .agg (r3 X ax)) (by simp [results, Tryz.results96, go_sem, o0, o1, o2]) rfl ⟨ax, rfl, hcx.1, hcx.2, owns_end3 ol (.inl (Nat.lt_succ_self _)) (by omega) (Nat.le_refl _) _ _ _, hapl, below_put3 kb (by omega) _ _ _⟩
end Go.Proofs.YtppdholccpgcpaaGreat
