/-
  The program's gradient of a linear function, for three valid values.
-/
import Derived.Test.YtppdholccpgcpaaGreatWg
import Derived.Test.YtppdholccpgcpaaGreatGrM
import Derived.Test.YtppdholccpgcpaaGreatGrS
import Derived.Test.YtppdholccpgcpaaGreatLawP
namespace Go.Proofs.YtppdholccpgcpaaGreat
open Go.ChangeShapes Go.WideShapes Go.ChangeAt Go.RowKit
set_option linter.unusedVariables false
set_option linter.unusedSimpArgs false
set_option maxRecDepth 4000
theorem run_idx3 (g0 g1 g2 : PV) {j : Nat} {x : PV} (h : [g0, g1, g2][j]? = some x) (w : World) : (Instr.index 80 (.agg (p18 g0 g1 g2)) (.int .i64 (j : Int))).run Tryz.prog w = .ok (.agg (p6 x)) w := by
  match j, h with
  | 0, h => obtain rfl : g0 = x := by simpa using h
            simp [Instr.index, asIntOf, run_underlying Tryz.underlying80, Go.part, pt_agg, run_size pt_size]
  | 1, h => obtain rfl : g1 = x := by simpa using h
            simp [Instr.index, asIntOf, run_underlying Tryz.underlying80, Go.part, pt_agg, run_size pt_size]
  | 2, h => obtain rfl : g2 = x := by simpa using h
            simp [Instr.index, asIntOf, run_underlying Tryz.underlying80, Go.part, pt_agg, run_size pt_size]
def lgX (U : List RV) (GD : List (R3 × R3)) : List (R3 × R3 × R3) := (datQ U).zip GD
theorem lgX_step {U : List RV} {GD : List (R3 × R3)} {j : Nat} {p : RV} {x y : R3} (hp : U[j]? = some p) (hq : GD[j]? = some (x, y)) : (lgX U GD).take (j + 1) = (lgX U GD).take j ++ [(p.x, x, y)] := by
  have h : (lgX U GD)[j]? = some (p.x, x, y) := by
    unfold lgX datQ
    rw [List.getElem?_zip_eq_some]
    simp [hp, hq]
  rw [List.take_add_one, h]; rfl
theorem lgX_all {U : List RV} {GD : List (R3 × R3)} (hU : U.length = 3) (hG : GD.length = 3) : (lgX U GD).take 3 = lgX U GD := by
  apply List.take_of_length_le
  unfold lgX datQ
  rw [List.length_zip, List.length_map, hU, hG]
  exact Nat.le_refl _
theorem gD_nice (p q r : PV) : ∀ (j : Nat) (x y : R3), (gD p q r)[j]? = some (x, y) → (x = ofO (valx x) ∧ y = ofO (valx y)) ∧ (valx x = none ∨ valx y = none → valx x = none ∧ valx y = none) := by
  have K : ∀ j, (ofO (gU p q r j) = ofO (valx (ofO (gU p q r j))) ∧ ofO (gV p q r j) = ofO (valx (ofO (gV p q r j)))) ∧ (valx (ofO (gU p q r j)) = none ∨ valx (ofO (gV p q r j)) = none → valx (ofO (gU p q r j)) = none ∧ valx (ofO (gV p q r j)) = none) := fun j => by
    rw [valx_ofO (gU_fit p q r j), valx_ofO (gV_fit p q r j)]
    refine ⟨⟨rfl, rfl⟩, ?_⟩
    unfold gU gV tX tY
    generalize binQ mulQ _ (nX _ _) = a
    generalize binQ mulQ _ (nY _ _) = b
    intro h
    cases a with
    | none => rw [(both_n1 b).1, (both_n1 b).2]; exact ⟨rfl, rfl⟩
    | some a =>
      cases b with
      | none => rw [(both_n2 (some a)).1, (both_n2 (some a)).2]; exact ⟨rfl, rfl⟩
      | some b => rcases h with h | h <;> cases h
  intro j x y h
  have hj : j < 3 := (List.getElem?_eq_some_iff.1 h).1
  have hc : j = 0 ∨ j = 1 ∨ j = 2 := by omega
  rcases hc with rfl | rfl | rfl
  · have e : (x, y) = (ofO (gU p q r 0), ofO (gV p q r 0)) := Option.some.inj (h.symm.trans rfl)
    rw [(Prod.mk.inj e).1, (Prod.mk.inj e).2]; exact K 0
  · have e : (x, y) = (ofO (gU p q r 1), ofO (gV p q r 1)) := Option.some.inj (h.symm.trans rfl)
    rw [(Prod.mk.inj e).1, (Prod.mk.inj e).2]; exact K 1
  · have e : (x, y) = (ofO (gU p q r 2), ofO (gV p q r 2)) := Option.some.inj (h.symm.trans rfl)
    rw [(Prod.mk.inj e).1, (Prod.mk.inj e).2]; exact K 2
theorem gD_short (p q r : PV) : (gD p q r).length = 3 := rfl
attribute [local go_sem ↓] Go.wp_at_zero Go.wp_at_succ
set_option maxHeartbeats 4000000 in
theorem gradient_m (p q r : PV) (U : List RV) (D : Option Addr) (d : Nat) (w : World) (h : TriOk w p q r) (hU : U.length = 3) (hL' : ∀ p, p ∈ U → LenQ p) (hV : validB U = true) (hA' : RdS w D (flatQ U)) (hR' : Rds w (lrowQ U)) :
    Calls Tryz.prog 97 #[.agg (p18 p q r), .slice D 3 d] w (MadeP w.heap.size (ofO (lgA (lgX U (gD p q r))).1) (ofO (lgA (lgX U (gD p q r))).2) w) := by
  have HG := Lib.hid (fun W hB => gradients_m p q r W (TriOk.below h hB))
  have HZ := Lib.hid (fun W => show Calls Tryz.prog 16 #[.int .i64 0, .int .i64 0] W (MadeP W.heap.size (rfi 0) (rfi 0) W) from impl_pointAt 0 0 W (by decide) (by decide))
  have RA : Hid (∀ W, Below w.heap.size w W → RdS W D (flatQ U) ∧ Rds W (lrowQ U)) := Lib.hid (fun W hb => ⟨hA'.below hb, hR'.below hb⟩)
  have HLL := Lib.hid (And.intro hL' hV)
  have HU3 := Lib.hid hU
  have HGN := Lib.hid (And.intro (gD_nice p q r) (gD_short p q r))
  obtain ⟨GD, hGD⟩ : ∃ G, G = gD p q r := ⟨_, rfl⟩
  rw [← hGD] at HG HGN ⊢
  have HALL : Hid ((lgX U GD).take 3 = lgX U GD) := Lib.hid (lgX_all hU HGN.out.2)
  clear hGD h hU hL' hV hA' hR'
  unfold MadeP at HZ
  unfold MadeP3 at HG
  obtain ⟨V, hV⟩ : ∃ V, V = ofO (lgA (lgX U GD)).1 := ⟨_, rfl⟩
  obtain ⟨T, hT⟩ : ∃ T, T = ofO (lgA (lgX U GD)).2 := ⟨_, rfl⟩
  rw [← hV, ← hT]
  have HVT := Lib.hid (And.intro hV hT)
  clear hV hT
  obtain ⟨P_t, P_o⟩ := blocks2 w (.cells (p18 p q r) 81) (.cells z6 31)
  have kb := ba2 w (.cells (p18 p q r) 81) (.cells z6 31)
  go_enter Tryz.func97, Tryz.ntmps97
  go_wp2_with fail
  generalize (w.alloc (.cells (p18 p q r) 81)).alloc (.cells z6 31) = W1 at P_t P_o kb ⊢
  refine (HZ.out _).mono ?_
  rintro e W3 ⟨a0, b0, rfl, hcz, oz, hapz, hb⟩
  have hlo := rblk_lt P_o
  replace P_t := rblk_below P_t hb
  replace P_o := rblk_below P_o hb
  replace kb := bt kb hb
  clear hb
  have P_l := heap_alloc_new W3 (.cells (r6 (rfi 0) (rfi 0) a0 b0) 31)
  have hb := ba1 W3 (.cells (r6 (rfi 0) (rfi 0) a0 b0) 31)
  have hgl : w.heap.size + 1 < W3.heap.size := rblk_lt P_o
  replace P_t := rblk_below P_t hb
  replace P_o := rblk_below P_o hb
  replace oz := (oz.below hb).wide (Nat.succ_le_of_lt hlo) hb.size
  replace kb := bt kb hb
  clear hb hlo
  have hld := cells_row P_t
  go_wp2_with (first | refine wpList_load_at rfl 81 (.tmp 2) rfl (w.heap.size) 0 (p18 p q r) rfl tri_agg (run_size tri_size) hld ?_)
  clear hld
  generalize W3.alloc (.cells (r6 (rfi 0) (rfi 0) a0 b0) 31) = W4 at P_t P_o P_l oz kb ⊢
  generalize W3.heap.size = gl at P_l hgl ⊢
  refine (HG.out _ kb).mono ?_
  rintro e W5 ⟨g0, g1, g2, rfl, hdat, _, og, _, hb⟩
  have hlg := rblk_lt P_l
  clear P_t
  replace P_o := rblk_below P_o hb
  replace P_l := rblk_below P_l hb
  replace oz := (oz.below hb).wide (Nat.le_refl _) hb.size
  replace kb := bt kb hb
  clear hb
  have HIX := Lib.hid (fun (j : Nat) (x : PV) h W => run_idx3 g0 g1 g2 (j := j) (x := x) h W)
  have HMM : Hid (dat [g0, g1, g2] = GD) := Lib.hid hdat
  have HGL := Lib.hid (And.intro hgl hlg)
  clear hdat hgl hlg
  go_wp2_with fail
  go_loopw [11] (fun k w' => ∃ (j : Nat) (X Y : R3) (a b : Ad), j ≤ 3 ∧ k = .int .i64 (j : Int) ∧ X = ofO (lgA ((lgX U GD).take j)).1 ∧ Y = ofO (lgA ((lgX U GD).take j)).2 ∧ (X.l.length ≤ a.c ∧ X.m.length ≤ a.d ∧ Y.l.length ≤ b.c ∧ Y.m.length ≤ b.d) ∧ w'.heap[gl]? = some (.cells (r6 X Y a b) 31 (0, 0)) ∧ Owns (w.heap.size + 1 + 1) w'.heap.size w' (rows X a ++ rows Y b) ∧ Aparts (rows X a ++ rows Y b) ∧ Owns W4.heap.size W5.heap.size w' (lrow [g0, g1, g2]) ∧ w'.heap[w.heap.size + 1]? = some (.cells z6 31 (0, 0)) ∧ Below w.heap.size w w') (fun k _ => 3 - (intOf k).toNat)
  case atStart => exact ⟨0, rfi 0, rfi 0, a0, b0, by omega, rfl, rfl, rfl, hcz, P_l, oz, hapz, og, P_o, kb⟩
  case round =>
    clear P_l oz P_o kb hcz hapz og
    obtain ⟨j, X, Y, ax, bx, hj, rfl, hX, hY, hcx, P_l, ol, hapl, og, P_o, kb⟩ := hrel
    by_cases hlt : j < 3
    · obtain ⟨p, hp⟩ := getQ (L := U) (i := j) (by rw [HU3.out]; exact hlt)
      obtain ⟨q', hq⟩ := getP (L := [g0, g1, g2]) (i := j) hlt
      have hqg : GD[j]? = some (q'.x, q'.y) := by rw [← HMM.out]; unfold dat; rw [List.getElem?_map, hq]; rfl
      have hidx := HIX.out j q' hq
      obtain ⟨g, o, rfl, _, _, _, _⟩ := (RA.out _ kb).1.three hp
      have np : p.x = ofO (valx p.x) := nice_ok (validB_at HLL.out.2 hp)
      obtain ⟨⟨nx, ny⟩, _⟩ := HGN.out.1 j _ _ hqg
      have HS := Lib.hid (fun W h h' => show Calls Tryz.prog 75 #[.agg (p6 q'), .agg (r3 p.x p.a)] W (MadeP W.heap.size (ofO (scX (valx p.x) (valx q'.x) (valx q'.y))) (ofO (scY (valx p.x) (valx q'.x) (valx q'.y))) W) from by
        have K := timesP_r (valx q'.x) (valx q'.y) (valx p.x) q'.a q'.b p.a W (FitO.val _) (FitO.val _) (FitO.val _) (by rw [← nx, ← ny]; exact h) (by rw [← np]; exact h')
        rw [← nx, ← ny, ← np] at K; exact K)
      have HD := Lib.hid (fun (a b c d : Ad) W h h' => plusP_r (lgA ((lgX U GD).take j)).1 (lgA ((lgX U GD).take j)).2 (scX (valx p.x) (valx q'.x) (valx q'.y)) (scY (valx p.x) (valx q'.x) (valx q'.y)) a b c d W (lgA_fit _).1 (lgA_fit _).2 (bothX_fit (binmul_fit _ _)) (bothY_fit (binmul_fit _ _)) h h')
      have HX2 : Hid (ofO (bothX (binQ addQ (lgA ((lgX U GD).take j)).1 (scX (valx p.x) (valx q'.x) (valx q'.y))) (binQ addQ (lgA ((lgX U GD).take j)).2 (scY (valx p.x) (valx q'.x) (valx q'.y)))) = ofO (lgA ((lgX U GD).take (j + 1))).1 ∧ ofO (bothY (binQ addQ (lgA ((lgX U GD).take j)).1 (scX (valx p.x) (valx q'.x) (valx q'.y))) (binQ addQ (lgA ((lgX U GD).take j)).2 (scY (valx p.x) (valx q'.x) (valx q'.y)))) = ofO (lgA ((lgX U GD).take (j + 1))).2) := Lib.hid (by
        rw [lgX_step hp hqg, lgA_app]; exact ⟨rfl, rfl⟩)
      rw [← hX, ← hY] at HD
      generalize ofO (bothX (binQ addQ (lgA ((lgX U GD).take j)).1 (scX (valx p.x) (valx q'.x) (valx q'.y))) (binQ addQ (lgA ((lgX U GD).take j)).2 (scY (valx p.x) (valx q'.x) (valx q'.y)))) = X2 at HD HX2
      generalize ofO (bothY (binQ addQ (lgA ((lgX U GD).take j)).1 (scX (valx p.x) (valx q'.x) (valx q'.y))) (binQ addQ (lgA ((lgX U GD).take j)).2 (scY (valx p.x) (valx q'.x) (valx q'.y)))) = Y2 at HD HX2
      generalize ofO (scX (valx p.x) (valx q'.x) (valx q'.y)) = SX at HS HD
      generalize ofO (scY (valx p.x) (valx q'.x) (valx q'.y)) = SY at HS HD
      unfold MadeP at HS HD
      have HP := Lib.hid hp
      have OG := Lib.hid og
      have HOFF := Lib.hid (offG_owns og HGL.out.2)
      have HPO := Lib.hid P_o
      have HPL := Lib.hid P_l
      have HGE : Hid (gl < wr.heap.size) := Lib.hid (rblk_lt P_l)
      have HRL := Lib.hid (And.intro ol.rds (And.intro ((RA.out _ kb).2.atQ hp) (og.rds.at hq)))
      have hi0 : (0 : Int) ≤ (j : Int) := by omega
      have hi1 : (j : Int) < 3 := by omega
      have KW0 := Lib.hid kb
      clear hX hY hp hq hqg np nx ny og ol hapl hcx P_l P_o kb
      have P_e := heap_alloc_new wr (.cells (p6 q') 31)
      have HBQ := Lib.hid (ba1 wr (.cells (p6 q') 31))
      go_wp2_with (simp only [hidx])
      clear hidx
      generalize wr.alloc (.cells (p6 q') 31) = Wq at P_e HBQ ⊢
      generalize wr.heap.size = ge at P_e HGE ⊢
      have KW := Lib.hid (bt KW0.out HBQ.out)
      have ne_e : gl ≠ ge := by have := HGE.out; omega
      have ne_o : gl ≠ w.heap.size + 1 := by have := HGL.out.1; omega
      have hle : w.heap.size ≤ gl := by have := HGL.out.1; omega
      have HPLq := Lib.hid (rblk_below HPL.out HBQ.out)
      have KST := Keep6.start HPLq.out
      have P_c : Wq.drew.heap[gl]? = some (.cells (r6 X Y ax bx) 31 (0, 0)) := HPLq.out
      have HRw : Rds Wq.drew (rows X ax ++ rows Y bx) := (HRL.out.1.below HBQ.out).below ((Below.refl _ _).drew)
      have HRp : Rds Wq.drew (qrow p) := (HRL.out.2.1.below HBQ.out).below ((Below.refl _ _).drew)
      have HRq : Rds Wq.drew (prow q') := (HRL.out.2.2.below HBQ.out).below ((Below.refl _ _).drew)
      refine wp_region_held_drew (S := fun w' => Keep6 Wq w' gl ∧ w'.heap[ge]? = some (.cells (p6 q') 31 (0, 0))) (by kernel_rfl) ⟨KST.drew, P_e⟩ (fun hHeld => ?_)
      refine tk (i := 1) (v := ?vg1_1) rfl (by kernel_rfl) (fun _ _ _ h => h) (Or.inl ⟨by rfl, ?hg1_1⟩) hHeld ?_
      case hg1_1 => (intro w hSw; (try dsimp only at hSw); have t0 := rblk_cell hSw.2 0; have t1 := rblk_cell hSw.2 1; have t2 := rblk_cell hSw.2 2; have t3 := rblk_cell hSw.2 3; have t4 := rblk_cell hSw.2 4; have t5 := rblk_cell hSw.2 5; clear hSw; go_simp; (try with_reducible rfl))
      try simp only [ps]
      refine tk (i := 2) (v := ?vg1_2) rfl (by kernel_rfl) (fun _ _ _ h => h) (Or.inl ⟨by rfl, ?hg1_2⟩) hHeld ?_
      case hg1_2 => (intro w hSw; (try dsimp only at hSw); clear hSw; go_simp; (try with_reducible rfl))
      try simp only [ps]
      refine tk (i := 3) (v := ?vg1_3) rfl (by kernel_rfl) (fun _ _ _ h => h) (Or.inl ⟨by rfl, ?hg1_3⟩) hHeld ?_
      case hg1_3 => (intro w hSw; (try dsimp only at hSw); clear hSw; go_simp; (try with_reducible rfl))
      try simp only [ps]
      refine tk (i := 4) (v := ?vg1_4) rfl (by kernel_rfl) (fun _ _ _ h => h) (Or.inl ⟨by rfl, ?hg1_4⟩) hHeld ?_
      case hg1_4 => (intro w hSw; (try dsimp only at hSw); clear hSw; go_simp; (try with_reducible rfl))
      try simp only [ps]
      refine tk (i := 5) (v := ?vg1_5) rfl (by kernel_rfl) (fun _ _ _ h => h) (Or.inl ⟨by rfl, ?hg1_5⟩) hHeld ?_
      case hg1_5 => (intro w hSw; (try dsimp only at hSw); obtain ⟨_, _, he, _, z0, z1, z2⟩ := (RA.out _ (hSw.1.base KW.out hle)).1.three HP.out; cases he; clear hSw; go_simp; (try with_reducible rfl))
      try simp only [ps]
      refine wpAnyH_ready (rs := [0, 6]) (by kernel_rfl) (by simp) ?_
      refine rc1 rfl (fun K hK => ?_) (rc1 rfl (fun K hK => ?_) AllReadyH.nil)
      · skip
        have t0 := rblk_cell P_c 0
        have t1 := rblk_cell P_c 1
        have t2 := rblk_cell P_c 2
        have t3 := rblk_cell P_c 3
        have t4 := rblk_cell P_c 4
        have t5 := rblk_cell P_c 5
        go_simp
        clear t0 t1 t2 t3 t4 t5
        refine hK.out _ _ hHeld (fun hH => ?_)
        clear hK K hH
        try simp only [ps]
        refine rd1 (i := 6) (by kernel_rfl) rfl (fun K hK => ?_)
        go_simp
        (go_at_call 75; ((with_reducible refine (HS.out _ HRq HRp).mono ?_); rintro e Wr1_6 ⟨am, bm, rfl, hcm, om, hapm, hb⟩))
        refine hK.out _ _ ⟨hHeld.1.below hb, rblk_below hHeld.2 hb⟩ (fun hH => ?_)
        replace hHeld := hH
        clear hK K hH
        replace P_c := rblk_below P_c hb
        replace HRw := HRw.below hb
        replace HRp := HRp.below hb
        replace HRq := HRq.below hb
        replace om := om.rds
        clear hb
        try simp only [ps]
        refine rd1 (i := 7) (by kernel_rfl) rfl (fun K hK => ?_)
        go_simp
        (go_at_call 74; ((with_reducible refine (HD.out _ _ _ _ _ HRw om).mono ?_); rintro e Wr1_7 ⟨a3, b3, rfl, h3c, o3, hap3, hb⟩))
        have hz3 := hHeld.1.lt
        refine hK.out _ _ ⟨hHeld.1.below hb, rblk_below hHeld.2 hb⟩ (fun hH => ?_)
        replace hHeld := hH
        clear hK K hH
        replace P_c := rblk_below P_c hb
        replace HRw := HRw.below hb
        replace HRp := HRp.below hb
        replace HRq := HRq.below hb
        replace om := om.below hb
        clear hb
        try simp only [ps]
        refine rd1 (i := 8) (by kernel_rfl) rfl (fun K hK => ?_)
        have t0 := rblk_cell P_c 0
        have q0 := rblk_free P_c 0
        have t1 := rblk_cell P_c 1
        have q1 := rblk_free P_c 1
        have t2 := rblk_cell P_c 2
        have q2 := rblk_free P_c 2
        have t3 := rblk_cell P_c 3
        have q3 := rblk_free P_c 3
        have t4 := rblk_cell P_c 4
        have q4 := rblk_free P_c 4
        have t5 := rblk_cell P_c 5
        have q5 := rblk_free P_c 5
        go_simp
        clear t0 q0 t1 q1 t2 q2 t3 q3 t4 q4 t5 q5
        refine hK.out _ _ ⟨hHeld.1.put6 (.bool X2.p) (.slice a3.A X2.l.length a3.c) (.slice a3.D X2.m.length a3.d) (.bool Y2.p) (.slice b3.A Y2.l.length b3.c) (.slice b3.D Y2.m.length b3.d), put6_other hHeld.2 ne_e (.bool X2.p) (.slice a3.A X2.l.length a3.c) (.slice a3.D X2.m.length a3.d) (.bool Y2.p) (.slice b3.A Y2.l.length b3.c) (.slice b3.D Y2.m.length b3.d)⟩ (fun hH => ?_)
        clear hK K hHeld
        have hHeld := hH
        clear hH
        have P_f := rblk_set (rblk_set (rblk_set (rblk_set (rblk_set (rblk_set P_c 0 (.bool X2.p)) 1 (.slice a3.A X2.l.length a3.c)) 2 (.slice a3.D X2.m.length a3.d)) 3 (.bool Y2.p)) 4 (.slice b3.A Y2.l.length b3.c)) 5 (.slice b3.D Y2.m.length b3.d)
        replace o3 := owns_put6 (r := gl) o3 (.inl hz3) (.bool X2.p) (.slice a3.A X2.l.length a3.c) (.slice a3.D X2.m.length a3.d) (.bool Y2.p) (.slice b3.A Y2.l.length b3.c) (.slice b3.D Y2.m.length b3.d)
        try simp only [ps]
        refine wpAnyH_done (by kernel_rfl) ?_ _
        replace hHeld := hHeld.1
        have P_o3 := hHeld.block (rblk_below HPO.out HBQ.out) ne_o
        have kz := hHeld.base KW.out hle
        have og3 := owns_grown (OG.out.below HBQ.out) hHeld.2 (fun g e => by injection e with e; subst e; exact HOFF.out)
        have HF := Lib.hid (And.intro P_f (And.intro o3 (And.intro P_o3 (And.intro kz (And.intro hz3 og3)))))
        clear P_f o3 P_o3 kz hz3 og3 hHeld P_c
        go_wp2
        go_roundw
        case rel => exact ⟨j + 1, X2, Y2, a3, b3, hlt, by go_num, HX2.out.1, HX2.out.2, h3c, HF.out.1, HF.out.2.1.wide (by have h1 := HF.out.2.2.2.2.1; have h2 := HGL.out.1; omega) (by first | rw [size_put6]; exact Nat.le_refl _ | exact Nat.le_refl _), hap3, HF.out.2.2.2.2.2, HF.out.2.2.1, HF.out.2.2.2.1⟩
        case measure => simp [intOf]; omega
      · skip
        go_simp
        (go_at_call 75; ((with_reducible refine (HS.out _ HRq HRp).mono ?_); rintro e Wr1_8 ⟨am, bm, rfl, hcm, om, hapm, hb⟩))
        refine hK.out _ _ ⟨hHeld.1.below hb, rblk_below hHeld.2 hb⟩ (fun hH => ?_)
        replace hHeld := hH
        clear hK K hH
        replace P_c := rblk_below P_c hb
        replace HRw := HRw.below hb
        replace HRp := HRp.below hb
        replace HRq := HRq.below hb
        replace om := om.rds
        clear hb
        try simp only [ps]
        refine rd1 (i := 0) (by kernel_rfl) rfl (fun K hK => ?_)
        have t0 := rblk_cell P_c 0
        have t1 := rblk_cell P_c 1
        have t2 := rblk_cell P_c 2
        have t3 := rblk_cell P_c 3
        have t4 := rblk_cell P_c 4
        have t5 := rblk_cell P_c 5
        go_simp
        clear t0 t1 t2 t3 t4 t5
        refine hK.out _ _ hHeld (fun hH => ?_)
        clear hK K hH
        try simp only [ps]
        refine rd1 (i := 7) (by kernel_rfl) rfl (fun K hK => ?_)
        go_simp
        (go_at_call 74; ((with_reducible refine (HD.out _ _ _ _ _ HRw om).mono ?_); rintro e Wr1_9 ⟨a3, b3, rfl, h3c, o3, hap3, hb⟩))
        have hz3 := hHeld.1.lt
        refine hK.out _ _ ⟨hHeld.1.below hb, rblk_below hHeld.2 hb⟩ (fun hH => ?_)
        replace hHeld := hH
        clear hK K hH
        replace P_c := rblk_below P_c hb
        replace HRw := HRw.below hb
        replace HRp := HRp.below hb
        replace HRq := HRq.below hb
        replace om := om.below hb
        clear hb
        try simp only [ps]
        refine rd1 (i := 8) (by kernel_rfl) rfl (fun K hK => ?_)
        have t0 := rblk_cell P_c 0
        have q0 := rblk_free P_c 0
        have t1 := rblk_cell P_c 1
        have q1 := rblk_free P_c 1
        have t2 := rblk_cell P_c 2
        have q2 := rblk_free P_c 2
        have t3 := rblk_cell P_c 3
        have q3 := rblk_free P_c 3
        have t4 := rblk_cell P_c 4
        have q4 := rblk_free P_c 4
        have t5 := rblk_cell P_c 5
        have q5 := rblk_free P_c 5
        go_simp
        clear t0 q0 t1 q1 t2 q2 t3 q3 t4 q4 t5 q5
        refine hK.out _ _ ⟨hHeld.1.put6 (.bool X2.p) (.slice a3.A X2.l.length a3.c) (.slice a3.D X2.m.length a3.d) (.bool Y2.p) (.slice b3.A Y2.l.length b3.c) (.slice b3.D Y2.m.length b3.d), put6_other hHeld.2 ne_e (.bool X2.p) (.slice a3.A X2.l.length a3.c) (.slice a3.D X2.m.length a3.d) (.bool Y2.p) (.slice b3.A Y2.l.length b3.c) (.slice b3.D Y2.m.length b3.d)⟩ (fun hH => ?_)
        clear hK K hHeld
        have hHeld := hH
        clear hH
        have P_f := rblk_set (rblk_set (rblk_set (rblk_set (rblk_set (rblk_set P_c 0 (.bool X2.p)) 1 (.slice a3.A X2.l.length a3.c)) 2 (.slice a3.D X2.m.length a3.d)) 3 (.bool Y2.p)) 4 (.slice b3.A Y2.l.length b3.c)) 5 (.slice b3.D Y2.m.length b3.d)
        replace o3 := owns_put6 (r := gl) o3 (.inl hz3) (.bool X2.p) (.slice a3.A X2.l.length a3.c) (.slice a3.D X2.m.length a3.d) (.bool Y2.p) (.slice b3.A Y2.l.length b3.c) (.slice b3.D Y2.m.length b3.d)
        try simp only [ps]
        refine wpAnyH_done (by kernel_rfl) ?_ _
        replace hHeld := hHeld.1
        have P_o3 := hHeld.block (rblk_below HPO.out HBQ.out) ne_o
        have kz := hHeld.base KW.out hle
        have og3 := owns_grown (OG.out.below HBQ.out) hHeld.2 (fun g e => by injection e with e; subst e; exact HOFF.out)
        have HF := Lib.hid (And.intro P_f (And.intro o3 (And.intro P_o3 (And.intro kz (And.intro hz3 og3)))))
        clear P_f o3 P_o3 kz hz3 og3 hHeld P_c
        go_wp2
        go_roundw
        case rel => exact ⟨j + 1, X2, Y2, a3, b3, hlt, by go_num, HX2.out.1, HX2.out.2, h3c, HF.out.1, HF.out.2.1.wide (by have h1 := HF.out.2.2.2.2.1; have h2 := HGL.out.1; omega) (by first | rw [size_put6]; exact Nat.le_refl _ | exact Nat.le_refl _), hap3, HF.out.2.2.2.2.2, HF.out.2.2.1, HF.out.2.2.2.1⟩
        case measure => simp [intOf]; omega
    · obtain rfl : j = 3 := by omega
      rw [HALL.out] at hX hY
      have e1 : X = V := hX.trans HVT.out.1.symm
      have e2 : Y = T := hY.trans HVT.out.2.symm
      subst e1 e2
      clear hX hY
      have l0 := rblk_cell P_l 0
      have l1 := rblk_cell P_l 1
      have l2 := rblk_cell P_l 2
      have l3 := rblk_cell P_l 3
      have l4 := rblk_cell P_l 4
      have l5 := rblk_cell P_l 5
      have o0 := rblk_cell P_o 0
      have f0 := rblk_free P_o 0
      have o1 := rblk_cell P_o 1
      have f1 := rblk_free P_o 1
      have o2 := rblk_cell P_o 2
      have f2 := rblk_free P_o 2
      have o3 := rblk_cell P_o 3
      have f3 := rblk_free P_o 3
      have o4 := rblk_cell P_o 4
      have f4 := rblk_free P_o 4
      have o5 := rblk_cell P_o 5
      have f5 := rblk_free P_o 5
      go_wp2
      exact bodyPost_ret (v := .agg (r6 X Y ax bx)) (by simp [results, Tryz.results97, go_sem, o0, o1, o2, o3, o4, o5]) rfl ⟨ax, bx, rfl, hcx, owns_end6 ol (.inl (Nat.lt_succ_self _)) (by omega) (Nat.le_refl _) _ _ _ _ _ _, hapl, below_put6 kb (Nat.le_succ _) _ _ _ _ _ _⟩
end Go.Proofs.YtppdholccpgcpaaGreat
