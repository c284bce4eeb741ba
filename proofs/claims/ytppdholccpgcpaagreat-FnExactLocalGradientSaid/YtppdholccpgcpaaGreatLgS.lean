/-
  The model's LocalGradient.
-/
import Derived.Test.YtppdholccpgcpaaGreatWg
import Derived.Test.YtppdholccpgcpaaGreatWp
import Derived.Test.YtppdholccpgcpaaGreatVal
import Derived.Test.YtppdholccpgcpaaGreatGrS
import Derived.Test.YtppdholccpgcpaaGreatSgR
import Derived.Test.YtppdholccpgcpaaGreatLawXs
namespace Go.Proofs.YtppdholccpgcpaaGreat
open Go.ChangeShapes Go.WideShapes Go.ChangeAt Go.RowKit
set_option linter.unusedVariables false
set_option linter.unusedSimpArgs false
set_option maxRecDepth 4000
attribute [local go_sem ↓] Go.wp_at_zero Go.wp_at_succ
theorem specaddp_o (x y u v : Option Rat) (a b c d : Ad) (w : World) (hx : FitO x) (hy : FitO y) (hu : FitO u) (hv : FitO v) (h : Rds w (rows (ofO x) a ++ rows (ofO y) b)) (h' : Rds w (rows (ofO u) c ++ rows (ofO v) d)) :
    Calls Tryz.prog 110 #[.agg (r6 (ofO x) (ofO y) a b), .agg (r6 (ofO u) (ofO v) c d)] w (MadeP w.heap.size (ofO (bothX (binQ addQ x u) (binQ addQ y v))) (ofO (bothY (binQ addQ x u) (binQ addQ y v))) w) := by
  have l1 := hx.len
  have l2 := hy.len
  have l3 := hu.len
  have l4 := hv.len
  have k := spec_addP (ofO x) (ofO y) (ofO u) (ofO v) a b c d w (by omega) (by omega) (by omega) (by omega) (by omega) (by omega) (by omega) (by omega) h h'
  rw [valx_ofO hx, valx_ofO hy, valx_ofO hu, valx_ofO hv] at k
  exact k
set_option maxHeartbeats 4000000 in
theorem spec_localGradient (L : List PV) (A : Option Addr) (c : Nat) (U : List RV) (D : Option Addr) (d : Nat) (w : World) (hn : L.length ≤ 9223372036854775807) (hL : ∀ p, p ∈ L → LenP p) (hC : ∀ p, p ∈ L → CapP p) (hA : RdS w A (flat L)) (hR : Rds w (lrow L))
    (hn' : U.length ≤ 9223372036854775807) (hL' : ∀ p, p ∈ U → LenQ p) (hA' : RdS w D (flatQ U)) (hR' : Rds w (lrowQ U)) :
    Calls Tryz.prog 43 #[.slice A L.length c, .slice D U.length d] w (MadeP w.heap.size (ofO (lgO L U).1) (ofO (lgO L U).2) w) := by
  have HO : Hid (∀ W, Below w.heap.size w W → Calls Tryz.prog 108 #[.slice A L.length c, .slice D U.length d] W (fun e w' => e = .returned (.bool (ok12 L U)) ∧ Below W.heap.size W w')) := Lib.hid (fun W hb => spec_ok12 L A c U D d W hn hL hC (hA.below hb) (hR.below hb) hn' hL' (hA'.below hb) (hR'.below hb))
  have HG : Hid (∀ W, Below w.heap.size w W → Calls Tryz.prog 37 #[.slice A L.length c] W (MadePS W.heap.size (gradL L) W)) := Lib.hid (fun W hb => spec_gradients L A c W hn hL hC (hA.below hb) (hR.below hb))
  have HZ := Lib.hid (fun W => show Calls Tryz.prog 109 #[.int .i64 0, .int .i64 0] W (MadeP W.heap.size (rfi 0) (rfi 0) W) from spec_pointAt 0 0 W (by decide) (by decide))
  have RA : Hid (∀ W, Below w.heap.size w W → RdS W D (flatQ U) ∧ Rds W (lrowQ U)) := Lib.hid (fun W hb => ⟨hA'.below hb, hR'.below hb⟩)
  have HLL := Lib.hid hL'
  have P_o := heap_alloc_new w (.cells z6 31)
  have kb := ba1 w (.cells z6 31)
  unfold MadeP at HZ
  unfold MadePS at HG
  unfold lgO
  have HGS := Lib.hid (grad_len L)
  generalize gradL L = G at HG HGS ⊢
  clear hA hR hA' hR' hL hL' hC hn
  generalize L.length = n at HO HG ⊢
  obtain ⟨m, hm⟩ : ∃ m, m = U.length := ⟨_, rfl⟩
  rw [← hm] at HO hn' ⊢
  have HM := Lib.hid hm
  clear hm
  cases hok : ok12 L U with
  | false =>
    rw [if_neg (by intro h; cases h.1)]
    rw [hok] at HO
    clear hok
    have c_o0 := rblk_cell P_o 0
    go_enter Tryz.func43, Tryz.ntmps43
    go_wp2_with fail
    generalize w.alloc (.cells z6 31) = W1 at P_o kb ⊢
    refine (HO.out _ kb).mono ?_
    rintro e W2 ⟨rfl, hb⟩
    replace P_o := rblk_below P_o hb
    replace kb := bt kb hb
    clear hb
    have o0 := rblk_cell P_o 0
    have f0 := rblk_free P_o 0
    have o1 := rblk_cell P_o 1
    have f1 := rblk_free P_o 1
    have o2 := rblk_cell P_o 2
    have f2 := rblk_free P_o 2
    have o3 := rblk_cell P_o 3
    have f3 := rblk_free P_o 3
    have o4 := rblk_cell P_o 4
    have f4 := rblk_free P_o 4
    have o5 := rblk_cell P_o 5
    have f5 := rblk_free P_o 5
    go_wp2
    exact bodyPost_ret (v := .agg z6) (by simp [results, Tryz.results43, go_sem, o0, o1, o2, o3, o4, o5]) rfl (none_point _ _ _ (below_put6 kb (Nat.le_refl _) _ _ _ _ _ _))
  | true =>
    have hU3 : U.length = 3 := by
      unfold ok12 at hok
      simp only [Bool.and_eq_true, decide_eq_true_eq] at hok
      exact hok.2.1
    rw [hok] at HO
    clear hok
    have HU3 := Lib.hid hU3
    rw [← HM.out] at hU3
    subst hU3
    by_cases h3 : G.length = 3
    case neg =>
      rw [if_neg (by intro h; exact h3 h.2)]
      go_enter Tryz.func43, Tryz.ntmps43
      go_wp2_with fail
      generalize w.alloc (.cells z6 31) = W1 at P_o kb ⊢
      refine (HO.out _ kb).mono ?_
      rintro e W2 ⟨rfl, hb⟩
      replace P_o := rblk_below P_o hb
      replace kb := bt kb hb
      clear hb
      go_wp2_with fail
      refine (HZ.out _).mono ?_
      rintro e W3 ⟨a0, b0, rfl, hcz, oz, hapz, hb⟩
      have hlo := rblk_lt P_o
      replace P_o := rblk_below P_o hb
      replace kb := bt kb hb
      clear hb
      have P_l := heap_alloc_new W3 (.cells (r6 (rfi 0) (rfi 0) a0 b0) 31)
      have hb := ba1 W3 (.cells (r6 (rfi 0) (rfi 0) a0 b0) 31)
      have hgl : w.heap.size < W3.heap.size := rblk_lt P_o
      replace P_o := rblk_below P_o hb
      replace oz := (oz.below hb).wide (Nat.succ_le_of_lt hlo) hb.size
      replace kb := bt kb hb
      clear hb hlo
      go_wp2_with fail
      generalize W3.alloc (.cells (r6 (rfi 0) (rfi 0) a0 b0) 31) = W4 at P_o P_l oz kb ⊢
      generalize W3.heap.size = gl at P_l hgl ⊢
      refine (HG.out _ kb).mono ?_
      rintro e W5 ⟨M, Ag, cg, rfl, _, hdat, _, og, _, hb⟩
      have hlg := rblk_lt P_l
      replace P_o := rblk_below P_o hb
      replace P_l := rblk_below P_l hb
      replace oz := oz.below hb
      replace oz := oz.wide (Nat.le_refl _) hb.size
      replace kb := bt kb hb
      clear hb
      have hml := dat_len hdat
      have q : ((M.length : Int) != 3) = true := by rw [bne_iff_ne]; omega
      generalize M.length = nm at q ⊢
      have o0 := rblk_cell P_o 0
      have f0 := rblk_free P_o 0
      have o1 := rblk_cell P_o 1
      have f1 := rblk_free P_o 1
      have o2 := rblk_cell P_o 2
      have f2 := rblk_free P_o 2
      have o3 := rblk_cell P_o 3
      have f3 := rblk_free P_o 3
      have o4 := rblk_cell P_o 4
      have f4 := rblk_free P_o 4
      have o5 := rblk_cell P_o 5
      have f5 := rblk_free P_o 5
      go_wp2
      exact bodyPost_ret (v := .agg z6) (by simp [results, Tryz.results43, go_sem, o0, o1, o2, o3, o4, o5]) rfl (none_point _ _ _ (below_put6 kb (Nat.le_refl _) _ _ _ _ _ _))
    case pos =>
    rw [if_pos ⟨rfl, h3⟩]
    have HALL : Hid ((lgP U G).take 3 = lgP U G) := Lib.hid (lgP_all HU3.out h3)
    obtain ⟨V, hV⟩ : ∃ V, V = ofO (lgA (lgP U G)).1 := ⟨_, rfl⟩
    obtain ⟨T, hT⟩ : ∃ T, T = ofO (lgA (lgP U G)).2 := ⟨_, rfl⟩
    rw [← hV, ← hT]
    have HVT := Lib.hid (And.intro hV hT)
    have H3 := Lib.hid h3
    clear hV hT h3
    go_enter Tryz.func43, Tryz.ntmps43
    go_wp2_with fail
    generalize w.alloc (.cells z6 31) = W1 at P_o kb ⊢
    refine (HO.out _ kb).mono ?_
    rintro e W2 ⟨rfl, hb⟩
    replace P_o := rblk_below P_o hb
    replace kb := bt kb hb
    clear hb
    go_wp2_with fail
    refine (HZ.out _).mono ?_
    rintro e W3 ⟨a0, b0, rfl, hcz, oz, hapz, hb⟩
    have hlo := rblk_lt P_o
    replace P_o := rblk_below P_o hb
    replace kb := bt kb hb
    clear hb
    have P_l := heap_alloc_new W3 (.cells (r6 (rfi 0) (rfi 0) a0 b0) 31)
    have hb := ba1 W3 (.cells (r6 (rfi 0) (rfi 0) a0 b0) 31)
    have hgl : w.heap.size < W3.heap.size := rblk_lt P_o
    replace P_o := rblk_below P_o hb
    replace oz := (oz.below hb).wide (Nat.succ_le_of_lt hlo) hb.size
    replace kb := bt kb hb
    clear hb hlo
    go_wp2_with fail
    generalize W3.alloc (.cells (r6 (rfi 0) (rfi 0) a0 b0) 31) = W4 at P_o P_l oz kb ⊢
    generalize W3.heap.size = gl at P_l hgl ⊢
    refine (HG.out _ kb).mono ?_
    rintro e W5 ⟨M, Ag, cg, rfl, _, hdat, _, og, _, hb⟩
    have hlg := rblk_lt P_l
    replace P_o := rblk_below P_o hb
    replace P_l := rblk_below P_l hb
    replace oz := oz.below hb
    replace oz := oz.wide (Nat.le_refl _) hb.size
    replace kb := bt kb hb
    clear hb
    have hM3 : M.length = 3 := (dat_len hdat).trans H3.out
    have HMM := Lib.hid (And.intro hM3 hdat)
    have HGL := Lib.hid (And.intro hgl hlg)
    rw [hM3]
    have q : ((3 : Int) != 3) = false := rfl
    clear hdat hgl hlg hM3
    go_wp2_with fail
    go_loopw [22] (fun k w' => ∃ (j : Nat) (X Y : R3) (a b : Ad), j ≤ 3 ∧ k = .int .i64 (j : Int) ∧ X = ofO (lgA ((lgP U G).take j)).1 ∧ Y = ofO (lgA ((lgP U G).take j)).2 ∧ (X.l.length ≤ a.c ∧ X.m.length ≤ a.d ∧ Y.l.length ≤ b.c ∧ Y.m.length ≤ b.d) ∧ w'.heap[gl]? = some (.cells (r6 X Y a b) 31 (0, 0)) ∧ Owns (w.heap.size + 1) w'.heap.size w' (rows X a ++ rows Y b) ∧ Aparts (rows X a ++ rows Y b) ∧ Owns W4.heap.size W5.heap.size w' (srow Ag M) ∧ w'.heap[w.heap.size]? = some (.cells z6 31 (0, 0)) ∧ Below w.heap.size w w') (fun k _ => 3 - (intOf k).toNat)
    case atStart => exact ⟨0, rfi 0, rfi 0, a0, b0, by omega, rfl, rfl, rfl, hcz, P_l, oz, hapz, og, P_o, kb⟩
    case round =>
      clear P_l oz P_o kb hcz hapz og
      obtain ⟨j, X, Y, ax, bx, hj, rfl, hX, hY, hcx, P_l, ol, hapl, og, P_o, kb⟩ := hrel
      by_cases hlt : j < 3
      · obtain ⟨p, hp⟩ := getQ (L := U) (i := j) (by rw [HU3.out]; exact hlt)
        obtain ⟨q', hq⟩ := getP (L := M) (i := j) (by rw [HMM.out.1]; exact hlt)
        obtain ⟨qg, hqg, ex, ey⟩ := dat_get HMM.out.2.symm hq
        obtain ⟨g, o, rfl, _, _, _, _⟩ := (RA.out _ kb).1.three hp
        obtain ⟨g', o', rfl, _, _, _, _, _, _, _⟩ := (og.rds.hd).six hq
        have lp := HLL.out p (List.mem_of_getElem? hp)
        have lq : LenP q' := by
          have k := HGS.out qg (List.mem_of_getElem? hqg)
          unfold LenP at k ⊢
          rw [← ex, ← ey]; exact k
        have HS := Lib.hid (fun W h h' => show Calls Tryz.prog 111 #[.agg (r3 p.x p.a), .agg (p6 q')] W (MadeP W.heap.size (ofO (scX (valx p.x) (valx q'.x) (valx q'.y))) (ofO (scY (valx p.x) (valx q'.x) (valx q'.y))) W) from spec_scaleP p.x q'.x q'.y p.a q'.a q'.b W lp.1 lp.2 lq.1.1 lq.1.2 lq.2.1 lq.2.2 h h')
        have HD := Lib.hid (fun (a b c d : Ad) W h h' => specaddp_o (lgA ((lgP U G).take j)).1 (lgA ((lgP U G).take j)).2 (scX (valx p.x) (valx q'.x) (valx q'.y)) (scY (valx p.x) (valx q'.x) (valx q'.y)) a b c d W (lgA_fit _).1 (lgA_fit _).2 (bothX_fit (binmul_fit _ _)) (bothY_fit (binmul_fit _ _)) h h')
        have HX2 : Hid (ofO (bothX (binQ addQ (lgA ((lgP U G).take j)).1 (scX (valx p.x) (valx q'.x) (valx q'.y))) (binQ addQ (lgA ((lgP U G).take j)).2 (scY (valx p.x) (valx q'.x) (valx q'.y)))) = ofO (lgA ((lgP U G).take (j + 1))).1 ∧ ofO (bothY (binQ addQ (lgA ((lgP U G).take j)).1 (scX (valx p.x) (valx q'.x) (valx q'.y))) (binQ addQ (lgA ((lgP U G).take j)).2 (scY (valx p.x) (valx q'.x) (valx q'.y)))) = ofO (lgA ((lgP U G).take (j + 1))).2) := Lib.hid (by
          rw [lgP_step hp hqg, lgA_app, ex, ey]; exact ⟨rfl, rfl⟩)
        rw [← hX, ← hY] at HD
        generalize ofO (bothX (binQ addQ (lgA ((lgP U G).take j)).1 (scX (valx p.x) (valx q'.x) (valx q'.y))) (binQ addQ (lgA ((lgP U G).take j)).2 (scY (valx p.x) (valx q'.x) (valx q'.y)))) = X2 at HD HX2
        generalize ofO (bothY (binQ addQ (lgA ((lgP U G).take j)).1 (scX (valx p.x) (valx q'.x) (valx q'.y))) (binQ addQ (lgA ((lgP U G).take j)).2 (scY (valx p.x) (valx q'.x) (valx q'.y)))) = Y2 at HD HX2
        generalize ofO (scX (valx p.x) (valx q'.x) (valx q'.y)) = SX at HS HD
        generalize ofO (scY (valx p.x) (valx q'.x) (valx q'.y)) = SY at HS HD
        unfold MadeP at HS HD
        have HP := Lib.hid hp
        have HQ := Lib.hid hq
        have RG := Lib.hid og.rds
        have OG := Lib.hid og
        have HOFF := Lib.hid (offG_owns og HGL.out.2)
        have hi0 : (0 : Int) ≤ (j : Int) := by omega
        have hi1 : (j : Int) < 3 := by omega
        have ne_o : gl ≠ w.heap.size := by have := HGL.out.1; omega
        have hle : w.heap.size ≤ gl := by have := HGL.out.1; omega
        have KW := Lib.hid kb
        have HRL := Lib.hid (And.intro ol.rds (And.intro ((RA.out _ kb).2.atQ hp) (og.rds.tl.at hq)))
        have HPO := Lib.hid P_o
        have KST := Keep6.start P_l
        have HPL := Lib.hid P_l
        clear hX hY hp hq hqg ex ey lp lq og ol hapl hcx P_l P_o kb
        go_wp2_with fail
        refine wp_region_held_drew (S := fun w' => Keep6 wr w' gl) (by kernel_rfl) (KST.drew) (fun hHeld => ?_)
        have P_c : wr.drew.heap[gl]? = some (.cells (r6 X Y ax bx) 31 (0, 0)) := HPL.out
        have HRw : Rds wr.drew (rows X ax ++ rows Y bx) := HRL.out.1.below ((Below.refl _ _).drew)
        have HRp : Rds wr.drew (qrow p) := HRL.out.2.1.below ((Below.refl _ _).drew)
        have HRq : Rds wr.drew (prow q') := HRL.out.2.2.below ((Below.refl _ _).drew)
        refine tk (i := 1) (v := ?vg1_1) rfl (by kernel_rfl) (fun _ _ _ h => h) (Or.inl ⟨by rfl, ?hg1_1⟩) hHeld ?_
        case hg1_1 => (intro w hSw; (try dsimp only at hSw); clear hSw; go_simp; (try with_reducible rfl))
        try simp only [ps]
        refine tk (i := 2) (v := ?vg1_2) rfl (by kernel_rfl) (fun _ _ _ h => h) (Or.inl ⟨by rfl, ?hg1_2⟩) hHeld ?_
        case hg1_2 => (intro w hSw; (try dsimp only at hSw); clear hSw; go_simp; (try with_reducible rfl))
        try simp only [ps]
        refine tk (i := 3) (v := ?vg1_3) rfl (by kernel_rfl) (fun _ _ _ h => h) (Or.inl ⟨by rfl, ?hg1_3⟩) hHeld ?_
        case hg1_3 => (intro w hSw; (try dsimp only at hSw); clear hSw; go_simp; (try with_reducible rfl))
        try simp only [ps]
        refine tk (i := 4) (v := ?vg1_4) rfl (by kernel_rfl) (fun _ _ _ h => h) (Or.inl ⟨by rfl, ?hg1_4⟩) hHeld ?_
        case hg1_4 => (intro w hSw; (try dsimp only at hSw); obtain ⟨_, _, he, _, z0, z1, z2⟩ := (RA.out _ (hSw.base KW.out hle)).1.three HP.out; cases he; clear hSw; go_simp; (try with_reducible rfl))
        try simp only [ps]
        refine tk (i := 5) (v := ?vg1_5) rfl (by kernel_rfl) (fun _ _ _ h => h) (Or.inl ⟨by rfl, ?hg1_5⟩) hHeld ?_
        case hg1_5 => (intro w hSw; (try dsimp only at hSw); clear hSw; go_simp; (try with_reducible rfl))
        try simp only [ps]
        refine tk (i := 6) (v := ?vg1_6) rfl (by kernel_rfl) (fun _ _ _ h => h) (Or.inl ⟨by rfl, ?hg1_6⟩) hHeld ?_
        case hg1_6 => (intro w hSw; (try dsimp only at hSw); clear hSw; go_simp; (try with_reducible rfl))
        try simp only [ps]
        refine tk (i := 7) (v := ?vg1_7) rfl (by kernel_rfl) (fun _ _ _ h => h) (Or.inl ⟨by rfl, ?hg1_7⟩) hHeld ?_
        case hg1_7 => (intro w hSw; (try dsimp only at hSw); clear hSw; go_simp; (try with_reducible rfl))
        try simp only [ps]
        refine tk (i := 8) (v := ?vg1_8) rfl (by kernel_rfl) (fun _ _ _ h => h) (Or.inl ⟨by rfl, ?hg1_8⟩) hHeld ?_
        case hg1_8 => (intro w hSw; (try dsimp only at hSw); obtain ⟨_, _, he, _, z0, z1, z2, z3, z4, z5⟩ := (grown_rds hSw.2 RG.out HOFF.out).hd.six HQ.out; cases he; clear hSw; go_simp; (try with_reducible rfl))
        try simp only [ps]
        refine wpAnyH_ready (rs := [0, 9]) (by kernel_rfl) (by simp) ?_
        refine rc1 rfl (fun K hK => ?_) (rc1 rfl (fun K hK => ?_) AllReadyH.nil)
        · skip
          have t0 := rblk_cell P_c 0
          have t1 := rblk_cell P_c 1
          have t2 := rblk_cell P_c 2
          have t3 := rblk_cell P_c 3
          have t4 := rblk_cell P_c 4
          have t5 := rblk_cell P_c 5
          go_simp
          clear t0 t1 t2 t3 t4 t5
          refine hK.out _ _ hHeld (fun hH => ?_)
          clear hK K hH
          try simp only [ps]
          refine rd1 (i := 9) (by kernel_rfl) rfl (fun K hK => ?_)
          go_simp
          (go_at_call 111; ((with_reducible refine (HS.out _ HRp HRq).mono ?_); rintro e Wr1_9 ⟨am, bm, rfl, hcm, om, hapm, hb⟩))
          refine hK.out _ _ (hHeld.below hb) (fun hH => ?_)
          replace hHeld := hH
          clear hK K hH
          replace P_c := rblk_below P_c hb
          replace HRw := HRw.below hb
          replace HRp := HRp.below hb
          replace HRq := HRq.below hb
          replace om := om.rds
          clear hb
          try simp only [ps]
          refine rd1 (i := 10) (by kernel_rfl) rfl (fun K hK => ?_)
          go_simp
          (go_at_call 110; ((with_reducible refine (HD.out _ _ _ _ _ HRw om).mono ?_); rintro e Wr1_10 ⟨a3, b3, rfl, h3c, o3, hap3, hb⟩))
          have hz3 := hHeld.lt
          refine hK.out _ _ (hHeld.below hb) (fun hH => ?_)
          replace hHeld := hH
          clear hK K hH
          replace P_c := rblk_below P_c hb
          replace HRw := HRw.below hb
          replace HRp := HRp.below hb
          replace HRq := HRq.below hb
          replace om := om.below hb
          clear hb
          try simp only [ps]
          refine rd1 (i := 11) (by kernel_rfl) rfl (fun K hK => ?_)
          have t0 := rblk_cell P_c 0
          have q0 := rblk_free P_c 0
          have t1 := rblk_cell P_c 1
          have q1 := rblk_free P_c 1
          have t2 := rblk_cell P_c 2
          have q2 := rblk_free P_c 2
          have t3 := rblk_cell P_c 3
          have q3 := rblk_free P_c 3
          have t4 := rblk_cell P_c 4
          have q4 := rblk_free P_c 4
          have t5 := rblk_cell P_c 5
          have q5 := rblk_free P_c 5
          go_simp
          clear t0 q0 t1 q1 t2 q2 t3 q3 t4 q4 t5 q5
          refine hK.out _ _ (hHeld.put6 (.bool X2.p) (.slice a3.A X2.l.length a3.c) (.slice a3.D X2.m.length a3.d) (.bool Y2.p) (.slice b3.A Y2.l.length b3.c) (.slice b3.D Y2.m.length b3.d)) (fun hH => ?_)
          clear hK K hHeld
          have hHeld := hH
          clear hH
          have P_f := rblk_set (rblk_set (rblk_set (rblk_set (rblk_set (rblk_set P_c 0 (.bool X2.p)) 1 (.slice a3.A X2.l.length a3.c)) 2 (.slice a3.D X2.m.length a3.d)) 3 (.bool Y2.p)) 4 (.slice b3.A Y2.l.length b3.c)) 5 (.slice b3.D Y2.m.length b3.d)
          replace o3 := owns_put6 (r := gl) o3 (.inl hz3) (.bool X2.p) (.slice a3.A X2.l.length a3.c) (.slice a3.D X2.m.length a3.d) (.bool Y2.p) (.slice b3.A Y2.l.length b3.c) (.slice b3.D Y2.m.length b3.d)
          try simp only [ps]
          refine wpAnyH_done (by kernel_rfl) ?_ _
          have P_o3 := hHeld.block HPO.out ne_o
          have kz := hHeld.base KW.out hle
          have og3 := owns_grown OG.out hHeld.2 (fun g e => by injection e with e; subst e; exact HOFF.out)
          have HF := Lib.hid (And.intro P_f (And.intro o3 (And.intro P_o3 (And.intro kz (And.intro hz3 og3)))))
          clear P_f o3 P_o3 kz hz3 og3 hHeld P_c
          go_wp2
          go_roundw
          case rel => exact ⟨j + 1, X2, Y2, a3, b3, hlt, by go_num, HX2.out.1, HX2.out.2, h3c, HF.out.1, HF.out.2.1.wide (by have h1 := HF.out.2.2.2.2.1; have h2 := HGL.out.1; omega) (by first | rw [size_put6]; exact Nat.le_refl _ | exact Nat.le_refl _), hap3, HF.out.2.2.2.2.2, HF.out.2.2.1, HF.out.2.2.2.1⟩
          case measure => simp [intOf]; omega
        · skip
          go_simp
          (go_at_call 111; ((with_reducible refine (HS.out _ HRp HRq).mono ?_); rintro e Wr1_11 ⟨am, bm, rfl, hcm, om, hapm, hb⟩))
          refine hK.out _ _ (hHeld.below hb) (fun hH => ?_)
          replace hHeld := hH
          clear hK K hH
          replace P_c := rblk_below P_c hb
          replace HRw := HRw.below hb
          replace HRp := HRp.below hb
          replace HRq := HRq.below hb
          replace om := om.rds
          clear hb
          try simp only [ps]
          refine rd1 (i := 0) (by kernel_rfl) rfl (fun K hK => ?_)
          have t0 := rblk_cell P_c 0
          have t1 := rblk_cell P_c 1
          have t2 := rblk_cell P_c 2
          have t3 := rblk_cell P_c 3
          have t4 := rblk_cell P_c 4
          have t5 := rblk_cell P_c 5
          go_simp
          clear t0 t1 t2 t3 t4 t5
          refine hK.out _ _ hHeld (fun hH => ?_)
          clear hK K hH
          try simp only [ps]
          refine rd1 (i := 10) (by kernel_rfl) rfl (fun K hK => ?_)
          go_simp
          (go_at_call 110; ((with_reducible refine (HD.out _ _ _ _ _ HRw om).mono ?_); rintro e Wr1_12 ⟨a3, b3, rfl, h3c, o3, hap3, hb⟩))
          have hz3 := hHeld.lt
          refine hK.out _ _ (hHeld.below hb) (fun hH => ?_)
          replace hHeld := hH
          clear hK K hH
          replace P_c := rblk_below P_c hb
          replace HRw := HRw.below hb
          replace HRp := HRp.below hb
          replace HRq := HRq.below hb
          replace om := om.below hb
          clear hb
          try simp only [ps]
          refine rd1 (i := 11) (by kernel_rfl) rfl (fun K hK => ?_)
          have t0 := rblk_cell P_c 0
          have q0 := rblk_free P_c 0
          have t1 := rblk_cell P_c 1
          have q1 := rblk_free P_c 1
          have t2 := rblk_cell P_c 2
          have q2 := rblk_free P_c 2
          have t3 := rblk_cell P_c 3
          have q3 := rblk_free P_c 3
          have t4 := rblk_cell P_c 4
          have q4 := rblk_free P_c 4
          have t5 := rblk_cell P_c 5
          have q5 := rblk_free P_c 5
          go_simp
          clear t0 q0 t1 q1 t2 q2 t3 q3 t4 q4 t5 q5
          refine hK.out _ _ (hHeld.put6 (.bool X2.p) (.slice a3.A X2.l.length a3.c) (.slice a3.D X2.m.length a3.d) (.bool Y2.p) (.slice b3.A Y2.l.length b3.c) (.slice b3.D Y2.m.length b3.d)) (fun hH => ?_)
          clear hK K hHeld
          have hHeld := hH
          clear hH
          have P_f := rblk_set (rblk_set (rblk_set (rblk_set (rblk_set (rblk_set P_c 0 (.bool X2.p)) 1 (.slice a3.A X2.l.length a3.c)) 2 (.slice a3.D X2.m.length a3.d)) 3 (.bool Y2.p)) 4 (.slice b3.A Y2.l.length b3.c)) 5 (.slice b3.D Y2.m.length b3.d)
          replace o3 := owns_put6 (r := gl) o3 (.inl hz3) (.bool X2.p) (.slice a3.A X2.l.length a3.c) (.slice a3.D X2.m.length a3.d) (.bool Y2.p) (.slice b3.A Y2.l.length b3.c) (.slice b3.D Y2.m.length b3.d)
          try simp only [ps]
          refine wpAnyH_done (by kernel_rfl) ?_ _
          have P_o3 := hHeld.block HPO.out ne_o
          have kz := hHeld.base KW.out hle
          have og3 := owns_grown OG.out hHeld.2 (fun g e => by injection e with e; subst e; exact HOFF.out)
          have HF := Lib.hid (And.intro P_f (And.intro o3 (And.intro P_o3 (And.intro kz (And.intro hz3 og3)))))
          clear P_f o3 P_o3 kz hz3 og3 hHeld P_c
          go_wp2
          go_roundw
          case rel => exact ⟨j + 1, X2, Y2, a3, b3, hlt, by go_num, HX2.out.1, HX2.out.2, h3c, HF.out.1, HF.out.2.1.wide (by have h1 := HF.out.2.2.2.2.1; have h2 := HGL.out.1; omega) (by first | rw [size_put6]; exact Nat.le_refl _ | exact Nat.le_refl _), hap3, HF.out.2.2.2.2.2, HF.out.2.2.1, HF.out.2.2.2.1⟩
          case measure => simp [intOf]; omega
      · obtain rfl : j = 3 := by omega
        rw [HALL.out] at hX hY
        have e1 : X = V := hX.trans HVT.out.1.symm
        have e2 : Y = T := hY.trans HVT.out.2.symm
        subst e1 e2
        clear hX hY
        have l0 := rblk_cell P_l 0
        have l1 := rblk_cell P_l 1
        have l2 := rblk_cell P_l 2
        have l3 := rblk_cell P_l 3
        have l4 := rblk_cell P_l 4
        have l5 := rblk_cell P_l 5
        have o0 := rblk_cell P_o 0
        have f0 := rblk_free P_o 0
        have o1 := rblk_cell P_o 1
        have f1 := rblk_free P_o 1
        have o2 := rblk_cell P_o 2
        have f2 := rblk_free P_o 2
        have o3 := rblk_cell P_o 3
        have f3 := rblk_free P_o 3
        have o4 := rblk_cell P_o 4
        have f4 := rblk_free P_o 4
        have o5 := rblk_cell P_o 5
        have f5 := rblk_free P_o 5
        go_wp2
        exact bodyPost_ret (v := .agg (r6 X Y ax bx)) (by simp [results, Tryz.results43, go_sem, o0, o1, o2, o3, o4, o5]) rfl ⟨ax, bx, rfl, hcx, owns_end6 ol (.inl (Nat.lt_succ_self _)) (Nat.le_succ _) (Nat.le_refl _) _ _ _ _ _ _, hapl, below_put6 kb (Nat.le_refl _) _ _ _ _ _ _⟩
end Go.Proofs.YtppdholccpgcpaaGreat
