/-
  InnerVector (spec).
-/
import Derived.Test.YtdoimhnhafmcaaaGreatInV
import Derived.Test.YtdoimhnhafmcaaaGreatPkE
import Derived.Test.YtdoimhnhafmcaaaGreatPkI
namespace Go.Proofs.YtdoimhnhafmcaaaGreat
open Go.ChangeShapes Go.WideShapes Go.ChangeAt Go.RowKit
open Go.ChangeMaps (open_string shut_string)
set_option linter.unusedVariables false
set_option linter.unusedSimpArgs false
set_option maxRecDepth 4000

attribute [local go_sem ↓] Go.wp_at_zero Go.wp_at_succ
theorem specmul_r (x u : R3) (a c : Ad) (w : World) (hxl : x.l.length ≤ 9223372036854775807) (hxm : x.m.length ≤ 9223372036854775807) (hul : u.l.length ≤ 9223372036854775807) (hum : u.m.length ≤ 9223372036854775807) (h : Rds w (rows x a)) (h' : Rds w (rows u c)) :
    Calls Tryz.prog 16 #[.agg #[.bool x.p, .slice a.A x.l.length a.c, .slice a.D x.m.length a.d], .agg #[.bool u.p, .slice c.A u.l.length c.c, .slice c.D u.m.length c.d]] w (MadeQ w.heap.size (ofO (binQ mulQ (valx x) (valx u))) w) :=
  (spec_rmul x.p u.p x.l x.m u.l u.m a.A a.D c.A c.D x.l.length x.m.length u.l.length u.m.length a.c a.d c.c c.d w rfl rfl rfl rfl hxl hxm hul hum (rows_rd h).1 (rows_rd h).2 (rows_rd h').1 (rows_rd h').2).mono fun e w' k => MadeR.toQ (x := ofO (binQ mulQ (valx x) (valx u))) k
theorem specadd_o (x u : Option Rat) (a c : Ad) (w : World) (hx : FitO x) (hu : FitO u) (h : Rds w (rows (ofO x) a)) (h' : Rds w (rows (ofO u) c)) :
    Calls Tryz.prog 15 #[.agg #[.bool (ofO x).p, .slice a.A (ofO x).l.length a.c, .slice a.D (ofO x).m.length a.d], .agg #[.bool (ofO u).p, .slice c.A (ofO u).l.length c.c, .slice c.D (ofO u).m.length c.d]] w (MadeQ w.heap.size (ofO (binQ addQ x u)) w) := by
  have l1 := hx.len
  have l2 := hu.len
  have k := (spec_radd (ofO x).p (ofO u).p (ofO x).l (ofO x).m (ofO u).l (ofO u).m a.A a.D c.A c.D _ _ _ _ a.c a.d c.c c.d w rfl rfl rfl rfl (by omega) (by omega) (by omega) (by omega) (rows_rd h).1 (rows_rd h).2 (rows_rd h').1 (rows_rd h').2).mono fun e w' k => MadeR.toQ (x := ofO (binQ addQ (valx (ofO x)) (valx (ofO u)))) k
  rw [valx_ofO hx, valx_ofO hu] at k
  exact k
set_option maxHeartbeats 4000000 in
theorem spec_inner (L M : List RV) (A D : Option Addr) (c d : Nat) (w : World) (hn : L.length ≤ 9223372036854775807) (hL : ∀ p, p ∈ L → LenQ p) (hA : RdS w A (flatQ L)) (hR : Rds w (lrowQ L)) (hn' : M.length ≤ 9223372036854775807) (hL' : ∀ p, p ∈ M → LenQ p) (hA' : RdS w D (flatQ M)) (hR' : Rds w (lrowQ M)) :
    Calls Tryz.prog 5 #[.slice A L.length c, .slice D M.length d] w (MadeQ w.heap.size (ofO (innO L M)) w) := by
  by_cases hne : L.length = M.length
  case neg =>
    have q : ((L.length : Int) != (M.length : Int)) = true := by rw [bne_iff_ne]; omega
    rw [show innO L M = none from if_neg hne]
    generalize L.length = n at *
    generalize M.length = m at *
    clear hA hR hL hA' hR' hL' hn hn' hne
    have P_o := heap_alloc_new w (.cells #[.bool false, .slice none 0 0, .slice none 0 0] 28)
    have kb := ba1 w (.cells #[.bool false, .slice none 0 0, .slice none 0 0] 28)
    have c_o0 : (w.alloc (.cells #[.bool false, .slice none 0 0, .slice none 0 0] 28)).cell? ⟨w.heap.size, 0, none⟩ = some (.bool false) := rblk_cell P_o 0
    have c_o1 : (w.alloc (.cells #[.bool false, .slice none 0 0, .slice none 0 0] 28)).cell? ⟨w.heap.size, 1, none⟩ = some (.slice none 0 0) := rblk_cell P_o 1
    have c_o2 : (w.alloc (.cells #[.bool false, .slice none 0 0, .slice none 0 0] 28)).cell? ⟨w.heap.size, 2, none⟩ = some (.slice none 0 0) := rblk_cell P_o 2
    have f_o0 := rblk_free P_o 0
    have f_o1 := rblk_free P_o 1
    have f_o2 := rblk_free P_o 2
    go_enter Tryz.func5, Tryz.ntmps5
    go_wp2
    exact bodyPost_ret (v := .agg #[.bool false, .slice none 0 0, .slice none 0 0]) (by simp [results, Tryz.results5, go_sem, c_o0, c_o1, c_o2]) rfl (none_rat _ _ _ kb)
  case pos =>
    have q : ((L.length : Int) != (M.length : Int)) = false := by rw [hne]; simp
    rw [show innO L M = accQ (some 0) (prs L M) from if_pos hne]
    have HFIN : Hid (∀ n, n = L.length → (prs L M).take n = prs L M) := Lib.hid (fun n hn => prs_all hn)
    obtain ⟨U, hU⟩ : ∃ U, U = ofO (accQ (some 0) (prs L M)) := ⟨_, rfl⟩
    rw [← hU]
    have HU := Lib.hid hU
    clear hU
    obtain ⟨n, hnn⟩ : ∃ n, n = L.length := ⟨_, rfl⟩
    have HN := Lib.hid (And.intro hnn (hnn.trans hne))
    rw [← hnn] at q hn ⊢
    rw [← hnn] at hne
    rw [← hne] at q ⊢
    have HZ := Lib.hid (fun W => show Calls Tryz.prog 14 #[.int .i64 0] W (MadeQ W.heap.size (ofO (some 0)) W) from (spec_rfi 0 W (by decide)).mono fun e w' k => ofO_zero_made k)
    unfold MadeQ at HZ
    have RA : Hid (∀ W, Below w.heap.size w W → (RdS W A (flatQ L) ∧ Rds W (lrowQ L)) ∧ RdS W D (flatQ M) ∧ Rds W (lrowQ M)) := Lib.hid (fun W hb => ⟨⟨hA.below hb, hR.below hb⟩, hA'.below hb, hR'.below hb⟩)
    have HLL := Lib.hid (And.intro hL hL')
    have HA0 : (prs L M).take 0 = [] := rfl
    clear hA hR hA' hR' hL hL' hne hnn hn'
    obtain ⟨Z0, hZ0⟩ : ∃ Z, Z = ofO (some (0 : Rat)) := ⟨_, rfl⟩
    rw [← hZ0] at HZ
    have HZ0 := Lib.hid hZ0
    clear hZ0
    have P_o := heap_alloc_new w (.cells #[.bool false, .slice none 0 0, .slice none 0 0] 28)
    have kb := ba1 w (.cells #[.bool false, .slice none 0 0, .slice none 0 0] 28)
    go_enter Tryz.func5, Tryz.ntmps5
    go_wp2_with fail
    generalize w.alloc (.cells #[.bool false, .slice none 0 0, .slice none 0 0] 28) = W1 at P_o kb ⊢
    refine (HZ.out _).mono ?_
    rintro e W2 ⟨a0, rfl, hc1, hc2, o0, hap0, hb⟩
    have hlo := rblk_lt P_o
    replace P_o := rblk_below P_o hb
    replace kb := bt kb hb
    clear hb
    have P_l := heap_alloc_new W2 (.cells #[.bool Z0.p, .slice a0.A Z0.l.length a0.c, .slice a0.D Z0.m.length a0.d] 28)
    have hb := ba1 W2 (.cells #[.bool Z0.p, .slice a0.A Z0.l.length a0.c, .slice a0.D Z0.m.length a0.d] 28)
    have hgl : w.heap.size < W2.heap.size := rblk_lt P_o
    replace P_o := rblk_below P_o hb
    replace o0 := (o0.below hb).wide (Nat.succ_le_of_lt hlo) hb.size
    replace kb := bt kb hb
    clear hb hlo
    go_wp2_with fail
    generalize W2.alloc (.cells #[.bool Z0.p, .slice a0.A Z0.l.length a0.c, .slice a0.D Z0.m.length a0.d] 28) = W3 at P_o P_l o0 kb ⊢
    generalize W2.heap.size = gl at P_l hgl ⊢
    have HG := Lib.hid hgl
    clear hgl
    go_loopw [17] (fun k w' => ∃ (j : Nat) (X : R3) (a : Ad), j ≤ n ∧ k = .int .i64 (j : Int) ∧ X = ofO (accQ (some 0) ((prs L M).take j)) ∧ (X.l.length ≤ a.c ∧ X.m.length ≤ a.d) ∧ w'.heap[gl]? = some (.cells #[.bool X.p, .slice a.A X.l.length a.c, .slice a.D X.m.length a.d] 28 (0, 0)) ∧ Owns (w.heap.size + 1) w'.heap.size w' (rows X a) ∧ Aparts (rows X a) ∧ w'.heap[w.heap.size]? = some (.cells #[.bool false, .slice none 0 0, .slice none 0 0] 28 (0, 0)) ∧ Below w.heap.size w w') (fun k _ => n - (intOf k).toNat)
    case atStart => exact ⟨0, Z0, a0, Nat.zero_le _, rfl, HZ0.out, ⟨hc1, hc2⟩, P_l, o0, hap0, P_o, kb⟩
    case round =>
      clear P_l o0 P_o kb hc1 hc2 hap0
      obtain ⟨j, X, ax, hj, rfl, hX, hcx, P_l, ol, hapl, P_o, kb⟩ := hrel
      by_cases hlt : j < n
      · obtain ⟨p, hp⟩ := getQ (L := L) (i := j) (by rw [← HN.out.1]; exact hlt)
        obtain ⟨q', hq⟩ := getQ (L := M) (i := j) (by rw [← HN.out.2]; exact hlt)
        obtain ⟨g, o, rfl, _, c0, c1, c2⟩ := (RA.out _ kb).1.1.three hp
        obtain ⟨g', o', rfl, _, _, _, _⟩ := (RA.out _ kb).2.1.three hq
        have lp := HLL.out.1 p (List.mem_of_getElem? hp)
        have lq := HLL.out.2 q' (List.mem_of_getElem? hq)
        have f1 : FitO (accQ (some 0) ((prs L M).take j)) := accQ_fit zeroQ_fit _
        have HM := Lib.hid (fun (a c : Ad) W h h' => specmul_r p.x q'.x a c W lp.1 lp.2 lq.1 lq.2 h h')
        have HS := Lib.hid (fun (a c : Ad) W h h' => specadd_o (accQ (some 0) ((prs L M).take j)) (binQ mulQ (valx p.x) (valx q'.x)) a c W f1 (binmul_fit _ _) h h')
        have HX2 : Hid (ofO (binQ addQ (accQ (some 0) ((prs L M).take j)) (binQ mulQ (valx p.x) (valx q'.x))) = ofO (accQ (some 0) ((prs L M).take (j + 1)))) := Lib.hid (by rw [prs_step hp hq, accQ_app])
        rw [← hX] at HS
        clear hX f1 lp lq
        generalize ofO (binQ addQ (accQ (some 0) ((prs L M).take j)) (binQ mulQ (valx p.x) (valx q'.x))) = X2 at HS HX2
        generalize ofO (binQ mulQ (valx p.x) (valx q'.x)) = V at HM HS
        unfold MadeQ at HM HS
        have HQ := Lib.hid hq
        have HP := Lib.hid hp
        have HR0 := Lib.hid ol
        have hi0 : (0 : Int) ≤ (j : Int) := by omega
        have hi1 : (j : Int) < (n : Int) := by omega
        have P_e := heap_alloc_new wr (.cells #[.bool p.x.p, .slice p.a.A p.x.l.length p.a.c, .slice p.a.D p.x.m.length p.a.d] 28)
        have hb := ba1 wr (.cells #[.bool p.x.p, .slice p.a.A p.x.l.length p.a.c, .slice p.a.D p.x.m.length p.a.d] 28)
        have hge := rblk_lt P_l
        have P_l2 := rblk_below P_l hb
        have P_o2 := rblk_below P_o hb
        have k2 := bt kb hb
        have ol2 := (ol.below hb).rds
        have hsz : wr.heap.size < (wr.alloc (.cells #[.bool p.x.p, .slice p.a.A p.x.l.length p.a.c, .slice p.a.D p.x.m.length p.a.d] 28)).heap.size := by rw [sz1]; omega
        clear hp hq ol hapl hcx P_l P_o kb hb
        go_wp2_with fail
        clear c0 c1 c2
        generalize wr.alloc (.cells #[.bool p.x.p, .slice p.a.A p.x.l.length p.a.c, .slice p.a.D p.x.m.length p.a.d] 28) = Wb at P_e P_l2 P_o2 k2 ol2 hsz ⊢
        generalize wr.heap.size = ge at P_e hge hsz ⊢
        have ne_e : gl ≠ ge := by omega
        have ne_o : gl ≠ w.heap.size := by have := HG.out; omega
        have hle : w.heap.size ≤ gl := by have := HG.out; omega
        have KW := Lib.hid k2
        have HC := Lib.hid (And.intro (RA.out _ k2).1.2 (RA.out _ k2).2)
        clear k2
        have KST := Keep3.start P_l2
        refine wp_region_held_drew (S := fun w' => Keep3 Wb w' gl) (by kernel_rfl) (KST.drew) (fun hHeld => ?_)
        have P_c : Wb.drew.heap[gl]? = some (.cells #[.bool X.p, .slice ax.A X.l.length ax.c, .slice ax.D X.m.length ax.d] 28 (0, 0)) := P_l2
        have HRw : Rds Wb.drew (rows X ax) := ol2.below ((Below.refl _ _).drew)
        have HRp : Rds Wb.drew (rows p.x p.a) := (HC.out.1.atQ HP.out).below ((Below.refl _ _).drew)
        have HRq : Rds Wb.drew (rows q'.x q'.a) := (HC.out.2.2.atQ HQ.out).below ((Below.refl _ _).drew)
        clear ol2
        refine tk (i := 1) (v := ?vg1_1) rfl (by kernel_rfl) (fun _ _ _ h => h) (Or.inl ⟨by rfl, ?hg1_1⟩) hHeld ?_
        case hg1_1 => (intro w hSw; (try dsimp only at hSw); have z0 := rblk_cell (hSw.block P_e ne_e) 0; have z1 := rblk_cell (hSw.block P_e ne_e) 1; have z2 := rblk_cell (hSw.block P_e ne_e) 2; clear hSw; go_simp; (try with_reducible rfl))
        try simp only [ps]
        refine tk (i := 2) (v := ?vg1_2) rfl (by kernel_rfl) (fun _ _ _ h => h) (Or.inl ⟨by rfl, ?hg1_2⟩) hHeld ?_
        case hg1_2 => (intro w hSw; (try dsimp only at hSw); clear hSw; go_simp; (try with_reducible rfl))
        try simp only [ps]
        refine tk (i := 3) (v := ?vg1_3) rfl (by kernel_rfl) (fun _ _ _ h => h) (Or.inl ⟨by rfl, ?hg1_3⟩) hHeld ?_
        case hg1_3 => (intro w hSw; (try dsimp only at hSw); clear hSw; go_simp; (try with_reducible rfl))
        try simp only [ps]
        refine tk (i := 4) (v := ?vg1_4) rfl (by kernel_rfl) (fun _ _ _ h => h) (Or.inl ⟨by rfl, ?hg1_4⟩) hHeld ?_
        case hg1_4 => (intro w hSw; (try dsimp only at hSw); clear hSw; go_simp; (try with_reducible rfl))
        try simp only [ps]
        refine tk (i := 5) (v := ?vg1_5) rfl (by kernel_rfl) (fun _ _ _ h => h) (Or.inl ⟨by rfl, ?hg1_5⟩) hHeld ?_
        case hg1_5 => (intro w hSw; (try dsimp only at hSw); obtain ⟨_, _, he, _, z0, z1, z2⟩ := (RA.out _ (hSw.base KW.out hle)).2.1.three HQ.out; cases he; clear hSw; go_simp; (try with_reducible rfl))
        try simp only [ps]
        refine wpAnyH_ready (rs := [0, 6]) (by kernel_rfl) (by simp) ?_
        refine rc1 rfl (fun K hK => ?_) (rc1 rfl (fun K hK => ?_) AllReadyH.nil)
        · skip
          have t0 := rblk_cell P_c 0
          have t1 := rblk_cell P_c 1
          have t2 := rblk_cell P_c 2
          go_simp
          clear t0 t1 t2
          refine hK.out _ _ hHeld (fun hH => ?_)
          clear hK K hH
          try simp only [ps]
          refine rd1 (i := 6) (by kernel_rfl) rfl (fun K hK => ?_)
          go_simp
          (go_at_call 16; ((with_reducible refine (HM.out _ _ _ HRp HRq).mono ?_); rintro e Wr1_6 ⟨am, rfl, hmx, hmy, om, hapm, hb⟩))
          refine hK.out _ _ (hHeld.below hb) (fun hH => ?_)
          replace hHeld := hH
          clear hK K hH
          replace P_c := rblk_below P_c hb
          replace HRw := HRw.below hb
          replace HRp := HRp.below hb
          replace HRq := HRq.below hb
          replace om := om.rds
          clear hb
          try simp only [ps]
          refine rd1 (i := 7) (by kernel_rfl) rfl (fun K hK => ?_)
          go_simp
          (go_at_call 15; ((with_reducible refine (HS.out _ _ _ HRw om).mono ?_); rintro e Wr1_7 ⟨a3, rfl, h3x, h3y, o3, hap3, hb⟩))
          have hz3 := hHeld.lt
          refine hK.out _ _ (hHeld.below hb) (fun hH => ?_)
          replace hHeld := hH
          clear hK K hH
          replace P_c := rblk_below P_c hb
          replace HRw := HRw.below hb
          replace HRp := HRp.below hb
          replace HRq := HRq.below hb
          replace om := om.below hb
          clear hb
          try simp only [ps]
          refine rd1 (i := 8) (by kernel_rfl) rfl (fun K hK => ?_)
          have t0 := rblk_cell P_c 0
          have q0 := rblk_free P_c 0
          have t1 := rblk_cell P_c 1
          have q1 := rblk_free P_c 1
          have t2 := rblk_cell P_c 2
          have q2 := rblk_free P_c 2
          go_simp
          clear t0 t1 t2 q0 q1 q2
          refine hK.out _ _ (hHeld.put3 (.bool X2.p) (.slice a3.A X2.l.length a3.c) (.slice a3.D X2.m.length a3.d)) (fun hH => ?_)
          clear hK K hHeld
          have hHeld := hH
          clear hH
          have P_f := rblk_set (rblk_set (rblk_set P_c 0 (.bool X2.p)) 1 (.slice a3.A X2.l.length a3.c)) 2 (.slice a3.D X2.m.length a3.d)
          replace o3 := owns_put3 (r := gl) o3 (.inl hz3) (.bool X2.p) (.slice a3.A X2.l.length a3.c) (.slice a3.D X2.m.length a3.d)
          try simp only [ps]
          refine wpAnyH_done (by kernel_rfl) ?_ _
          have P_o3 := hHeld.block P_o2 ne_o
          have kz := hHeld.base KW.out hle
          have HF := Lib.hid (And.intro P_f (And.intro o3 (And.intro P_o3 (And.intro kz hz3))))
          clear P_f o3 P_o3 kz hz3 hHeld P_c P_e
          go_wp2
          go_roundw
          case rel => exact ⟨j + 1, X2, a3, hlt, by go_num, HX2.out, ⟨h3x, h3y⟩, HF.out.1, HF.out.2.1.wide (by have h1 := HF.out.2.2.2.2; have h2 := HG.out; omega) (by first | rw [size_put3]; exact Nat.le_refl _ | exact Nat.le_refl _), hap3, HF.out.2.2.1, HF.out.2.2.2.1⟩
          case measure => simp [intOf]; omega
        · skip
          go_simp
          (go_at_call 16; ((with_reducible refine (HM.out _ _ _ HRp HRq).mono ?_); rintro e Wr1_8 ⟨am, rfl, hmx, hmy, om, hapm, hb⟩))
          refine hK.out _ _ (hHeld.below hb) (fun hH => ?_)
          replace hHeld := hH
          clear hK K hH
          replace P_c := rblk_below P_c hb
          replace HRw := HRw.below hb
          replace HRp := HRp.below hb
          replace HRq := HRq.below hb
          replace om := om.rds
          clear hb
          try simp only [ps]
          refine rd1 (i := 0) (by kernel_rfl) rfl (fun K hK => ?_)
          have t0 := rblk_cell P_c 0
          have t1 := rblk_cell P_c 1
          have t2 := rblk_cell P_c 2
          go_simp
          clear t0 t1 t2
          refine hK.out _ _ hHeld (fun hH => ?_)
          clear hK K hH
          try simp only [ps]
          refine rd1 (i := 7) (by kernel_rfl) rfl (fun K hK => ?_)
          go_simp
          (go_at_call 15; ((with_reducible refine (HS.out _ _ _ HRw om).mono ?_); rintro e Wr1_9 ⟨a3, rfl, h3x, h3y, o3, hap3, hb⟩))
          have hz3 := hHeld.lt
          refine hK.out _ _ (hHeld.below hb) (fun hH => ?_)
          replace hHeld := hH
          clear hK K hH
          replace P_c := rblk_below P_c hb
          replace HRw := HRw.below hb
          replace HRp := HRp.below hb
          replace HRq := HRq.below hb
          replace om := om.below hb
          clear hb
          try simp only [ps]
          refine rd1 (i := 8) (by kernel_rfl) rfl (fun K hK => ?_)
          have t0 := rblk_cell P_c 0
          have q0 := rblk_free P_c 0
          have t1 := rblk_cell P_c 1
          have q1 := rblk_free P_c 1
          have t2 := rblk_cell P_c 2
          have q2 := rblk_free P_c 2
          go_simp
          clear t0 t1 t2 q0 q1 q2
          refine hK.out _ _ (hHeld.put3 (.bool X2.p) (.slice a3.A X2.l.length a3.c) (.slice a3.D X2.m.length a3.d)) (fun hH => ?_)
          clear hK K hHeld
          have hHeld := hH
          clear hH
          have P_f := rblk_set (rblk_set (rblk_set P_c 0 (.bool X2.p)) 1 (.slice a3.A X2.l.length a3.c)) 2 (.slice a3.D X2.m.length a3.d)
          replace o3 := owns_put3 (r := gl) o3 (.inl hz3) (.bool X2.p) (.slice a3.A X2.l.length a3.c) (.slice a3.D X2.m.length a3.d)
          try simp only [ps]
          refine wpAnyH_done (by kernel_rfl) ?_ _
          have P_o3 := hHeld.block P_o2 ne_o
          have kz := hHeld.base KW.out hle
          have HF := Lib.hid (And.intro P_f (And.intro o3 (And.intro P_o3 (And.intro kz hz3))))
          clear P_f o3 P_o3 kz hz3 hHeld P_c P_e
          go_wp2
          go_roundw
          case rel => exact ⟨j + 1, X2, a3, hlt, by go_num, HX2.out, ⟨h3x, h3y⟩, HF.out.1, HF.out.2.1.wide (by have h1 := HF.out.2.2.2.2; have h2 := HG.out; omega) (by first | rw [size_put3]; exact Nat.le_refl _ | exact Nat.le_refl _), hap3, HF.out.2.2.1, HF.out.2.2.2.1⟩
          case measure => simp [intOf]; omega
      · obtain rfl : j = n := by omega
        rw [HFIN.out _ HN.out.1] at hX
        have e : X = U := hX.trans HU.out.symm
        subst e
        clear hX
        have c_l0 : wr.cell? ⟨gl, 0, none⟩ = some (.bool X.p) := rblk_cell P_l 0
        have c_l1 : wr.cell? ⟨gl, 1, none⟩ = some (.slice ax.A X.l.length ax.c) := rblk_cell P_l 1
        have c_l2 : wr.cell? ⟨gl, 2, none⟩ = some (.slice ax.D X.m.length ax.d) := rblk_cell P_l 2
        have c_o0 : wr.cell? ⟨w.heap.size, 0, none⟩ = some (.bool false) := rblk_cell P_o 0
        have c_o1 : wr.cell? ⟨w.heap.size, 1, none⟩ = some (.slice none 0 0) := rblk_cell P_o 1
        have c_o2 : wr.cell? ⟨w.heap.size, 2, none⟩ = some (.slice none 0 0) := rblk_cell P_o 2
        have f_o0 := rblk_free P_o 0
        have f_o1 := rblk_free P_o 1
        have f_o2 := rblk_free P_o 2
        go_wp2
        exact bodyPost_ret (v := .agg #[.bool X.p, .slice ax.A X.l.length ax.c, .slice ax.D X.m.length ax.d]) (by simp [results, Tryz.results5, go_sem, c_o0, c_o1, c_o2]) rfl ⟨ax, rfl, hcx.1, hcx.2, owns_end3 ol (.inl (Nat.lt_succ_self _)) (Nat.le_succ _) (Nat.le_refl _) _ _ _, hapl, below_put (below_put (below_put kb (by omega) _) (by omega) _) (by omega) _⟩
end Go.Proofs.YtdoimhnhafmcaaaGreat
