/-
  InnerVector (the program).
-/
import Derived.Test.YtdoimhnhafmcaaaGreatInV
import Derived.Test.YtdoimhnhafmcaaaGreatIsV
import Derived.Test.YtdoimhnhafmcaaaGreatPtQ
import Derived.Test.YtdoimhnhafmcaaaGreatPkF
import Derived.Test.YtdoimhnhafmcaaaGreatPkI
namespace Go.Proofs.YtdoimhnhafmcaaaGreat
open Go.ChangeShapes Go.WideShapes Go.ChangeAt Go.RowKit
open Go.ChangeMaps (open_string shut_string)
set_option linter.unusedVariables false
set_option linter.unusedSimpArgs false
set_option maxRecDepth 4000

attribute [local go_sem ↓] Go.wp_at_zero Go.wp_at_succ
theorem accQ_none (l : List (R3 × R3)) : accQ none l = none := by
  induction l with
  | nil => rfl
  | cons x l ih => exact ih
theorem binQ_none (F : Rat → Rat → Option Rat) (x : Option Rat) : binQ F x none = none := by cases x <;> rfl
theorem accQ_bad {l : List (R3 × R3)} {x : R3 × R3} (hx : x ∈ l) (h : valx x.1 = none ∨ valx x.2 = none) (o : Option Rat) : accQ o l = none := by
  induction l generalizing o with
  | nil => cases hx
  | cons y l ih =>
    show accQ (binQ addQ o (binQ mulQ (valx y.1) (valx y.2))) l = none
    rcases List.mem_cons.1 hx with rfl | hx
    · have e : binQ mulQ (valx x.1) (valx x.2) = none := by
        rcases h with h | h
        · rw [h]; rfl
        · rw [h]; exact binQ_none _ _
      rw [e, binQ_none, accQ_none]
    · exact ih hx _
theorem validB_no {L : List RV} (h : validB L = false) : ∃ (i : Nat) (p : RV), L[i]? = some p ∧ okx p.x = false := by
  unfold validB at h
  rw [List.all_eq_false] at h
  obtain ⟨p, hp, e⟩ := h
  obtain ⟨i, hi⟩ := List.getElem?_of_mem hp
  exact ⟨i, p, hi, by simpa using e⟩
theorem prs_mem {L M : List RV} {i : Nat} {p q : RV} (hp : L[i]? = some p) (hq : M[i]? = some q) : (p.x, q.x) ∈ prs L M := by
  apply List.mem_of_getElem? (i := i)
  unfold prs datQ
  rw [List.getElem?_zip_eq_some]
  simp [hp, hq]
theorem inner_bad {L M : List RV} (hne : L.length = M.length) (h : validB L = false ∨ validB M = false) : innO L M = none := by
  rw [show innO L M = accQ (some 0) (prs L M) from if_pos hne]
  rcases h with h | h
  · obtain ⟨i, p, hp, e⟩ := validB_no h
    obtain ⟨q, hq⟩ := getQ (L := M) (i := i) (by rw [← hne]; exact lt_of_getQ hp)
    exact accQ_bad (prs_mem hp hq) (.inl (valx_no e)) _
  · obtain ⟨i, q, hq, e⟩ := validB_no h
    obtain ⟨p, hp⟩ := getQ (L := L) (i := i) (by rw [hne]; exact lt_of_getQ hq)
    exact accQ_bad (prs_mem hp hq) (.inr (valx_no e)) _
theorem times_v (x u : R3) (hx : okx x = true) (hu : okx u = true) (a c : Ad) (w : World) (h : Rds w (rows x a)) (h' : Rds w (rows u c)) :
    Calls Tryz.prog 21 #[.agg #[.bool x.p, .slice a.A x.l.length a.c, .slice a.D x.m.length a.d], .agg #[.bool u.p, .slice c.A u.l.length c.c, .slice c.D u.m.length c.d]] w (MadeQ w.heap.size (ofO (binQ mulQ (valx x) (valx u))) w) := by
  obtain ⟨r, e1, rfl, f⟩ := valx_yes hx
  obtain ⟨s, e2, rfl, g⟩ := valx_yes hu
  rw [e1, e2]
  exact times_r (some r) (some s) a c w (fitO_some f) (fitO_some g) h h'
set_option maxHeartbeats 4000000 in
theorem impl_inner (L M : List RV) (A D : Option Addr) (c d : Nat) (w : World) (hn : L.length ≤ 9223372036854775807) (hL : ∀ p, p ∈ L → LenQ p) (hA : RdS w A (flatQ L)) (hR : Rds w (lrowQ L)) (hn' : M.length ≤ 9223372036854775807) (hL' : ∀ p, p ∈ M → LenQ p) (hA' : RdS w D (flatQ M)) (hR' : Rds w (lrowQ M)) :
    Calls Tryz.prog 7 #[.slice A L.length c, .slice D M.length d] w (MadeQ w.heap.size (ofO (innO L M)) w) := by
  have RA : Hid (∀ W, Below w.heap.size w W → (RdS W A (flatQ L) ∧ Rds W (lrowQ L)) ∧ RdS W D (flatQ M) ∧ Rds W (lrowQ M)) := Lib.hid (fun W hb => ⟨⟨hA.below hb, hR.below hb⟩, hA'.below hb, hR'.below hb⟩)
  have HV1 := Lib.hid (fun W hb => isVector_q L A c M.length W hn hn' hL (RA.out W hb).1.1 (RA.out W hb).1.2)
  have HV2 := Lib.hid (fun W hb => isVector_q M D d L.length W hn' hn hL' (RA.out W hb).2.1 (RA.out W hb).2.2)
  have HLL := Lib.hid (And.intro hL hL')
  clear hA hR hA' hR' hL hL'
  have P_o := heap_alloc_new w (.cells #[.bool false, .slice none 0 0, .slice none 0 0] 28)
  have kb := ba1 w (.cells #[.bool false, .slice none 0 0, .slice none 0 0] 28)
  by_cases hb1 : (decide (L.length = M.length) && validB L) = true
  case neg =>
    rw [show innO L M = none by
      by_cases hne : L.length = M.length
      · exact inner_bad hne (.inl (by simpa [hne] using hb1))
      · exact if_neg hne]
    rw [Bool.not_eq_true] at hb1
    rw [hb1] at HV1
    clear hb1
    generalize L.length = n at *
    generalize M.length = m at *
    go_enter Tryz.func7, Tryz.ntmps7
    go_wp2_with fail
    generalize w.alloc (.cells #[.bool false, .slice none 0 0, .slice none 0 0] 28) = W1 at P_o kb ⊢
    refine (HV1.out _ kb).mono ?_
    rintro e W2 ⟨rfl, hb⟩
    replace P_o := rblk_below P_o hb
    replace kb := bt kb hb
    clear hb
    have c_o0 : W2.cell? ⟨w.heap.size, 0, none⟩ = some (.bool false) := rblk_cell P_o 0
    have c_o1 : W2.cell? ⟨w.heap.size, 1, none⟩ = some (.slice none 0 0) := rblk_cell P_o 1
    have c_o2 : W2.cell? ⟨w.heap.size, 2, none⟩ = some (.slice none 0 0) := rblk_cell P_o 2
    have f_o0 := rblk_free P_o 0
    have f_o1 := rblk_free P_o 1
    have f_o2 := rblk_free P_o 2
    go_wp2
    exact bodyPost_ret (v := .agg #[.bool false, .slice none 0 0, .slice none 0 0]) (by simp [results, Tryz.results7, go_sem, c_o0, c_o1, c_o2]) rfl (none_rat _ _ _ (below_put3 kb (Nat.le_refl _) _ _ _))
  rw [hb1] at HV1
  simp only [Bool.and_eq_true, decide_eq_true_eq] at hb1
  obtain ⟨hne, hv1⟩ := hb1
  rw [show (decide (M.length = L.length) && validB M) = validB M by simp [hne]] at HV2
  cases hv2 : validB M with
  | false =>
    rw [inner_bad hne (.inr hv2)]
    rw [hv2] at HV2
    clear hv1 hv2 hne
    generalize L.length = n at *
    generalize M.length = m at *
    go_enter Tryz.func7, Tryz.ntmps7
    go_wp2_with fail
    generalize w.alloc (.cells #[.bool false, .slice none 0 0, .slice none 0 0] 28) = W1 at P_o kb ⊢
    refine (HV1.out _ kb).mono ?_
    rintro e W2 ⟨rfl, hb⟩
    replace P_o := rblk_below P_o hb
    replace kb := bt kb hb
    clear hb
    go_wp2_with fail
    refine (HV2.out _ kb).mono ?_
    rintro e W3 ⟨rfl, hb⟩
    replace P_o := rblk_below P_o hb
    replace kb := bt kb hb
    clear hb
    have c_o0 : W3.cell? ⟨w.heap.size, 0, none⟩ = some (.bool false) := rblk_cell P_o 0
    have c_o1 : W3.cell? ⟨w.heap.size, 1, none⟩ = some (.slice none 0 0) := rblk_cell P_o 1
    have c_o2 : W3.cell? ⟨w.heap.size, 2, none⟩ = some (.slice none 0 0) := rblk_cell P_o 2
    have f_o0 := rblk_free P_o 0
    have f_o1 := rblk_free P_o 1
    have f_o2 := rblk_free P_o 2
    go_wp2
    exact bodyPost_ret (v := .agg #[.bool false, .slice none 0 0, .slice none 0 0]) (by simp [results, Tryz.results7, go_sem, c_o0, c_o1, c_o2]) rfl (none_rat _ _ _ (below_put3 kb (Nat.le_refl _) _ _ _))
  | true =>
    rw [hv2] at HV2
    rw [show innO L M = accQ (some 0) (prs L M) from if_pos hne]
    have HVV := Lib.hid (And.intro hv1 hv2)
    clear hv1 hv2
    have HFIN : Hid (∀ n, n = L.length → (prs L M).take n = prs L M) := Lib.hid (fun n hn => prs_all hn)
    obtain ⟨U, hU⟩ : ∃ U, U = ofO (accQ (some 0) (prs L M)) := ⟨_, rfl⟩
    rw [← hU]
    have HU := Lib.hid hU
    clear hU
    obtain ⟨n, hnn⟩ : ∃ n, n = L.length := ⟨_, rfl⟩
    have HN := Lib.hid (And.intro hnn (hnn.trans hne))
    rw [← hnn] at HV1 HV2 hn ⊢
    rw [← hnn] at hne
    rw [← hne] at HV1 HV2 ⊢
    have HZ := Lib.hid (fun W => show Calls Tryz.prog 19 #[.int .i64 0] W (MadeQ W.heap.size (ofO (some 0)) W) from (impl_rfi 0 W (by decide)).mono fun e w' k => ofO_zero_made k)
    unfold MadeQ at HZ
    have HA0 : (prs L M).take 0 = [] := rfl
    clear hne hnn hn'
    obtain ⟨Z0, hZ0⟩ : ∃ Z, Z = ofO (some (0 : Rat)) := ⟨_, rfl⟩
    rw [← hZ0] at HZ
    have HZ0 := Lib.hid hZ0
    clear hZ0
    go_enter Tryz.func7, Tryz.ntmps7
    go_wp2_with fail
    generalize w.alloc (.cells #[.bool false, .slice none 0 0, .slice none 0 0] 28) = W1 at P_o kb ⊢
    refine (HV1.out _ kb).mono ?_
    rintro e Wy ⟨rfl, hb⟩
    replace P_o := rblk_below P_o hb
    replace kb := bt kb hb
    clear hb
    go_wp2_with fail
    refine (HV2.out _ kb).mono ?_
    rintro e Wz ⟨rfl, hb⟩
    replace P_o := rblk_below P_o hb
    replace kb := bt kb hb
    clear hb HV1 HV2
    go_wp2_with fail
    refine (HZ.out _).mono ?_
    rintro e W2 ⟨a0, rfl, hc1, hc2, o0, hap0, hb⟩
    have hlo := rblk_lt P_o
    replace P_o := rblk_below P_o hb
    replace kb := bt kb hb
    clear hb
    have P_l := heap_alloc_new W2 (.cells #[.bool Z0.p, .slice a0.A Z0.l.length a0.c, .slice a0.D Z0.m.length a0.d] 28)
    have hb := ba1 W2 (.cells #[.bool Z0.p, .slice a0.A Z0.l.length a0.c, .slice a0.D Z0.m.length a0.d] 28)
    have hgl : w.heap.size < W2.heap.size := rblk_lt P_o
    replace P_o := rblk_below P_o hb
    replace o0 := (o0.below hb).wide (Nat.succ_le_of_lt hlo) hb.size
    replace kb := bt kb hb
    clear hb hlo
    go_wp2_with fail
    generalize W2.alloc (.cells #[.bool Z0.p, .slice a0.A Z0.l.length a0.c, .slice a0.D Z0.m.length a0.d] 28) = W3 at P_o P_l o0 kb ⊢
    generalize W2.heap.size = gl at P_l hgl ⊢
    have HG := Lib.hid hgl
    clear hgl
    go_loopw [23] (fun k w' => ∃ (j : Nat) (X : R3) (a : Ad), j ≤ n ∧ k = .int .i64 (j : Int) ∧ X = ofO (accQ (some 0) ((prs L M).take j)) ∧ (X.l.length ≤ a.c ∧ X.m.length ≤ a.d) ∧ w'.heap[gl]? = some (.cells #[.bool X.p, .slice a.A X.l.length a.c, .slice a.D X.m.length a.d] 28 (0, 0)) ∧ Owns (w.heap.size + 1) w'.heap.size w' (rows X a) ∧ Aparts (rows X a) ∧ w'.heap[w.heap.size]? = some (.cells #[.bool false, .slice none 0 0, .slice none 0 0] 28 (0, 0)) ∧ Below w.heap.size w w') (fun k _ => n - (intOf k).toNat)
    case atStart => exact ⟨0, Z0, a0, Nat.zero_le _, rfl, HZ0.out, ⟨hc1, hc2⟩, P_l, o0, hap0, P_o, kb⟩
    case round =>
      clear P_l o0 P_o kb hc1 hc2 hap0
      obtain ⟨j, X, ax, hj, rfl, hX, hcx, P_l, ol, hapl, P_o, kb⟩ := hrel
      by_cases hlt : j < n
      · obtain ⟨p, hp⟩ := getQ (L := L) (i := j) (by rw [← HN.out.1]; exact hlt)
        obtain ⟨q', hq⟩ := getQ (L := M) (i := j) (by rw [← HN.out.2]; exact hlt)
        obtain ⟨g, o, rfl, _, _, _, _⟩ := (RA.out _ kb).1.1.three hp
        obtain ⟨g', o', rfl, _, _, _, _⟩ := (RA.out _ kb).2.1.three hq
        have v1 := validB_at HVV.out.1 hp
        have v2 := validB_at HVV.out.2 hq
        have f1 : FitO (accQ (some 0) ((prs L M).take j)) := accQ_fit zeroQ_fit _
        have HM := Lib.hid (fun (a c : Ad) W h h' => times_v p.x q'.x v1 v2 a c W h h')
        have HS := Lib.hid (fun (a c : Ad) W h h' => plus_r (accQ (some 0) ((prs L M).take j)) (binQ mulQ (valx p.x) (valx q'.x)) a c W f1 (binmul_fit _ _) h h')
        have HX2 : Hid (ofO (binQ addQ (accQ (some 0) ((prs L M).take j)) (binQ mulQ (valx p.x) (valx q'.x))) = ofO (accQ (some 0) ((prs L M).take (j + 1)))) := Lib.hid (by rw [prs_step hp hq, accQ_app])
        rw [← hX] at HS
        clear hX f1 v1 v2
        generalize ofO (binQ addQ (accQ (some 0) ((prs L M).take j)) (binQ mulQ (valx p.x) (valx q'.x))) = X2 at HS HX2
        generalize ofO (binQ mulQ (valx p.x) (valx q'.x)) = V at HM HS
        unfold MadeQ at HM HS
        have HQ := Lib.hid hq
        have HP := Lib.hid hp
        have hi0 : (0 : Int) ≤ (j : Int) := by omega
        have hi1 : (j : Int) < (n : Int) := by omega
        have hge := rblk_lt P_l
        have ol2 := ol.rds
        clear hp hq ol hapl hcx
        go_wp2_with fail
        have ne_o : gl ≠ w.heap.size := by have := HG.out; omega
        have hle : w.heap.size ≤ gl := by have := HG.out; omega
        have KW := Lib.hid kb
        have HC := Lib.hid (And.intro (RA.out _ kb).1.2 (RA.out _ kb).2)
        clear kb
        have KST := Keep3.start P_l
        refine wp_region_held_drew (S := fun w' => Keep3 wr w' gl) (by kernel_rfl) (KST.drew) (fun hHeld => ?_)
        have P_c : wr.drew.heap[gl]? = some (.cells #[.bool X.p, .slice ax.A X.l.length ax.c, .slice ax.D X.m.length ax.d] 28 (0, 0)) := P_l
        have HRw : Rds wr.drew (rows X ax) := ol2.below ((Below.refl _ _).drew)
        have HRp : Rds wr.drew (rows p.x p.a) := (HC.out.1.atQ HP.out).below ((Below.refl _ _).drew)
        have HRq : Rds wr.drew (rows q'.x q'.a) := (HC.out.2.2.atQ HQ.out).below ((Below.refl _ _).drew)
        clear ol2
        refine tk (i := 1) (v := ?vg1_1) rfl (by kernel_rfl) (fun _ _ _ h => h) (Or.inl ⟨by rfl, ?hg1_1⟩) hHeld ?_
        case hg1_1 => (intro w hSw; (try dsimp only at hSw); clear hSw; go_simp; (try with_reducible rfl))
        try simp only [ps]
        refine tk (i := 2) (v := ?vg1_2) rfl (by kernel_rfl) (fun _ _ _ h => h) (Or.inl ⟨by rfl, ?hg1_2⟩) hHeld ?_
        case hg1_2 => (intro w hSw; (try dsimp only at hSw); clear hSw; go_simp; (try with_reducible rfl))
        try simp only [ps]
        refine tk (i := 3) (v := ?vg1_3) rfl (by kernel_rfl) (fun _ _ _ h => h) (Or.inl ⟨by rfl, ?hg1_3⟩) hHeld ?_
        case hg1_3 => (intro w hSw; (try dsimp only at hSw); clear hSw; go_simp; (try with_reducible rfl))
        try simp only [ps]
        refine tk (i := 4) (v := ?vg1_4) rfl (by kernel_rfl) (fun _ _ _ h => h) (Or.inl ⟨by rfl, ?hg1_4⟩) hHeld ?_
        case hg1_4 => (intro w hSw; (try dsimp only at hSw); obtain ⟨_, _, he, _, z0, z1, z2⟩ := (RA.out _ (hSw.base KW.out hle)).1.1.three HP.out; cases he; clear hSw; go_simp; (try with_reducible rfl))
        try simp only [ps]
        refine tk (i := 5) (v := ?vg1_5) rfl (by kernel_rfl) (fun _ _ _ h => h) (Or.inl ⟨by rfl, ?hg1_5⟩) hHeld ?_
        case hg1_5 => (intro w hSw; (try dsimp only at hSw); clear hSw; go_simp; (try with_reducible rfl))
        try simp only [ps]
        refine tk (i := 6) (v := ?vg1_6) rfl (by kernel_rfl) (fun _ _ _ h => h) (Or.inl ⟨by rfl, ?hg1_6⟩) hHeld ?_
        case hg1_6 => (intro w hSw; (try dsimp only at hSw); clear hSw; go_simp; (try with_reducible rfl))
        try simp only [ps]
        refine tk (i := 7) (v := ?vg1_7) rfl (by kernel_rfl) (fun _ _ _ h => h) (Or.inl ⟨by rfl, ?hg1_7⟩) hHeld ?_
        case hg1_7 => (intro w hSw; (try dsimp only at hSw); clear hSw; go_simp; (try with_reducible rfl))
        try simp only [ps]
        refine tk (i := 8) (v := ?vg1_8) rfl (by kernel_rfl) (fun _ _ _ h => h) (Or.inl ⟨by rfl, ?hg1_8⟩) hHeld ?_
        case hg1_8 => (intro w hSw; (try dsimp only at hSw); obtain ⟨_, _, he, _, z0, z1, z2⟩ := (RA.out _ (hSw.base KW.out hle)).2.1.three HQ.out; cases he; clear hSw; go_simp; (try with_reducible rfl))
        try simp only [ps]
        refine wpAnyH_ready (rs := [0, 9]) (by kernel_rfl) (by simp) ?_
        refine rc1 rfl (fun K hK => ?_) (rc1 rfl (fun K hK => ?_) AllReadyH.nil)
        · skip
          have t0 := rblk_cell P_c 0
          have t1 := rblk_cell P_c 1
          have t2 := rblk_cell P_c 2
          go_simp
          clear t0 t1 t2
          refine hK.out _ _ hHeld (fun hH => ?_)
          clear hK K hH
          try simp only [ps]
          refine rd1 (i := 9) (by kernel_rfl) rfl (fun K hK => ?_)
          go_simp
          (go_at_call 21; ((with_reducible refine (HM.out _ _ _ HRp HRq).mono ?_); rintro e Wr1_9 ⟨am, rfl, hmx, hmy, om, hapm, hb⟩))
          refine hK.out _ _ (hHeld.below hb) (fun hH => ?_)
          replace hHeld := hH
          clear hK K hH
          replace P_c := rblk_below P_c hb
          replace HRw := HRw.below hb
          replace HRp := HRp.below hb
          replace HRq := HRq.below hb
          replace om := om.rds
          clear hb
          try simp only [ps]
          refine rd1 (i := 10) (by kernel_rfl) rfl (fun K hK => ?_)
          go_simp
          (go_at_call 20; ((with_reducible refine (HS.out _ _ _ HRw om).mono ?_); rintro e Wr1_10 ⟨a3, rfl, h3x, h3y, o3, hap3, hb⟩))
          have hz3 := hHeld.lt
          refine hK.out _ _ (hHeld.below hb) (fun hH => ?_)
          replace hHeld := hH
          clear hK K hH
          replace P_c := rblk_below P_c hb
          replace HRw := HRw.below hb
          replace HRp := HRp.below hb
          replace HRq := HRq.below hb
          replace om := om.below hb
          clear hb
          try simp only [ps]
          refine rd1 (i := 11) (by kernel_rfl) rfl (fun K hK => ?_)
          have t0 := rblk_cell P_c 0
          have q0 := rblk_free P_c 0
          have t1 := rblk_cell P_c 1
          have q1 := rblk_free P_c 1
          have t2 := rblk_cell P_c 2
          have q2 := rblk_free P_c 2
          go_simp
          clear t0 t1 t2 q0 q1 q2
          refine hK.out _ _ (hHeld.put3 (.bool X2.p) (.slice a3.A X2.l.length a3.c) (.slice a3.D X2.m.length a3.d)) (fun hH => ?_)
          clear hK K hHeld
          have hHeld := hH
          clear hH
          have P_f := rblk_set (rblk_set (rblk_set P_c 0 (.bool X2.p)) 1 (.slice a3.A X2.l.length a3.c)) 2 (.slice a3.D X2.m.length a3.d)
          replace o3 := owns_put3 (r := gl) o3 (.inl hz3) (.bool X2.p) (.slice a3.A X2.l.length a3.c) (.slice a3.D X2.m.length a3.d)
          try simp only [ps]
          refine wpAnyH_done (by kernel_rfl) ?_ _
          have P_o3 := hHeld.block P_o ne_o
          have kz := hHeld.base KW.out hle
          have HF := Lib.hid (And.intro P_f (And.intro o3 (And.intro P_o3 (And.intro kz hz3))))
          clear P_f o3 P_o3 kz hz3 hHeld P_c
          go_wp2
          go_roundw
          case rel => exact ⟨j + 1, X2, a3, hlt, by go_num, HX2.out, ⟨h3x, h3y⟩, HF.out.1, HF.out.2.1.wide (by have h1 := HF.out.2.2.2.2; have h2 := HG.out; omega) (by first | rw [size_put3]; exact Nat.le_refl _ | exact Nat.le_refl _), hap3, HF.out.2.2.1, HF.out.2.2.2.1⟩
          case measure => simp [intOf]; omega
        · skip
          go_simp
          (go_at_call 21; ((with_reducible refine (HM.out _ _ _ HRp HRq).mono ?_); rintro e Wr1_11 ⟨am, rfl, hmx, hmy, om, hapm, hb⟩))
          refine hK.out _ _ (hHeld.below hb) (fun hH => ?_)
          replace hHeld := hH
          clear hK K hH
          replace P_c := rblk_below P_c hb
          replace HRw := HRw.below hb
          replace HRp := HRp.below hb
          replace HRq := HRq.below hb
          replace om := om.rds
          clear hb
          try simp only [ps]
          refine rd1 (i := 0) (by kernel_rfl) rfl (fun K hK => ?_)
          have t0 := rblk_cell P_c 0
          have t1 := rblk_cell P_c 1
          have t2 := rblk_cell P_c 2
          go_simp
          clear t0 t1 t2
          refine hK.out _ _ hHeld (fun hH => ?_)
          clear hK K hH
          try simp only [ps]
          refine rd1 (i := 10) (by kernel_rfl) rfl (fun K hK => ?_)
          go_simp
          (go_at_call 20; ((with_reducible refine (HS.out _ _ _ HRw om).mono ?_); rintro e Wr1_12 ⟨a3, rfl, h3x, h3y, o3, hap3, hb⟩))
          have hz3 := hHeld.lt
          refine hK.out _ _ (hHeld.below hb) (fun hH => ?_)
          replace hHeld := hH
          clear hK K hH
          replace P_c := rblk_below P_c hb
          replace HRw := HRw.below hb
          replace HRp := HRp.below hb
          replace HRq := HRq.below hb
          replace om := om.below hb
          clear hb
          try simp only [ps]
          refine rd1 (i := 11) (by kernel_rfl) rfl (fun K hK => ?_)
          have t0 := rblk_cell P_c 0
          have q0 := rblk_free P_c 0
          have t1 := rblk_cell P_c 1
          have q1 := rblk_free P_c 1
          have t2 := rblk_cell P_c 2
          have q2 := rblk_free P_c 2
          go_simp
          clear t0 t1 t2 q0 q1 q2
          refine hK.out _ _ (hHeld.put3 (.bool X2.p) (.slice a3.A X2.l.length a3.c) (.slice a3.D X2.m.length a3.d)) (fun hH => ?_)
          clear hK K hHeld
          have hHeld := hH
          clear hH
          have P_f := rblk_set (rblk_set (rblk_set P_c 0 (.bool X2.p)) 1 (.slice a3.A X2.l.length a3.c)) 2 (.slice a3.D X2.m.length a3.d)
          replace o3 := owns_put3 (r := gl) o3 (.inl hz3) (.bool X2.p) (.slice a3.A X2.l.length a3.c) (.slice a3.D X2.m.length a3.d)
          try simp only [ps]
          refine wpAnyH_done (by kernel_rfl) ?_ _
          have P_o3 := hHeld.block P_o ne_o
          have kz := hHeld.base KW.out hle
          have HF := Lib.hid (And.intro P_f (And.intro o3 (And.intro P_o3 (And.intro kz hz3))))
          clear P_f o3 P_o3 kz hz3 hHeld P_c
          go_wp2
          go_roundw
          case rel => exact ⟨j + 1, X2, a3, hlt, by go_num, HX2.out, ⟨h3x, h3y⟩, HF.out.1, HF.out.2.1.wide (by have h1 := HF.out.2.2.2.2; have h2 := HG.out; omega) (by first | rw [size_put3]; exact Nat.le_refl _ | exact Nat.le_refl _), hap3, HF.out.2.2.1, HF.out.2.2.2.1⟩
          case measure => simp [intOf]; omega
      · obtain rfl : j = n := by omega
        rw [HFIN.out _ HN.out.1] at hX
        have e : X = U := hX.trans HU.out.symm
        subst e
        clear hX
        have c_l0 : wr.cell? ⟨gl, 0, none⟩ = some (.bool X.p) := rblk_cell P_l 0
        have c_l1 : wr.cell? ⟨gl, 1, none⟩ = some (.slice ax.A X.l.length ax.c) := rblk_cell P_l 1
        have c_l2 : wr.cell? ⟨gl, 2, none⟩ = some (.slice ax.D X.m.length ax.d) := rblk_cell P_l 2
        have c_o0 : wr.cell? ⟨w.heap.size, 0, none⟩ = some (.bool false) := rblk_cell P_o 0
        have c_o1 : wr.cell? ⟨w.heap.size, 1, none⟩ = some (.slice none 0 0) := rblk_cell P_o 1
        have c_o2 : wr.cell? ⟨w.heap.size, 2, none⟩ = some (.slice none 0 0) := rblk_cell P_o 2
        have f_o0 := rblk_free P_o 0
        have f_o1 := rblk_free P_o 1
        have f_o2 := rblk_free P_o 2
        go_wp2
        exact bodyPost_ret (v := .agg #[.bool X.p, .slice ax.A X.l.length ax.c, .slice ax.D X.m.length ax.d]) (by simp [results, Tryz.results7, go_sem, c_o0, c_o1, c_o2]) rfl ⟨ax, rfl, hcx.1, hcx.2, owns_end3 ol (.inl (Nat.lt_succ_self _)) (Nat.le_succ _) (Nat.le_refl _) _ _ _, hapl, below_put (below_put (below_put kb (by omega) _) (by omega) _) (by omega) _⟩
end Go.Proofs.YtdoimhnhafmcaaaGreat
