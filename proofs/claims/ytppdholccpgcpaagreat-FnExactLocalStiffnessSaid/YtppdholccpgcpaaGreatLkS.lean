/-
  The model's LocalStiffness.
-/
import Derived.Test.YtppdholccpgcpaaGreatWp
import Derived.Test.YtppdholccpgcpaaGreatLgI
import Derived.Test.YtppdholccpgcpaaGreatAppO
import Derived.Test.YtppdholccpgcpaaGreatFull
import Derived.Test.YtppdholccpgcpaaGreatTriA
import Derived.Test.YtppdholccpgcpaaGreatGrS
import Derived.Test.YtppdholccpgcpaaGreatPtL
namespace Go.Proofs.YtppdholccpgcpaaGreat
open Go.ChangeShapes Go.WideShapes Go.ChangeAt Go.RowKit
set_option linter.unusedVariables false
set_option linter.unusedSimpArgs false
set_option maxRecDepth 4000
attribute [local go_sem ↓] Go.wp_at_zero Go.wp_at_succ
set_option maxHeartbeats 4000000 in
theorem spec_localStiffness (L : List PV) (A : Option Addr) (c : Nat) (w : World) (hn : L.length ≤ 9223372036854775807) (hL : ∀ p, p ∈ L → LenP p) (hC : ∀ p, p ∈ L → CapP p) (hA : RdS w A (flat L)) (hR : Rds w (lrow L)) :
    Calls Tryz.prog 50 #[.slice A L.length c] w (MadeRSS w.heap.size (stiffL L) w) := by
  have HP := Lib.hid (fun W h h' => spec_proper L A c W hn hL hC h h')
  have RP : Hid (∀ W, Below w.heap.size w W → RdS W A (flat L) ∧ Rds W (lrow L)) := Lib.hid (fun W hB => ⟨hA.below hB, hR.below hB⟩)
  have HA : Hid (∀ W, Below w.heap.size w W → Calls Tryz.prog 113 #[.slice A L.length c] W (MadeQ W.heap.size (ofO (areaQ L)) W)) := Lib.hid (fun W hb => spec_areaOf L A c W hn hL hC (hA.below hb) (hR.below hb))
  have HG : Hid (∀ W, Below w.heap.size w W → Calls Tryz.prog 37 #[.slice A L.length c] W (MadePS W.heap.size (gradL L) W)) := Lib.hid (fun W hb => spec_gradients L A c W hn hL hC (hA.below hb) (hR.below hb))
  have HGS := Lib.hid (grad_len L)
  have HG3 := gradL_len3 L
  unfold MadePS at HG
  have hfA := (areaQ_fit L).len
  have HF := Lib.hid (stiffF_fit L)
  unfold MadeQ at HA
  cases hp : properB L with
  | false =>
    rw [hp] at HP
    have hE : stiffL L = [] := by
      have hg : gradL L = [] := grad_no hp
      unfold stiffL fullM; rw [hg]; rfl
    rw [hE]
    generalize L.length = n at HP ⊢
    clear hA hR hL hC hn hp HA HG HG3 hfA
    go_enter Tryz.func50, Tryz.ntmps50
    have kb := Below.refl w.heap.size w
    go_wp2_with fail
    refine (HP.out _ (RP.out _ kb).1 (RP.out _ kb).2).mono ?_
    rintro e W1 ⟨rfl, hb⟩
    replace kb := bt kb hb
    clear hb
    go_wp2
    go_ret
    exact made_matE rfl kb
  | true =>
    rw [hp] at HP
    have HI : Hid (∀ (p q : PV) W, LenP p → LenP q → Rds W (prow p) → Rds W (prow q) → Calls Tryz.prog 115 #[.agg (p6 p), .agg (p6 q)] W (MadeQ W.heap.size (ofO (innE p q)) W)) := Lib.hid (fun p q W lp lq h h' => spec_innerP p.x p.y q.x q.y p.a p.b q.a q.b W lp.1.1 lp.1.2 lp.2.1 lp.2.2 lq.1.1 lq.1.2 lq.2.1 lq.2.2 h h')
    have HM : Hid (∀ (o : Option Rat), FitO o → ∀ (a d : Ad) W, Rds W (rows (ofO (areaQ L)) a) → Rds W (rows (ofO o) d) → Calls Tryz.prog 114 #[.agg (r3 (ofO (areaQ L)) a), .agg (r3 (ofO o) d)] W (MadeQ W.heap.size (ofO (binQ mulQ (areaQ L) o)) W)) := Lib.hid (fun o f2 a d W h h' => by
      have h1 := f2.len
      have K := spec_rmul_r (ofO (areaQ L)) (ofO o) a d W (by omega) (by omega) (by omega) (by omega) h h'
      rw [valx_ofO (areaQ_fit L), valx_ofO f2] at K
      exact K)
    have HFF : Hid (∀ (i j : Nat) (p q : PV), (gradL L)[i]? = some p → (gradL L)[j]? = some q → stiffF L i j = binQ mulQ (areaQ L) (innE p q)) := Lib.hid (fun i j p q h h' => by unfold stiffF; rw [gAt_get h, gAt_get h'])
    unfold stiffL
    unfold MadeQ at HI HM
    generalize stiffF L = F at HF HFF ⊢
    generalize hAQ : areaQ L = AQ at HA HM HFF hfA
    generalize gradL L = G at HG HGS HG3 HFF ⊢
    clear hAQ
    obtain ⟨AR, hAR⟩ : ∃ AR, AR = ofO AQ := ⟨_, rfl⟩
    rw [← hAR] at HA HM hfA
    clear hAR
    obtain ⟨n, hgn⟩ : ∃ n, n = G.length := ⟨_, rfl⟩
    rw [← hgn] at HG3 ⊢
    have hn3 : n ≤ 3 := by omega
    have HGN := Lib.hid hgn
    clear hgn HG3
    generalize L.length = l at HP HA HG ⊢
    clear hA hR hL hC hn hp
    go_enter Tryz.func50, Tryz.ntmps50
    have kb := Below.refl w.heap.size w
    go_wp2_with fail
    refine (HP.out _ (RP.out _ kb).1 (RP.out _ kb).2).mono ?_
    rintro e W1 ⟨rfl, hb⟩
    replace kb := bt kb hb
    clear hb
    go_wp2_with fail
    refine (HG.out _ kb).mono ?_
    rintro e Wg ⟨Gm, Ag, cg, rfl, hkg, hdg, hcg, og, hapg, hb⟩
    replace kb := bt kb hb
    clear hb
    replace og := og.rds
    have hgl : Gm.length = n := by rw [HGN.out]; exact dat_len hdg
    rw [hgl]
    have HGL := Lib.hid hgl
    have HGD := Lib.hid hdg
    clear hgl hdg hkg hcg hapg
    go_wp2_with fail
    refine (HA.out _ kb).mono ?_
    rintro e W2 ⟨a0, rfl, ha1, ha2, oA, hapA, hb⟩
    replace kb := bt kb hb
    replace og := og.below hb
    clear hb ha1 ha2 hapA
    have P_a := heap_alloc_new W2 (.cells (r3 AR a0) 29)
    have hb := ba1 W2 (.cells (r3 AR a0) 29)
    replace oA := (oA.below hb).rds
    replace kb := bt kb hb
    replace og := og.below hb
    clear hb
    have hs3 : (W2.alloc (.cells (r3 AR a0) 29)).heap.size = W2.heap.size + 1 := by rw [sz1]
    have HS3 := Lib.hid hs3
    clear hs3
    go_wp2_with fail
    have hs3 := HS3.out
    clear HS3
    generalize W2.alloc (.cells (r3 AR a0) 29) = W3 at P_a oA kb hs3 og ⊢
    generalize W2.heap.size = ga at P_a hs3 ⊢
    rw [← hs3]
    clear hs3
    have HW : Hid (∀ W, Below W3.heap.size W3 W → W.heap[ga]? = some (.cells (r3 AR a0) 29 (0, 0)) ∧ Rds W (rows AR a0) ∧ Below w.heap.size w W ∧ Rds W (srow Ag Gm)) := Lib.hid (fun W hB => ⟨rblk_below P_a hB, oA.below hB, bt kb hB, og.below hB⟩)
    have HZ := Lib.hid kb.size
    have hown := World.ownsRow_made (base := W3.heap.size) (e := 33) (size := 1) W3 #[] 0 (Nat.le_refl _) (by decide) rfl
    have k2 := ba1 W3 (.cells #[] 33)
    clear P_a oA kb og
    go_loopw [19, 5] (fun k v w' => ∃ (i : Nat) (R : List SV) (D : Option Addr) (d : Nat), i ≤ n ∧ k = .int .i64 (i : Int) ∧ v = .slice D R.length d ∧ R.length = i ∧ w'.ownsRow W3.heap.size 33 1 (.slice D R.length d) R.length (flatS R) ∧ datS R = datS (matF F i n) ∧ Owns W3.heap.size w'.heap.size w' (lrowS R) ∧ Aparts (lrowS R) ∧ Below W3.heap.size W3 w') (fun k _ _ => n - (intOf k).toNat)
    case atStart => exact ⟨0, [], _, _, by omega, rfl, rfl, rfl, hown, rfl, Owns.nil _ _ _, Aparts.nil, k2⟩
    case round =>
      clear hown k2
      obtain ⟨i, R, D, d, hi, rfl, rfl, hRl, hown, hd, hO, hap, kV⟩ := hrel
      obtain ⟨V, hVn⟩ : ∃ V, V = wr := ⟨_, rfl⟩
      subst hVn
      have HVZ : Hid (∀ g, (Value.slice D R.length d).ownBlock = some g → g < V.heap.size) := Lib.hid (fun g h => (hown.lt g h).2)
      have HOR := Lib.hid (And.intro hown (And.intro hd (And.intro hO (And.intro hap hRl))))
      clear hown hd hO hap
      by_cases hlt : i < n
      · have hi0 : (0 : Int) ≤ (i : Int) := by omega
        have hi1 : (i : Int) < (n : Int) := by omega
        have KV := Lib.hid kV
        have hr := World.ownsRow_made (base := V.heap.size) (e := 29) (size := 3) V #[] 0 (Nat.le_refl _) (by decide) rfl
        have k3 := ba1 V (.cells #[] 29)
        have HRL := Lib.hid hRl
        clear kV hRl
        go_wp2_with fail
        go_loopw [25, 7] (fun k v w' => ∃ (j : Nat) (M : List RV) (E : Option Addr) (e : Nat), j ≤ n ∧ k = .int .i64 (j : Int) ∧ v = .slice E M.length e ∧ M.length = j ∧ w'.ownsRow V.heap.size 29 3 (.slice E M.length e) M.length (flatQ M) ∧ datQ M = datQ (rowF (F i) j) ∧ Owns V.heap.size w'.heap.size w' (lrowQ M) ∧ Aparts (lrowQ M) ∧ Below V.heap.size V w') (fun k _ _ => n - (intOf k).toNat)
        case atStart => exact ⟨0, [], _, _, by omega, rfl, rfl, rfl, hr, rfl, Owns.nil _ _ _, Aparts.nil, k3⟩
        case round =>
          clear hr k3
          obtain ⟨j, M, E, e, hj, rfl, rfl, hM, HR1, hdM, HO1, hapr, kw⟩ := hrel
          by_cases hlj : j < n
          · have hj0 : (0 : Int) ≤ (j : Int) := by omega
            have hj1 : (j : Int) < (n : Int) := by omega
            have hvz : ∀ g, (Value.slice E M.length e).ownBlock = some g → g < wr.heap.size := fun g h => (HR1.lt g h).2
            have HVM := Lib.hid hvz
            have HDM := Lib.hid (And.intro hdM (And.intro hapr hM))
            clear hvz hdM hapr
            have HXE : Hid (∃ X, X = ofO (F i j)) := Lib.hid ⟨_, rfl⟩
            obtain ⟨X, hX⟩ := HXE.out
            obtain ⟨p, hp⟩ := getP (L := Gm) (i := i) (by rw [HGL.out]; exact hlt)
            obtain ⟨q, hq⟩ := getP (L := Gm) (i := j) (by rw [HGL.out]; exact hlj)
            obtain ⟨p0, hp0, ep1, ep2⟩ := dat_get HGD.out.symm hp
            obtain ⟨q0, hq0, eq1, eq2⟩ := dat_get HGD.out.symm hq
            have lp0 := HGS.out p0 (List.mem_of_getElem? hp0)
            have lq0 := HGS.out q0 (List.mem_of_getElem? hq0)
            have lp : LenP p := by unfold LenP at lp0 ⊢; rw [← ep1, ← ep2]; exact lp0
            have lq : LenP q := by unfold LenP at lq0 ⊢; rw [← eq1, ← eq2]; exact lq0
            have eI : innE p0 q0 = innE p q := by unfold innE; rw [ep1, ep2, eq1, eq2]
            have HIj := Lib.hid (fun W h h' => HI.out p q W lp lq h h')
            have HMj : Hid (∀ (a d : Ad) W, Rds W (rows AR a) → Rds W (rows (ofO (innE p q)) d) → Calls Tryz.prog 114 #[.agg (r3 AR a), .agg (r3 (ofO (innE p q)) d)] W (MadeQ W.heap.size X W)) := Lib.hid (fun a d W h h' => by have K := HM.out (innE p q) (innE_fit p q) a d W h h'; rw [hX, HFF.out i j p0 q0 hp0 hq0, eI]; exact K)
            generalize ofO (innE p q) = Y at HIj HMj
            unfold MadeQ at HMj
            have HPQ := Lib.hid (And.intro hp hq)
            obtain ⟨gg, og, rfl, _⟩ : ∃ gg og, Ag = some ⟨gg, og, none⟩ ∧ True := by obtain ⟨gg, og, h, _⟩ := (HW.out _ (bt KV.out kw)).2.2.2.hd.six hp; exact ⟨gg, og, h, trivial⟩
            clear hp hq hp0 hq0 ep1 ep2 eq1 eq2 lp0 lq0 lp lq eI
            have HX := Lib.hid hX
            clear hX hM
            go_wp2_with fail
            have kw0 := kw
            clear kw
            refine wp_region_held_drew (S := fun w' => Below V.heap.size V w') (by kernel_rfl) (kw0.drew) (fun hHeld => ?_)
            have HR2 := own3_below HR1 ((Below.refl _ _).drew)
            have HO2 := HO1.below ((Below.refl _ _).drew)
            have hz0 : wr.heap.size ≤ wr.drew.heap.size := Nat.le_refl _
            have hzV : V.heap.size ≤ wr.heap.size := kw0.size
            clear HR1 HO1 kw0
            generalize wr.drew = Wd at hHeld HR2 HO2 hz0
            refine tk (i := 0) (v := ?vg3_1) rfl (by kernel_rfl) (fun _ _ _ h => h) (Or.inl ⟨by rfl, ?hg3_1⟩) hHeld ?_
            case hg3_1 => (intro w hSw; (try dsimp only at hSw); clear hSw; go_simp; (try with_reducible rfl))
            try simp only [ps]
            refine tk (i := 1) (v := ?vg3_2) rfl (by kernel_rfl) (fun _ _ _ h => h) (Or.inl ⟨by rfl, ?hg3_2⟩) hHeld ?_
            case hg3_2 => (intro w hSw; (try dsimp only at hSw); have P_a := (HW.out _ (bt KV.out hSw)).1; have t0 := rblk_cell P_a 0; have t1 := rblk_cell P_a 1; have t2 := rblk_cell P_a 2; clear hSw P_a; go_simp; (try with_reducible rfl))
            try simp only [ps]
            refine tk (i := 2) (v := ?vg3_3) rfl (by kernel_rfl) (fun _ _ _ h => h) (Or.inl ⟨by rfl, ?hg3_3⟩) hHeld ?_
            case hg3_3 => (intro w hSw; (try dsimp only at hSw); clear hSw; go_simp; (try with_reducible rfl))
            try simp only [ps]
            refine tk (i := 3) (v := ?vg3_4) rfl (by kernel_rfl) (fun _ _ _ h => h) (Or.inl ⟨by rfl, ?hg3_4⟩) hHeld ?_
            case hg3_4 => (intro w hSw; (try dsimp only at hSw); clear hSw; go_simp; (try with_reducible rfl))
            try simp only [ps]
            refine tk (i := 4) (v := ?vg3_5) rfl (by kernel_rfl) (fun _ _ _ h => h) (Or.inl ⟨by rfl, ?hg3_5⟩) hHeld ?_
            case hg3_5 => (intro w hSw; (try dsimp only at hSw); clear hSw; go_simp; (try with_reducible rfl))
            try simp only [ps]
            refine tk (i := 5) (v := ?vg3_6) rfl (by kernel_rfl) (fun _ _ _ h => h) (Or.inl ⟨by rfl, ?hg3_6⟩) hHeld ?_
            case hg3_6 => (intro w hSw; (try dsimp only at hSw); obtain ⟨_, _, he, _, t0, t1, t2, t3, t4, t5⟩ := (HW.out _ (bt KV.out hSw)).2.2.2.hd.six HPQ.out.1; cases he; clear hSw; go_simp; (try with_reducible rfl))
            try simp only [ps]
            refine tk (i := 6) (v := ?vg3_7) rfl (by kernel_rfl) (fun _ _ _ h => h) (Or.inl ⟨by rfl, ?hg3_7⟩) hHeld ?_
            case hg3_7 => (intro w hSw; (try dsimp only at hSw); clear hSw; go_simp; (try with_reducible rfl))
            try simp only [ps]
            refine tk (i := 7) (v := ?vg3_8) rfl (by kernel_rfl) (fun _ _ _ h => h) (Or.inl ⟨by rfl, ?hg3_8⟩) hHeld ?_
            case hg3_8 => (intro w hSw; (try dsimp only at hSw); clear hSw; go_simp; (try with_reducible rfl))
            try simp only [ps]
            refine tk (i := 8) (v := ?vg3_9) rfl (by kernel_rfl) (fun _ _ _ h => h) (Or.inl ⟨by rfl, ?hg3_9⟩) hHeld ?_
            case hg3_9 => (intro w hSw; (try dsimp only at hSw); clear hSw; go_simp; (try with_reducible rfl))
            try simp only [ps]
            refine tk (i := 9) (v := ?vg3_10) rfl (by kernel_rfl) (fun _ _ _ h => h) (Or.inl ⟨by rfl, ?hg3_10⟩) hHeld ?_
            case hg3_10 => (intro w hSw; (try dsimp only at hSw); obtain ⟨_, _, he, _, t0, t1, t2, t3, t4, t5⟩ := (HW.out _ (bt KV.out hSw)).2.2.2.hd.six HPQ.out.2; cases he; clear hSw; go_simp; (try with_reducible rfl))
            try simp only [ps]
            refine rd1 (i := 10) (by kernel_rfl) rfl (fun K hK => ?_)
            go_simp
            (go_at_call 115; ((with_reducible refine (HIj.out _ ((HW.out _ (bt KV.out hHeld)).2.2.2.tl.at HPQ.out.1) ((HW.out _ (bt KV.out hHeld)).2.2.2.tl.at HPQ.out.2)).mono ?_); rintro e Wof ⟨an, rfl, hn1, hn2, on, hapn, hb⟩))
            refine hK.out _ _ (bt hHeld hb) (fun hH => ?_)
            replace hHeld := hH
            clear hK K hH
            have hz1 := hb.size
            replace HR2 := own3_below HR2 hb
            replace HO2 := HO2.below hb
            replace on := on.rds
            clear hn1 hn2 hapn
            clear hb
            try simp only [ps]
            refine rd1 (i := 11) (by kernel_rfl) rfl (fun K hK => ?_)
            go_simp
            (go_at_call 114; ((with_reducible refine (HMj.out _ _ _ (HW.out _ (bt KV.out hHeld)).2.1 on).mono ?_); rintro e Wmu ⟨am, rfl, hm1, hm2, om, hapm, hb⟩))
            refine hK.out _ _ (bt hHeld hb) (fun hH => ?_)
            replace hHeld := hH
            clear hK K hH
            have hz2 := hb.size
            replace HR2 := own3_below HR2 hb
            replace HO2 := HO2.below hb
            clear on
            clear hb
            try simp only [ps]
            refine rd1 (i := 12) (by kernel_rfl) rfl (fun K hK => ?_)
            have hHm := hHeld
            go_simp
            refine hK.out _ _ (bt hHeld (ba1 _ _)) (fun hH => ?_)
            replace hHeld := hH
            clear hK K hH
            try simp only [ps]
            refine rd1 (i := 13) (by kernel_rfl) rfl (fun K hK => ?_)
            refine wanted_op (by rfl) ?_
            refine append_rt_op (.tmp 28) (.tmp 40) rfl V.heap.size M.length V.heap.size Wof.heap.size Wmu.heap.size (.slice E M.length e) M ⟨X, am⟩ Wmu rfl rfl HR2 (by have := HDM.out.2.2; omega) hHm.size (HO2.wide (Nat.le_refl _) (by omega)) om HDM.out.2.1 hapm (fun g hg => by have := HVM.out g hg; omega) (by omega) hz2 (Nat.le_refl _) ?_
            intro v' w2 hown2 k2 hO2 hap2
            obtain ⟨E2, e2, rfl⟩ := own_formQ hown2
            refine hK.out _ _ (hHm.trans k2) (fun hH => ?_)
            replace hHeld := hH
            clear hK K hH hHm k2 HR2 HO2 om hapm
            try simp only [ps]
            refine tk (i := 14) (v := ?vg3_11) rfl (by kernel_rfl) (fun _ _ _ h => h) (Or.inl ⟨by rfl, ?hg3_11⟩) hHeld ?_
            case hg3_11 => (intro w hSw; (try dsimp only at hSw); clear hSw; go_simp; (try with_reducible rfl))
            try simp only [ps]
            refine wpAnyH_done (by kernel_rfl) ?_ _
            have HF2 := Lib.hid (And.intro hown2 (And.intro hO2 (And.intro hap2 hHeld)))
            clear hown2 hO2 hap2 hHeld hz0 hz1 hz2 hzV
            go_wp2
            go_roundw
            case rel => exact ⟨j + 1, M ++ [⟨X, am⟩], E2, e2, hlj, by go_num, by rw [List.length_append]; rfl, by rw [List.length_append, HDM.out.2.2]; rfl, by rw [List.length_append]; exact HF2.out.1, rowF_put HDM.out.1 ⟨X, am⟩ HX.out, HF2.out.2.1, HF2.out.2.2.1, HF2.out.2.2.2⟩
            case measure => simp [intOf]; omega
          · obtain rfl : j = n := by omega
            obtain ⟨h1, h2⟩ := srowQ_own HR1 HO1 hapr
            have HQ := Lib.hid (And.intro h1 (And.intro h2 hdM))
            have HKW := Lib.hid (And.intro kw (bt KV.out kw))
            have hzV : V.heap.size ≤ wr.heap.size := kw.size
            clear HR1 HO1 hapr hdM h1 h2 hM
            go_wp2_with (refine append_row rfl (.tmp 43) (.tmp 45) rfl W3.heap.size R.length W3.heap.size V.heap.size wr.heap.size (.slice D R.length d) R ⟨M, E, e⟩ wr rfl rfl (own1_below HOR.out.1 kw) (by have := HRL.out; omega) (bt KV.out kw).size (HOR.out.2.2.1.below kw) HQ.out.1 HOR.out.2.2.2.1 HQ.out.2.1 HVZ.out KV.out.size hzV (Nat.le_refl _) ?_; intro v' w' hown' hb' hO' hap')
            obtain ⟨D2, d2, rfl⟩ := own_formS hown'
            have HX := Lib.hid (And.intro hown' (And.intro hO' (And.intro hap' ((HKW.out.2).trans hb'))))
            clear hown' hO' hap' hb' kw
            go_wp2
            go_roundw
            case rel => exact ⟨i + 1, R ++ [⟨M, E, e⟩], D2, d2, hlt, by go_num, by rw [List.length_append]; rfl, by rw [List.length_append, HRL.out]; rfl, by rw [List.length_append]; exact HX.out.1, matF_put HOR.out.2.1 ⟨M, E, e⟩ HQ.out.2.2, HX.out.2.1, HX.out.2.2.1, HX.out.2.2.2⟩
            case measure => simp [intOf]; omega
      · obtain rfl : i = n := by omega
        have hS := lenS_mat HF.out (by omega) HOR.out.2.1
        have hrd := HOR.out.1
        have HS2 := srowS_own HOR.out.1 HOR.out.2.2.1 HOR.out.2.2.2.1
        have kw := (HW.out _ kV).2.2.1
        have hfm : fullB R = okF F i i := (fullB_dat HOR.out.2.1).trans (fullB_matF HF.out _ _)
        cases hok : okF F i i with
        | true =>
          have HL := Lib.hid (spec_full_y R D d V (by rw [hRl]; omega) hS HS2.1.rds.hd HS2.1.rds.tl (hfm.trans hok))
          have HX : Hid (∀ W, Below V.heap.size V W → MadeRSS w.heap.size (fullM F i i) w (.returned (.slice D R.length d)) W) := Lib.hid (fun W hb => made_matS (own1_below HOR.out.1 hb) HZ.out ((HOR.out.2.2.1.below hb).wide (Nat.le_refl _) hb.size) HOR.out.2.2.2.1 HOR.out.2.1 hok (bt kw hb))
          clear hS hrd HS2 hfm hok kw kV hRl
          go_wp2_with fail
          refine HL.out.mono ?_
          rintro e W9 ⟨rfl, hb⟩
          go_wp2
          go_ret
          exact HX.out _ hb
        | false =>
          have HL := Lib.hid (spec_full_n R D d V (by rw [hRl]; omega) hS HS2.1.rds.hd HS2.1.rds.tl (hfm.trans hok))
          have HX : Hid (∀ W, Below V.heap.size V W → MadeRSS w.heap.size (fullM F i i) w (.returned (.slice none 0 0)) W) := Lib.hid (fun W hb => made_matN hok (bt kw hb))
          clear hS hrd HS2 hfm hok kw kV hRl
          go_wp2_with fail
          refine HL.out.mono ?_
          rintro e W9 ⟨rfl, hb⟩
          go_wp2
          go_ret
          exact HX.out _ hb
end Go.Proofs.YtppdholccpgcpaaGreat
