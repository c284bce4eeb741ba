/-
  The model's LocalMass.
-/
import Derived.Test.YtppdholccpgcpaaGreatElW
import Derived.Test.YtppdholccpgcpaaGreatAppT
import Derived.Test.YtppdholccpgcpaaGreatAppO
import Derived.Test.YtppdholccpgcpaaGreatFull
import Derived.Test.YtppdholccpgcpaaGreatTriA
import Derived.Test.YtppdholccpgcpaaGreatPtL
namespace Go.Proofs.YtppdholccpgcpaaGreat
open Go.ChangeShapes Go.WideShapes Go.ChangeAt Go.RowKit
open Go.ChangeMaps (open_string shut_string)
set_option linter.unusedVariables false
set_option linter.unusedSimpArgs false
set_option maxRecDepth 4000
attribute [local go_sem ↓] Go.wp_at_zero Go.wp_at_succ
set_option maxHeartbeats 4000000 in
theorem spec_localMass (L : List PV) (A : Option Addr) (c : Nat) (w : World) (hn : L.length ≤ 9223372036854775807) (hL : ∀ p, p ∈ L → LenP p) (hC : ∀ p, p ∈ L → CapP p) (hA : RdS w A (flat L)) (hR : Rds w (lrow L)) :
    Calls Tryz.prog 54 #[.slice A L.length c] w (MadeRSS w.heap.size (massL L) w) := by
  have HP := Lib.hid (fun W h h' => spec_proper L A c W hn hL hC h h')
  have RP : Hid (∀ W, Below w.heap.size w W → RdS W A (flat L) ∧ Rds W (lrow L)) := Lib.hid (fun W hB => ⟨hA.below hB, hR.below hB⟩)
  have HA : Hid (∀ W, Below w.heap.size w W → Calls Tryz.prog 113 #[.slice A L.length c] W (MadeQ W.heap.size (ofO (areaQ L)) W)) := Lib.hid (fun W hb => spec_areaOf L A c W hn hL hC (hA.below hb) (hR.below hb))
  have hfA := (areaQ_fit L).len
  have HF := Lib.hid (massF_fit L)
  unfold MadeQ at HA
  cases hp : properB L with
  | false =>
    rw [hp] at HP
    have hE : massL L = [] := massL_no hp
    rw [hE]
    generalize L.length = n at HP ⊢
    clear hA hR hL hC hn hp HA hfA
    go_enter Tryz.func54, Tryz.ntmps54
    have kb := Below.refl w.heap.size w
    go_wp2_with fail
    refine (HP.out _ (RP.out _ kb).1 (RP.out _ kb).2).mono ?_
    rintro e W1 ⟨rfl, hb⟩
    replace kb := bt kb hb
    clear hb
    go_wp2
    go_ret
    exact made_matE rfl kb
  | true =>
    rw [hp] at HP
    have HM0 : ∀ (i j : Nat) (n : Int), n = (if i = j then 6 else 12) → ∀ (a d : Ad) W, Rds W (rows (ofO (areaQ L)) a) → Rds W (rows (ofO (ofQ 1 n)) d) → Calls Tryz.prog 114 #[.agg #[.bool (ofO (areaQ L)).p, .slice a.A (ofO (areaQ L)).l.length a.c, .slice a.D (ofO (areaQ L)).m.length a.d], .agg #[.bool (ofO (ofQ 1 n)).p, .slice d.A (ofO (ofQ 1 n)).l.length d.c, .slice d.D (ofO (ofQ 1 n)).m.length d.d]] W (MadeQ W.heap.size (ofO (massF L i j)) W) := fun i j n hn a d W h h' => by
      have f2 : FitO (ofQ 1 n) := ofQ_fit 1 n
      have h1 := f2.len
      have K := spec_rmul_r (ofO (areaQ L)) (ofO (ofQ 1 n)) a d W (by omega) (by omega) (by omega) (by omega) h h'
      rw [valx_ofO (areaQ_fit L), valx_ofO f2] at K
      have e : massF L i j = binQ mulQ (areaQ L) (ofQ 1 n) := by unfold massF; rw [hn]
      rw [e]; exact K
    obtain ⟨NF, hNF⟩ : ∃ NF : Int → R3, NF = fun n => ofO (ofQ 1 n) := ⟨_, rfl⟩
    have HN : Hid (∀ (n : Int), n = 6 ∨ n = 12 → ∀ W, Calls Tryz.prog 118 #[.int .i64 1, .int .i64 n] W (MadeQ W.heap.size (NF n) W)) := Lib.hid (fun n h W => by
      rw [hNF]
      exact (spec_rof 1 n W ⟨by omega, by omega⟩ ⟨by omega, by omega⟩).mono fun e w' k => MadeR.toQ (x := ofO (ofQ 1 n)) k)
    have HM : Hid (∀ (i j : Nat) (n : Int), n = (if i = j then 6 else 12) → ∀ (a d : Ad) W, Rds W (rows (ofO (areaQ L)) a) → Rds W (rows (NF n) d) → Calls Tryz.prog 114 #[.agg #[.bool (ofO (areaQ L)).p, .slice a.A (ofO (areaQ L)).l.length a.c, .slice a.D (ofO (areaQ L)).m.length a.d], .agg #[.bool (NF n).p, .slice d.A (NF n).l.length d.c, .slice d.D (NF n).m.length d.d]] W (MadeQ W.heap.size (ofO (massF L i j)) W)) := Lib.hid (fun i j n hn a d W h h' => by
      rw [hNF] at h' ⊢
      exact HM0 i j n hn a d W h h')
    clear hNF HM0
    unfold massL
    unfold MadeQ at HN HM
    generalize massF L = F at HM HF ⊢
    generalize ofO (areaQ L) = AR at HA HM hfA
    generalize L.length = l at HP HA ⊢
    clear hA hR hL hC hn hp
    go_enter Tryz.func54, Tryz.ntmps54
    have kb := Below.refl w.heap.size w
    go_wp2_with fail
    refine (HP.out _ (RP.out _ kb).1 (RP.out _ kb).2).mono ?_
    rintro e W1 ⟨rfl, hb⟩
    replace kb := bt kb hb
    clear hb
    go_wp2_with fail
    refine (HA.out _ kb).mono ?_
    rintro e W2 ⟨a0, rfl, ha1, ha2, oA, hapA, hb⟩
    replace kb := bt kb hb
    skip
    clear hb ha1 ha2 hapA
    have P_a := heap_alloc_new W2 (.cells #[.bool AR.p, .slice a0.A AR.l.length a0.c, .slice a0.D AR.m.length a0.d] 29)
    have hb := ba1 W2 (.cells #[.bool AR.p, .slice a0.A AR.l.length a0.c, .slice a0.D AR.m.length a0.d] 29)
    replace oA := (oA.below hb).rds
    replace kb := bt kb hb
    skip
    clear hb
    have hs3 : (W2.alloc (.cells #[.bool AR.p, .slice a0.A AR.l.length a0.c, .slice a0.D AR.m.length a0.d] 29)).heap.size = W2.heap.size + 1 := by rw [sz1]
    have HS3 := Lib.hid hs3
    clear hs3
    go_wp2_with fail
    have hs3 := HS3.out
    clear HS3
    generalize W2.alloc (.cells #[.bool AR.p, .slice a0.A AR.l.length a0.c, .slice a0.D AR.m.length a0.d] 29) = W3 at P_a oA kb hs3 ⊢
    generalize W2.heap.size = ga at P_a hs3 ⊢
    rw [← hs3]
    clear hs3
    have HW : Hid (∀ W, Below W3.heap.size W3 W → W.heap[ga]? = some (.cells #[.bool AR.p, .slice a0.A AR.l.length a0.c, .slice a0.D AR.m.length a0.d] 29 (0, 0)) ∧ Rds W (rows AR a0) ∧ Below w.heap.size w W) := Lib.hid (fun W hB => ⟨rblk_below P_a hB, oA.below hB, bt kb hB⟩)
    have HZ := Lib.hid kb.size
    have hown := World.ownsRow_made (base := W3.heap.size) (e := 33) (size := 1) W3 #[] 0 (Nat.le_refl _) (by decide) rfl
    have k2 := ba1 W3 (.cells #[] 33)
    clear P_a oA kb
    go_loopw [5, 4] (fun k v w' => ∃ (i : Nat) (R : List SV) (D : Option Addr) (d : Nat), i ≤ 3 ∧ k = .int .i64 (i : Int) ∧ v = .slice D R.length d ∧ R.length = i ∧ w'.ownsRow W3.heap.size 33 1 (.slice D R.length d) R.length (flatS R) ∧ datS R = datS (matF F i 3) ∧ Owns W3.heap.size w'.heap.size w' (lrowS R) ∧ Aparts (lrowS R) ∧ Below W3.heap.size W3 w') (fun k _ _ => 3 - (intOf k).toNat)
    case atStart => exact ⟨0, [], _, _, by omega, rfl, rfl, rfl, hown, rfl, Owns.nil _ _ _, Aparts.nil, k2⟩
    case round =>
      clear hown k2
      obtain ⟨i, R, D, d, hi, rfl, rfl, hRl, hown, hd, hO, hap, kV⟩ := hrel
      obtain ⟨V, hVn⟩ : ∃ V, V = wr := ⟨_, rfl⟩
      subst hVn
      have HVZ : Hid (∀ g, (Value.slice D R.length d).ownBlock = some g → g < V.heap.size) := Lib.hid (fun g h => (hown.lt g h).2)
      have HOR := Lib.hid (And.intro hown (And.intro hd (And.intro hO (And.intro hap hRl))))
      clear hown hd hO hap
      by_cases hlt : i < 3
      · have hi0 : (0 : Int) ≤ (i : Int) := by omega
        have hi1 : (i : Int) < 3 := by omega
        have KV := Lib.hid kV
        have hr := World.ownsRow_made (base := V.heap.size) (e := 29) (size := 3) V #[] 0 (Nat.le_refl _) (by decide) rfl
        have k3 := ba1 V (.cells #[] 29)
        have HRL := Lib.hid hRl
        clear kV hRl
        go_wp2_with fail
        go_loopw [7, 6] (fun k v w' => ∃ (j : Nat) (M : List RV) (E : Option Addr) (e : Nat), j ≤ 3 ∧ k = .int .i64 (j : Int) ∧ v = .slice E M.length e ∧ M.length = j ∧ w'.ownsRow V.heap.size 29 3 (.slice E M.length e) M.length (flatQ M) ∧ datQ M = datQ (rowF (F i) j) ∧ Owns V.heap.size w'.heap.size w' (lrowQ M) ∧ Aparts (lrowQ M) ∧ Below V.heap.size V w') (fun k _ _ => 3 - (intOf k).toNat)
        case atStart => exact ⟨0, [], _, _, by omega, rfl, rfl, rfl, hr, rfl, Owns.nil _ _ _, Aparts.nil, k3⟩
        case round =>
          clear hr k3
          obtain ⟨j, M, E, e, hj, rfl, rfl, hM, HR1, hdM, HO1, hapr, kw⟩ := hrel
          by_cases hlj : j < 3
          · have hj0 : (0 : Int) ≤ (j : Int) := by omega
            have hj1 : (j : Int) < 3 := by omega
            have hvz : ∀ g, (Value.slice E M.length e).ownBlock = some g → g < wr.heap.size := fun g h => (HR1.lt g h).2
            have HVM := Lib.hid hvz
            have HDM := Lib.hid (And.intro hdM (And.intro hapr hM))
            clear hvz hdM hapr
            by_cases hij : i = j
            · skip
              have HXE : Hid (∃ X, X = ofO (F i j)) := Lib.hid ⟨_, rfl⟩
              obtain ⟨X, hX⟩ := HXE.out
              have HMj : Hid (∀ (a d : Ad) W, Rds W (rows AR a) → Rds W (rows (NF 6) d) → Calls Tryz.prog 114 #[.agg #[.bool AR.p, .slice a.A AR.l.length a.c, .slice a.D AR.m.length a.d], .agg #[.bool (NF 6).p, .slice d.A (NF 6).l.length d.c, .slice d.D (NF 6).m.length d.d]] W (MadeQ W.heap.size X W)) := Lib.hid (by rw [hX]; exact HM.out i j 6 (by rw [if_pos hij]))
              have HNj := Lib.hid (fun W => HN.out 6 (by omega) W)
              generalize NF 6 = Y at HNj HMj
              unfold MadeQ at HMj
              have q : ((i : Int) == (j : Int)) = true := by rw [hij]; simp
              clear hij
              have HX := Lib.hid hX
              clear hX hM
              go_wp2_with fail
              have kw0 := kw
              clear kw
              refine wp_region_held_drew (S := fun w' => Below V.heap.size V w') (by kernel_rfl) (kw0.drew) (fun hHeld => ?_)
              have HR2 := own3_below HR1 ((Below.refl _ _).drew)
              have HO2 := HO1.below ((Below.refl _ _).drew)
              have hz0 : wr.heap.size ≤ wr.drew.heap.size := Nat.le_refl _
              have hzV : V.heap.size ≤ wr.heap.size := kw0.size
              clear HR1 HO1 kw0
              generalize wr.drew = Wd at hHeld HR2 HO2 hz0
              refine tk (i := 0) (v := ?vg1_1) rfl (by kernel_rfl) (fun _ _ _ h => h) (Or.inl ⟨by rfl, ?hg1_1⟩) hHeld ?_
              case hg1_1 => (intro w hSw; (try dsimp only at hSw); clear hSw; go_simp; (try with_reducible rfl))
              try simp only [ps]
              refine tk (i := 1) (v := ?vg1_2) rfl (by kernel_rfl) (fun _ _ _ h => h) (Or.inl ⟨by rfl, ?hg1_2⟩) hHeld ?_
              case hg1_2 => (intro w hSw; (try dsimp only at hSw); have P_a := (HW.out _ (bt KV.out hSw)).1; have t0 := rblk_cell P_a 0; have t1 := rblk_cell P_a 1; have t2 := rblk_cell P_a 2; clear hSw P_a; go_simp; (try with_reducible rfl))
              try simp only [ps]
              refine tk (i := 2) (v := ?vg1_3) rfl (by kernel_rfl) (fun _ _ _ h => h) (Or.inl ⟨by rfl, ?hg1_3⟩) hHeld ?_
              case hg1_3 => (intro w hSw; (try dsimp only at hSw); clear hSw; go_simp; (try with_reducible rfl))
              try simp only [ps]
              refine rd1 (i := 3) (by kernel_rfl) rfl (fun K hK => ?_)
              go_simp
              (go_at_call 118; ((with_reducible refine (HNj.out _).mono ?_); rintro e Wof ⟨an, rfl, hn1, hn2, on, hapn, hb⟩))
              refine hK.out _ _ (bt hHeld hb) (fun hH => ?_)
              replace hHeld := hH
              clear hK K hH
              have hz1 := hb.size
              replace HR2 := own3_below HR2 hb
              replace HO2 := HO2.below hb
              replace on := on.rds
              clear hn1 hn2 hapn
              clear hb
              try simp only [ps]
              refine rd1 (i := 4) (by kernel_rfl) rfl (fun K hK => ?_)
              go_simp
              (go_at_call 114; ((with_reducible refine (HMj.out _ _ _ (HW.out _ (bt KV.out hHeld)).2.1 on).mono ?_); rintro e Wmu ⟨am, rfl, hm1, hm2, om, hapm, hb⟩))
              refine hK.out _ _ (bt hHeld hb) (fun hH => ?_)
              replace hHeld := hH
              clear hK K hH
              have hz2 := hb.size
              replace HR2 := own3_below HR2 hb
              replace HO2 := HO2.below hb
              clear on
              clear hb
              try simp only [ps]
              refine rd1 (i := 5) (by kernel_rfl) rfl (fun K hK => ?_)
              have hHm := hHeld
              go_simp
              refine hK.out _ _ (bt hHeld (ba1 _ _)) (fun hH => ?_)
              replace hHeld := hH
              clear hK K hH
              try simp only [ps]
              refine rd1 (i := 6) (by kernel_rfl) rfl (fun K hK => ?_)
              refine wanted_op (by rfl) ?_
              refine append_rt_op (.tmp 27) (.tmp 32) rfl V.heap.size M.length V.heap.size Wof.heap.size Wmu.heap.size (.slice E M.length e) M ⟨X, am⟩ Wmu rfl rfl HR2 (by have := HDM.out.2.2; omega) hHm.size (HO2.wide (Nat.le_refl _) (by omega)) om HDM.out.2.1 hapm (fun g hg => by have := HVM.out g hg; omega) (by omega) hz2 (Nat.le_refl _) ?_
              intro v' w2 hown2 k2 hO2 hap2
              obtain ⟨E2, e2, rfl⟩ := own_formQ hown2
              refine hK.out _ _ (hHm.trans k2) (fun hH => ?_)
              replace hHeld := hH
              clear hK K hH hHm k2 HR2 HO2 om hapm
              try simp only [ps]
              refine tk (i := 7) (v := ?vg1_4) rfl (by kernel_rfl) (fun _ _ _ h => h) (Or.inl ⟨by rfl, ?hg1_4⟩) hHeld ?_
              case hg1_4 => (intro w hSw; (try dsimp only at hSw); clear hSw; go_simp; (try with_reducible rfl))
              try simp only [ps]
              refine wpAnyH_done (by kernel_rfl) ?_ _
              have HF2 := Lib.hid (And.intro hown2 (And.intro hO2 (And.intro hap2 hHeld)))
              clear hown2 hO2 hap2 hHeld hz0 hz1 hz2 hzV
              go_wp2
              go_roundw
              case rel => exact ⟨j + 1, M ++ [⟨X, am⟩], E2, e2, hlj, by go_num, by rw [List.length_append]; rfl, by rw [List.length_append, HDM.out.2.2]; rfl, by rw [List.length_append]; exact HF2.out.1, rowF_put HDM.out.1 ⟨X, am⟩ HX.out, HF2.out.2.1, HF2.out.2.2.1, HF2.out.2.2.2⟩
              case measure => simp [intOf]; omega
            · skip
              have HXE : Hid (∃ X, X = ofO (F i j)) := Lib.hid ⟨_, rfl⟩
              obtain ⟨X, hX⟩ := HXE.out
              have HMj : Hid (∀ (a d : Ad) W, Rds W (rows AR a) → Rds W (rows (NF 12) d) → Calls Tryz.prog 114 #[.agg #[.bool AR.p, .slice a.A AR.l.length a.c, .slice a.D AR.m.length a.d], .agg #[.bool (NF 12).p, .slice d.A (NF 12).l.length d.c, .slice d.D (NF 12).m.length d.d]] W (MadeQ W.heap.size X W)) := Lib.hid (by rw [hX]; exact HM.out i j 12 (by rw [if_neg hij]))
              have HNj := Lib.hid (fun W => HN.out 12 (by omega) W)
              generalize NF 12 = Y at HNj HMj
              unfold MadeQ at HMj
              have q : ((i : Int) == (j : Int)) = false := by rw [beq_eq_false_iff_ne]; omega
              clear hij
              have HX := Lib.hid hX
              clear hX hM
              go_wp2_with fail
              have kw0 := kw
              clear kw
              refine wp_region_held_drew (S := fun w' => Below V.heap.size V w') (by kernel_rfl) (kw0.drew) (fun hHeld => ?_)
              have HR2 := own3_below HR1 ((Below.refl _ _).drew)
              have HO2 := HO1.below ((Below.refl _ _).drew)
              have hz0 : wr.heap.size ≤ wr.drew.heap.size := Nat.le_refl _
              have hzV : V.heap.size ≤ wr.heap.size := kw0.size
              clear HR1 HO1 kw0
              generalize wr.drew = Wd at hHeld HR2 HO2 hz0
              refine tk (i := 0) (v := ?vg2_1) rfl (by kernel_rfl) (fun _ _ _ h => h) (Or.inl ⟨by rfl, ?hg2_1⟩) hHeld ?_
              case hg2_1 => (intro w hSw; (try dsimp only at hSw); clear hSw; go_simp; (try with_reducible rfl))
              try simp only [ps]
              refine tk (i := 1) (v := ?vg2_2) rfl (by kernel_rfl) (fun _ _ _ h => h) (Or.inl ⟨by rfl, ?hg2_2⟩) hHeld ?_
              case hg2_2 => (intro w hSw; (try dsimp only at hSw); have P_a := (HW.out _ (bt KV.out hSw)).1; have t0 := rblk_cell P_a 0; have t1 := rblk_cell P_a 1; have t2 := rblk_cell P_a 2; clear hSw P_a; go_simp; (try with_reducible rfl))
              try simp only [ps]
              refine tk (i := 2) (v := ?vg2_3) rfl (by kernel_rfl) (fun _ _ _ h => h) (Or.inl ⟨by rfl, ?hg2_3⟩) hHeld ?_
              case hg2_3 => (intro w hSw; (try dsimp only at hSw); clear hSw; go_simp; (try with_reducible rfl))
              try simp only [ps]
              refine rd1 (i := 3) (by kernel_rfl) rfl (fun K hK => ?_)
              go_simp
              (go_at_call 118; ((with_reducible refine (HNj.out _).mono ?_); rintro e Wof ⟨an, rfl, hn1, hn2, on, hapn, hb⟩))
              refine hK.out _ _ (bt hHeld hb) (fun hH => ?_)
              replace hHeld := hH
              clear hK K hH
              have hz1 := hb.size
              replace HR2 := own3_below HR2 hb
              replace HO2 := HO2.below hb
              replace on := on.rds
              clear hn1 hn2 hapn
              clear hb
              try simp only [ps]
              refine rd1 (i := 4) (by kernel_rfl) rfl (fun K hK => ?_)
              go_simp
              (go_at_call 114; ((with_reducible refine (HMj.out _ _ _ (HW.out _ (bt KV.out hHeld)).2.1 on).mono ?_); rintro e Wmu ⟨am, rfl, hm1, hm2, om, hapm, hb⟩))
              refine hK.out _ _ (bt hHeld hb) (fun hH => ?_)
              replace hHeld := hH
              clear hK K hH
              have hz2 := hb.size
              replace HR2 := own3_below HR2 hb
              replace HO2 := HO2.below hb
              clear on
              clear hb
              try simp only [ps]
              refine rd1 (i := 5) (by kernel_rfl) rfl (fun K hK => ?_)
              have hHm := hHeld
              go_simp
              refine hK.out _ _ (bt hHeld (ba1 _ _)) (fun hH => ?_)
              replace hHeld := hH
              clear hK K hH
              try simp only [ps]
              refine rd1 (i := 6) (by kernel_rfl) rfl (fun K hK => ?_)
              refine wanted_op (by rfl) ?_
              refine append_rt_op (.tmp 27) (.tmp 32) rfl V.heap.size M.length V.heap.size Wof.heap.size Wmu.heap.size (.slice E M.length e) M ⟨X, am⟩ Wmu rfl rfl HR2 (by have := HDM.out.2.2; omega) hHm.size (HO2.wide (Nat.le_refl _) (by omega)) om HDM.out.2.1 hapm (fun g hg => by have := HVM.out g hg; omega) (by omega) hz2 (Nat.le_refl _) ?_
              intro v' w2 hown2 k2 hO2 hap2
              obtain ⟨E2, e2, rfl⟩ := own_formQ hown2
              refine hK.out _ _ (hHm.trans k2) (fun hH => ?_)
              replace hHeld := hH
              clear hK K hH hHm k2 HR2 HO2 om hapm
              try simp only [ps]
              refine tk (i := 7) (v := ?vg2_4) rfl (by kernel_rfl) (fun _ _ _ h => h) (Or.inl ⟨by rfl, ?hg2_4⟩) hHeld ?_
              case hg2_4 => (intro w hSw; (try dsimp only at hSw); clear hSw; go_simp; (try with_reducible rfl))
              try simp only [ps]
              refine wpAnyH_done (by kernel_rfl) ?_ _
              have HF2 := Lib.hid (And.intro hown2 (And.intro hO2 (And.intro hap2 hHeld)))
              clear hown2 hO2 hap2 hHeld hz0 hz1 hz2 hzV
              go_wp2
              go_roundw
              case rel => exact ⟨j + 1, M ++ [⟨X, am⟩], E2, e2, hlj, by go_num, by rw [List.length_append]; rfl, by rw [List.length_append, HDM.out.2.2]; rfl, by rw [List.length_append]; exact HF2.out.1, rowF_put HDM.out.1 ⟨X, am⟩ HX.out, HF2.out.2.1, HF2.out.2.2.1, HF2.out.2.2.2⟩
              case measure => simp [intOf]; omega
          · obtain rfl : j = 3 := by omega
            obtain ⟨h1, h2⟩ := srowQ_own HR1 HO1 hapr
            have HQ := Lib.hid (And.intro h1 (And.intro h2 hdM))
            have HKW := Lib.hid (And.intro kw (bt KV.out kw))
            have hzV : V.heap.size ≤ wr.heap.size := kw.size
            clear HR1 HO1 hapr hdM h1 h2 hM
            go_wp2_with (refine append_row rfl (.tmp 34) (.tmp 36) rfl W3.heap.size R.length W3.heap.size V.heap.size wr.heap.size (.slice D R.length d) R ⟨M, E, e⟩ wr rfl rfl (own1_below HOR.out.1 kw) (by have := HRL.out; omega) (bt KV.out kw).size (HOR.out.2.2.1.below kw) HQ.out.1 HOR.out.2.2.2.1 HQ.out.2.1 HVZ.out KV.out.size hzV (Nat.le_refl _) ?_; intro v' w' hown' hb' hO' hap')
            obtain ⟨D2, d2, rfl⟩ := own_formS hown'
            have HX := Lib.hid (And.intro hown' (And.intro hO' (And.intro hap' ((HKW.out.2).trans hb'))))
            clear hown' hO' hap' hb' kw
            go_wp2
            go_roundw
            case rel => exact ⟨i + 1, R ++ [⟨M, E, e⟩], D2, d2, hlt, by go_num, by rw [List.length_append]; rfl, by rw [List.length_append, HRL.out]; rfl, by rw [List.length_append]; exact HX.out.1, matF_put HOR.out.2.1 ⟨M, E, e⟩ HQ.out.2.2, HX.out.2.1, HX.out.2.2.1, HX.out.2.2.2⟩
            case measure => simp [intOf]; omega
      · obtain rfl : i = 3 := by omega
        have hS := lenS_mat HF.out (by omega) HOR.out.2.1
        have hrd := HOR.out.1
        have HS2 := srowS_own HOR.out.1 HOR.out.2.2.1 HOR.out.2.2.2.1
        have kw := (HW.out _ kV).2.2
        have hfm : fullB R = okF F 3 3 := (fullB_dat HOR.out.2.1).trans (fullB_matF HF.out _ _)
        cases hok : okF F 3 3 with
        | true =>
          have HL := Lib.hid (spec_full_y R D d V (by rw [hRl]; omega) hS HS2.1.rds.hd HS2.1.rds.tl (hfm.trans hok))
          have HX : Hid (∀ W, Below V.heap.size V W → MadeRSS w.heap.size (fullM F 3 3) w (.returned (.slice D R.length d)) W) := Lib.hid (fun W hb => made_matS (own1_below HOR.out.1 hb) HZ.out ((HOR.out.2.2.1.below hb).wide (Nat.le_refl _) hb.size) HOR.out.2.2.2.1 HOR.out.2.1 hok (bt kw hb))
          clear hS hrd HS2 hfm hok kw kV hRl
          go_wp2_with fail
          refine HL.out.mono ?_
          rintro e W9 ⟨rfl, hb⟩
          go_wp2
          go_ret
          exact HX.out _ hb
        | false =>
          have HL := Lib.hid (spec_full_n R D d V (by rw [hRl]; omega) hS HS2.1.rds.hd HS2.1.rds.tl (hfm.trans hok))
          have HX : Hid (∀ W, Below V.heap.size V W → MadeRSS w.heap.size (fullM F 3 3) w (.returned (.slice none 0 0)) W) := Lib.hid (fun W hb => made_matN hok (bt kw hb))
          clear hS hrd HS2 hfm hok kw kV hRl
          go_wp2_with fail
          refine HL.out.mono ?_
          rintro e W9 ⟨rfl, hb⟩
          go_wp2
          go_ret
          exact HX.out _ hb
end Go.Proofs.YtppdholccpgcpaaGreat
