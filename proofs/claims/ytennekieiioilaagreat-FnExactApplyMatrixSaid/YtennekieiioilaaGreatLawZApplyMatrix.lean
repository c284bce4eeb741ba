/-
  The walk of the exact law of ApplyMatrix.
-/
import Derived.Test.YtennekieiioilaaGreatLawZ
import Derived.Test.YtennekieiioilaaGreatTk
import Derived.Test.YtennekieiioilaaGreatApM
import Derived.Test.YtennekieiioilaaGreatApI
namespace Go.Proofs.YtennekieiioilaaGreat
open Go.ChangeShapes Go.WideShapes Go.ChangeAt Go.RowKit
open Go.ChangeMaps (open_string shut_string)
set_option linter.unusedVariables false
set_option linter.unusedSimpArgs false
set_option maxRecDepth 4000

set_option maxHeartbeats 4000000 in
theorem law_apply (L0 : List MR) (A0 : Option Addr) (c0 : Nat) (L1 : List RV) (A1 : Option Addr) (c1 : Nat) (w : World) (hm0 : L0.length ≤ 9223372036854775807) (hL0 : ∀ p, p ∈ L0 → LenX p) (hA0 : RdS w A0 (flatX L0)) (hR0 : Rds w (lrowX L0)) (hm1 : L1.length ≤ 9223372036854775807) (hL1 : ∀ p, p ∈ L1 → LenQ p) (hA1 : RdS w A1 (flatQ L1)) (hR1 : Rds w (lrowQ L1)) :
    Calls Tryz.prog 4 #[.agg #[.slice A0 L0.length c0], .slice A1 L1.length c1] w fun e w' => e = .returned (.bool true) ∧ Below w.heap.size w w' := by
  have R : Hid (∀ W, Below w.heap.size w W → (RdS W A0 (flatX L0) ∧ Rds W (lrowX L0)) ∧ (RdS W A1 (flatQ L1) ∧ Rds W (lrowQ L1))) := Lib.hid (fun W hb => ⟨⟨hA0.below hb, hR0.below hb⟩, ⟨hA1.below hb, hR1.below hb⟩⟩)
  by_cases hg0 : ((L0.length : Int) + szrs L0) ≤ 1048576
  · have zp0 := szrs_pos L0
    obtain ⟨hn0, hS0⟩ := szrs_facts (L := L0) (by omega)
    have SZ0 := Lib.hid (fun W h h2 => szMx_y L0 A0 c0 1048576 W (by omega) (by omega) (by omega) h h2)
    obtain ⟨l1, hl_1⟩ : ∃ l : Int, l = 1048576 - (L0.length : Int) - szrs L0 := ⟨_, rfl⟩
    rw [← hl_1] at SZ0
    have hs1 : ¬ l1 < 0 := by omega
    by_cases hg1 : ((L0.length : Int) + szrs L0) + ((L1.length : Int) + szqs L1) ≤ 1048576
    · have zp1 := szqs_pos L1
      obtain ⟨hn1, hS1⟩ := szqs_facts (L := L1) (by omega)
      have SZ1 := Lib.hid (fun W h => szRS_y L1 A1 c1 l1 W (by omega) (by omega) (by omega) h)
      obtain ⟨l2, hl_2⟩ : ∃ l : Int, l = l1 - (L1.length : Int) - szqs L1 := ⟨_, rfl⟩
      rw [← hl_2] at SZ1
      have hs2 : ¬ l2 < 0 := by omega
      have T0 := Lib.hid (fun W h h' => toMx_r L0 A0 c0 W hn0 hS0 h h')
      have E0 := Lib.hid (fun M M' A A' c c' W hd hd' h h' => eqMx_d L0 M M' A A' c c' W hn0 hS0 hd hd' h h')
      have MK0 : Hid (∀ (M : List MR) (B : Option Addr) (k : Nat) (lo hi : Nat) (W : World), datX M = datX L0 → hi ≤ W.heap.size → Owns lo hi W (srowX B M) → Aparts (srowX B M) → Calls Tryz.prog 12 #[.agg #[.slice B M.length k], .int .i64 1] W (fun e w' => e = .returned (.int .i64 (nxxs 1 L0)) ∧ True ∧ Turn lo hi W w')) := Lib.hid (fun M B k lo hi W hd hh ow ap => (markMx_r lo hi M B k 1 W (by rw [datX_len hd]; omega) (by omega) (by omega) (by rw [szrs_dat hd]; omega) hh ow ap).mono (fun e w' hm => ⟨by rw [hm.1, nxxs_dat 1 hd], trivial, hm.2.2⟩))
      have hkk0 : nxxs 1 L0 = _ := nxxs_eq 1 L0
      generalize nxxs 1 L0 = K1 at MK0 hkk0
      have T1 := Lib.hid (fun W h h' => toRS_r L1 A1 c1 W hn1 hS1 h h')
      have E1 := Lib.hid (fun M M' A A' c c' W hd hd' h h' => eqRS_t L1 M M' A A' c c' W hn1 hS1 hd hd' h h')
      have MK1 : Hid (∀ (M : List RV) (B : Option Addr) (k : Nat) (lo hi : Nat) (W : World), datQ M = datQ L1 → hi ≤ W.heap.size → Owns lo hi W (srowQ B M) → Aparts (srowQ B M) → Calls Tryz.prog 20 #[.slice B M.length k, .int .i64 K1] W (fun e w' => e = .returned (.int .i64 (nxqs K1 L1)) ∧ True ∧ Turn lo hi W w')) := Lib.hid (fun M B k lo hi W hd hh ow ap => (markRS_r lo hi M B k K1 W (by omega) (by omega) (by rw [datQ_len hd, szqs_dat hd]; omega) hh ow ap).mono (fun e w' hm => ⟨by rw [hm.1, nxqs_dat K1 hd], trivial, hm.2.2⟩))
      have hkk1 : nxqs K1 L1 = _ := nxqs_eq K1 L1
      generalize nxqs K1 L1 = K2 at MK1 hkk1
      have hkp : ¬ K2 < 0 := by omega
      clear hkk0 hkk1
      have HS : Hid (∀ (M0 : List MR) (B0 : Option Addr) (k0 : Nat) (M1 : List RV) (B1 : Option Addr) (k1 : Nat) (W : World), datX M0 = datX L0 → (∀ p, p ∈ M0 → CapX p) → Rds W (srowX B0 M0) → datQ M1 = datQ L1 → (∀ p, p ∈ M1 → CapQ p) → Rds W (srowQ B1 M1) → Calls Tryz.prog 16 #[.agg #[.slice B0 M0.length k0], .slice B1 M1.length k1] W (MadeRS W.heap.size (appO L0 L1) W)) := Lib.hid (fun M0 B0 k0 M1 B1 k1 W hd0 hc0 h0 hd1 hc1 h1 => by
        have K := spec_apply M0 B0 k0 M1 B1 k1 W (by rw [datX_len hd0]; omega) (fun p hp => (shortX_dat hS0 hd0 p hp).len) h0.hd h0.tl (by rw [datQ_len hd1]; omega) (fun p hp => (datQ_short hd1 hS1 p hp).len) h1.hd h1.tl
        exact K.mono (fun e w' k => by
          obtain ⟨M, A, c, h1, h2, h3, h4⟩ := k
          exact ⟨M, A, c, h1, h2, h3.trans (appO_dat hd0 hd1), h4⟩))
      have HI : Hid (∀ (M0 : List MR) (B0 : Option Addr) (k0 : Nat) (M1 : List RV) (B1 : Option Addr) (k1 : Nat) (W : World), datX M0 = datX L0 → (∀ p, p ∈ M0 → CapX p) → Rds W (srowX B0 M0) → datQ M1 = datQ L1 → (∀ p, p ∈ M1 → CapQ p) → Rds W (srowQ B1 M1) → Calls Tryz.prog 18 #[.agg #[.slice B0 M0.length k0], .slice B1 M1.length k1] W (MadeRS W.heap.size (appO L0 L1) W)) := Lib.hid (fun M0 B0 k0 M1 B1 k1 W hd0 hc0 h0 hd1 hc1 h1 => by
        have K := impl_apply M0 B0 k0 M1 B1 k1 W (by rw [datX_len hd0]; omega) (fun p hp => (shortX_dat hS0 hd0 p hp).len) h0.hd h0.tl (by rw [datQ_len hd1]; omega) (fun p hp => (datQ_short hd1 hS1 p hp).len) h1.hd h1.tl
        exact K.mono (fun e w' k => by
          obtain ⟨M, A, c, h1, h2, h3, h4⟩ := k
          exact ⟨M, A, c, h1, h2, h3.trans (appO_dat hd0 hd1), h4⟩))
      have gg : ((appO L0 L1).length : Int) + szqs (appO L0 L1) ≤ 1048576 ∧ ((appO L0 L1).length ≤ 1048576 ∧ ∀ p, p ∈ (appO L0 L1) → ShortQ p) := appO_size L0 L1
      generalize appO L0 L1 = GL at HS HI gg
      have GE := Lib.hid (fun M M' A A' c c' W hd hd' h h' => eqRS_t GL M M' A A' c c' W gg.2.1 gg.2.2 hd hd' h h')
      have HM : Hid (∀ (M : List RV) (B : Option Addr) (k : Nat) (lo hi : Nat) (W : World), datQ M = datQ GL → hi ≤ W.heap.size → Owns lo hi W (srowQ B M) → Aparts (srowQ B M) → Calls Tryz.prog 20 #[.slice B M.length k, .int .i64 1] W (fun e w' => e = .returned (.int .i64 (nxqs 1 GL)) ∧ Owns lo hi w' (srowQ B (mkqs 1 M)) ∧ Turn lo hi W w')) := Lib.hid (fun M B k lo hi W hd hh ow ap => (markRS_r lo hi M B k 1 W (by omega) (by omega) (by rw [datQ_len hd, szqs_dat hd]; exact gg.1) hh ow ap).mono (fun e w' hm => ⟨by rw [hm.1, nxqs_dat 1 hd], hm.2⟩))
      have HH : Hid (∀ (M : List RV) (B : Option Addr) (k : Nat) (W : World), datQ M = datQ GL → Rds W (srowQ B (mkqs 1 M)) → Calls Tryz.prog 21 #[.slice B M.length k, .int .i64 1] W (fun e w' => e = .returned (.int .i64 (nxqs 1 GL)) ∧ Below W.heap.size W w')) := Lib.hid (fun M B k W hd h => (heldRS_r M B k 1 W (by omega) (by omega) (by rw [datQ_len hd, szqs_dat hd]; exact gg.1) h).mono (fun e w' hm => ⟨by rw [hm.1, nxqs_dat 1 hd], hm.2⟩))
      have hl1' : ¬ nxqs 1 GL < 0 := by have := szqs_pos GL; rw [nxqs_eq]; omega
      generalize nxqs 1 GL = KM at HM HH hl1'
      have q3 : (KM != KM) = false := by simp
      clear gg
      unfold MadeRS at HS HI
      generalize hnn0 : L0.length = n0 at SZ0 T0 ⊢
      generalize hnn1 : L1.length = n1 at SZ1 T1 ⊢
      clear hnn0 hg0 hl_1 hA0 hR0 hL0 hn0 hS0 hm0 zp0
      clear hnn1 hg1 hl_2 hA1 hR1 hL1 hn1 hS1 hm1 zp1
      unfold MadeMx at T0
      unfold MadeRS at T1
      go_enter Tryz.func4, Tryz.ntmps4
      have kb := ba1 w (.cells #[.slice A0 n0 c0] 24)
      have P_bt2 := heap_alloc_new w (.cells #[.slice A0 n0 c0] 24)
      have c_bt20 : (w.alloc (.cells #[.slice A0 n0 c0] 24)).cell? ⟨w.heap.size, 0, none⟩ = some (.slice A0 n0 c0) := rblk_cell P_bt2 0
      go_wp2_with fail
      clear c_bt20
      have hzW1 : w.heap.size < (w.alloc (.cells #[.slice A0 n0 c0] 24)).heap.size := by simp only [sz1]; omega
      generalize w.alloc (.cells #[.slice A0 n0 c0] 24) = W1 at kb hzW1 P_bt2 ⊢
      refine (SZ0.out _ (R.out _ kb).1.1 (R.out _ kb).1.2).mono ?_
      rintro e W2 ⟨rfl, hb⟩
      have hzW2 : W1.heap.size ≤ W2.heap.size := hb.size
      replace P_bt2 := rblk_below P_bt2 hb
      replace kb := bt kb hb
      clear hb
      go_wp2_with fail
      refine (SZ1.out _ (R.out _ kb).2.1).mono ?_
      rintro e W3 ⟨rfl, hb⟩
      have hzW3 : W2.heap.size ≤ W3.heap.size := hb.size
      replace P_bt2 := rblk_below P_bt2 hb
      replace kb := bt kb hb
      clear hb
      have c_bt20 : W3.cell? ⟨w.heap.size, 0, none⟩ = some (.slice A0 n0 c0) := rblk_cell P_bt2 0
      go_wp2_with fail
      clear c_bt20
      refine (T0.out _ (R.out _ kb).1.1 (R.out _ kb).1.2).mono ?_
      rintro e W4 ⟨M0az, A0az, c0az, rfl, hk0az, hd0az, hc0az, o0az, hap0az, hb⟩
      have hzW4 : W3.heap.size ≤ W4.heap.size := hb.size
      replace P_bt2 := rblk_below P_bt2 hb
      replace kb := bt kb hb
      clear hb
      go_wp2_with fail
      refine (T1.out _ (R.out _ kb).2.1 (R.out _ kb).2.2).mono ?_
      rintro e W5 ⟨M1bz, A1bz, c1bz, rfl, hk1bz, hd1bz, hc1bz, o1bz, hap1bz, hb⟩
      have hzW5 : W4.heap.size ≤ W5.heap.size := hb.size
      replace P_bt2 := rblk_below P_bt2 hb
      replace o0az := o0az.below hb
      replace kb := bt kb hb
      clear hb
      go_wp2_with fail
      refine (HS.out M0az A0az c0az M1bz A1bz c1bz _ hd0az hc0az o0az.rds hd1bz hc1bz o1bz.rds).mono ?_
      rintro e W6 ⟨Mcz, Acz, ccz, rfl, hkcz, hdcz, hccz, ocz, hapcz, hb⟩
      have hzW6 : W5.heap.size ≤ W6.heap.size := hb.size
      replace P_bt2 := rblk_below P_bt2 hb
      replace o0az := o0az.below hb
      replace o1bz := o1bz.below hb
      replace kb := bt kb hb
      clear hb
      have c_bt20 : W6.cell? ⟨w.heap.size, 0, none⟩ = some (.slice A0 n0 c0) := rblk_cell P_bt2 0
      go_wp2_with fail
      clear c_bt20
      clear o0az o1bz
      refine (T0.out _ (R.out _ kb).1.1 (R.out _ kb).1.2).mono ?_
      rintro e W7 ⟨M0dz, A0dz, c0dz, rfl, hk0dz, hd0dz, hc0dz, o0dz, hap0dz, hb⟩
      have hzW7 : W6.heap.size ≤ W7.heap.size := hb.size
      replace P_bt2 := rblk_below P_bt2 hb
      replace ocz := ocz.below hb
      replace kb := bt kb hb
      clear hb
      have P_bt7 := heap_alloc_new W7 (.cells #[.slice A0dz M0dz.length c0dz] 34)
      have hb := ba1 W7 (.cells #[.slice A0dz M0dz.length c0dz] 34)
      replace P_bt2 := rblk_below P_bt2 hb
      replace ocz := ocz.below hb
      replace o0dz := o0dz.below hb
      replace kb := bt kb hb
      clear hb
      have hzW8 : W7.heap.size < (W7.alloc (.cells #[.slice A0dz M0dz.length c0dz] 34)).heap.size := by rw [sz1]; omega
      go_wp2_with fail
      generalize W7.alloc (.cells #[.slice A0dz M0dz.length c0dz] 34) = W8 at kb hzW8 P_bt2 P_bt7 ocz o0dz ⊢
      refine (T1.out _ (R.out _ kb).2.1 (R.out _ kb).2.2).mono ?_
      rintro e W9 ⟨M1ez, A1ez, c1ez, rfl, hk1ez, hd1ez, hc1ez, o1ez, hap1ez, hb⟩
      have hzW9 : W8.heap.size ≤ W9.heap.size := hb.size
      replace P_bt2 := rblk_below P_bt2 hb
      replace P_bt7 := rblk_below P_bt7 hb
      replace ocz := ocz.below hb
      replace o0dz := o0dz.below hb
      replace kb := bt kb hb
      clear hb
      have c_bt70 : W9.cell? ⟨W7.heap.size, 0, none⟩ = some (.slice A0dz M0dz.length c0dz) := rblk_cell P_bt7 0
      go_wp2_with fail
      clear c_bt70
      refine (HI.out M0dz A0dz c0dz M1ez A1ez c1ez _ hd0dz hc0dz o0dz.rds hd1ez hc1ez o1ez.rds).mono ?_
      rintro e W10 ⟨Mfz, Afz, cfz, rfl, hkfz, hdfz, hcfz, ofz, hapfz, hb⟩
      have hzW10 : W9.heap.size ≤ W10.heap.size := hb.size
      replace P_bt2 := rblk_below P_bt2 hb
      replace P_bt7 := rblk_below P_bt7 hb
      replace ocz := ocz.below hb
      replace o0dz := o0dz.below hb
      replace o1ez := o1ez.below hb
      replace kb := bt kb hb
      clear hb
      go_wp2_with fail
      refine (GE.out Mfz Mcz Afz Acz cfz ccz _ hdfz hdcz ofz.rds ocz.rds).mono ?_
      rintro e W11 ⟨rfl, hb⟩
      have hzW11 : W10.heap.size ≤ W11.heap.size := hb.size
      replace P_bt2 := rblk_below P_bt2 hb
      replace P_bt7 := rblk_below P_bt7 hb
      replace ocz := ocz.below hb
      replace o0dz := o0dz.below hb
      replace o1ez := o1ez.below hb
      replace ofz := ofz.below hb
      replace kb := bt kb hb
      clear hb
      go_wp2_with fail
      have hdz := hzdrew W11
      have P_bt2' := rblk_below P_bt2 ((Below.refl W11.heap.size W11).drew)
      have P_bt7' := rblk_below P_bt7 ((Below.refl W11.heap.size W11).drew)
      replace ocz := ocz.below ((Below.refl W11.heap.size W11).drew)
      replace o0dz := o0dz.below ((Below.refl W11.heap.size W11).drew)
      replace o1ez := o1ez.below ((Below.refl W11.heap.size W11).drew)
      replace ofz := ofz.below ((Below.refl W11.heap.size W11).drew)
      replace kb := bt kb ((Below.refl W11.heap.size W11).drew)
      refine wp_region_held_drew (S := fun w' => w'.heap[W7.heap.size]? = some (.cells #[.slice A0dz M0dz.length c0dz] 34 (0, 0)) ∧ w'.heap[w.heap.size]? = some (.cells #[.slice A0 n0 c0] 24 (0, 0))) (by kernel_rfl) ⟨P_bt7', P_bt2'⟩ (fun hHeld => ?_)
      clear P_bt2
      clear P_bt2'
      clear P_bt7
      clear P_bt7'
      generalize W11.drew = W12 at *
      refine tk (i := 0) (v := ?vg3_1) rfl (by kernel_rfl) (fun _ _ _ h => h) (Or.inl ⟨by rfl, ?hg3_1⟩) hHeld ?_
      case hg3_1 => (intro w hSw; (try dsimp only at hSw); have t0 := rblk_cell hSw.1 0; clear hSw; go_simp; (try with_reducible rfl))
      try simp only [ps]
      refine tk (i := 1) (v := ?vg3_2) rfl (by kernel_rfl) (fun _ _ _ h => h) (Or.inl ⟨by rfl, ?hg3_2⟩) hHeld ?_
      case hg3_2 => (intro w hSw; (try dsimp only at hSw); have t0 := rblk_cell hSw.2 0; clear hSw; go_simp; (try with_reducible rfl))
      try simp only [ps]
      refine rd1 (i := 2) (by kernel_rfl) rfl (fun K hK => ?_)
      go_simp
      (go_at_call 8; ((with_reducible refine (T0.out _ (R.out _ kb).1.1 (R.out _ kb).1.2).mono ?_); rintro e W13 ⟨M0gz, A0gz, c0gz, rfl, hk0gz, hd0gz, hc0gz, o0gz, hap0gz, hb⟩))
      have hzW13 : W12.heap.size ≤ W13.heap.size := hb.size
      refine hK.out _ _ ⟨rblk_below hHeld.1 hb, rblk_below hHeld.2 hb⟩ (fun hH => ?_)
      replace hHeld := hH
      clear hK K hH
      replace kb := bt kb hb
      replace ocz := ocz.below hb
      replace o0dz := o0dz.below hb
      replace o1ez := o1ez.below hb
      replace ofz := ofz.below hb
      clear hb
      try simp only [ps]
      refine rd1 (i := 3) (by kernel_rfl) rfl (fun K hK => ?_)
      go_simp
      (go_at_call 11; ((with_reducible refine (E0.out M0dz M0gz A0dz A0gz c0dz c0gz _ hd0dz hd0gz o0dz.rds o0gz.rds).mono ?_); rintro e W14 ⟨rfl, hb⟩))
      have hzW14 : W13.heap.size ≤ W14.heap.size := hb.size
      refine hK.out _ _ ⟨rblk_below hHeld.1 hb, rblk_below hHeld.2 hb⟩ (fun hH => ?_)
      replace hHeld := hH
      clear hK K hH
      replace kb := bt kb hb
      replace ocz := ocz.below hb
      replace o0dz := o0dz.below hb
      replace o1ez := o1ez.below hb
      replace ofz := ofz.below hb
      replace o0gz := o0gz.below hb
      clear hb
      try simp only [ps]
      refine tk (i := 4) (v := ?vg3_3) rfl (by kernel_rfl) (fun _ _ _ h => h) (Or.inl ⟨by rfl, ?hg3_3⟩) hHeld ?_
      case hg3_3 => (intro w hSw; (try dsimp only at hSw); clear hSw; go_simp; (try with_reducible rfl))
      try simp only [ps]
      refine wpAnyH_done (by kernel_rfl) ?_ _
      have P_bt7 := hHeld.1
      have P_bt2 := hHeld.2
      clear hHeld
      go_wp2_with fail
      refine (T1.out _ (R.out _ kb).2.1 (R.out _ kb).2.2).mono ?_
      rintro e W15 ⟨M1hz, A1hz, c1hz, rfl, hk1hz, hd1hz, hc1hz, o1hz, hap1hz, hb⟩
      have hzW15 : W14.heap.size ≤ W15.heap.size := hb.size
      replace P_bt2 := rblk_below P_bt2 hb
      replace P_bt7 := rblk_below P_bt7 hb
      replace ocz := ocz.below hb
      replace o0dz := o0dz.below hb
      replace o1ez := o1ez.below hb
      replace ofz := ofz.below hb
      replace kb := bt kb hb
      clear hb
      go_wp2_with fail
      refine (E1.out M1ez M1hz A1ez A1hz c1ez c1hz _ hd1ez hd1hz o1ez.rds o1hz.rds).mono ?_
      rintro e W16 ⟨rfl, hb⟩
      have hzW16 : W15.heap.size ≤ W16.heap.size := hb.size
      replace P_bt2 := rblk_below P_bt2 hb
      replace P_bt7 := rblk_below P_bt7 hb
      replace ocz := ocz.below hb
      replace o0dz := o0dz.below hb
      replace o1ez := o1ez.below hb
      replace ofz := ofz.below hb
      replace o1hz := o1hz.below hb
      replace kb := bt kb hb
      clear hb
      have c_bt70 : W16.cell? ⟨W7.heap.size, 0, none⟩ = some (.slice A0dz M0dz.length c0dz) := rblk_cell P_bt7 0
      go_wp2_with fail
      clear c_bt70
      clear o1hz
      refine (MK0.out M0dz A0dz c0dz _ _ _ hd0dz (by omega) o0dz hap0dz).mono ?_
      rintro e W17 ⟨rfl, -, hT⟩
      replace P_bt2 := hT.blk P_bt2 (by omega)
      replace P_bt7 := hT.blk P_bt7 (by omega)
      replace kb := hT.below kb (by omega) (by omega)
      replace ocz := ocz.turn hT (by omega)
      replace o1ez := o1ez.turn hT (by omega)
      replace ofz := ofz.turn hT (by omega)
      have hzW17 : W16.heap.size ≤ W17.heap.size := hT.size
      clear hT
      clear o0dz
      go_wp2_with fail
      refine (MK1.out M1ez A1ez c1ez _ _ _ hd1ez (by omega) o1ez hap1ez).mono ?_
      rintro e W18 ⟨rfl, -, hT⟩
      replace P_bt2 := hT.blk P_bt2 (by omega)
      replace P_bt7 := hT.blk P_bt7 (by omega)
      replace kb := hT.below kb (by omega) (by omega)
      replace ocz := ocz.turn hT (by omega)
      replace ofz := ofz.turn hT (by omega)
      have hzW18 : W17.heap.size ≤ W18.heap.size := hT.size
      clear hT
      clear o1ez
      go_wp2_with fail
      refine (GE.out Mfz Mcz Afz Acz cfz ccz _ hdfz hdcz ofz.rds ocz.rds).mono ?_
      rintro e W19 ⟨rfl, hb⟩
      have hzW19 : W18.heap.size ≤ W19.heap.size := hb.size
      replace P_bt2 := rblk_below P_bt2 hb
      replace P_bt7 := rblk_below P_bt7 hb
      replace ocz := ocz.below hb
      replace ofz := ofz.below hb
      replace kb := bt kb hb
      clear hb
      go_wp2_with fail
      refine (HM.out Mfz Afz cfz _ _ _ hdfz (by omega) ofz hapfz).mono ?_
      rintro e W20 ⟨rfl, ofzq, hT⟩
      replace P_bt2 := hT.blk P_bt2 (by omega)
      replace P_bt7 := hT.blk P_bt7 (by omega)
      replace kb := hT.below kb (by omega) (by omega)
      replace ocz := ocz.turn hT (by omega)
      have hzW20 : W19.heap.size ≤ W20.heap.size := hT.size
      clear hT
      clear ofz
      have ofz := ofzq
      clear ofzq
      go_wp2_with fail
      refine (HH.out Mfz Afz cfz _ hdfz ofz.rds).mono ?_
      rintro e W21 ⟨rfl, hb⟩
      have hzW21 : W20.heap.size ≤ W21.heap.size := hb.size
      replace P_bt2 := rblk_below P_bt2 hb
      replace P_bt7 := rblk_below P_bt7 hb
      replace ocz := ocz.below hb
      replace ofz := ofz.below hb
      replace kb := bt kb hb
      clear hb
      have c_bt20 : W21.cell? ⟨w.heap.size, 0, none⟩ = some (.slice A0 n0 c0) := rblk_cell P_bt2 0
      go_wp2_with fail
      clear c_bt20
      refine (T0.out _ (R.out _ kb).1.1 (R.out _ kb).1.2).mono ?_
      rintro e W22 ⟨M0iz, A0iz, c0iz, rfl, hk0iz, hd0iz, hc0iz, o0iz, hap0iz, hb⟩
      have hzW22 : W21.heap.size ≤ W22.heap.size := hb.size
      replace P_bt2 := rblk_below P_bt2 hb
      replace P_bt7 := rblk_below P_bt7 hb
      replace ocz := ocz.below hb
      replace ofz := ofz.below hb
      replace kb := bt kb hb
      clear hb
      go_wp2_with fail
      refine (T1.out _ (R.out _ kb).2.1 (R.out _ kb).2.2).mono ?_
      rintro e W23 ⟨M1jz, A1jz, c1jz, rfl, hk1jz, hd1jz, hc1jz, o1jz, hap1jz, hb⟩
      have hzW23 : W22.heap.size ≤ W23.heap.size := hb.size
      replace P_bt2 := rblk_below P_bt2 hb
      replace P_bt7 := rblk_below P_bt7 hb
      replace ocz := ocz.below hb
      replace ofz := ofz.below hb
      replace o0iz := o0iz.below hb
      replace kb := bt kb hb
      clear hb
      go_wp2_with fail
      refine (HI.out M0iz A0iz c0iz M1jz A1jz c1jz _ hd0iz hc0iz o0iz.rds hd1jz hc1jz o1jz.rds).mono ?_
      rintro e W24 ⟨Mkz, Akz, ckz, rfl, hkkz, hdkz, hckz, okz, hapkz, hb⟩
      have hzW24 : W23.heap.size ≤ W24.heap.size := hb.size
      replace P_bt2 := rblk_below P_bt2 hb
      replace P_bt7 := rblk_below P_bt7 hb
      replace ocz := ocz.below hb
      replace ofz := ofz.below hb
      replace o0iz := o0iz.below hb
      replace o1jz := o1jz.below hb
      replace kb := bt kb hb
      clear hb
      go_wp2_with fail
      clear o0iz o1jz
      refine (GE.out Mkz Mcz Akz Acz ckz ccz _ hdkz hdcz okz.rds ocz.rds).mono ?_
      rintro e W25 ⟨rfl, hb⟩
      have hzW25 : W24.heap.size ≤ W25.heap.size := hb.size
      replace P_bt2 := rblk_below P_bt2 hb
      replace P_bt7 := rblk_below P_bt7 hb
      replace ocz := ocz.below hb
      replace ofz := ofz.below hb
      replace okz := okz.below hb
      replace kb := bt kb hb
      clear hb
      go_wp2_with fail
      clear ocz okz
      refine (HH.out Mfz Afz cfz _ hdfz ofz.rds).mono ?_
      rintro e W26 ⟨rfl, hb⟩
      have hzW26 : W25.heap.size ≤ W26.heap.size := hb.size
      replace P_bt2 := rblk_below P_bt2 hb
      replace P_bt7 := rblk_below P_bt7 hb
      replace ofz := ofz.below hb
      replace kb := bt kb hb
      clear hb
      go_wp2
      go_ret
      exact ⟨rfl, kb⟩
    · have SZ1 := Lib.hid (fun W h => szRS_n L1 A1 c1 l1 W hm1 hL1 (by omega) (by omega) (by omega) h)
      clear hg0 hg1 zp0 hl_1 hn0 hS0 hm0 hL0 hA0 hR0 hm1 hL1 hA1 hR1
      generalize L0.length = n0 at SZ0 ⊢
      generalize L1.length = n1 at SZ1 ⊢
      go_enter Tryz.func4, Tryz.ntmps4
      have kb := ba1 w (.cells #[.slice A0 n0 c0] 24)
      have P_bt2 := heap_alloc_new w (.cells #[.slice A0 n0 c0] 24)
      have c_bt20 : (w.alloc (.cells #[.slice A0 n0 c0] 24)).cell? ⟨w.heap.size, 0, none⟩ = some (.slice A0 n0 c0) := rblk_cell P_bt2 0
      go_wp2_with fail
      clear c_bt20
      generalize w.alloc (.cells #[.slice A0 n0 c0] 24) = W1 at kb P_bt2 ⊢
      refine (SZ0.out _ (R.out _ kb).1.1 (R.out _ kb).1.2).mono ?_
      rintro e W2 ⟨rfl, hb⟩
      have hzW2 : W1.heap.size ≤ W2.heap.size := hb.size
      replace P_bt2 := rblk_below P_bt2 hb
      replace kb := bt kb hb
      clear hb
      go_wp2_with fail
      refine (SZ1.out _ (R.out _ kb).2.1).mono ?_
      rintro e W3 ⟨rfl, hb⟩
      have hzW3 : W2.heap.size ≤ W3.heap.size := hb.size
      replace P_bt2 := rblk_below P_bt2 hb
      replace kb := bt kb hb
      clear hb
      go_wp2
      go_ret
      exact ⟨rfl, kb⟩
  · have SZ0 := Lib.hid (fun W h h2 => szMx_n L0 A0 c0 1048576 W hm0 hL0 (by omega) (by omega) (by omega) h h2)
    clear hg0 hm0 hL0 hA0 hR0 hm1 hL1 hA1 hR1
    generalize L0.length = n0 at SZ0 ⊢
    go_enter Tryz.func4, Tryz.ntmps4
    have kb := ba1 w (.cells #[.slice A0 n0 c0] 24)
    have P_bt2 := heap_alloc_new w (.cells #[.slice A0 n0 c0] 24)
    have c_bt20 : (w.alloc (.cells #[.slice A0 n0 c0] 24)).cell? ⟨w.heap.size, 0, none⟩ = some (.slice A0 n0 c0) := rblk_cell P_bt2 0
    go_wp2_with fail
    clear c_bt20
    generalize w.alloc (.cells #[.slice A0 n0 c0] 24) = W1 at kb P_bt2 ⊢
    refine (SZ0.out _ (R.out _ kb).1.1 (R.out _ kb).1.2).mono ?_
    rintro e W2 ⟨rfl, hb⟩
    have hzW2 : W1.heap.size ≤ W2.heap.size := hb.size
    replace P_bt2 := rblk_below P_bt2 hb
    replace kb := bt kb hb
    clear hb
    go_wp2
    go_ret
    exact ⟨rfl, kb⟩
end Go.Proofs.YtennekieiioilaaGreat
