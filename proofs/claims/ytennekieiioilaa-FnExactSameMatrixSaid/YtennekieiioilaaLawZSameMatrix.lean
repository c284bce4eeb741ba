/-
  The walk of the exact law of SameMatrix.
-/
import Derived.Test.YtennekieiioilaaLawZ
import Derived.Test.YtennekieiioilaaTk
import Derived.Test.YtennekieiioilaaSxS
import Derived.Test.YtennekieiioilaaSxI
namespace Go.Proofs.Ytennekieiioilaa
open Go.ChangeShapes Go.WideShapes Go.ChangeAt Go.RowKit
open Go.ChangeMaps (open_string shut_string)
set_option linter.unusedVariables false
set_option linter.unusedSimpArgs false
set_option maxRecDepth 4000

set_option maxHeartbeats 4000000 in
theorem law_sameX (L0 : List MR) (A0 : Option Addr) (c0 : Nat) (L1 : List MR) (A1 : Option Addr) (c1 : Nat) (w : World) (hm0 : L0.length ≤ 9223372036854775807) (hL0 : ∀ p, p ∈ L0 → LenX p) (hA0 : RdS w A0 (flatX L0)) (hR0 : Rds w (lrowX L0)) (hm1 : L1.length ≤ 9223372036854775807) (hL1 : ∀ p, p ∈ L1 → LenX p) (hA1 : RdS w A1 (flatX L1)) (hR1 : Rds w (lrowX L1)) :
    Calls Try.prog 4 #[.agg #[.slice A0 L0.length c0], .agg #[.slice A1 L1.length c1]] w fun e w' => e = .returned (.bool true) ∧ Below w.heap.size w w' := by
  have R : Hid (∀ W, Below w.heap.size w W → (RdS W A0 (flatX L0) ∧ Rds W (lrowX L0)) ∧ (RdS W A1 (flatX L1) ∧ Rds W (lrowX L1))) := Lib.hid (fun W hb => ⟨⟨hA0.below hb, hR0.below hb⟩, ⟨hA1.below hb, hR1.below hb⟩⟩)
  by_cases hg0 : ((L0.length : Int) + szrs L0) ≤ 1048576
  · have zp0 := szrs_pos L0
    obtain ⟨hn0, hS0⟩ := szrs_facts (L := L0) (by omega)
    have SZ0 := Lib.hid (fun W h h2 => szMx_y L0 A0 c0 1048576 W (by omega) (by omega) (by omega) h h2)
    obtain ⟨l1, hl_1⟩ : ∃ l : Int, l = 1048576 - (L0.length : Int) - szrs L0 := ⟨_, rfl⟩
    rw [← hl_1] at SZ0
    have hs1 : ¬ l1 < 0 := by omega
    by_cases hg1 : ((L0.length : Int) + szrs L0) + ((L1.length : Int) + szrs L1) ≤ 1048576
    · have zp1 := szrs_pos L1
      obtain ⟨hn1, hS1⟩ := szrs_facts (L := L1) (by omega)
      have SZ1 := Lib.hid (fun W h h2 => szMx_y L1 A1 c1 l1 W (by omega) (by omega) (by omega) h h2)
      obtain ⟨l2, hl_2⟩ : ∃ l : Int, l = l1 - (L1.length : Int) - szrs L1 := ⟨_, rfl⟩
      rw [← hl_2] at SZ1
      have hs2 : ¬ l2 < 0 := by omega
      have T0 := Lib.hid (fun W h h' => toMx_r L0 A0 c0 W hn0 hS0 h h')
      have E0 := Lib.hid (fun M M' A A' c c' W hd hd' h h' => eqMx_d L0 M M' A A' c c' W hn0 hS0 hd hd' h h')
      have T1 := Lib.hid (fun W h h' => toMx_r L1 A1 c1 W hn1 hS1 h h')
      have E1 := Lib.hid (fun M M' A A' c c' W hd hd' h h' => eqMx_d L1 M M' A A' c c' W hn1 hS1 hd hd' h h')
      have HS : Hid (∀ (M0 : List MR) (B0 : Option Addr) (k0 : Nat) (M1 : List MR) (B1 : Option Addr) (k1 : Nat) (W : World), datX M0 = datX L0 → (∀ p, p ∈ M0 → CapX p) → Rds W (srowX B0 M0) → datX M1 = datX L1 → (∀ p, p ∈ M1 → CapX p) → Rds W (srowX B1 M1) → Calls Try.prog 10 #[.agg #[.slice B0 M0.length k0], .agg #[.slice B1 M1.length k1]] W (fun e w' => e = .returned (.bool (sameX L0 L1)) ∧ Below W.heap.size W w')) := Lib.hid (fun M0 B0 k0 M1 B1 k1 W hd0 hc0 h0 hd1 hc1 h1 => by
        have K := spec_sameX M0 M1 B0 B1 k0 k1 W (by rw [datX_len hd0]; omega) (shortX_dat hS0 hd0) h0.hd h0.tl (by rw [datX_len hd1]; omega) (shortX_dat hS1 hd1) h1.hd h1.tl
        rw [sameX_dat hd0 hd1] at K; exact K)
      have HI : Hid (∀ (M0 : List MR) (B0 : Option Addr) (k0 : Nat) (M1 : List MR) (B1 : Option Addr) (k1 : Nat) (W : World), datX M0 = datX L0 → (∀ p, p ∈ M0 → CapX p) → Rds W (srowX B0 M0) → datX M1 = datX L1 → (∀ p, p ∈ M1 → CapX p) → Rds W (srowX B1 M1) → Calls Try.prog 11 #[.agg #[.slice B0 M0.length k0], .agg #[.slice B1 M1.length k1]] W (fun e w' => e = .returned (.bool (sameX L0 L1)) ∧ Below W.heap.size W w')) := Lib.hid (fun M0 B0 k0 M1 B1 k1 W hd0 hc0 h0 hd1 hc1 h1 => by
        have K := impl_sameX M0 M1 B0 B1 k0 k1 W (by rw [datX_len hd0]; omega) (shortX_dat hS0 hd0) h0.hd h0.tl (by rw [datX_len hd1]; omega) (shortX_dat hS1 hd1) h1.hd h1.tl
        rw [sameX_dat hd0 hd1] at K; exact K)
      generalize sameX L0 L1 = r at HS HI
      have q1 : (r != r) = false := by simp
      generalize hnn0 : L0.length = n0 at SZ0 T0 ⊢
      generalize hnn1 : L1.length = n1 at SZ1 T1 ⊢
      clear hnn0 hg0 hl_1 hA0 hR0 hL0 hn0 hS0 hm0 zp0
      clear hnn1 hg1 hl_2 hA1 hR1 hL1 hn1 hS1 hm1 zp1
      unfold MadeMx at T0
      unfold MadeMx at T1
      go_enter Try.func4, Try.ntmps4
      have kb := ba2 w (.cells #[.slice A0 n0 c0] 24) (.cells #[.slice A1 n1 c1] 24)
      obtain ⟨P_bt2, P_bt3⟩ := blocks2 w (.cells #[.slice A0 n0 c0] 24) (.cells #[.slice A1 n1 c1] 24)
      have c_bt20 : ((w.alloc (.cells #[.slice A0 n0 c0] 24)).alloc (.cells #[.slice A1 n1 c1] 24)).cell? ⟨w.heap.size, 0, none⟩ = some (.slice A0 n0 c0) := rblk_cell P_bt2 0
      go_wp2_with fail
      clear c_bt20
      have hzW1 : w.heap.size < ((w.alloc (.cells #[.slice A0 n0 c0] 24)).alloc (.cells #[.slice A1 n1 c1] 24)).heap.size := by simp only [sz1]; omega
      generalize (w.alloc (.cells #[.slice A0 n0 c0] 24)).alloc (.cells #[.slice A1 n1 c1] 24) = W1 at kb hzW1 P_bt2 P_bt3 ⊢
      refine (SZ0.out _ (R.out _ kb).1.1 (R.out _ kb).1.2).mono ?_
      rintro e W2 ⟨rfl, hb⟩
      have hzW2 : W1.heap.size ≤ W2.heap.size := hb.size
      replace P_bt2 := rblk_below P_bt2 hb
      replace P_bt3 := rblk_below P_bt3 hb
      replace kb := bt kb hb
      clear hb
      have c_bt30 : W2.cell? ⟨w.heap.size + 1, 0, none⟩ = some (.slice A1 n1 c1) := rblk_cell P_bt3 0
      go_wp2_with fail
      clear c_bt30
      refine (SZ1.out _ (R.out _ kb).2.1 (R.out _ kb).2.2).mono ?_
      rintro e W3 ⟨rfl, hb⟩
      have hzW3 : W2.heap.size ≤ W3.heap.size := hb.size
      replace P_bt2 := rblk_below P_bt2 hb
      replace P_bt3 := rblk_below P_bt3 hb
      replace kb := bt kb hb
      clear hb
      go_wp2_with fail
      have hdz := hzdrew W3
      have P_bt2' := rblk_below P_bt2 ((Below.refl W3.heap.size W3).drew)
      have P_bt3' := rblk_below P_bt3 ((Below.refl W3.heap.size W3).drew)
      replace kb := bt kb ((Below.refl W3.heap.size W3).drew)
      refine wp_region_held_drew (S := fun w' => w'.heap[w.heap.size]? = some (.cells #[.slice A0 n0 c0] 24 (0, 0)) ∧ w'.heap[w.heap.size + 1]? = some (.cells #[.slice A1 n1 c1] 24 (0, 0))) (by kernel_rfl) ⟨P_bt2', P_bt3'⟩ (fun hHeld => ?_)
      clear P_bt2
      clear P_bt2'
      clear P_bt3
      clear P_bt3'
      generalize W3.drew = W4 at *
      refine tk (i := 0) (v := ?vg2_1) rfl (by kernel_rfl) (fun _ _ _ h => h) (Or.inl ⟨by rfl, ?hg2_1⟩) hHeld ?_
      case hg2_1 => (intro w hSw; (try dsimp only at hSw); have t0 := rblk_cell hSw.1 0; clear hSw; go_simp; (try with_reducible rfl))
      try simp only [ps]
      refine tk (i := 2) (v := ?vg2_2) rfl (by kernel_rfl) (fun _ _ _ h => h) (Or.inl ⟨by rfl, ?hg2_2⟩) hHeld ?_
      case hg2_2 => (intro w hSw; (try dsimp only at hSw); have t0 := rblk_cell hSw.2 0; clear hSw; go_simp; (try with_reducible rfl))
      try simp only [ps]
      refine rd1 (i := 1) (by kernel_rfl) rfl (fun K hK => ?_)
      go_simp
      (go_at_call 7; ((with_reducible refine (T0.out _ (R.out _ kb).1.1 (R.out _ kb).1.2).mono ?_); rintro e W5 ⟨M0az, A0az, c0az, rfl, hk0az, hd0az, hc0az, o0az, hap0az, hb⟩))
      have hzW5 : W4.heap.size ≤ W5.heap.size := hb.size
      refine hK.out _ _ ⟨rblk_below hHeld.1 hb, rblk_below hHeld.2 hb⟩ (fun hH => ?_)
      replace hHeld := hH
      clear hK K hH
      replace kb := bt kb hb
      clear hb
      try simp only [ps]
      refine rd1 (i := 3) (by kernel_rfl) rfl (fun K hK => ?_)
      go_simp
      (go_at_call 7; ((with_reducible refine (T1.out _ (R.out _ kb).2.1 (R.out _ kb).2.2).mono ?_); rintro e W6 ⟨M1bz, A1bz, c1bz, rfl, hk1bz, hd1bz, hc1bz, o1bz, hap1bz, hb⟩))
      have hzW6 : W5.heap.size ≤ W6.heap.size := hb.size
      refine hK.out _ _ ⟨rblk_below hHeld.1 hb, rblk_below hHeld.2 hb⟩ (fun hH => ?_)
      replace hHeld := hH
      clear hK K hH
      replace kb := bt kb hb
      replace o0az := o0az.below hb
      clear hb
      try simp only [ps]
      refine rd1 (i := 4) (by kernel_rfl) rfl (fun K hK => ?_)
      go_simp
      (go_at_call 10; ((with_reducible refine (HS.out M0az A0az c0az M1bz A1bz c1bz _ hd0az hc0az o0az.rds hd1bz hc1bz o1bz.rds).mono ?_); rintro e W7 ⟨rfl, hb⟩))
      have hzW7 : W6.heap.size ≤ W7.heap.size := hb.size
      refine hK.out _ _ ⟨rblk_below hHeld.1 hb, rblk_below hHeld.2 hb⟩ (fun hH => ?_)
      replace hHeld := hH
      clear hK K hH
      replace kb := bt kb hb
      replace o0az := o0az.below hb
      replace o1bz := o1bz.below hb
      clear hb
      try simp only [ps]
      refine tk (i := 5) (v := ?vg2_3) rfl (by kernel_rfl) (fun _ _ _ h => h) (Or.inl ⟨by rfl, ?hg2_3⟩) hHeld ?_
      case hg2_3 => (intro w hSw; (try dsimp only at hSw); clear hSw; go_simp; (try with_reducible rfl))
      try simp only [ps]
      refine wpAnyH_done (by kernel_rfl) ?_ _
      have P_bt2 := hHeld.1
      have P_bt3 := hHeld.2
      clear hHeld
      have c_bt20 : W7.cell? ⟨w.heap.size, 0, none⟩ = some (.slice A0 n0 c0) := rblk_cell P_bt2 0
      go_wp2_with fail
      clear c_bt20
      refine (T0.out _ (R.out _ kb).1.1 (R.out _ kb).1.2).mono ?_
      rintro e W8 ⟨M0cz, A0cz, c0cz, rfl, hk0cz, hd0cz, hc0cz, o0cz, hap0cz, hb⟩
      have hzW8 : W7.heap.size ≤ W8.heap.size := hb.size
      replace P_bt2 := rblk_below P_bt2 hb
      replace P_bt3 := rblk_below P_bt3 hb
      replace kb := bt kb hb
      clear hb
      have P_bt7 := heap_alloc_new W8 (.cells #[.slice A0cz M0cz.length c0cz] 29)
      have hb := ba1 W8 (.cells #[.slice A0cz M0cz.length c0cz] 29)
      replace P_bt2 := rblk_below P_bt2 hb
      replace P_bt3 := rblk_below P_bt3 hb
      replace o0cz := o0cz.below hb
      replace kb := bt kb hb
      clear hb
      have hzW9 : W8.heap.size < (W8.alloc (.cells #[.slice A0cz M0cz.length c0cz] 29)).heap.size := by rw [sz1]; omega
      have c_bt30 : (W8.alloc (.cells #[.slice A0cz M0cz.length c0cz] 29)).cell? ⟨w.heap.size + 1, 0, none⟩ = some (.slice A1 n1 c1) := rblk_cell P_bt3 0
      go_wp2_with fail
      clear c_bt30
      generalize W8.alloc (.cells #[.slice A0cz M0cz.length c0cz] 29) = W9 at kb hzW9 P_bt2 P_bt3 P_bt7 o0cz ⊢
      refine (T1.out _ (R.out _ kb).2.1 (R.out _ kb).2.2).mono ?_
      rintro e W10 ⟨M1dz, A1dz, c1dz, rfl, hk1dz, hd1dz, hc1dz, o1dz, hap1dz, hb⟩
      have hzW10 : W9.heap.size ≤ W10.heap.size := hb.size
      replace P_bt2 := rblk_below P_bt2 hb
      replace P_bt3 := rblk_below P_bt3 hb
      replace P_bt7 := rblk_below P_bt7 hb
      replace o0cz := o0cz.below hb
      replace kb := bt kb hb
      clear hb
      have P_bt8 := heap_alloc_new W10 (.cells #[.slice A1dz M1dz.length c1dz] 29)
      have hb := ba1 W10 (.cells #[.slice A1dz M1dz.length c1dz] 29)
      replace P_bt2 := rblk_below P_bt2 hb
      replace P_bt3 := rblk_below P_bt3 hb
      replace P_bt7 := rblk_below P_bt7 hb
      replace o0cz := o0cz.below hb
      replace o1dz := o1dz.below hb
      replace kb := bt kb hb
      clear hb
      have hzW11 : W10.heap.size < (W10.alloc (.cells #[.slice A1dz M1dz.length c1dz] 29)).heap.size := by rw [sz1]; omega
      have c_bt70 : (W10.alloc (.cells #[.slice A1dz M1dz.length c1dz] 29)).cell? ⟨W8.heap.size, 0, none⟩ = some (.slice A0cz M0cz.length c0cz) := rblk_cell P_bt7 0
      have c_bt80 : (W10.alloc (.cells #[.slice A1dz M1dz.length c1dz] 29)).cell? ⟨W10.heap.size, 0, none⟩ = some (.slice A1dz M1dz.length c1dz) := rblk_cell P_bt8 0
      go_wp2_with fail
      clear c_bt70 c_bt80
      generalize W10.alloc (.cells #[.slice A1dz M1dz.length c1dz] 29) = W11 at kb hzW11 P_bt2 P_bt3 P_bt7 P_bt8 o0cz o1dz ⊢
      refine (HI.out M0cz A0cz c0cz M1dz A1dz c1dz _ hd0cz hc0cz o0cz.rds hd1dz hc1dz o1dz.rds).mono ?_
      rintro e W12 ⟨rfl, hb⟩
      have hzW12 : W11.heap.size ≤ W12.heap.size := hb.size
      replace P_bt2 := rblk_below P_bt2 hb
      replace P_bt3 := rblk_below P_bt3 hb
      replace P_bt7 := rblk_below P_bt7 hb
      replace P_bt8 := rblk_below P_bt8 hb
      replace o0cz := o0cz.below hb
      replace o1dz := o1dz.below hb
      replace kb := bt kb hb
      clear hb
      go_wp2_with fail
      have hdz := hzdrew W12
      have P_bt2' := rblk_below P_bt2 ((Below.refl W12.heap.size W12).drew)
      have P_bt3' := rblk_below P_bt3 ((Below.refl W12.heap.size W12).drew)
      have P_bt7' := rblk_below P_bt7 ((Below.refl W12.heap.size W12).drew)
      have P_bt8' := rblk_below P_bt8 ((Below.refl W12.heap.size W12).drew)
      replace o0cz := o0cz.below ((Below.refl W12.heap.size W12).drew)
      replace o1dz := o1dz.below ((Below.refl W12.heap.size W12).drew)
      replace kb := bt kb ((Below.refl W12.heap.size W12).drew)
      refine wp_region_held_drew (S := fun w' => w'.heap[W8.heap.size]? = some (.cells #[.slice A0cz M0cz.length c0cz] 29 (0, 0)) ∧ w'.heap[w.heap.size]? = some (.cells #[.slice A0 n0 c0] 24 (0, 0))) (by kernel_rfl) ⟨P_bt7', P_bt2'⟩ (fun hHeld => ?_)
      clear P_bt2
      clear P_bt2'
      clear P_bt3
      have P_bt3 := P_bt3'
      clear P_bt3'
      clear P_bt7
      clear P_bt7'
      clear P_bt8
      have P_bt8 := P_bt8'
      clear P_bt8'
      generalize W12.drew = W13 at *
      refine tk (i := 0) (v := ?vg3_1) rfl (by kernel_rfl) (fun _ _ _ h => h) (Or.inl ⟨by rfl, ?hg3_1⟩) hHeld ?_
      case hg3_1 => (intro w hSw; (try dsimp only at hSw); have t0 := rblk_cell hSw.1 0; clear hSw; go_simp; (try with_reducible rfl))
      try simp only [ps]
      refine tk (i := 1) (v := ?vg3_2) rfl (by kernel_rfl) (fun _ _ _ h => h) (Or.inl ⟨by rfl, ?hg3_2⟩) hHeld ?_
      case hg3_2 => (intro w hSw; (try dsimp only at hSw); have t0 := rblk_cell hSw.2 0; clear hSw; go_simp; (try with_reducible rfl))
      try simp only [ps]
      refine rd1 (i := 2) (by kernel_rfl) rfl (fun K hK => ?_)
      go_simp
      (go_at_call 7; ((with_reducible refine (T0.out _ (R.out _ kb).1.1 (R.out _ kb).1.2).mono ?_); rintro e W14 ⟨M0ez, A0ez, c0ez, rfl, hk0ez, hd0ez, hc0ez, o0ez, hap0ez, hb⟩))
      have hzW14 : W13.heap.size ≤ W14.heap.size := hb.size
      refine hK.out _ _ ⟨rblk_below hHeld.1 hb, rblk_below hHeld.2 hb⟩ (fun hH => ?_)
      replace hHeld := hH
      clear hK K hH
      replace kb := bt kb hb
      replace P_bt3 := rblk_below P_bt3 hb
      replace P_bt8 := rblk_below P_bt8 hb
      replace o0cz := o0cz.below hb
      replace o1dz := o1dz.below hb
      clear hb
      try simp only [ps]
      refine rd1 (i := 3) (by kernel_rfl) rfl (fun K hK => ?_)
      go_simp
      (go_at_call 9; ((with_reducible refine (E0.out M0cz M0ez A0cz A0ez c0cz c0ez _ hd0cz hd0ez o0cz.rds o0ez.rds).mono ?_); rintro e W15 ⟨rfl, hb⟩))
      have hzW15 : W14.heap.size ≤ W15.heap.size := hb.size
      refine hK.out _ _ ⟨rblk_below hHeld.1 hb, rblk_below hHeld.2 hb⟩ (fun hH => ?_)
      replace hHeld := hH
      clear hK K hH
      replace kb := bt kb hb
      replace P_bt3 := rblk_below P_bt3 hb
      replace P_bt8 := rblk_below P_bt8 hb
      replace o0cz := o0cz.below hb
      replace o1dz := o1dz.below hb
      replace o0ez := o0ez.below hb
      clear hb
      try simp only [ps]
      refine tk (i := 4) (v := ?vg3_3) rfl (by kernel_rfl) (fun _ _ _ h => h) (Or.inl ⟨by rfl, ?hg3_3⟩) hHeld ?_
      case hg3_3 => (intro w hSw; (try dsimp only at hSw); clear hSw; go_simp; (try with_reducible rfl))
      try simp only [ps]
      refine wpAnyH_done (by kernel_rfl) ?_ _
      have P_bt7 := hHeld.1
      have P_bt2 := hHeld.2
      clear hHeld
      go_wp2_with fail
      clear o0cz
      have hdz := hzdrew W15
      have P_bt2' := rblk_below P_bt2 ((Below.refl W15.heap.size W15).drew)
      have P_bt3' := rblk_below P_bt3 ((Below.refl W15.heap.size W15).drew)
      have P_bt7' := rblk_below P_bt7 ((Below.refl W15.heap.size W15).drew)
      have P_bt8' := rblk_below P_bt8 ((Below.refl W15.heap.size W15).drew)
      replace o1dz := o1dz.below ((Below.refl W15.heap.size W15).drew)
      replace kb := bt kb ((Below.refl W15.heap.size W15).drew)
      refine wp_region_held_drew (S := fun w' => w'.heap[W10.heap.size]? = some (.cells #[.slice A1dz M1dz.length c1dz] 29 (0, 0)) ∧ w'.heap[w.heap.size + 1]? = some (.cells #[.slice A1 n1 c1] 24 (0, 0))) (by kernel_rfl) ⟨P_bt8', P_bt3'⟩ (fun hHeld => ?_)
      clear P_bt2
      have P_bt2 := P_bt2'
      clear P_bt2'
      clear P_bt3
      clear P_bt3'
      clear P_bt7
      have P_bt7 := P_bt7'
      clear P_bt7'
      clear P_bt8
      clear P_bt8'
      generalize W15.drew = W16 at *
      refine tk (i := 0) (v := ?vg4_1) rfl (by kernel_rfl) (fun _ _ _ h => h) (Or.inl ⟨by rfl, ?hg4_1⟩) hHeld ?_
      case hg4_1 => (intro w hSw; (try dsimp only at hSw); have t0 := rblk_cell hSw.1 0; clear hSw; go_simp; (try with_reducible rfl))
      try simp only [ps]
      refine tk (i := 1) (v := ?vg4_2) rfl (by kernel_rfl) (fun _ _ _ h => h) (Or.inl ⟨by rfl, ?hg4_2⟩) hHeld ?_
      case hg4_2 => (intro w hSw; (try dsimp only at hSw); have t0 := rblk_cell hSw.2 0; clear hSw; go_simp; (try with_reducible rfl))
      try simp only [ps]
      refine rd1 (i := 2) (by kernel_rfl) rfl (fun K hK => ?_)
      go_simp
      (go_at_call 7; ((with_reducible refine (T1.out _ (R.out _ kb).2.1 (R.out _ kb).2.2).mono ?_); rintro e W17 ⟨M1fz, A1fz, c1fz, rfl, hk1fz, hd1fz, hc1fz, o1fz, hap1fz, hb⟩))
      have hzW17 : W16.heap.size ≤ W17.heap.size := hb.size
      refine hK.out _ _ ⟨rblk_below hHeld.1 hb, rblk_below hHeld.2 hb⟩ (fun hH => ?_)
      replace hHeld := hH
      clear hK K hH
      replace kb := bt kb hb
      replace P_bt2 := rblk_below P_bt2 hb
      replace P_bt7 := rblk_below P_bt7 hb
      replace o1dz := o1dz.below hb
      clear hb
      try simp only [ps]
      refine rd1 (i := 3) (by kernel_rfl) rfl (fun K hK => ?_)
      go_simp
      (go_at_call 9; ((with_reducible refine (E1.out M1dz M1fz A1dz A1fz c1dz c1fz _ hd1dz hd1fz o1dz.rds o1fz.rds).mono ?_); rintro e W18 ⟨rfl, hb⟩))
      have hzW18 : W17.heap.size ≤ W18.heap.size := hb.size
      refine hK.out _ _ ⟨rblk_below hHeld.1 hb, rblk_below hHeld.2 hb⟩ (fun hH => ?_)
      replace hHeld := hH
      clear hK K hH
      replace kb := bt kb hb
      replace P_bt2 := rblk_below P_bt2 hb
      replace P_bt7 := rblk_below P_bt7 hb
      replace o1dz := o1dz.below hb
      replace o1fz := o1fz.below hb
      clear hb
      try simp only [ps]
      refine tk (i := 4) (v := ?vg4_3) rfl (by kernel_rfl) (fun _ _ _ h => h) (Or.inl ⟨by rfl, ?hg4_3⟩) hHeld ?_
      case hg4_3 => (intro w hSw; (try dsimp only at hSw); clear hSw; go_simp; (try with_reducible rfl))
      try simp only [ps]
      refine wpAnyH_done (by kernel_rfl) ?_ _
      have P_bt8 := hHeld.1
      have P_bt3 := hHeld.2
      clear hHeld
      go_wp2
      go_ret
      exact ⟨rfl, kb⟩
    · have SZ1 := Lib.hid (fun W h h2 => szMx_n L1 A1 c1 l1 W hm1 hL1 (by omega) (by omega) (by omega) h h2)
      clear hg0 hg1 zp0 hl_1 hn0 hS0 hm0 hL0 hA0 hR0 hm1 hL1 hA1 hR1
      generalize L0.length = n0 at SZ0 ⊢
      generalize L1.length = n1 at SZ1 ⊢
      go_enter Try.func4, Try.ntmps4
      have kb := ba2 w (.cells #[.slice A0 n0 c0] 24) (.cells #[.slice A1 n1 c1] 24)
      obtain ⟨P_bt2, P_bt3⟩ := blocks2 w (.cells #[.slice A0 n0 c0] 24) (.cells #[.slice A1 n1 c1] 24)
      have c_bt20 : ((w.alloc (.cells #[.slice A0 n0 c0] 24)).alloc (.cells #[.slice A1 n1 c1] 24)).cell? ⟨w.heap.size, 0, none⟩ = some (.slice A0 n0 c0) := rblk_cell P_bt2 0
      go_wp2_with fail
      clear c_bt20
      generalize (w.alloc (.cells #[.slice A0 n0 c0] 24)).alloc (.cells #[.slice A1 n1 c1] 24) = W1 at kb P_bt2 P_bt3 ⊢
      refine (SZ0.out _ (R.out _ kb).1.1 (R.out _ kb).1.2).mono ?_
      rintro e W2 ⟨rfl, hb⟩
      have hzW2 : W1.heap.size ≤ W2.heap.size := hb.size
      replace P_bt2 := rblk_below P_bt2 hb
      replace P_bt3 := rblk_below P_bt3 hb
      replace kb := bt kb hb
      clear hb
      have c_bt30 : W2.cell? ⟨w.heap.size + 1, 0, none⟩ = some (.slice A1 n1 c1) := rblk_cell P_bt3 0
      go_wp2_with fail
      clear c_bt30
      refine (SZ1.out _ (R.out _ kb).2.1 (R.out _ kb).2.2).mono ?_
      rintro e W3 ⟨rfl, hb⟩
      have hzW3 : W2.heap.size ≤ W3.heap.size := hb.size
      replace P_bt2 := rblk_below P_bt2 hb
      replace P_bt3 := rblk_below P_bt3 hb
      replace kb := bt kb hb
      clear hb
      go_wp2
      go_ret
      exact ⟨rfl, kb⟩
  · have SZ0 := Lib.hid (fun W h h2 => szMx_n L0 A0 c0 1048576 W hm0 hL0 (by omega) (by omega) (by omega) h h2)
    clear hg0 hm0 hL0 hA0 hR0 hm1 hL1 hA1 hR1
    generalize L0.length = n0 at SZ0 ⊢
    go_enter Try.func4, Try.ntmps4
    have kb := ba2 w (.cells #[.slice A0 n0 c0] 24) (.cells #[.slice A1 L1.length c1] 24)
    obtain ⟨P_bt2, P_bt3⟩ := blocks2 w (.cells #[.slice A0 n0 c0] 24) (.cells #[.slice A1 L1.length c1] 24)
    have c_bt20 : ((w.alloc (.cells #[.slice A0 n0 c0] 24)).alloc (.cells #[.slice A1 L1.length c1] 24)).cell? ⟨w.heap.size, 0, none⟩ = some (.slice A0 n0 c0) := rblk_cell P_bt2 0
    go_wp2_with fail
    clear c_bt20
    generalize (w.alloc (.cells #[.slice A0 n0 c0] 24)).alloc (.cells #[.slice A1 L1.length c1] 24) = W1 at kb P_bt2 P_bt3 ⊢
    refine (SZ0.out _ (R.out _ kb).1.1 (R.out _ kb).1.2).mono ?_
    rintro e W2 ⟨rfl, hb⟩
    have hzW2 : W1.heap.size ≤ W2.heap.size := hb.size
    replace P_bt2 := rblk_below P_bt2 hb
    replace P_bt3 := rblk_below P_bt3 hb
    replace kb := bt kb hb
    clear hb
    go_wp2
    go_ret
    exact ⟨rfl, kb⟩
end Go.Proofs.Ytennekieiioilaa
