/-
  The walk of the exact law of ProductIntegral.
-/
import Derived.Test.YtppdholccpgcpaaGreatLawXs
import Derived.Test.YtppdholccpgcpaaGreatLmS
import Derived.Test.YtppdholccpgcpaaGreatPiS
import Derived.Test.YtppdholccpgcpaaGreatPiI
namespace Go.Proofs.YtppdholccpgcpaaGreat
open Go.ChangeShapes Go.WideShapes Go.ChangeAt Go.RowKit
open Go.ChangeMaps (open_string shut_string)
set_option linter.unusedVariables false
set_option linter.unusedSimpArgs false
set_option maxRecDepth 4000
set_option maxHeartbeats 4000000 in
theorem law_pint (L0 : List PV) (A0 : Option Addr) (c0 : Nat) (L1 : List RV) (A1 : Option Addr) (c1 : Nat) (L2 : List RV) (A2 : Option Addr) (c2 : Nat) (w : World) (hm0 : L0.length ≤ 9223372036854775807) (hL0 : ∀ p, p ∈ L0 → LenP p) (hA0 : RdS w A0 (flat L0)) (hR0 : Rds w (lrow L0)) (hm1 : L1.length ≤ 9223372036854775807) (hL1 : ∀ p, p ∈ L1 → LenQ p) (hA1 : RdS w A1 (flatQ L1)) (hR1 : Rds w (lrowQ L1)) (hm2 : L2.length ≤ 9223372036854775807) (hL2 : ∀ p, p ∈ L2 → LenQ p) (hA2 : RdS w A2 (flatQ L2)) (hR2 : Rds w (lrowQ L2)) :
    Calls Tryz.prog 10 #[.slice A0 L0.length c0, .slice A1 L1.length c1, .slice A2 L2.length c2] w fun e w' => e = .returned (.bool true) ∧ Below w.heap.size w w' := by
  have R : Hid (∀ W, Below w.heap.size w W → (RdS W A0 (flat L0) ∧ Rds W (lrow L0)) ∧ (RdS W A1 (flatQ L1) ∧ Rds W (lrowQ L1)) ∧ (RdS W A2 (flatQ L2) ∧ Rds W (lrowQ L2))) := Lib.hid (fun W hb => ⟨⟨hA0.below hb, hR0.below hb⟩, ⟨hA1.below hb, hR1.below hb⟩, ⟨hA2.below hb, hR2.below hb⟩⟩)
  by_cases hg0 : ((L0.length : Int) + szs L0) ≤ 1048576
  · have zp0 := szs_pos L0
    obtain ⟨hn0, hS0⟩ := szs_facts (L := L0) (by omega)
    have SZ0 := Lib.hid (fun W h => szPS_y L0 A0 c0 1048576 W (by omega) (by omega) (by omega) h)
    obtain ⟨l1, hl1⟩ : ∃ l : Int, l = 1048576 - (L0.length : Int) - szs L0 := ⟨_, rfl⟩
    rw [← hl1] at SZ0
    have hs1 : ¬ l1 < 0 := by omega
    by_cases hg1 : ((L0.length : Int) + szs L0) + ((L1.length : Int) + szqs L1) ≤ 1048576
    · have zp1 := szqs_pos L1
      obtain ⟨hn1, hS1⟩ := szqs_facts (L := L1) (by omega)
      have SZ1 := Lib.hid (fun W h => szRS_y L1 A1 c1 l1 W (by omega) (by omega) (by omega) h)
      obtain ⟨l2, hl2⟩ : ∃ l : Int, l = l1 - (L1.length : Int) - szqs L1 := ⟨_, rfl⟩
      rw [← hl2] at SZ1
      have hs2 : ¬ l2 < 0 := by omega
      by_cases hg2 : ((L0.length : Int) + szs L0) + ((L1.length : Int) + szqs L1) + ((L2.length : Int) + szqs L2) ≤ 1048576
      · have zp2 := szqs_pos L2
        obtain ⟨hn2, hS2⟩ := szqs_facts (L := L2) (by omega)
        have SZ2 := Lib.hid (fun W h => szRS_y L2 A2 c2 l2 W (by omega) (by omega) (by omega) h)
        obtain ⟨l3, hl3⟩ : ∃ l : Int, l = l2 - (L2.length : Int) - szqs L2 := ⟨_, rfl⟩
        rw [← hl3] at SZ2
        have hs3 : ¬ l3 < 0 := by omega
        have T0 := Lib.hid (fun W h h' => toPS_r L0 A0 c0 W hn0 hS0 h h')
        have E0 := Lib.hid (fun M M' A A' c c' W hd hd' h h' => eqPS_t L0 M M' A A' c c' W hn0 hS0 hd hd' h h')
        have MK0 : Hid (∀ (M : List PV) (B : Option Addr) (k : Nat) (lo hi : Nat) (W : World), dat M = dat L0 → hi ≤ W.heap.size → Owns lo hi W (srow B M) → Aparts (srow B M) → Calls Tryz.prog 40 #[.slice B M.length k, .int .i64 1] W (fun e w' => e = .returned (.int .i64 (nxs 1 L0)) ∧ True ∧ Turn lo hi W w')) := Lib.hid (fun M B k lo hi W hd hh ow ap => (markPS_r lo hi M B k 1 W (by omega) (by omega) (by rw [dat_len hd, szs_dat hd]; omega) hh ow ap).mono (fun e w' hm => ⟨by rw [hm.1, nxs_dat 1 hd], trivial, hm.2.2⟩))
        have hkk0 : nxs 1 L0 = _ := nxs_eq 1 L0
        generalize nxs 1 L0 = K1 at MK0 hkk0
        have T1 := Lib.hid (fun W h h' => toRS_r L1 A1 c1 W hn1 hS1 h h')
        have E1 := Lib.hid (fun M M' A A' c c' W hd hd' h h' => eqRS_t L1 M M' A A' c c' W hn1 hS1 hd hd' h h')
        have MK1 : Hid (∀ (M : List RV) (B : Option Addr) (k : Nat) (lo hi : Nat) (W : World), datQ M = datQ L1 → hi ≤ W.heap.size → Owns lo hi W (srowQ B M) → Aparts (srowQ B M) → Calls Tryz.prog 47 #[.slice B M.length k, .int .i64 K1] W (fun e w' => e = .returned (.int .i64 (nxqs K1 L1)) ∧ True ∧ Turn lo hi W w')) := Lib.hid (fun M B k lo hi W hd hh ow ap => (markRS_r lo hi M B k K1 W (by omega) (by omega) (by rw [datQ_len hd, szqs_dat hd]; omega) hh ow ap).mono (fun e w' hm => ⟨by rw [hm.1, nxqs_dat K1 hd], trivial, hm.2.2⟩))
        have hkk1 : nxqs K1 L1 = _ := nxqs_eq K1 L1
        generalize nxqs K1 L1 = K2 at MK1 hkk1
        have T2 := Lib.hid (fun W h h' => toRS_r L2 A2 c2 W hn2 hS2 h h')
        have E2 := Lib.hid (fun M M' A A' c c' W hd hd' h h' => eqRS_t L2 M M' A A' c c' W hn2 hS2 hd hd' h h')
        have MK2 : Hid (∀ (M : List RV) (B : Option Addr) (k : Nat) (lo hi : Nat) (W : World), datQ M = datQ L2 → hi ≤ W.heap.size → Owns lo hi W (srowQ B M) → Aparts (srowQ B M) → Calls Tryz.prog 47 #[.slice B M.length k, .int .i64 K2] W (fun e w' => e = .returned (.int .i64 (nxqs K2 L2)) ∧ True ∧ Turn lo hi W w')) := Lib.hid (fun M B k lo hi W hd hh ow ap => (markRS_r lo hi M B k K2 W (by omega) (by omega) (by rw [datQ_len hd, szqs_dat hd]; omega) hh ow ap).mono (fun e w' hm => ⟨by rw [hm.1, nxqs_dat K2 hd], trivial, hm.2.2⟩))
        have hkk2 : nxqs K2 L2 = _ := nxqs_eq K2 L2
        generalize nxqs K2 L2 = K3 at MK2 hkk2
        have hkp : ¬ K3 < 0 := by omega
        clear hkk0 hkk1 hkk2
        have shU : Short (ofO (prodO L0 L1 L2)) := (prodO_fit L0 L1 L2).short
        have HS : Hid (∀ (M0 : List PV) (B0 : Option Addr) (k0 : Nat) (M1 : List RV) (B1 : Option Addr) (k1 : Nat) (M2 : List RV) (B2 : Option Addr) (k2 : Nat) (W : World), dat M0 = dat L0 → (∀ p, p ∈ M0 → CapP p) → Rds W (srow B0 M0) → datQ M1 = datQ L1 → (∀ p, p ∈ M1 → CapQ p) → Rds W (srowQ B1 M1) → datQ M2 = datQ L2 → (∀ p, p ∈ M2 → CapQ p) → Rds W (srowQ B2 M2) → Calls Tryz.prog 55 #[.slice B0 M0.length k0, .slice B1 M1.length k1, .slice B2 M2.length k2] W (MadeQ W.heap.size (ofO (prodO L0 L1 L2)) W)) := Lib.hid (fun M0 B0 k0 M1 B1 k1 M2 B2 k2 W hd0 hc0 h0 hd1 hc1 h1 hd2 hc2 h2 => by
          have K := spec_productIntegral M0 B0 k0 M1 B1 k1 M2 B2 k2 W (by rw [dat_len hd0]; exact hm0) (fun p hp => (dat_short hd0 hS0 p hp).len) hc0 h0.hd h0.tl (by rw [datQ_len hd1]; exact hm1) (fun p hp => (datQ_short hd1 hS1 p hp).len) h1.hd h1.tl (by rw [datQ_len hd2]; exact hm2) (fun p hp => (datQ_short hd2 hS2 p hp).len) h2.hd h2.tl (fun W' hb => spec_localMass M0 B0 k0 W' (by rw [dat_len hd0]; exact hm0) (fun p hp => (dat_short hd0 hS0 p hp).len) hc0 (h0.hd.below hb) (h0.tl.below hb))
          rw [prodO_dat hd0 hd1 hd2] at K; exact K)
        have HI : Hid (∀ (M0 : List PV) (B0 : Option Addr) (k0 : Nat) (M1 : List RV) (B1 : Option Addr) (k1 : Nat) (M2 : List RV) (B2 : Option Addr) (k2 : Nat) (W : World), dat M0 = dat L0 → (∀ p, p ∈ M0 → CapP p) → Rds W (srow B0 M0) → datQ M1 = datQ L1 → (∀ p, p ∈ M1 → CapQ p) → Rds W (srowQ B1 M1) → datQ M2 = datQ L2 → (∀ p, p ∈ M2 → CapQ p) → Rds W (srowQ B2 M2) → Calls Tryz.prog 33 #[.slice B0 M0.length k0, .slice B1 M1.length k1, .slice B2 M2.length k2] W (MadeQ W.heap.size (ofO (prodO L0 L1 L2)) W)) := Lib.hid (fun M0 B0 k0 M1 B1 k1 M2 B2 k2 W hd0 hc0 h0 hd1 hc1 h1 hd2 hc2 h2 => by
          have K := impl_productIntegral M0 B0 k0 M1 B1 k1 M2 B2 k2 W (by rw [dat_len hd0]; exact hm0) (fun p hp => (dat_short hd0 hS0 p hp).len) h0.hd h0.tl (by rw [datQ_len hd1]; exact hm1) (fun p hp => (datQ_short hd1 hS1 p hp).len) h1.hd h1.tl (by rw [datQ_len hd2]; exact hm2) (fun p hp => (datQ_short hd2 hS2 p hp).len) h2.hd h2.tl
          rw [prodO_dat hd0 hd1 hd2] at K; exact K)
        generalize ofO (prodO L0 L1 L2) = U at HS HI shU
        have HE := Lib.hid (fun (a c : Ad) W h h' => eqRat_t U a c W shU h h')
        have hm1 := nxt_le 1 U
        have hm2 := nxt_up (Int.le_refl 1) shU
        have HM := Lib.hid (fun (a : Ad) lo hi W (hh : hi ≤ W.heap.size) ow ap => (markRat_r lo hi U a 1 W shU (by omega) (by omega) ow ap).mono (fun e w' hm => show e = .returned (.int .i64 (nxt 1 U)) ∧ Owns lo hi w' (rows (mkR 1 U) a) ∧ Turn lo hi W w' from ⟨hm.1, hm.2.1, turn_rows ow hm.2.2⟩))
        have HH := Lib.hid (fun (a : Ad) W h => heldRat_r U a 1 W shU (by omega) (by omega) h)
        have hl1' : ¬ nxt 1 U < 0 := by omega
        clear hm1 hm2
        generalize mkR 1 U = MU at HM HH
        generalize nxt 1 U = KM at HM HH hl1'
        have q3 : (KM != KM) = false := by simp
        clear shU
        unfold MadeQ at HS HI
        generalize hnn0 : L0.length = n0 at SZ0 T0 ⊢
        generalize hnn1 : L1.length = n1 at SZ1 T1 ⊢
        generalize hnn2 : L2.length = n2 at SZ2 T2 ⊢
        clear hnn0 hg0 hl1 hA0 hR0 hL0 hn0 hS0 hm0 zp0 hnn1 hg1 hl2 hA1 hR1 hL1 hn1 hS1 hm1 zp1 hnn2 hg2 hl3 hA2 hR2 hL2 hn2 hS2 hm2 zp2
        unfold MadePS at T0
        unfold MadeRS at T1
        unfold MadeRS at T2
        go_enter Tryz.func10, Tryz.ntmps10
        go_wp2_with fail
        have kb := Below.refl w.heap.size w
        refine (SZ0.out _ (R.out _ kb).1.1).mono ?_
        rintro e W1 ⟨rfl, hb⟩
        have hzW1 : w.heap.size ≤ W1.heap.size := hb.size
        replace kb := bt kb hb
        clear hb
        go_wp2_with fail
        refine (SZ1.out _ (R.out _ kb).2.1.1).mono ?_
        rintro e W2 ⟨rfl, hb⟩
        have hzW2 : W1.heap.size ≤ W2.heap.size := hb.size
        replace kb := bt kb hb
        clear hb
        go_wp2_with fail
        refine (SZ2.out _ (R.out _ kb).2.2.1).mono ?_
        rintro e W3 ⟨rfl, hb⟩
        have hzW3 : W2.heap.size ≤ W3.heap.size := hb.size
        replace kb := bt kb hb
        clear hb
        go_wp2_with fail
        refine (T0.out _ (R.out _ kb).1.1 (R.out _ kb).1.2).mono ?_
        rintro e W4 ⟨M0a, A0a, c0a, rfl, hk0a, hd0a, hc0a, o0a, hap0a, hb⟩
        have hzW4 : W3.heap.size ≤ W4.heap.size := hb.size
        replace kb := bt kb hb
        clear hb
        go_wp2_with fail
        refine (T1.out _ (R.out _ kb).2.1.1 (R.out _ kb).2.1.2).mono ?_
        rintro e W5 ⟨M1a, A1a, c1a, rfl, hk1a, hd1a, hc1a, o1a, hap1a, hb⟩
        have hzW5 : W4.heap.size ≤ W5.heap.size := hb.size
        replace o0a := o0a.below hb
        replace kb := bt kb hb
        clear hb
        go_wp2_with fail
        refine (T2.out _ (R.out _ kb).2.2.1 (R.out _ kb).2.2.2).mono ?_
        rintro e W6 ⟨M2a, A2a, c2a, rfl, hk2a, hd2a, hc2a, o2a, hap2a, hb⟩
        have hzW6 : W5.heap.size ≤ W6.heap.size := hb.size
        replace o0a := o0a.below hb
        replace o1a := o1a.below hb
        replace kb := bt kb hb
        clear hb
        go_wp2_with fail
        refine (HS.out M0a A0a c0a M1a A1a c1a M2a A2a c2a _ hd0a hc0a o0a.rds hd1a hc1a o1a.rds hd2a hc2a o2a.rds).mono ?_
        rintro e W7 ⟨au, rfl, hxu, hyu, ou, hapu, hb⟩
        have hzW7 : W6.heap.size ≤ W7.heap.size := hb.size
        replace o0a := o0a.below hb
        replace o1a := o1a.below hb
        replace o2a := o2a.below hb
        replace kb := bt kb hb
        clear hb
        clear o0a o1a o2a
        have P_w0 := heap_alloc_new W7 (.cells #[.bool U.p, .slice au.A U.l.length au.c, .slice au.D U.m.length au.d] 29)
        have hb := ba1 W7 (.cells #[.bool U.p, .slice au.A U.l.length au.c, .slice au.D U.m.length au.d] 29)
        replace ou := ou.below hb
        replace kb := bt kb hb
        clear hb
        have hzW8 : W7.heap.size < (W7.alloc (.cells #[.bool U.p, .slice au.A U.l.length au.c, .slice au.D U.m.length au.d] 29)).heap.size := by rw [sz1]; omega
        go_wp2_with fail
        generalize W7.alloc (.cells #[.bool U.p, .slice au.A U.l.length au.c, .slice au.D U.m.length au.d] 29) = W8 at kb hzW8 P_w0 ou ⊢
        refine (T0.out _ (R.out _ kb).1.1 (R.out _ kb).1.2).mono ?_
        rintro e W9 ⟨M0b, A0b, c0b, rfl, hk0b, hd0b, hc0b, o0b, hap0b, hb⟩
        have hzW9 : W8.heap.size ≤ W9.heap.size := hb.size
        replace P_w0 := rblk_below P_w0 hb
        replace ou := ou.below hb
        replace kb := bt kb hb
        clear hb
        go_wp2_with fail
        refine (T1.out _ (R.out _ kb).2.1.1 (R.out _ kb).2.1.2).mono ?_
        rintro e W10 ⟨M1b, A1b, c1b, rfl, hk1b, hd1b, hc1b, o1b, hap1b, hb⟩
        have hzW10 : W9.heap.size ≤ W10.heap.size := hb.size
        replace P_w0 := rblk_below P_w0 hb
        replace ou := ou.below hb
        replace o0b := o0b.below hb
        replace kb := bt kb hb
        clear hb
        go_wp2_with fail
        refine (T2.out _ (R.out _ kb).2.2.1 (R.out _ kb).2.2.2).mono ?_
        rintro e W11 ⟨M2b, A2b, c2b, rfl, hk2b, hd2b, hc2b, o2b, hap2b, hb⟩
        have hzW11 : W10.heap.size ≤ W11.heap.size := hb.size
        replace P_w0 := rblk_below P_w0 hb
        replace ou := ou.below hb
        replace o0b := o0b.below hb
        replace o1b := o1b.below hb
        replace kb := bt kb hb
        clear hb
        go_wp2_with fail
        refine (HI.out M0b A0b c0b M1b A1b c1b M2b A2b c2b _ hd0b hc0b o0b.rds hd1b hc1b o1b.rds hd2b hc2b o2b.rds).mono ?_
        rintro e W12 ⟨ag, rfl, hxg, hyg, og, hapg, hb⟩
        have hzW12 : W11.heap.size ≤ W12.heap.size := hb.size
        replace P_w0 := rblk_below P_w0 hb
        replace ou := ou.below hb
        replace o0b := o0b.below hb
        replace o1b := o1b.below hb
        replace o2b := o2b.below hb
        replace kb := bt kb hb
        clear hb
        have P_g0 := heap_alloc_new W12 (.cells #[.bool U.p, .slice ag.A U.l.length ag.c, .slice ag.D U.m.length ag.d] 29)
        have hb := ba1 W12 (.cells #[.bool U.p, .slice ag.A U.l.length ag.c, .slice ag.D U.m.length ag.d] 29)
        replace P_w0 := rblk_below P_w0 hb
        replace ou := ou.below hb
        replace o0b := o0b.below hb
        replace o1b := o1b.below hb
        replace o2b := o2b.below hb
        replace og := og.below hb
        replace kb := bt kb hb
        clear hb
        have hzW13 : W12.heap.size < (W12.alloc (.cells #[.bool U.p, .slice ag.A U.l.length ag.c, .slice ag.D U.m.length ag.d] 29)).heap.size := by rw [sz1]; omega
        have c_g00 : (W12.alloc (.cells #[.bool U.p, .slice ag.A U.l.length ag.c, .slice ag.D U.m.length ag.d] 29)).cell? ⟨W12.heap.size, 0, none⟩ = some (.bool U.p) := rblk_cell P_g0 0
        have c_g01 : (W12.alloc (.cells #[.bool U.p, .slice ag.A U.l.length ag.c, .slice ag.D U.m.length ag.d] 29)).cell? ⟨W12.heap.size, 1, none⟩ = some (.slice ag.A U.l.length ag.c) := rblk_cell P_g0 1
        have c_g02 : (W12.alloc (.cells #[.bool U.p, .slice ag.A U.l.length ag.c, .slice ag.D U.m.length ag.d] 29)).cell? ⟨W12.heap.size, 2, none⟩ = some (.slice ag.D U.m.length ag.d) := rblk_cell P_g0 2
        have c_w00 : (W12.alloc (.cells #[.bool U.p, .slice ag.A U.l.length ag.c, .slice ag.D U.m.length ag.d] 29)).cell? ⟨W7.heap.size, 0, none⟩ = some (.bool U.p) := rblk_cell P_w0 0
        have c_w01 : (W12.alloc (.cells #[.bool U.p, .slice ag.A U.l.length ag.c, .slice ag.D U.m.length ag.d] 29)).cell? ⟨W7.heap.size, 1, none⟩ = some (.slice au.A U.l.length au.c) := rblk_cell P_w0 1
        have c_w02 : (W12.alloc (.cells #[.bool U.p, .slice ag.A U.l.length ag.c, .slice ag.D U.m.length ag.d] 29)).cell? ⟨W7.heap.size, 2, none⟩ = some (.slice au.D U.m.length au.d) := rblk_cell P_w0 2
        go_wp2_with fail
        clear c_g00 c_g01 c_g02 c_w00 c_w01 c_w02
        generalize W12.alloc (.cells #[.bool U.p, .slice ag.A U.l.length ag.c, .slice ag.D U.m.length ag.d] 29) = W13 at kb hzW13 P_w0 P_g0 ou o0b o1b o2b og ⊢
        refine (HE.out ag au _ og.rds ou.rds).mono ?_
        rintro e W14 ⟨rfl, hb⟩
        have hzW14 : W13.heap.size ≤ W14.heap.size := hb.size
        replace P_w0 := rblk_below P_w0 hb
        replace P_g0 := rblk_below P_g0 hb
        replace ou := ou.below hb
        replace o0b := o0b.below hb
        replace o1b := o1b.below hb
        replace o2b := o2b.below hb
        replace og := og.below hb
        replace kb := bt kb hb
        clear hb
        go_wp2_with fail
        refine (T0.out _ (R.out _ kb).1.1 (R.out _ kb).1.2).mono ?_
        rintro e W15 ⟨M0c, A0c, c0c, rfl, hk0c, hd0c, hc0c, o0c, hap0c, hb⟩
        have hzW15 : W14.heap.size ≤ W15.heap.size := hb.size
        replace P_w0 := rblk_below P_w0 hb
        replace P_g0 := rblk_below P_g0 hb
        replace ou := ou.below hb
        replace o0b := o0b.below hb
        replace o1b := o1b.below hb
        replace o2b := o2b.below hb
        replace og := og.below hb
        replace kb := bt kb hb
        clear hb
        go_wp2_with fail
        refine (E0.out M0b M0c A0b A0c c0b c0c _ hd0b hd0c o0b.rds o0c.rds).mono ?_
        rintro e W16 ⟨rfl, hb⟩
        have hzW16 : W15.heap.size ≤ W16.heap.size := hb.size
        replace P_w0 := rblk_below P_w0 hb
        replace P_g0 := rblk_below P_g0 hb
        replace ou := ou.below hb
        replace o0b := o0b.below hb
        replace o1b := o1b.below hb
        replace o2b := o2b.below hb
        replace og := og.below hb
        replace o0c := o0c.below hb
        replace kb := bt kb hb
        clear hb
        clear o0c
        go_wp2_with fail
        refine (T1.out _ (R.out _ kb).2.1.1 (R.out _ kb).2.1.2).mono ?_
        rintro e W17 ⟨M1c, A1c, c1c, rfl, hk1c, hd1c, hc1c, o1c, hap1c, hb⟩
        have hzW17 : W16.heap.size ≤ W17.heap.size := hb.size
        replace P_w0 := rblk_below P_w0 hb
        replace P_g0 := rblk_below P_g0 hb
        replace ou := ou.below hb
        replace o0b := o0b.below hb
        replace o1b := o1b.below hb
        replace o2b := o2b.below hb
        replace og := og.below hb
        replace kb := bt kb hb
        clear hb
        go_wp2_with fail
        refine (E1.out M1b M1c A1b A1c c1b c1c _ hd1b hd1c o1b.rds o1c.rds).mono ?_
        rintro e W18 ⟨rfl, hb⟩
        have hzW18 : W17.heap.size ≤ W18.heap.size := hb.size
        replace P_w0 := rblk_below P_w0 hb
        replace P_g0 := rblk_below P_g0 hb
        replace ou := ou.below hb
        replace o0b := o0b.below hb
        replace o1b := o1b.below hb
        replace o2b := o2b.below hb
        replace og := og.below hb
        replace o1c := o1c.below hb
        replace kb := bt kb hb
        clear hb
        clear o1c
        go_wp2_with fail
        refine (T2.out _ (R.out _ kb).2.2.1 (R.out _ kb).2.2.2).mono ?_
        rintro e W19 ⟨M2c, A2c, c2c, rfl, hk2c, hd2c, hc2c, o2c, hap2c, hb⟩
        have hzW19 : W18.heap.size ≤ W19.heap.size := hb.size
        replace P_w0 := rblk_below P_w0 hb
        replace P_g0 := rblk_below P_g0 hb
        replace ou := ou.below hb
        replace o0b := o0b.below hb
        replace o1b := o1b.below hb
        replace o2b := o2b.below hb
        replace og := og.below hb
        replace kb := bt kb hb
        clear hb
        go_wp2_with fail
        refine (E2.out M2b M2c A2b A2c c2b c2c _ hd2b hd2c o2b.rds o2c.rds).mono ?_
        rintro e W20 ⟨rfl, hb⟩
        have hzW20 : W19.heap.size ≤ W20.heap.size := hb.size
        replace P_w0 := rblk_below P_w0 hb
        replace P_g0 := rblk_below P_g0 hb
        replace ou := ou.below hb
        replace o0b := o0b.below hb
        replace o1b := o1b.below hb
        replace o2b := o2b.below hb
        replace og := og.below hb
        replace o2c := o2c.below hb
        replace kb := bt kb hb
        clear hb
        clear o2c
        go_wp2_with fail
        refine (MK0.out M0b A0b c0b _ _ _ hd0b (by omega) o0b hap0b).mono ?_
        rintro e W21 ⟨rfl, -, hT⟩
        replace P_w0 := hT.blk P_w0 (by omega)
        replace P_g0 := hT.blk P_g0 (by omega)
        replace kb := hT.below kb (by omega) (by omega)
        replace ou := ou.turn hT (by omega)
        replace o1b := o1b.turn hT (by omega)
        replace o2b := o2b.turn hT (by omega)
        replace og := og.turn hT (by omega)
        have hzW21 : W20.heap.size ≤ W21.heap.size := hT.size
        clear hT
        clear o0b
        go_wp2_with fail
        refine (MK1.out M1b A1b c1b _ _ _ hd1b (by omega) o1b hap1b).mono ?_
        rintro e W22 ⟨rfl, -, hT⟩
        replace P_w0 := hT.blk P_w0 (by omega)
        replace P_g0 := hT.blk P_g0 (by omega)
        replace kb := hT.below kb (by omega) (by omega)
        replace ou := ou.turn hT (by omega)
        replace o2b := o2b.turn hT (by omega)
        replace og := og.turn hT (by omega)
        have hzW22 : W21.heap.size ≤ W22.heap.size := hT.size
        clear hT
        clear o1b
        go_wp2_with fail
        refine (MK2.out M2b A2b c2b _ _ _ hd2b (by omega) o2b hap2b).mono ?_
        rintro e W23 ⟨rfl, -, hT⟩
        replace P_w0 := hT.blk P_w0 (by omega)
        replace P_g0 := hT.blk P_g0 (by omega)
        replace kb := hT.below kb (by omega) (by omega)
        replace ou := ou.turn hT (by omega)
        replace og := og.turn hT (by omega)
        have hzW23 : W22.heap.size ≤ W23.heap.size := hT.size
        clear hT
        clear o2b
        have c_g00 : W23.cell? ⟨W12.heap.size, 0, none⟩ = some (.bool U.p) := rblk_cell P_g0 0
        have c_g01 : W23.cell? ⟨W12.heap.size, 1, none⟩ = some (.slice ag.A U.l.length ag.c) := rblk_cell P_g0 1
        have c_g02 : W23.cell? ⟨W12.heap.size, 2, none⟩ = some (.slice ag.D U.m.length ag.d) := rblk_cell P_g0 2
        have c_w00 : W23.cell? ⟨W7.heap.size, 0, none⟩ = some (.bool U.p) := rblk_cell P_w0 0
        have c_w01 : W23.cell? ⟨W7.heap.size, 1, none⟩ = some (.slice au.A U.l.length au.c) := rblk_cell P_w0 1
        have c_w02 : W23.cell? ⟨W7.heap.size, 2, none⟩ = some (.slice au.D U.m.length au.d) := rblk_cell P_w0 2
        go_wp2_with fail
        clear c_g00 c_g01 c_g02 c_w00 c_w01 c_w02
        refine (HE.out ag au _ og.rds ou.rds).mono ?_
        rintro e W24 ⟨rfl, hb⟩
        have hzW24 : W23.heap.size ≤ W24.heap.size := hb.size
        replace P_w0 := rblk_below P_w0 hb
        replace P_g0 := rblk_below P_g0 hb
        replace ou := ou.below hb
        replace og := og.below hb
        replace kb := bt kb hb
        clear hb
        have c_g00 : W24.cell? ⟨W12.heap.size, 0, none⟩ = some (.bool U.p) := rblk_cell P_g0 0
        have c_g01 : W24.cell? ⟨W12.heap.size, 1, none⟩ = some (.slice ag.A U.l.length ag.c) := rblk_cell P_g0 1
        have c_g02 : W24.cell? ⟨W12.heap.size, 2, none⟩ = some (.slice ag.D U.m.length ag.d) := rblk_cell P_g0 2
        go_wp2_with fail
        clear c_g00 c_g01 c_g02
        refine (HM.out ag _ _ _ (by omega) og hapg).mono ?_
        rintro e W25 ⟨rfl, ogq, hT⟩
        replace P_w0 := hT.blk P_w0 (by omega)
        replace P_g0 := hT.blk P_g0 (by omega)
        replace kb := hT.below kb (by omega) (by omega)
        replace ou := ou.turn hT (by omega)
        have hzW25 : W24.heap.size ≤ W25.heap.size := hT.size
        clear hT
        clear og
        have og := ogq
        clear ogq
        have c_g00 : W25.cell? ⟨W12.heap.size, 0, none⟩ = some (.bool U.p) := rblk_cell P_g0 0
        have c_g01 : W25.cell? ⟨W12.heap.size, 1, none⟩ = some (.slice ag.A U.l.length ag.c) := rblk_cell P_g0 1
        have c_g02 : W25.cell? ⟨W12.heap.size, 2, none⟩ = some (.slice ag.D U.m.length ag.d) := rblk_cell P_g0 2
        go_wp2_with fail
        clear c_g00 c_g01 c_g02
        refine (HH.out ag _ og.rds).mono ?_
        rintro e W26 ⟨rfl, hb⟩
        have hzW26 : W25.heap.size ≤ W26.heap.size := hb.size
        replace P_w0 := rblk_below P_w0 hb
        replace P_g0 := rblk_below P_g0 hb
        replace ou := ou.below hb
        replace og := og.below hb
        replace kb := bt kb hb
        clear hb
        go_wp2_with fail
        refine (T0.out _ (R.out _ kb).1.1 (R.out _ kb).1.2).mono ?_
        rintro e W27 ⟨M0d, A0d, c0d, rfl, hk0d, hd0d, hc0d, o0d, hap0d, hb⟩
        have hzW27 : W26.heap.size ≤ W27.heap.size := hb.size
        replace P_w0 := rblk_below P_w0 hb
        replace P_g0 := rblk_below P_g0 hb
        replace ou := ou.below hb
        replace og := og.below hb
        replace kb := bt kb hb
        clear hb
        go_wp2_with fail
        refine (T1.out _ (R.out _ kb).2.1.1 (R.out _ kb).2.1.2).mono ?_
        rintro e W28 ⟨M1d, A1d, c1d, rfl, hk1d, hd1d, hc1d, o1d, hap1d, hb⟩
        have hzW28 : W27.heap.size ≤ W28.heap.size := hb.size
        replace P_w0 := rblk_below P_w0 hb
        replace P_g0 := rblk_below P_g0 hb
        replace ou := ou.below hb
        replace og := og.below hb
        replace o0d := o0d.below hb
        replace kb := bt kb hb
        clear hb
        go_wp2_with fail
        refine (T2.out _ (R.out _ kb).2.2.1 (R.out _ kb).2.2.2).mono ?_
        rintro e W29 ⟨M2d, A2d, c2d, rfl, hk2d, hd2d, hc2d, o2d, hap2d, hb⟩
        have hzW29 : W28.heap.size ≤ W29.heap.size := hb.size
        replace P_w0 := rblk_below P_w0 hb
        replace P_g0 := rblk_below P_g0 hb
        replace ou := ou.below hb
        replace og := og.below hb
        replace o0d := o0d.below hb
        replace o1d := o1d.below hb
        replace kb := bt kb hb
        clear hb
        go_wp2_with fail
        refine (HI.out M0d A0d c0d M1d A1d c1d M2d A2d c2d _ hd0d hc0d o0d.rds hd1d hc1d o1d.rds hd2d hc2d o2d.rds).mono ?_
        rintro e W30 ⟨ah, rfl, hxh, hyh, oh, haph, hb⟩
        have hzW30 : W29.heap.size ≤ W30.heap.size := hb.size
        replace P_w0 := rblk_below P_w0 hb
        replace P_g0 := rblk_below P_g0 hb
        replace ou := ou.below hb
        replace og := og.below hb
        replace o0d := o0d.below hb
        replace o1d := o1d.below hb
        replace o2d := o2d.below hb
        replace kb := bt kb hb
        clear hb
        clear o0d o1d o2d
        have P_h0 := heap_alloc_new W30 (.cells #[.bool U.p, .slice ah.A U.l.length ah.c, .slice ah.D U.m.length ah.d] 29)
        have hb := ba1 W30 (.cells #[.bool U.p, .slice ah.A U.l.length ah.c, .slice ah.D U.m.length ah.d] 29)
        replace P_w0 := rblk_below P_w0 hb
        replace P_g0 := rblk_below P_g0 hb
        replace ou := ou.below hb
        replace og := og.below hb
        replace oh := oh.below hb
        replace kb := bt kb hb
        clear hb
        have hzW31 : W30.heap.size < (W30.alloc (.cells #[.bool U.p, .slice ah.A U.l.length ah.c, .slice ah.D U.m.length ah.d] 29)).heap.size := by rw [sz1]; omega
        have c_h00 : (W30.alloc (.cells #[.bool U.p, .slice ah.A U.l.length ah.c, .slice ah.D U.m.length ah.d] 29)).cell? ⟨W30.heap.size, 0, none⟩ = some (.bool U.p) := rblk_cell P_h0 0
        have c_h01 : (W30.alloc (.cells #[.bool U.p, .slice ah.A U.l.length ah.c, .slice ah.D U.m.length ah.d] 29)).cell? ⟨W30.heap.size, 1, none⟩ = some (.slice ah.A U.l.length ah.c) := rblk_cell P_h0 1
        have c_h02 : (W30.alloc (.cells #[.bool U.p, .slice ah.A U.l.length ah.c, .slice ah.D U.m.length ah.d] 29)).cell? ⟨W30.heap.size, 2, none⟩ = some (.slice ah.D U.m.length ah.d) := rblk_cell P_h0 2
        have c_w00 : (W30.alloc (.cells #[.bool U.p, .slice ah.A U.l.length ah.c, .slice ah.D U.m.length ah.d] 29)).cell? ⟨W7.heap.size, 0, none⟩ = some (.bool U.p) := rblk_cell P_w0 0
        have c_w01 : (W30.alloc (.cells #[.bool U.p, .slice ah.A U.l.length ah.c, .slice ah.D U.m.length ah.d] 29)).cell? ⟨W7.heap.size, 1, none⟩ = some (.slice au.A U.l.length au.c) := rblk_cell P_w0 1
        have c_w02 : (W30.alloc (.cells #[.bool U.p, .slice ah.A U.l.length ah.c, .slice ah.D U.m.length ah.d] 29)).cell? ⟨W7.heap.size, 2, none⟩ = some (.slice au.D U.m.length au.d) := rblk_cell P_w0 2
        go_wp2_with fail
        clear c_h00 c_h01 c_h02 c_w00 c_w01 c_w02
        generalize W30.alloc (.cells #[.bool U.p, .slice ah.A U.l.length ah.c, .slice ah.D U.m.length ah.d] 29) = W31 at kb hzW31 P_w0 P_g0 P_h0 ou og oh ⊢
        refine (HE.out ah au _ oh.rds ou.rds).mono ?_
        rintro e W32 ⟨rfl, hb⟩
        have hzW32 : W31.heap.size ≤ W32.heap.size := hb.size
        replace P_w0 := rblk_below P_w0 hb
        replace P_g0 := rblk_below P_g0 hb
        replace P_h0 := rblk_below P_h0 hb
        replace ou := ou.below hb
        replace og := og.below hb
        replace oh := oh.below hb
        replace kb := bt kb hb
        clear hb
        have c_g00 : W32.cell? ⟨W12.heap.size, 0, none⟩ = some (.bool U.p) := rblk_cell P_g0 0
        have c_g01 : W32.cell? ⟨W12.heap.size, 1, none⟩ = some (.slice ag.A U.l.length ag.c) := rblk_cell P_g0 1
        have c_g02 : W32.cell? ⟨W12.heap.size, 2, none⟩ = some (.slice ag.D U.m.length ag.d) := rblk_cell P_g0 2
        go_wp2_with fail
        clear c_g00 c_g01 c_g02
        refine (HH.out ag _ og.rds).mono ?_
        rintro e W33 ⟨rfl, hb⟩
        have hzW33 : W32.heap.size ≤ W33.heap.size := hb.size
        replace P_w0 := rblk_below P_w0 hb
        replace P_g0 := rblk_below P_g0 hb
        replace P_h0 := rblk_below P_h0 hb
        replace ou := ou.below hb
        replace og := og.below hb
        replace oh := oh.below hb
        replace kb := bt kb hb
        clear hb
        go_wp2
        go_ret
        exact ⟨rfl, kb⟩
      · have SZ2 := Lib.hid (fun W h => szRS_n L2 A2 c2 l2 W hm2 hL2 (by omega) (by omega) (by omega) h)
        clear hg0 hg1 hg2 zp0 hn0 hS0 hl1 zp1 hn1 hS1 hl2 hm0 hL0 hA0 hR0 hm1 hL1 hA1 hR1 hm2 hL2 hA2 hR2
        generalize L0.length = n0 at SZ0 ⊢
        generalize L1.length = n1 at SZ1 ⊢
        generalize L2.length = n2 at SZ2 ⊢
        go_enter Tryz.func10, Tryz.ntmps10
        go_wp2_with fail
        have kb := Below.refl w.heap.size w
        refine (SZ0.out _ (R.out _ kb).1.1).mono ?_
        rintro e W1 ⟨rfl, hb⟩
        have hzW1 : w.heap.size ≤ W1.heap.size := hb.size
        replace kb := bt kb hb
        clear hb
        go_wp2_with fail
        refine (SZ1.out _ (R.out _ kb).2.1.1).mono ?_
        rintro e W2 ⟨rfl, hb⟩
        have hzW2 : W1.heap.size ≤ W2.heap.size := hb.size
        replace kb := bt kb hb
        clear hb
        go_wp2_with fail
        refine (SZ2.out _ (R.out _ kb).2.2.1).mono ?_
        rintro e W3 ⟨rfl, hb⟩
        have hzW3 : W2.heap.size ≤ W3.heap.size := hb.size
        replace kb := bt kb hb
        clear hb
        go_wp2
        go_ret
        exact ⟨rfl, kb⟩
    · have SZ1 := Lib.hid (fun W h => szRS_n L1 A1 c1 l1 W hm1 hL1 (by omega) (by omega) (by omega) h)
      clear hg0 hg1 zp0 hn0 hS0 hl1 hm0 hL0 hA0 hR0 hm1 hL1 hA1 hR1 hm2 hL2 hA2 hR2
      generalize L0.length = n0 at SZ0 ⊢
      generalize L1.length = n1 at SZ1 ⊢
      go_enter Tryz.func10, Tryz.ntmps10
      go_wp2_with fail
      have kb := Below.refl w.heap.size w
      refine (SZ0.out _ (R.out _ kb).1.1).mono ?_
      rintro e W1 ⟨rfl, hb⟩
      have hzW1 : w.heap.size ≤ W1.heap.size := hb.size
      replace kb := bt kb hb
      clear hb
      go_wp2_with fail
      refine (SZ1.out _ (R.out _ kb).2.1.1).mono ?_
      rintro e W2 ⟨rfl, hb⟩
      have hzW2 : W1.heap.size ≤ W2.heap.size := hb.size
      replace kb := bt kb hb
      clear hb
      go_wp2
      go_ret
      exact ⟨rfl, kb⟩
  · have SZ0 := Lib.hid (fun W h => szPS_n L0 A0 c0 1048576 W hm0 hL0 (by omega) (by omega) (by omega) h)
    clear hg0  hm0 hL0 hA0 hR0 hm1 hL1 hA1 hR1 hm2 hL2 hA2 hR2
    generalize L0.length = n0 at SZ0 ⊢
    go_enter Tryz.func10, Tryz.ntmps10
    go_wp2_with fail
    have kb := Below.refl w.heap.size w
    refine (SZ0.out _ (R.out _ kb).1.1).mono ?_
    rintro e W1 ⟨rfl, hb⟩
    have hzW1 : w.heap.size ≤ W1.heap.size := hb.size
    replace kb := bt kb hb
    clear hb
    go_wp2
    go_ret
    exact ⟨rfl, kb⟩
end Go.Proofs.YtppdholccpgcpaaGreat
