/-
  The walk of the exact law of LocalGradient.
-/
import Derived.Test.YtppdholccpgcpaaGreatWp
import Derived.Test.YtppdholccpgcpaaGreatLawXs
import Derived.Test.YtppdholccpgcpaaGreatLgS
import Derived.Test.YtppdholccpgcpaaGreatLgI
namespace Go.Proofs.YtppdholccpgcpaaGreat
open Go.ChangeShapes Go.WideShapes Go.ChangeAt Go.RowKit
set_option linter.unusedVariables false
set_option linter.unusedSimpArgs false
set_option maxRecDepth 4000
set_option maxHeartbeats 4000000 in
theorem law_lgrad (L0 : List PV) (A0 : Option Addr) (c0 : Nat) (L1 : List RV) (A1 : Option Addr) (c1 : Nat) (w : World) (hm0 : L0.length ≤ 9223372036854775807) (hL0 : ∀ p, p ∈ L0 → LenP p) (hA0 : RdS w A0 (flat L0)) (hR0 : Rds w (lrow L0)) (hm1 : L1.length ≤ 9223372036854775807) (hL1 : ∀ p, p ∈ L1 → LenQ p) (hA1 : RdS w A1 (flatQ L1)) (hR1 : Rds w (lrowQ L1)) :
    Calls Tryz.prog 7 #[.slice A0 L0.length c0, .slice A1 L1.length c1] w fun e w' => e = .returned (.bool true) ∧ Below w.heap.size w w' := by
  have R : Hid (∀ W, Below w.heap.size w W → (RdS W A0 (flat L0) ∧ Rds W (lrow L0)) ∧ (RdS W A1 (flatQ L1) ∧ Rds W (lrowQ L1))) := Lib.hid (fun W hb => ⟨⟨hA0.below hb, hR0.below hb⟩, ⟨hA1.below hb, hR1.below hb⟩⟩)
  by_cases hg0 : ((L0.length : Int) + szs L0) ≤ 1048576
  · have zp0 := szs_pos L0
    obtain ⟨hn0, hS0⟩ := szs_facts (L := L0) (by omega)
    have SZ0 := Lib.hid (fun W h => szPS_y L0 A0 c0 1048576 W (by omega) (by omega) (by omega) h)
    obtain ⟨l1, hl1⟩ : ∃ l : Int, l = 1048576 - (L0.length : Int) - szs L0 := ⟨_, rfl⟩
    rw [← hl1] at SZ0
    have hs1 : ¬ l1 < 0 := by omega
    by_cases hg1 : ((L0.length : Int) + szs L0) + ((L1.length : Int) + szqs L1) ≤ 1048576
    · have zp1 := szqs_pos L1
      obtain ⟨hn1, hS1⟩ := szqs_facts (L := L1) (by omega)
      have SZ1 := Lib.hid (fun W h => szRS_y L1 A1 c1 l1 W (by omega) (by omega) (by omega) h)
      obtain ⟨l2, hl2⟩ : ∃ l : Int, l = l1 - (L1.length : Int) - szqs L1 := ⟨_, rfl⟩
      rw [← hl2] at SZ1
      have hs2 : ¬ l2 < 0 := by omega
      have T0 := Lib.hid (fun W h h' => toPS_r L0 A0 c0 W hn0 hS0 h h')
      have E0 := Lib.hid (fun M M' A A' c c' W hd hd' h h' => eqPS_t L0 M M' A A' c c' W hn0 hS0 hd hd' h h')
      have MK0 : Hid (∀ (M : List PV) (B : Option Addr) (k : Nat) (lo hi : Nat) (W : World), dat M = dat L0 → hi ≤ W.heap.size → Owns lo hi W (srow B M) → Aparts (srow B M) → Calls Tryz.prog 40 #[.slice B M.length k, .int .i64 1] W (fun e w' => e = .returned (.int .i64 (nxs 1 L0)) ∧ True ∧ Turn lo hi W w')) := Lib.hid (fun M B k lo hi W hd hh ow ap => (markPS_r lo hi M B k 1 W (by omega) (by omega) (by rw [dat_len hd, szs_dat hd]; omega) hh ow ap).mono (fun e w' hm => ⟨by rw [hm.1, nxs_dat 1 hd], trivial, hm.2.2⟩))
      have hkk0 : nxs 1 L0 = _ := nxs_eq 1 L0
      generalize nxs 1 L0 = K1 at MK0 hkk0
      have T1 := Lib.hid (fun W h h' => toRS_r L1 A1 c1 W hn1 hS1 h h')
      have E1 := Lib.hid (fun M M' A A' c c' W hd hd' h h' => eqRS_t L1 M M' A A' c c' W hn1 hS1 hd hd' h h')
      have MK1 : Hid (∀ (M : List RV) (B : Option Addr) (k : Nat) (lo hi : Nat) (W : World), datQ M = datQ L1 → hi ≤ W.heap.size → Owns lo hi W (srowQ B M) → Aparts (srowQ B M) → Calls Tryz.prog 47 #[.slice B M.length k, .int .i64 K1] W (fun e w' => e = .returned (.int .i64 (nxqs K1 L1)) ∧ True ∧ Turn lo hi W w')) := Lib.hid (fun M B k lo hi W hd hh ow ap => (markRS_r lo hi M B k K1 W (by omega) (by omega) (by rw [datQ_len hd, szqs_dat hd]; omega) hh ow ap).mono (fun e w' hm => ⟨by rw [hm.1, nxqs_dat K1 hd], trivial, hm.2.2⟩))
      have hkk1 : nxqs K1 L1 = _ := nxqs_eq K1 L1
      generalize nxqs K1 L1 = K2 at MK1 hkk1
      have hkp : ¬ K2 < 0 := by omega
      clear hkk0 hkk1
      have shU : Short (ofO ((lgO L0 L1).1)) := ((lgO_fit L0 L1).1).short
      have shV : Short (ofO ((lgO L0 L1).2)) := ((lgO_fit L0 L1).2).short
      have HS : Hid (∀ (M0 : List PV) (B0 : Option Addr) (k0 : Nat) (M1 : List RV) (B1 : Option Addr) (k1 : Nat) (W : World), dat M0 = dat L0 → (∀ p, p ∈ M0 → CapP p) → Rds W (srow B0 M0) → datQ M1 = datQ L1 → (∀ p, p ∈ M1 → CapQ p) → Rds W (srowQ B1 M1) → Calls Tryz.prog 43 #[.slice B0 M0.length k0, .slice B1 M1.length k1] W (MadeP W.heap.size (ofO ((lgO L0 L1).1)) (ofO ((lgO L0 L1).2)) W)) := Lib.hid (fun M0 B0 k0 M1 B1 k1 W hd0 hc0 h0 hd1 hc1 h1 => by
        have K := spec_localGradient M0 B0 k0 M1 B1 k1 W (by rw [dat_len hd0]; exact hm0) (fun p hp => (dat_short hd0 hS0 p hp).len) hc0 h0.hd h0.tl (by rw [datQ_len hd1]; exact hm1) (fun p hp => (datQ_short hd1 hS1 p hp).len) h1.hd h1.tl
        rw [lgO_dat hd0 hd1] at K; exact K)
      have HI : Hid (∀ (M0 : List PV) (B0 : Option Addr) (k0 : Nat) (M1 : List RV) (B1 : Option Addr) (k1 : Nat) (W : World), dat M0 = dat L0 → (∀ p, p ∈ M0 → CapP p) → Rds W (srow B0 M0) → datQ M1 = datQ L1 → (∀ p, p ∈ M1 → CapQ p) → Rds W (srowQ B1 M1) → Calls Tryz.prog 35 #[.slice B0 M0.length k0, .slice B1 M1.length k1] W (MadeP W.heap.size (ofO ((lgO L0 L1).1)) (ofO ((lgO L0 L1).2)) W)) := Lib.hid (fun M0 B0 k0 M1 B1 k1 W hd0 hc0 h0 hd1 hc1 h1 => by
        have K := impl_localGradient M0 B0 k0 M1 B1 k1 W (by rw [dat_len hd0]; exact hm0) (fun p hp => (dat_short hd0 hS0 p hp).len) h0.hd h0.tl (by rw [datQ_len hd1]; exact hm1) (fun p hp => (datQ_short hd1 hS1 p hp).len) h1.hd h1.tl
        rw [lgO_dat hd0 hd1] at K; exact K)
      generalize ofO ((lgO L0 L1).1) = U at HS HI shU
      generalize ofO ((lgO L0 L1).2) = V at HS HI shV
      have HE := Lib.hid (fun (a b c d : Ad) W h h' => eqPt_t U V a b c d W shU shV h h')
      have hm1 := nxt_le 1 U
      have hm2 := nxt_up (Int.le_refl 1) shU
      have hm3 := nxt_le (nxt 1 U) V
      have HM := Lib.hid (fun (a b : Ad) lo hi W hh ow ap => markPt_r lo hi U V a b 1 W shU shV (by omega) (by omega) hh ow ap)
      have HH := Lib.hid (fun (a b : Ad) W h => heldPt_r U V a b 1 W shU shV (by omega) (by omega) h)
      have hl1' : ¬ nxt (nxt 1 U) V < 0 := by omega
      clear hm1 hm2 hm3
      generalize nxt (nxt 1 U) V = KM at HM HH hl1'
      generalize mkR (nxt 1 U) V = MV at HM HH
      generalize mkR 1 U = MU at HM HH
      have q3 : (KM != KM) = false := by simp
      clear shU shV
      unfold MadeP at HS HI
      generalize hnn0 : L0.length = n0 at SZ0 T0 ⊢
      generalize hnn1 : L1.length = n1 at SZ1 T1 ⊢
      clear hnn0 hg0 hl1 hA0 hR0 hL0 hn0 hS0 hm0 zp0 hnn1 hg1 hl2 hA1 hR1 hL1 hn1 hS1 hm1 zp1
      unfold MadePS at T0
      unfold MadeRS at T1
      go_enter Tryz.func7, Tryz.ntmps7
      go_wp2_with fail
      have kb := Below.refl w.heap.size w
      refine (SZ0.out _ (R.out _ kb).1.1).mono ?_
      rintro e W1 ⟨rfl, hb⟩
      have hzW1 : w.heap.size ≤ W1.heap.size := hb.size
      replace kb := bt kb hb
      clear hb
      go_wp2_with fail
      refine (SZ1.out _ (R.out _ kb).2.1).mono ?_
      rintro e W2 ⟨rfl, hb⟩
      have hzW2 : W1.heap.size ≤ W2.heap.size := hb.size
      replace kb := bt kb hb
      clear hb
      go_wp2_with fail
      refine (T0.out _ (R.out _ kb).1.1 (R.out _ kb).1.2).mono ?_
      rintro e W3 ⟨M0a, A0a, c0a, rfl, hk0a, hd0a, hc0a, o0a, hap0a, hb⟩
      have hzW3 : W2.heap.size ≤ W3.heap.size := hb.size
      replace kb := bt kb hb
      clear hb
      go_wp2_with fail
      refine (T1.out _ (R.out _ kb).2.1 (R.out _ kb).2.2).mono ?_
      rintro e W4 ⟨M1a, A1a, c1a, rfl, hk1a, hd1a, hc1a, o1a, hap1a, hb⟩
      have hzW4 : W3.heap.size ≤ W4.heap.size := hb.size
      replace o0a := o0a.below hb
      replace kb := bt kb hb
      clear hb
      go_wp2_with fail
      refine (HS.out M0a A0a c0a M1a A1a c1a _ hd0a hc0a o0a.rds hd1a hc1a o1a.rds).mono ?_
      rintro e W5 ⟨au, bu, rfl, hxu, ou, hapu, hb⟩
      have hzW5 : W4.heap.size ≤ W5.heap.size := hb.size
      replace o0a := o0a.below hb
      replace o1a := o1a.below hb
      replace kb := bt kb hb
      clear hb
      clear o0a o1a
      have P_w0 := heap_alloc_new W5 (.cells (r6 U V au bu) 31)
      have hb := ba1 W5 (.cells (r6 U V au bu) 31)
      replace ou := ou.below hb
      replace kb := bt kb hb
      clear hb
      have hzW6 : W5.heap.size < (W5.alloc (.cells (r6 U V au bu) 31)).heap.size := by rw [sz1]; omega
      go_wp2_with fail
      generalize W5.alloc (.cells (r6 U V au bu) 31) = W6 at kb hzW6 P_w0 ou ⊢
      refine (T0.out _ (R.out _ kb).1.1 (R.out _ kb).1.2).mono ?_
      rintro e W7 ⟨M0b, A0b, c0b, rfl, hk0b, hd0b, hc0b, o0b, hap0b, hb⟩
      have hzW7 : W6.heap.size ≤ W7.heap.size := hb.size
      replace P_w0 := rblk_below P_w0 hb
      replace ou := ou.below hb
      replace kb := bt kb hb
      clear hb
      go_wp2_with fail
      refine (T1.out _ (R.out _ kb).2.1 (R.out _ kb).2.2).mono ?_
      rintro e W8 ⟨M1b, A1b, c1b, rfl, hk1b, hd1b, hc1b, o1b, hap1b, hb⟩
      have hzW8 : W7.heap.size ≤ W8.heap.size := hb.size
      replace P_w0 := rblk_below P_w0 hb
      replace ou := ou.below hb
      replace o0b := o0b.below hb
      replace kb := bt kb hb
      clear hb
      go_wp2_with fail
      refine (HI.out M0b A0b c0b M1b A1b c1b _ hd0b hc0b o0b.rds hd1b hc1b o1b.rds).mono ?_
      rintro e W9 ⟨ag, bg, rfl, hxg, og, hapg, hb⟩
      have hzW9 : W8.heap.size ≤ W9.heap.size := hb.size
      replace P_w0 := rblk_below P_w0 hb
      replace ou := ou.below hb
      replace o0b := o0b.below hb
      replace o1b := o1b.below hb
      replace kb := bt kb hb
      clear hb
      have P_g0 := heap_alloc_new W9 (.cells (r6 U V ag bg) 31)
      have hb := ba1 W9 (.cells (r6 U V ag bg) 31)
      replace P_w0 := rblk_below P_w0 hb
      replace ou := ou.below hb
      replace o0b := o0b.below hb
      replace o1b := o1b.below hb
      replace og := og.below hb
      replace kb := bt kb hb
      clear hb
      have hzW10 : W9.heap.size < (W9.alloc (.cells (r6 U V ag bg) 31)).heap.size := by rw [sz1]; omega
      have c_g00 := rblk_cell P_g0 0
      have c_g01 := rblk_cell P_g0 1
      have c_g02 := rblk_cell P_g0 2
      have c_g03 := rblk_cell P_g0 3
      have c_g04 := rblk_cell P_g0 4
      have c_g05 := rblk_cell P_g0 5
      have c_w00 := rblk_cell P_w0 0
      have c_w01 := rblk_cell P_w0 1
      have c_w02 := rblk_cell P_w0 2
      have c_w03 := rblk_cell P_w0 3
      have c_w04 := rblk_cell P_w0 4
      have c_w05 := rblk_cell P_w0 5
      go_wp2_with fail
      clear c_g00 c_g01 c_g02 c_g03 c_g04 c_g05 c_w00 c_w01 c_w02 c_w03 c_w04 c_w05
      generalize W9.alloc (.cells (r6 U V ag bg) 31) = W10 at kb hzW10 P_w0 P_g0 ou o0b o1b og ⊢
      refine (HE.out ag bg au bu _ og.rds ou.rds).mono ?_
      rintro e W11 ⟨rfl, hb⟩
      have hzW11 : W10.heap.size ≤ W11.heap.size := hb.size
      replace P_w0 := rblk_below P_w0 hb
      replace P_g0 := rblk_below P_g0 hb
      replace ou := ou.below hb
      replace o0b := o0b.below hb
      replace o1b := o1b.below hb
      replace og := og.below hb
      replace kb := bt kb hb
      clear hb
      go_wp2_with fail
      refine (T0.out _ (R.out _ kb).1.1 (R.out _ kb).1.2).mono ?_
      rintro e W12 ⟨M0c, A0c, c0c, rfl, hk0c, hd0c, hc0c, o0c, hap0c, hb⟩
      have hzW12 : W11.heap.size ≤ W12.heap.size := hb.size
      replace P_w0 := rblk_below P_w0 hb
      replace P_g0 := rblk_below P_g0 hb
      replace ou := ou.below hb
      replace o0b := o0b.below hb
      replace o1b := o1b.below hb
      replace og := og.below hb
      replace kb := bt kb hb
      clear hb
      go_wp2_with fail
      refine (E0.out M0b M0c A0b A0c c0b c0c _ hd0b hd0c o0b.rds o0c.rds).mono ?_
      rintro e W13 ⟨rfl, hb⟩
      have hzW13 : W12.heap.size ≤ W13.heap.size := hb.size
      replace P_w0 := rblk_below P_w0 hb
      replace P_g0 := rblk_below P_g0 hb
      replace ou := ou.below hb
      replace o0b := o0b.below hb
      replace o1b := o1b.below hb
      replace og := og.below hb
      replace o0c := o0c.below hb
      replace kb := bt kb hb
      clear hb
      clear o0c
      go_wp2_with fail
      refine (T1.out _ (R.out _ kb).2.1 (R.out _ kb).2.2).mono ?_
      rintro e W14 ⟨M1c, A1c, c1c, rfl, hk1c, hd1c, hc1c, o1c, hap1c, hb⟩
      have hzW14 : W13.heap.size ≤ W14.heap.size := hb.size
      replace P_w0 := rblk_below P_w0 hb
      replace P_g0 := rblk_below P_g0 hb
      replace ou := ou.below hb
      replace o0b := o0b.below hb
      replace o1b := o1b.below hb
      replace og := og.below hb
      replace kb := bt kb hb
      clear hb
      go_wp2_with fail
      refine (E1.out M1b M1c A1b A1c c1b c1c _ hd1b hd1c o1b.rds o1c.rds).mono ?_
      rintro e W15 ⟨rfl, hb⟩
      have hzW15 : W14.heap.size ≤ W15.heap.size := hb.size
      replace P_w0 := rblk_below P_w0 hb
      replace P_g0 := rblk_below P_g0 hb
      replace ou := ou.below hb
      replace o0b := o0b.below hb
      replace o1b := o1b.below hb
      replace og := og.below hb
      replace o1c := o1c.below hb
      replace kb := bt kb hb
      clear hb
      clear o1c
      go_wp2_with fail
      refine (MK0.out M0b A0b c0b _ _ _ hd0b (by omega) o0b hap0b).mono ?_
      rintro e W16 ⟨rfl, -, hT⟩
      replace P_w0 := hT.blk P_w0 (by omega)
      replace P_g0 := hT.blk P_g0 (by omega)
      replace kb := hT.below kb (by omega) (by omega)
      replace ou := ou.turn hT (by omega)
      replace o1b := o1b.turn hT (by omega)
      replace og := og.turn hT (by omega)
      have hzW16 : W15.heap.size ≤ W16.heap.size := hT.size
      clear hT
      clear o0b
      go_wp2_with fail
      refine (MK1.out M1b A1b c1b _ _ _ hd1b (by omega) o1b hap1b).mono ?_
      rintro e W17 ⟨rfl, -, hT⟩
      replace P_w0 := hT.blk P_w0 (by omega)
      replace P_g0 := hT.blk P_g0 (by omega)
      replace kb := hT.below kb (by omega) (by omega)
      replace ou := ou.turn hT (by omega)
      replace og := og.turn hT (by omega)
      have hzW17 : W16.heap.size ≤ W17.heap.size := hT.size
      clear hT
      clear o1b
      have c_g00 := rblk_cell P_g0 0
      have c_g01 := rblk_cell P_g0 1
      have c_g02 := rblk_cell P_g0 2
      have c_g03 := rblk_cell P_g0 3
      have c_g04 := rblk_cell P_g0 4
      have c_g05 := rblk_cell P_g0 5
      have c_w00 := rblk_cell P_w0 0
      have c_w01 := rblk_cell P_w0 1
      have c_w02 := rblk_cell P_w0 2
      have c_w03 := rblk_cell P_w0 3
      have c_w04 := rblk_cell P_w0 4
      have c_w05 := rblk_cell P_w0 5
      go_wp2_with fail
      clear c_g00 c_g01 c_g02 c_g03 c_g04 c_g05 c_w00 c_w01 c_w02 c_w03 c_w04 c_w05
      refine (HE.out ag bg au bu _ og.rds ou.rds).mono ?_
      rintro e W18 ⟨rfl, hb⟩
      have hzW18 : W17.heap.size ≤ W18.heap.size := hb.size
      replace P_w0 := rblk_below P_w0 hb
      replace P_g0 := rblk_below P_g0 hb
      replace ou := ou.below hb
      replace og := og.below hb
      replace kb := bt kb hb
      clear hb
      have c_g00 := rblk_cell P_g0 0
      have c_g01 := rblk_cell P_g0 1
      have c_g02 := rblk_cell P_g0 2
      have c_g03 := rblk_cell P_g0 3
      have c_g04 := rblk_cell P_g0 4
      have c_g05 := rblk_cell P_g0 5
      go_wp2_with fail
      clear c_g00 c_g01 c_g02 c_g03 c_g04 c_g05
      refine (HM.out ag bg _ _ _ (by omega) og hapg).mono ?_
      rintro e W19 ⟨rfl, ogq, hT⟩
      replace P_w0 := hT.blk P_w0 (by omega)
      replace P_g0 := hT.blk P_g0 (by omega)
      replace kb := hT.below kb (by omega) (by omega)
      replace ou := ou.turn hT (by omega)
      have hzW19 : W18.heap.size ≤ W19.heap.size := hT.size
      clear hT
      clear og
      have og := ogq
      clear ogq
      have c_g00 := rblk_cell P_g0 0
      have c_g01 := rblk_cell P_g0 1
      have c_g02 := rblk_cell P_g0 2
      have c_g03 := rblk_cell P_g0 3
      have c_g04 := rblk_cell P_g0 4
      have c_g05 := rblk_cell P_g0 5
      go_wp2_with fail
      clear c_g00 c_g01 c_g02 c_g03 c_g04 c_g05
      refine (HH.out ag bg _ og.rds).mono ?_
      rintro e W20 ⟨rfl, hb⟩
      have hzW20 : W19.heap.size ≤ W20.heap.size := hb.size
      replace P_w0 := rblk_below P_w0 hb
      replace P_g0 := rblk_below P_g0 hb
      replace ou := ou.below hb
      replace og := og.below hb
      replace kb := bt kb hb
      clear hb
      go_wp2_with fail
      refine (T0.out _ (R.out _ kb).1.1 (R.out _ kb).1.2).mono ?_
      rintro e W21 ⟨M0d, A0d, c0d, rfl, hk0d, hd0d, hc0d, o0d, hap0d, hb⟩
      have hzW21 : W20.heap.size ≤ W21.heap.size := hb.size
      replace P_w0 := rblk_below P_w0 hb
      replace P_g0 := rblk_below P_g0 hb
      replace ou := ou.below hb
      replace og := og.below hb
      replace kb := bt kb hb
      clear hb
      go_wp2_with fail
      refine (T1.out _ (R.out _ kb).2.1 (R.out _ kb).2.2).mono ?_
      rintro e W22 ⟨M1d, A1d, c1d, rfl, hk1d, hd1d, hc1d, o1d, hap1d, hb⟩
      have hzW22 : W21.heap.size ≤ W22.heap.size := hb.size
      replace P_w0 := rblk_below P_w0 hb
      replace P_g0 := rblk_below P_g0 hb
      replace ou := ou.below hb
      replace og := og.below hb
      replace o0d := o0d.below hb
      replace kb := bt kb hb
      clear hb
      go_wp2_with fail
      refine (HI.out M0d A0d c0d M1d A1d c1d _ hd0d hc0d o0d.rds hd1d hc1d o1d.rds).mono ?_
      rintro e W23 ⟨ah, bh, rfl, hxh, oh, haph, hb⟩
      have hzW23 : W22.heap.size ≤ W23.heap.size := hb.size
      replace P_w0 := rblk_below P_w0 hb
      replace P_g0 := rblk_below P_g0 hb
      replace ou := ou.below hb
      replace og := og.below hb
      replace o0d := o0d.below hb
      replace o1d := o1d.below hb
      replace kb := bt kb hb
      clear hb
      clear o0d o1d
      have P_h0 := heap_alloc_new W23 (.cells (r6 U V ah bh) 31)
      have hb := ba1 W23 (.cells (r6 U V ah bh) 31)
      replace P_w0 := rblk_below P_w0 hb
      replace P_g0 := rblk_below P_g0 hb
      replace ou := ou.below hb
      replace og := og.below hb
      replace oh := oh.below hb
      replace kb := bt kb hb
      clear hb
      have hzW24 : W23.heap.size < (W23.alloc (.cells (r6 U V ah bh) 31)).heap.size := by rw [sz1]; omega
      have c_h00 := rblk_cell P_h0 0
      have c_h01 := rblk_cell P_h0 1
      have c_h02 := rblk_cell P_h0 2
      have c_h03 := rblk_cell P_h0 3
      have c_h04 := rblk_cell P_h0 4
      have c_h05 := rblk_cell P_h0 5
      have c_w00 := rblk_cell P_w0 0
      have c_w01 := rblk_cell P_w0 1
      have c_w02 := rblk_cell P_w0 2
      have c_w03 := rblk_cell P_w0 3
      have c_w04 := rblk_cell P_w0 4
      have c_w05 := rblk_cell P_w0 5
      go_wp2_with fail
      clear c_h00 c_h01 c_h02 c_h03 c_h04 c_h05 c_w00 c_w01 c_w02 c_w03 c_w04 c_w05
      generalize W23.alloc (.cells (r6 U V ah bh) 31) = W24 at kb hzW24 P_w0 P_g0 P_h0 ou og oh ⊢
      refine (HE.out ah bh au bu _ oh.rds ou.rds).mono ?_
      rintro e W25 ⟨rfl, hb⟩
      have hzW25 : W24.heap.size ≤ W25.heap.size := hb.size
      replace P_w0 := rblk_below P_w0 hb
      replace P_g0 := rblk_below P_g0 hb
      replace P_h0 := rblk_below P_h0 hb
      replace ou := ou.below hb
      replace og := og.below hb
      replace oh := oh.below hb
      replace kb := bt kb hb
      clear hb
      have c_g00 := rblk_cell P_g0 0
      have c_g01 := rblk_cell P_g0 1
      have c_g02 := rblk_cell P_g0 2
      have c_g03 := rblk_cell P_g0 3
      have c_g04 := rblk_cell P_g0 4
      have c_g05 := rblk_cell P_g0 5
      go_wp2_with fail
      clear c_g00 c_g01 c_g02 c_g03 c_g04 c_g05
      refine (HH.out ag bg _ og.rds).mono ?_
      rintro e W26 ⟨rfl, hb⟩
      have hzW26 : W25.heap.size ≤ W26.heap.size := hb.size
      replace P_w0 := rblk_below P_w0 hb
      replace P_g0 := rblk_below P_g0 hb
      replace P_h0 := rblk_below P_h0 hb
      replace ou := ou.below hb
      replace og := og.below hb
      replace oh := oh.below hb
      replace kb := bt kb hb
      clear hb
      go_wp2
      go_ret
      exact ⟨rfl, kb⟩
    · have SZ1 := Lib.hid (fun W h => szRS_n L1 A1 c1 l1 W hm1 hL1 (by omega) (by omega) (by omega) h)
      clear hg0 hg1 zp0 hn0 hS0 hl1 hm0 hL0 hA0 hR0 hm1 hL1 hA1 hR1
      generalize L0.length = n0 at SZ0 ⊢
      generalize L1.length = n1 at SZ1 ⊢
      go_enter Tryz.func7, Tryz.ntmps7
      go_wp2_with fail
      have kb := Below.refl w.heap.size w
      refine (SZ0.out _ (R.out _ kb).1.1).mono ?_
      rintro e W1 ⟨rfl, hb⟩
      have hzW1 : w.heap.size ≤ W1.heap.size := hb.size
      replace kb := bt kb hb
      clear hb
      go_wp2_with fail
      refine (SZ1.out _ (R.out _ kb).2.1).mono ?_
      rintro e W2 ⟨rfl, hb⟩
      have hzW2 : W1.heap.size ≤ W2.heap.size := hb.size
      replace kb := bt kb hb
      clear hb
      go_wp2
      go_ret
      exact ⟨rfl, kb⟩
  · have SZ0 := Lib.hid (fun W h => szPS_n L0 A0 c0 1048576 W hm0 hL0 (by omega) (by omega) (by omega) h)
    clear hg0  hm0 hL0 hA0 hR0 hm1 hL1 hA1 hR1
    generalize L0.length = n0 at SZ0 ⊢
    go_enter Tryz.func7, Tryz.ntmps7
    go_wp2_with fail
    have kb := Below.refl w.heap.size w
    refine (SZ0.out _ (R.out _ kb).1.1).mono ?_
    rintro e W1 ⟨rfl, hb⟩
    have hzW1 : w.heap.size ≤ W1.heap.size := hb.size
    replace kb := bt kb hb
    clear hb
    go_wp2
    go_ret
    exact ⟨rfl, kb⟩
end Go.Proofs.YtppdholccpgcpaaGreat
