/-
  The walk of the exact law of LocalStiffness.
-/
import Derived.Test.YtppdholccpgcpaaGreatLawXs
import Derived.Test.YtppdholccpgcpaaGreatLkS
import Derived.Test.YtppdholccpgcpaaGreatRmW
import Derived.Test.YtppdholccpgcpaaGreatLmI
namespace Go.Proofs.YtppdholccpgcpaaGreat
open Go.ChangeShapes Go.WideShapes Go.ChangeAt Go.RowKit
set_option linter.unusedVariables false
set_option linter.unusedSimpArgs false
set_option maxRecDepth 4000
set_option maxHeartbeats 4000000 in
theorem law_lstiff (L0 : List PV) (A0 : Option Addr) (c0 : Nat) (w : World) (hm0 : L0.length ≤ 9223372036854775807) (hL0 : ∀ p, p ∈ L0 → LenP p) (hA0 : RdS w A0 (flat L0)) (hR0 : Rds w (lrow L0)) :
    Calls Tryz.prog 8 #[.slice A0 L0.length c0] w fun e w' => e = .returned (.bool true) ∧ Below w.heap.size w w' := by
  have R : Hid (∀ W, Below w.heap.size w W → (RdS W A0 (flat L0) ∧ Rds W (lrow L0))) := Lib.hid (fun W hb => ⟨hA0.below hb, hR0.below hb⟩)
  by_cases hg0 : ((L0.length : Int) + szs L0) ≤ 1048576
  · have zp0 := szs_pos L0
    obtain ⟨hn0, hS0⟩ := szs_facts (L := L0) (by omega)
    have SZ0 := Lib.hid (fun W h => szPS_y L0 A0 c0 1048576 W (by omega) (by omega) (by omega) h)
    obtain ⟨l1, hl1⟩ : ∃ l : Int, l = 1048576 - (L0.length : Int) - szs L0 := ⟨_, rfl⟩
    rw [← hl1] at SZ0
    have hs1 : ¬ l1 < 0 := by omega
    have T0 := Lib.hid (fun W h h' => toPS_r L0 A0 c0 W hn0 hS0 h h')
    have E0 := Lib.hid (fun M M' A A' c c' W hd hd' h h' => eqPS_t L0 M M' A A' c c' W hn0 hS0 hd hd' h h')
    have MK0 : Hid (∀ (M : List PV) (B : Option Addr) (k : Nat) (lo hi : Nat) (W : World), dat M = dat L0 → hi ≤ W.heap.size → Owns lo hi W (srow B M) → Aparts (srow B M) → Calls Tryz.prog 40 #[.slice B M.length k, .int .i64 1] W (fun e w' => e = .returned (.int .i64 (nxs 1 L0)) ∧ True ∧ Turn lo hi W w')) := Lib.hid (fun M B k lo hi W hd hh ow ap => (markPS_r lo hi M B k 1 W (by omega) (by omega) (by rw [dat_len hd, szs_dat hd]; omega) hh ow ap).mono (fun e w' hm => ⟨by rw [hm.1, nxs_dat 1 hd], trivial, hm.2.2⟩))
    have hkk0 : nxs 1 L0 = _ := nxs_eq 1 L0
    generalize nxs 1 L0 = K1 at MK0 hkk0
    have hkp : ¬ K1 < 0 := by omega
    clear hkk0
    have HS : Hid (∀ (M0 : List PV) (B0 : Option Addr) (k0 : Nat) (W : World), dat M0 = dat L0 → (∀ p, p ∈ M0 → CapP p) → Rds W (srow B0 M0) → Calls Tryz.prog 50 #[.slice B0 M0.length k0] W (MadeRSS W.heap.size (stiffL L0) W)) := Lib.hid (fun M0 B0 k0 W hd0 hc0 h0 => by
      have K := spec_localStiffness M0 B0 k0 W (by rw [dat_len hd0]; exact hm0) (fun p hp => (dat_short hd0 hS0 p hp).len) hc0 h0.hd h0.tl
      rw [stiffL_dat hd0] at K; exact K)
    have HI : Hid (∀ (M0 : List PV) (B0 : Option Addr) (k0 : Nat) (W : World), dat M0 = dat L0 → (∀ p, p ∈ M0 → CapP p) → Rds W (srow B0 M0) → Calls Tryz.prog 26 #[.slice B0 M0.length k0] W (MadeRSW W.heap.size (stiffL L0) W)) := Lib.hid (fun M0 B0 k0 W hd0 hc0 h0 => by
      have K := impl_localStiffness M0 B0 k0 W (by rw [dat_len hd0]; exact hm0) (fun p hp => (dat_short hd0 hS0 p hp).len) h0.hd h0.tl
      rw [stiffL_dat hd0] at K; exact K)
    have gg : szm2 (stiffL L0) ≤ 1048576 ∧ ((stiffL L0).length ≤ 1048576 ∧ ∀ p, p ∈ (stiffL L0) → ShortS p) := stiffL_size L0
    generalize stiffL L0 = GL at HS HI gg
    have GE := Lib.hid (fun M M' A A' c c' W hd hd' h h' => eqRSS_d GL M M' A A' c c' W gg.2.1 gg.2.2 hd hd' h h')
    have HM : Hid (∀ (M : List SV) (B : Option Addr) (k : Nat) (Z : Option (Nat × List RV)) (lo hi : Nat) (W : World), datS M = datS GL → WinOk M Z → hi ≤ W.heap.size → Owns lo hi W (rowsW B M Z) → Aparts (rowsW B M Z) → Calls Tryz.prog 52 #[.slice B M.length k, .int .i64 1] W (fun e w' => e = .returned (.int .i64 (nxm 1 GL)) ∧ Owns lo hi w' (rowsW B (mkm 1 M) (mkW 1 Z)) ∧ Turn lo hi W w')) := Lib.hid (fun M B k Z lo hi W hd hz hh ow ap => (markRSS_o lo hi M Z B k 1 W hz (by rw [datS_len hd]; exact gg.2.1) (by omega) (by omega) (by rw [szm2_dat hd]; exact gg.1) hh ow ap).mono (fun e w' hm => ⟨by rw [hm.1, (show nxm 1 M = nxm 1 GL by rw [nxm_eq, nxm_eq, szm2_dat hd])], hm.2⟩))
    have HH : Hid (∀ (M : List SV) (B : Option Addr) (k : Nat) (Z : Option (Nat × List RV)) (W : World), datS M = datS GL → WinOk M Z → Rds W (rowsW B (mkm 1 M) (mkW 1 Z)) → Calls Tryz.prog 53 #[.slice B M.length k, .int .i64 1] W (fun e w' => e = .returned (.int .i64 (nxm 1 GL)) ∧ Below W.heap.size W w')) := Lib.hid (fun M B k Z W hd hz h => (heldRSS_r M B k 1 W (by rw [datS_len hd]; exact gg.2.1) (by omega) (by omega) (by rw [szm2_dat hd]; exact gg.1) (rdsW (winOk_mk 1 hz) h)).mono (fun e w' hm => ⟨by rw [hm.1, (show nxm 1 M = nxm 1 GL by rw [nxm_eq, nxm_eq, szm2_dat hd])], hm.2⟩))
    have hl1' : ¬ nxm 1 GL < 0 := by have := szm2_pos GL; rw [nxm_eq]; omega
    generalize nxm 1 GL = KM at HM HH hl1'
    have q3 : (KM != KM) = false := by simp
    clear gg
    unfold MadeRSS at HS
    unfold MadeRSW at HI
    generalize hnn0 : L0.length = n0 at SZ0 T0 ⊢
    clear hnn0 hg0 hl1 hA0 hR0 hL0 hn0 hS0 hm0 zp0
    unfold MadePS at T0
    go_enter Tryz.func8, Tryz.ntmps8
    go_wp2_with fail
    have kb := Below.refl w.heap.size w
    refine (SZ0.out _ (R.out _ kb).1).mono ?_
    rintro e W1 ⟨rfl, hb⟩
    have hzW1 : w.heap.size ≤ W1.heap.size := hb.size
    replace kb := bt kb hb
    clear hb
    go_wp2_with fail
    refine (T0.out _ (R.out _ kb).1 (R.out _ kb).2).mono ?_
    rintro e W2 ⟨M0a, A0a, c0a, rfl, hk0a, hd0a, hc0a, o0a, hap0a, hb⟩
    have hzW2 : W1.heap.size ≤ W2.heap.size := hb.size
    replace kb := bt kb hb
    clear hb
    go_wp2_with fail
    refine (HS.out M0a A0a c0a _ hd0a hc0a o0a.rds).mono ?_
    rintro e W3 ⟨Mu, Au, cu, rfl, hdu, ou, hapu, hb⟩
    have hzW3 : W2.heap.size ≤ W3.heap.size := hb.size
    replace o0a := o0a.below hb
    replace kb := bt kb hb
    clear hb
    clear o0a
    go_wp2_with fail
    refine (T0.out _ (R.out _ kb).1 (R.out _ kb).2).mono ?_
    rintro e W4 ⟨M0b, A0b, c0b, rfl, hk0b, hd0b, hc0b, o0b, hap0b, hb⟩
    have hzW4 : W3.heap.size ≤ W4.heap.size := hb.size
    replace ou := ou.below hb
    replace kb := bt kb hb
    clear hb
    go_wp2_with fail
    refine (HI.out M0b A0b c0b _ hd0b hc0b o0b.rds).mono ?_
    rintro e W5 ⟨Mg, Ag, cg, Zg, rfl, hdg, hwg, og, hapg, hb⟩
    have hzW5 : W4.heap.size ≤ W5.heap.size := hb.size
    replace ou := ou.below hb
    replace o0b := o0b.below hb
    replace kb := bt kb hb
    clear hb
    go_wp2_with fail
    refine (GE.out Mg Mu Ag Au cg cu _ hdg hdu (rdsW hwg og.rds) ou.rds).mono ?_
    rintro e W6 ⟨rfl, hb⟩
    have hzW6 : W5.heap.size ≤ W6.heap.size := hb.size
    replace ou := ou.below hb
    replace o0b := o0b.below hb
    replace og := og.below hb
    replace kb := bt kb hb
    clear hb
    go_wp2_with fail
    refine (T0.out _ (R.out _ kb).1 (R.out _ kb).2).mono ?_
    rintro e W7 ⟨M0c, A0c, c0c, rfl, hk0c, hd0c, hc0c, o0c, hap0c, hb⟩
    have hzW7 : W6.heap.size ≤ W7.heap.size := hb.size
    replace ou := ou.below hb
    replace o0b := o0b.below hb
    replace og := og.below hb
    replace kb := bt kb hb
    clear hb
    go_wp2_with fail
    refine (E0.out M0b M0c A0b A0c c0b c0c _ hd0b hd0c o0b.rds o0c.rds).mono ?_
    rintro e W8 ⟨rfl, hb⟩
    have hzW8 : W7.heap.size ≤ W8.heap.size := hb.size
    replace ou := ou.below hb
    replace o0b := o0b.below hb
    replace og := og.below hb
    replace o0c := o0c.below hb
    replace kb := bt kb hb
    clear hb
    clear o0c
    go_wp2_with fail
    refine (MK0.out M0b A0b c0b _ _ _ hd0b (by omega) o0b hap0b).mono ?_
    rintro e W9 ⟨rfl, -, hT⟩
    replace kb := hT.below kb (by omega) (by omega)
    replace ou := ou.turn hT (by omega)
    replace og := og.turn hT (by omega)
    have hzW9 : W8.heap.size ≤ W9.heap.size := hT.size
    clear hT
    clear o0b
    go_wp2_with fail
    refine (GE.out Mg Mu Ag Au cg cu _ hdg hdu (rdsW hwg og.rds) ou.rds).mono ?_
    rintro e W10 ⟨rfl, hb⟩
    have hzW10 : W9.heap.size ≤ W10.heap.size := hb.size
    replace ou := ou.below hb
    replace og := og.below hb
    replace kb := bt kb hb
    clear hb
    go_wp2_with fail
    refine (HM.out Mg Ag cg Zg _ _ _ hdg hwg (by omega) og hapg).mono ?_
    rintro e W11 ⟨rfl, ogq, hT⟩
    replace kb := hT.below kb (by omega) (by omega)
    replace ou := ou.turn hT (by omega)
    have hzW11 : W10.heap.size ≤ W11.heap.size := hT.size
    clear hT
    clear og
    have og := ogq
    clear ogq
    go_wp2_with fail
    refine (HH.out Mg Ag cg Zg _ hdg hwg og.rds).mono ?_
    rintro e W12 ⟨rfl, hb⟩
    have hzW12 : W11.heap.size ≤ W12.heap.size := hb.size
    replace ou := ou.below hb
    replace og := og.below hb
    replace kb := bt kb hb
    clear hb
    go_wp2_with fail
    refine (T0.out _ (R.out _ kb).1 (R.out _ kb).2).mono ?_
    rintro e W13 ⟨M0d, A0d, c0d, rfl, hk0d, hd0d, hc0d, o0d, hap0d, hb⟩
    have hzW13 : W12.heap.size ≤ W13.heap.size := hb.size
    replace ou := ou.below hb
    replace og := og.below hb
    replace kb := bt kb hb
    clear hb
    go_wp2_with fail
    refine (HI.out M0d A0d c0d _ hd0d hc0d o0d.rds).mono ?_
    rintro e W14 ⟨Mh, Ah, ch, Zh, rfl, hdh, hwh, oh, haph, hb⟩
    have hzW14 : W13.heap.size ≤ W14.heap.size := hb.size
    replace ou := ou.below hb
    replace og := og.below hb
    replace o0d := o0d.below hb
    replace kb := bt kb hb
    clear hb
    clear o0d
    go_wp2_with fail
    refine (GE.out Mh Mu Ah Au ch cu _ hdh hdu (rdsW hwh oh.rds) ou.rds).mono ?_
    rintro e W15 ⟨rfl, hb⟩
    have hzW15 : W14.heap.size ≤ W15.heap.size := hb.size
    replace ou := ou.below hb
    replace og := og.below hb
    replace oh := oh.below hb
    replace kb := bt kb hb
    clear hb
    go_wp2_with fail
    refine (HH.out Mg Ag cg Zg _ hdg hwg og.rds).mono ?_
    rintro e W16 ⟨rfl, hb⟩
    have hzW16 : W15.heap.size ≤ W16.heap.size := hb.size
    replace ou := ou.below hb
    replace og := og.below hb
    replace oh := oh.below hb
    replace kb := bt kb hb
    clear hb
    go_wp2
    go_ret
    exact ⟨rfl, kb⟩
  · have SZ0 := Lib.hid (fun W h => szPS_n L0 A0 c0 1048576 W hm0 hL0 (by omega) (by omega) (by omega) h)
    clear hg0  hm0 hL0 hA0 hR0
    generalize L0.length = n0 at SZ0 ⊢
    go_enter Tryz.func8, Tryz.ntmps8
    go_wp2_with fail
    have kb := Below.refl w.heap.size w
    refine (SZ0.out _ (R.out _ kb).1).mono ?_
    rintro e W1 ⟨rfl, hb⟩
    have hzW1 : w.heap.size ≤ W1.heap.size := hb.size
    replace kb := bt kb hb
    clear hb
    go_wp2
    go_ret
    exact ⟨rfl, kb⟩
end Go.Proofs.YtppdholccpgcpaaGreat
