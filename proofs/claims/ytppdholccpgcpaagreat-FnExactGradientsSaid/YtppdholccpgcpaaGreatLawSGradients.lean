/-
  The walk of the exact law of Gradients.
-/
import Derived.Test.YtppdholccpgcpaaGreatLawS
import Derived.Test.YtppdholccpgcpaaGreatGrS
import Derived.Test.YtppdholccpgcpaaGreatGrI
import Derived.Test.YtppdholccpgcpaaGreatSlM
import Derived.Test.YtppdholccpgcpaaGreatSlN
namespace Go.Proofs.YtppdholccpgcpaaGreat
open Go.ChangeShapes Go.WideShapes Go.ChangeAt Go.RowKit
open Go.ChangeMaps (open_string shut_string)
set_option linter.unusedVariables false
set_option linter.unusedSimpArgs false
set_option maxRecDepth 4000

theorem szs_dat {L M : List PV} (h : dat M = dat L) : szs M = szs L := by
  induction L generalizing M with
  | nil => obtain rfl : M = [] := List.eq_nil_of_length_eq_zero (dat_len h); rfl
  | cons p L ih =>
    match M, h with
    | q :: M, h =>
      simp only [dat, List.map_cons, List.cons.injEq, Prod.mk.injEq] at h
      show szp q + szs M = szp p + szs L
      rw [ih h.2]; unfold szp; rw [h.1.1, h.1.2]
theorem nxs_dat {L M : List PV} (k : Int) (h : dat M = dat L) : nxs k M = nxs k L := by rw [nxs_eq, nxs_eq, szs_dat h, dat_len h]
theorem tri_dat {L L' : List PV} (h : dat L' = dat L) : (tri1 L').x = (tri1 L).x ∧ (tri1 L').y = (tri1 L).y ∧ (tri2 L').x = (tri2 L).x ∧ (tri2 L').y = (tri2 L).y ∧ (tri3 L').x = (tri3 L).x ∧ (tri3 L').y = (tri3 L).y := by
  cases hp : properB L with
  | false =>
    obtain ⟨e1, e2, e3⟩ := tri_no hp
    obtain ⟨e4, e5, e6⟩ := tri_no (L := L') (by rw [properB_dat h]; exact hp)
    rw [e1, e2, e3, e4, e5, e6]
    exact ⟨rfl, rfl, rfl, rfl, rfl, rfl⟩
  | true =>
    have hp' : properB L' = true := by rw [properB_dat h]; exact hp
    obtain ⟨p, q, r, rfl, _, _⟩ := properB_three hp
    obtain ⟨p', q', r', rfl, ⟨a1, a2⟩, ⟨a3, a4⟩, a5, a6⟩ := dat_three h
    obtain ⟨e1, e2, e3⟩ := tri_yes hp
    obtain ⟨e4, e5, e6⟩ := tri_yes hp'
    rw [e1, e2, e3, e4, e5, e6]
    exact ⟨a1, a2, a3, a4, a5, a6⟩
theorem grad_dat {L M : List PV} (h : dat M = dat L) : gradL M = gradL L := by
  obtain ⟨a1, a2, a3, a4, a5, a6⟩ := tri_dat h
  unfold gradL gradV
  rw [aT_dat h]
  unfold tX tY nX nY
  rw [a1, a2, a3, a4, a5, a6]
theorem grad_size (L : List PV) : ((gradL L).length : Int) + szs (gradL L) ≤ 1048576 := by
  unfold gradL gradV gl3
  split
  · have f : ∀ j k s, szx (ofO (tX j k s)) ≤ 48 ∧ szx (ofO (tY j k s)) ≤ 48 := fun j k s => by
      have h1 := (tX_fit j k s).len
      have h2 := (tY_fit j k s).len
      unfold szx
      omega
    have h1 := f (tri2 L) (tri3 L) (invO (aT L))
    have h2 := f (tri3 L) (tri1 L) (invO (aT L))
    have h3 := f (tri1 L) (tri2 L) (invO (aT L))
    simp only [szs, szp, List.length_cons, List.length_nil]
    omega
  · simp [szs]

set_option maxHeartbeats 4000000 in
theorem law_gradients (L : List PV) (A : Option Addr) (c : Nat) (w : World) (hm : L.length ≤ 9223372036854775807) (hL : ∀ p, p ∈ L → LenP p) (hA : RdS w A (flat L)) (hR : Rds w (lrow L)) :
    Calls Tryz.prog 6 #[.slice A L.length c] w fun e w' => e = .returned (.bool true) ∧ Below w.heap.size w w' := by
  by_cases hg : (L.length : Int) + szs L ≤ 1048576
  · obtain ⟨hn, hS⟩ := szs_facts hg
    have SZ := Lib.hid (fun W h => szPS_y L A c 1048576 W (by omega) (by omega) hg h)
    obtain ⟨l1, hl1⟩ : ∃ l : Int, l = 1048576 - (L.length : Int) - szs L := ⟨_, rfl⟩
    rw [← hl1] at SZ
    have hs1 : ¬ l1 < 0 := by omega
    have T := Lib.hid (fun W h h' => toPS_r L A c W hn hS h h')
    have E := Lib.hid (fun M M' A A' c c' W hd hd' h h' => eqPS_t L M M' A A' c c' W hn hS hd hd' h h')
    have R : Hid (∀ W, Below w.heap.size w W → RdS W A (flat L) ∧ Rds W (lrow L)) := Lib.hid (fun W hb => ⟨hA.below hb, hR.below hb⟩)
    have MK : Hid (∀ (M : List PV) (B : Option Addr) (k : Nat) (lo hi : Nat) (W : World), dat M = dat L → hi ≤ W.heap.size → Owns lo hi W (srow B M) → Aparts (srow B M) → Calls Tryz.prog 40 #[.slice B M.length k, .int .i64 1] W (fun e w' => e = .returned (.int .i64 (nxs 1 L)) ∧ True ∧ Turn lo hi W w')) := Lib.hid (fun M B k lo hi W hd hh ow ap => (markPS_r lo hi M B k 1 W (by omega) (by omega) (by rw [dat_len hd, szs_dat hd]; exact hg) hh ow ap).mono (fun e w' hm => ⟨by rw [hm.1, nxs_dat 1 hd], trivial, hm.2.2⟩))
    have hkp : ¬ nxs 1 L < 0 := by have := szs_pos L; rw [nxs_eq]; omega
    generalize nxs 1 L = K at MK hkp
    have gg : ((gradL L).length : Int) + szs (gradL L) ≤ 1048576 := grad_size L
    have HS : Hid (∀ (M : List PV) (B : Option Addr) (k : Nat) (W : World), dat M = dat L → (∀ p, p ∈ M → CapP p) → Rds W (srow B M) → Calls Tryz.prog 37 #[.slice B M.length k] W (MadePS W.heap.size (gradL L) W)) := Lib.hid (fun M B k W hd hc h => by
      have K := spec_gradients M B k W (by rw [dat_len hd]; exact hm) (fun p hp => (dat_short hd hS p hp).len) hc h.hd h.tl
      rw [grad_dat hd] at K; exact K)
    have HI : Hid (∀ (M : List PV) (B : Option Addr) (k : Nat) (W : World), dat M = dat L → Rds W (srow B M) → Calls Tryz.prog 14 #[.slice B M.length k] W (MadePS W.heap.size (gradL L) W)) := Lib.hid (fun M B k W hd h => by
      have K := impl_gradients M B k W (by rw [dat_len hd]; exact hm) (fun p hp => (dat_short hd hS p hp).len) h.hd h.tl
      rw [grad_dat hd] at K; exact K)
    generalize gradL L = GL at HS HI gg
    obtain ⟨gn, gS⟩ := szs_facts gg
    have GE := Lib.hid (fun M M' A A' c c' W hd hd' h h' => eqPS_t GL M M' A A' c c' W gn gS hd hd' h h')
    have HM : Hid (∀ (M : List PV) (B : Option Addr) (k : Nat) (lo hi : Nat) (W : World), dat M = dat GL → hi ≤ W.heap.size → Owns lo hi W (srow B M) → Aparts (srow B M) → Calls Tryz.prog 40 #[.slice B M.length k, .int .i64 1] W (fun e w' => e = .returned (.int .i64 (nxs 1 GL)) ∧ Owns lo hi w' (srow B (mks 1 M)) ∧ Turn lo hi W w')) := Lib.hid (fun M B k lo hi W hd hh ow ap => (markPS_r lo hi M B k 1 W (by omega) (by omega) (by rw [dat_len hd, szs_dat hd]; exact gg) hh ow ap).mono (fun e w' hm => ⟨by rw [hm.1, nxs_dat 1 hd], hm.2.1, hm.2.2⟩))
    have HH : Hid (∀ (M : List PV) (B : Option Addr) (k : Nat) (W : World), dat M = dat GL → Rds W (srow B (mks 1 M)) → Calls Tryz.prog 41 #[.slice B M.length k, .int .i64 1] W (fun e w' => e = .returned (.int .i64 (nxs 1 GL)) ∧ Below W.heap.size W w')) := Lib.hid (fun M B k W hd h => (heldPS_r M B k 1 W (by omega) (by omega) (by rw [dat_len hd, szs_dat hd]; exact gg) h).mono (fun e w' hm => ⟨by rw [hm.1, nxs_dat 1 hd], hm.2⟩))
    have hl1' : ¬ nxs 1 GL < 0 := by have := szs_pos GL; rw [nxs_eq]; omega
    generalize nxs 1 GL = KM at HM HH hl1'
    have q3 : (KM != KM) = false := by simp
    clear gg gn gS
    unfold MadePS at HS HI
    generalize hnn : L.length = n at SZ T ⊢
    clear hnn hg hl1 hA hR hL hn hS hm
    unfold MadePS at T
    go_enter Tryz.func6, Tryz.ntmps6
    go_wp2_with fail
    have kb := Below.refl w.heap.size w
    refine (SZ.out _ (R.out _ kb).1).mono ?_
    rintro e W1 ⟨rfl, hb⟩
    have hzW1 : w.heap.size ≤ W1.heap.size := hb.size
    replace kb := bt kb hb
    clear hb
    go_wp2_with fail
    refine (T.out _ (R.out _ kb).1 (R.out _ kb).2).mono ?_
    rintro e W2 ⟨M1, A1, c1, rfl, hk1, hd1, hc1, o1, hap1, hb⟩
    have hzW2 : W1.heap.size ≤ W2.heap.size := hb.size
    replace kb := bt kb hb
    clear hb
    go_wp2_with fail
    refine (HS.out M1 A1 c1 _ hd1 hc1 o1.rds).mono ?_
    rintro e W3 ⟨Mu, Au, cu, rfl, hku, hdu, hcu, ou, hapu, hb⟩
    have hzW3 : W2.heap.size ≤ W3.heap.size := hb.size
    replace o1 := o1.below hb
    replace kb := bt kb hb
    clear hb
    clear o1
    go_wp2_with fail
    refine (T.out _ (R.out _ kb).1 (R.out _ kb).2).mono ?_
    rintro e W4 ⟨M2, A2, c2, rfl, hk2, hd2, hc2, o2, hap2, hb⟩
    have hzW4 : W3.heap.size ≤ W4.heap.size := hb.size
    replace ou := ou.below hb
    replace kb := bt kb hb
    clear hb
    go_wp2_with fail
    refine (HI.out M2 A2 c2 _ hd2 o2.rds).mono ?_
    rintro e W5 ⟨Mg, Ag, cg, rfl, hkg, hdg, hcg, og, hapg, hb⟩
    have hzW5 : W4.heap.size ≤ W5.heap.size := hb.size
    replace ou := ou.below hb
    replace o2 := o2.below hb
    replace kb := bt kb hb
    clear hb
    go_wp2_with fail
    refine (GE.out Mg Mu Ag Au cg cu _ hdg hdu og.rds ou.rds).mono ?_
    rintro e W6 ⟨rfl, hb⟩
    have hzW6 : W5.heap.size ≤ W6.heap.size := hb.size
    replace ou := ou.below hb
    replace o2 := o2.below hb
    replace og := og.below hb
    replace kb := bt kb hb
    clear hb
    go_wp2_with fail
    refine (T.out _ (R.out _ kb).1 (R.out _ kb).2).mono ?_
    rintro e W7 ⟨M3, A3, c3, rfl, hk3, hd3, hc3, o3, hap3, hb⟩
    have hzW7 : W6.heap.size ≤ W7.heap.size := hb.size
    replace ou := ou.below hb
    replace o2 := o2.below hb
    replace og := og.below hb
    replace kb := bt kb hb
    clear hb
    go_wp2_with fail
    refine (E.out M2 M3 A2 A3 c2 c3 _ hd2 hd3 o2.rds o3.rds).mono ?_
    rintro e W8 ⟨rfl, hb⟩
    have hzW8 : W7.heap.size ≤ W8.heap.size := hb.size
    replace ou := ou.below hb
    replace o2 := o2.below hb
    replace og := og.below hb
    replace o3 := o3.below hb
    replace kb := bt kb hb
    clear hb
    clear o3
    go_wp2_with fail
    refine (MK.out M2 A2 c2 _ _ _ hd2 (by omega) o2 hap2).mono ?_
    rintro e W9 ⟨rfl, -, hT⟩
    replace kb := hT.below kb (by omega) (by omega)
    replace ou := ou.turn hT (by omega)
    replace og := og.turn hT (by omega)
    have hzW9 : W8.heap.size ≤ W9.heap.size := hT.size
    clear hT
    clear o2
    go_wp2_with fail
    refine (GE.out Mg Mu Ag Au cg cu _ hdg hdu og.rds ou.rds).mono ?_
    rintro e W10 ⟨rfl, hb⟩
    have hzW10 : W9.heap.size ≤ W10.heap.size := hb.size
    replace ou := ou.below hb
    replace og := og.below hb
    replace kb := bt kb hb
    clear hb
    go_wp2_with fail
    refine (HM.out Mg Ag cg _ _ _ hdg (by omega) og hapg).mono ?_
    rintro e W11 ⟨rfl, ogq, hT⟩
    replace kb := hT.below kb (by omega) (by omega)
    replace ou := ou.turn hT (by omega)
    have hzW11 : W10.heap.size ≤ W11.heap.size := hT.size
    clear hT
    clear og
    have og := ogq
    clear ogq
    go_wp2_with fail
    refine (HH.out Mg Ag cg _ hdg og.rds).mono ?_
    rintro e W12 ⟨rfl, hb⟩
    have hzW12 : W11.heap.size ≤ W12.heap.size := hb.size
    replace ou := ou.below hb
    replace og := og.below hb
    replace kb := bt kb hb
    clear hb
    go_wp2_with fail
    refine (T.out _ (R.out _ kb).1 (R.out _ kb).2).mono ?_
    rintro e W13 ⟨M4, A4, c4, rfl, hk4, hd4, hc4, o4, hap4, hb⟩
    have hzW13 : W12.heap.size ≤ W13.heap.size := hb.size
    replace ou := ou.below hb
    replace og := og.below hb
    replace kb := bt kb hb
    clear hb
    go_wp2_with fail
    refine (HI.out M4 A4 c4 _ hd4 o4.rds).mono ?_
    rintro e W14 ⟨Mh, Ah, ch, rfl, hkh, hdh, hch, oh, haph, hb⟩
    have hzW14 : W13.heap.size ≤ W14.heap.size := hb.size
    replace ou := ou.below hb
    replace og := og.below hb
    replace o4 := o4.below hb
    replace kb := bt kb hb
    clear hb
    clear o4
    go_wp2_with fail
    refine (GE.out Mh Mu Ah Au ch cu _ hdh hdu oh.rds ou.rds).mono ?_
    rintro e W15 ⟨rfl, hb⟩
    have hzW15 : W14.heap.size ≤ W15.heap.size := hb.size
    replace ou := ou.below hb
    replace og := og.below hb
    replace oh := oh.below hb
    replace kb := bt kb hb
    clear hb
    go_wp2_with fail
    refine (HH.out Mg Ag cg _ hdg og.rds).mono ?_
    rintro e W16 ⟨rfl, hb⟩
    have hzW16 : W15.heap.size ≤ W16.heap.size := hb.size
    replace ou := ou.below hb
    replace og := og.below hb
    replace oh := oh.below hb
    replace kb := bt kb hb
    clear hb
    go_wp2
    go_ret
    exact ⟨rfl, kb⟩
  · have SZ := Lib.hid (fun W h => szPS_n L A c 1048576 W hm hL (by omega) (by omega) hg h)
    generalize L.length = n at SZ ⊢
    go_enter Tryz.func6, Tryz.ntmps6
    go_wp2_with fail
    refine (SZ.out _ hA).mono ?_
    rintro e W1 ⟨rfl, hb⟩
    go_wp2
    go_ret
    exact ⟨rfl, hb⟩
end Go.Proofs.YtppdholccpgcpaaGreat

