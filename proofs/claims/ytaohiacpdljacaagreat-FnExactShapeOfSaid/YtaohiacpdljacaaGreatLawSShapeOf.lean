/-
  The walk of the exact law of ShapeOf.
-/
import Derived.Test.YtaohiacpdljacaaGreatLawS
import Derived.Test.YtaohiacpdljacaaGreatShS
import Derived.Test.YtaohiacpdljacaaGreatShI
import Derived.Test.YtaohiacpdljacaaGreatSlM
namespace Go.Proofs.YtaohiacpdljacaaGreat
open Go.ChangeShapes Go.WideShapes Go.ChangeAt Go.RowKit
open Go.ChangeMaps (open_string shut_string)
set_option linter.unusedVariables false
set_option linter.unusedSimpArgs false
set_option maxRecDepth 4000

theorem szs_dat {L M : List PV} (h : dat M = dat L) : szs M = szs L := by
  induction L generalizing M with
  | nil => obtain rfl : M = [] := List.eq_nil_of_length_eq_zero (dat_len h); rfl
  | cons p L ih =>
    match M, h with
    | q :: M, h =>
      simp only [dat, List.map_cons, List.cons.injEq, Prod.mk.injEq] at h
      show szp q + szs M = szp p + szs L
      rw [ih h.2]; unfold szp; rw [h.1.1, h.1.2]
theorem nxs_dat {L M : List PV} (k : Int) (h : dat M = dat L) : nxs k M = nxs k L := by rw [nxs_eq, nxs_eq, szs_dat h, dat_len h]
theorem tri_dat {L L' : List PV} (h : dat L' = dat L) : (tri1 L').x = (tri1 L).x ∧ (tri1 L').y = (tri1 L).y ∧ (tri2 L').x = (tri2 L).x ∧ (tri2 L').y = (tri2 L).y ∧ (tri3 L').x = (tri3 L).x ∧ (tri3 L').y = (tri3 L).y := by
  cases hp : properB L with
  | false =>
    obtain ⟨e1, e2, e3⟩ := tri_no hp
    obtain ⟨e4, e5, e6⟩ := tri_no (L := L') (by rw [properB_dat h]; exact hp)
    rw [e1, e2, e3, e4, e5, e6]
    exact ⟨rfl, rfl, rfl, rfl, rfl, rfl⟩
  | true =>
    have hp' : properB L' = true := by rw [properB_dat h]; exact hp
    obtain ⟨p, q, r, rfl, _, _⟩ := properB_three hp
    obtain ⟨p', q', r', rfl, ⟨a1, a2⟩, ⟨a3, a4⟩, a5, a6⟩ := dat_three h
    obtain ⟨e1, e2, e3⟩ := tri_yes hp
    obtain ⟨e4, e5, e6⟩ := tri_yes hp'
    rw [e1, e2, e3, e4, e5, e6]
    exact ⟨a1, a2, a3, a4, a5, a6⟩
theorem shape_dat {L M : List PV} (h : dat M = dat L) : shapeO M = shapeO L := by
  obtain ⟨a1, a2, a3, a4, a5, a6⟩ := tri_dat h
  unfold shapeO
  rw [aT_dat h]
  unfold long3 long2 long1 sqO dX dY
  rw [a1, a2, a3, a4, a5, a6]

set_option maxHeartbeats 4000000 in
theorem law_shapeOf (L : List PV) (A : Option Addr) (c : Nat) (w : World) (hm : L.length ≤ 9223372036854775807) (hL : ∀ p, p ∈ L → LenP p) (hA : RdS w A (flat L)) (hR : Rds w (lrow L)) :
    Calls Tryz.prog 4 #[.slice A L.length c] w fun e w' => e = .returned (.bool true) ∧ Below w.heap.size w w' := by
  by_cases hg : (L.length : Int) + szs L ≤ 1048576
  · obtain ⟨hn, hS⟩ := szs_facts hg
    have SZ := Lib.hid (fun W h => szPS_y L A c 1048576 W (by omega) (by omega) hg h)
    obtain ⟨l1, hl1⟩ : ∃ l : Int, l = 1048576 - (L.length : Int) - szs L := ⟨_, rfl⟩
    rw [← hl1] at SZ
    have hs1 : ¬ l1 < 0 := by omega
    have T := Lib.hid (fun W h h' => toPS_r L A c W hn hS h h')
    have E := Lib.hid (fun M M' A A' c c' W hd hd' h h' => eqPS_t L M M' A A' c c' W hn hS hd hd' h h')
    have R : Hid (∀ W, Below w.heap.size w W → RdS W A (flat L) ∧ Rds W (lrow L)) := Lib.hid (fun W hb => ⟨hA.below hb, hR.below hb⟩)
    have MK : Hid (∀ (M : List PV) (B : Option Addr) (k : Nat) (lo hi : Nat) (W : World), dat M = dat L → hi ≤ W.heap.size → Owns lo hi W (srow B M) → Aparts (srow B M) → Calls Tryz.prog 21 #[.slice B M.length k, .int .i64 1] W (fun e w' => e = .returned (.int .i64 (nxs 1 L)) ∧ True ∧ Turn lo hi W w')) := Lib.hid (fun M B k lo hi W hd hh ow ap => (markPS_r lo hi M B k 1 W (by omega) (by omega) (by rw [dat_len hd, szs_dat hd]; exact hg) hh ow ap).mono (fun e w' hm => ⟨by rw [hm.1, nxs_dat 1 hd], trivial, hm.2.2⟩))
    have hkp : ¬ nxs 1 L < 0 := by have := szs_pos L; rw [nxs_eq]; omega
    generalize nxs 1 L = K at MK hkp
    have shU : Short (ofO (shapeO L)) := (quoO_fit (aT L) (long3 (tri1 L) (tri2 L) (tri3 L))).short
    have HS : Hid (∀ (M : List PV) (B : Option Addr) (k : Nat) (W : World), dat M = dat L → (∀ p, p ∈ M → CapP p) → Rds W (srow B M) → Calls Tryz.prog 17 #[.slice B M.length k] W (MadeQ W.heap.size (ofO (shapeO L)) W)) := Lib.hid (fun M B k W hd hc h => by
      have K := spec_shapeOf M B k W (by rw [dat_len hd]; exact hm) (fun p hp => (dat_short hd hS p hp).len) hc h.hd h.tl
      rw [shape_dat hd] at K; exact K)
    have HI : Hid (∀ (M : List PV) (B : Option Addr) (k : Nat) (W : World), dat M = dat L → Rds W (srow B M) → Calls Tryz.prog 9 #[.slice B M.length k] W (MadeQ W.heap.size (ofO (shapeO L)) W)) := Lib.hid (fun M B k W hd h => by
      have K := impl_shapeOf M B k W (by rw [dat_len hd]; exact hm) (fun p hp => (dat_short hd hS p hp).len) h.hd h.tl
      rw [shape_dat hd] at K; exact K)
    generalize ofO (shapeO L) = U at HS HI shU
    have HE := Lib.hid (fun (a c : Ad) W h h' => eqRat_t U a c W shU h h')
    have hm1 := nxt_le 1 U
    have hm2 := nxt_up (Int.le_refl 1) shU
    have HM := Lib.hid (fun (a : Ad) lo hi W (hh : hi ≤ W.heap.size) ow ap => (markRat_r lo hi U a 1 W shU (by omega) (by omega) ow ap).mono (fun e w' hm => show e = .returned (.int .i64 (nxt 1 U)) ∧ Owns lo hi w' (rows (mkR 1 U) a) ∧ Turn lo hi W w' from ⟨hm.1, hm.2.1, turn_rows ow hm.2.2⟩))
    have HH := Lib.hid (fun (a : Ad) W h => heldRat_r U a 1 W shU (by omega) (by omega) h)
    have hl1' : ¬ nxt 1 U < 0 := by omega
    clear hm1 hm2
    generalize mkR 1 U = MU at HM HH
    generalize nxt 1 U = KM at HM HH hl1'
    have q3 : (KM != KM) = false := by simp
    clear shU
    unfold MadeQ at HS HI
    generalize hnn : L.length = n at SZ T ⊢
    clear hnn hg hl1 hA hR hL hn hS hm
    unfold MadePS at T
    go_enter Tryz.func4, Tryz.ntmps4
    go_wp2_with fail
    have kb := Below.refl w.heap.size w
    refine (SZ.out _ (R.out _ kb).1).mono ?_
    rintro e W1 ⟨rfl, hb⟩
    have hzW1 : w.heap.size ≤ W1.heap.size := hb.size
    replace kb := bt kb hb
    clear hb
    go_wp2_with fail
    refine (T.out _ (R.out _ kb).1 (R.out _ kb).2).mono ?_
    rintro e W2 ⟨M1, A1, c1, rfl, hk1, hd1, hc1, o1, hap1, hb⟩
    have hzW2 : W1.heap.size ≤ W2.heap.size := hb.size
    replace kb := bt kb hb
    clear hb
    go_wp2_with fail
    refine (HS.out M1 A1 c1 _ hd1 hc1 o1.rds).mono ?_
    rintro e W3 ⟨au, rfl, hxu, hyu, ou, hapu, hb⟩
    have hzW3 : W2.heap.size ≤ W3.heap.size := hb.size
    replace o1 := o1.below hb
    replace kb := bt kb hb
    clear hb
    clear o1
    have P_w0 := heap_alloc_new W3 (.cells #[.bool U.p, .slice au.A U.l.length au.c, .slice au.D U.m.length au.d] 29)
    have hb := ba1 W3 (.cells #[.bool U.p, .slice au.A U.l.length au.c, .slice au.D U.m.length au.d] 29)
    replace ou := ou.below hb
    replace kb := bt kb hb
    clear hb
    have hzW4 : W3.heap.size < (W3.alloc (.cells #[.bool U.p, .slice au.A U.l.length au.c, .slice au.D U.m.length au.d] 29)).heap.size := by rw [sz1]; omega
    go_wp2_with fail
    generalize W3.alloc (.cells #[.bool U.p, .slice au.A U.l.length au.c, .slice au.D U.m.length au.d] 29) = W4 at kb hzW4 P_w0 ou ⊢
    refine (T.out _ (R.out _ kb).1 (R.out _ kb).2).mono ?_
    rintro e W5 ⟨M2, A2, c2, rfl, hk2, hd2, hc2, o2, hap2, hb⟩
    have hzW5 : W4.heap.size ≤ W5.heap.size := hb.size
    replace P_w0 := rblk_below P_w0 hb
    replace ou := ou.below hb
    replace kb := bt kb hb
    clear hb
    go_wp2_with fail
    refine (HI.out M2 A2 c2 _ hd2 o2.rds).mono ?_
    rintro e W6 ⟨ag, rfl, hxg, hyg, og, hapg, hb⟩
    have hzW6 : W5.heap.size ≤ W6.heap.size := hb.size
    replace P_w0 := rblk_below P_w0 hb
    replace ou := ou.below hb
    replace o2 := o2.below hb
    replace kb := bt kb hb
    clear hb
    have P_g0 := heap_alloc_new W6 (.cells #[.bool U.p, .slice ag.A U.l.length ag.c, .slice ag.D U.m.length ag.d] 29)
    have hb := ba1 W6 (.cells #[.bool U.p, .slice ag.A U.l.length ag.c, .slice ag.D U.m.length ag.d] 29)
    replace P_w0 := rblk_below P_w0 hb
    replace ou := ou.below hb
    replace o2 := o2.below hb
    replace og := og.below hb
    replace kb := bt kb hb
    clear hb
    have hzW7 : W6.heap.size < (W6.alloc (.cells #[.bool U.p, .slice ag.A U.l.length ag.c, .slice ag.D U.m.length ag.d] 29)).heap.size := by rw [sz1]; omega
    have c_g00 : (W6.alloc (.cells #[.bool U.p, .slice ag.A U.l.length ag.c, .slice ag.D U.m.length ag.d] 29)).cell? ⟨W6.heap.size, 0, none⟩ = some (.bool U.p) := rblk_cell P_g0 0
    have c_g01 : (W6.alloc (.cells #[.bool U.p, .slice ag.A U.l.length ag.c, .slice ag.D U.m.length ag.d] 29)).cell? ⟨W6.heap.size, 1, none⟩ = some (.slice ag.A U.l.length ag.c) := rblk_cell P_g0 1
    have c_g02 : (W6.alloc (.cells #[.bool U.p, .slice ag.A U.l.length ag.c, .slice ag.D U.m.length ag.d] 29)).cell? ⟨W6.heap.size, 2, none⟩ = some (.slice ag.D U.m.length ag.d) := rblk_cell P_g0 2
    have c_w00 : (W6.alloc (.cells #[.bool U.p, .slice ag.A U.l.length ag.c, .slice ag.D U.m.length ag.d] 29)).cell? ⟨W3.heap.size, 0, none⟩ = some (.bool U.p) := rblk_cell P_w0 0
    have c_w01 : (W6.alloc (.cells #[.bool U.p, .slice ag.A U.l.length ag.c, .slice ag.D U.m.length ag.d] 29)).cell? ⟨W3.heap.size, 1, none⟩ = some (.slice au.A U.l.length au.c) := rblk_cell P_w0 1
    have c_w02 : (W6.alloc (.cells #[.bool U.p, .slice ag.A U.l.length ag.c, .slice ag.D U.m.length ag.d] 29)).cell? ⟨W3.heap.size, 2, none⟩ = some (.slice au.D U.m.length au.d) := rblk_cell P_w0 2
    go_wp2_with fail
    clear c_g00 c_g01 c_g02 c_w00 c_w01 c_w02
    generalize W6.alloc (.cells #[.bool U.p, .slice ag.A U.l.length ag.c, .slice ag.D U.m.length ag.d] 29) = W7 at kb hzW7 P_w0 P_g0 ou o2 og ⊢
    refine (HE.out ag au _ og.rds ou.rds).mono ?_
    rintro e W8 ⟨rfl, hb⟩
    have hzW8 : W7.heap.size ≤ W8.heap.size := hb.size
    replace P_w0 := rblk_below P_w0 hb
    replace P_g0 := rblk_below P_g0 hb
    replace ou := ou.below hb
    replace o2 := o2.below hb
    replace og := og.below hb
    replace kb := bt kb hb
    clear hb
    go_wp2_with fail
    refine (T.out _ (R.out _ kb).1 (R.out _ kb).2).mono ?_
    rintro e W9 ⟨M3, A3, c3, rfl, hk3, hd3, hc3, o3, hap3, hb⟩
    have hzW9 : W8.heap.size ≤ W9.heap.size := hb.size
    replace P_w0 := rblk_below P_w0 hb
    replace P_g0 := rblk_below P_g0 hb
    replace ou := ou.below hb
    replace o2 := o2.below hb
    replace og := og.below hb
    replace kb := bt kb hb
    clear hb
    go_wp2_with fail
    refine (E.out M2 M3 A2 A3 c2 c3 _ hd2 hd3 o2.rds o3.rds).mono ?_
    rintro e W10 ⟨rfl, hb⟩
    have hzW10 : W9.heap.size ≤ W10.heap.size := hb.size
    replace P_w0 := rblk_below P_w0 hb
    replace P_g0 := rblk_below P_g0 hb
    replace ou := ou.below hb
    replace o2 := o2.below hb
    replace og := og.below hb
    replace o3 := o3.below hb
    replace kb := bt kb hb
    clear hb
    clear o3
    go_wp2_with fail
    refine (MK.out M2 A2 c2 _ _ _ hd2 (by omega) o2 hap2).mono ?_
    rintro e W11 ⟨rfl, -, hT⟩
    replace P_w0 := hT.blk P_w0 (by omega)
    replace P_g0 := hT.blk P_g0 (by omega)
    replace kb := hT.below kb (by omega) (by omega)
    replace ou := ou.turn hT (by omega)
    replace og := og.turn hT (by omega)
    have hzW11 : W10.heap.size ≤ W11.heap.size := hT.size
    clear hT
    clear o2
    have c_g00 : W11.cell? ⟨W6.heap.size, 0, none⟩ = some (.bool U.p) := rblk_cell P_g0 0
    have c_g01 : W11.cell? ⟨W6.heap.size, 1, none⟩ = some (.slice ag.A U.l.length ag.c) := rblk_cell P_g0 1
    have c_g02 : W11.cell? ⟨W6.heap.size, 2, none⟩ = some (.slice ag.D U.m.length ag.d) := rblk_cell P_g0 2
    have c_w00 : W11.cell? ⟨W3.heap.size, 0, none⟩ = some (.bool U.p) := rblk_cell P_w0 0
    have c_w01 : W11.cell? ⟨W3.heap.size, 1, none⟩ = some (.slice au.A U.l.length au.c) := rblk_cell P_w0 1
    have c_w02 : W11.cell? ⟨W3.heap.size, 2, none⟩ = some (.slice au.D U.m.length au.d) := rblk_cell P_w0 2
    go_wp2_with fail
    clear c_g00 c_g01 c_g02 c_w00 c_w01 c_w02
    refine (HE.out ag au _ og.rds ou.rds).mono ?_
    rintro e W12 ⟨rfl, hb⟩
    have hzW12 : W11.heap.size ≤ W12.heap.size := hb.size
    replace P_w0 := rblk_below P_w0 hb
    replace P_g0 := rblk_below P_g0 hb
    replace ou := ou.below hb
    replace og := og.below hb
    replace kb := bt kb hb
    clear hb
    have c_g00 : W12.cell? ⟨W6.heap.size, 0, none⟩ = some (.bool U.p) := rblk_cell P_g0 0
    have c_g01 : W12.cell? ⟨W6.heap.size, 1, none⟩ = some (.slice ag.A U.l.length ag.c) := rblk_cell P_g0 1
    have c_g02 : W12.cell? ⟨W6.heap.size, 2, none⟩ = some (.slice ag.D U.m.length ag.d) := rblk_cell P_g0 2
    go_wp2_with fail
    clear c_g00 c_g01 c_g02
    refine (HM.out ag _ _ _ (by omega) og hapg).mono ?_
    rintro e W13 ⟨rfl, ogq, hT⟩
    replace P_w0 := hT.blk P_w0 (by omega)
    replace P_g0 := hT.blk P_g0 (by omega)
    replace kb := hT.below kb (by omega) (by omega)
    replace ou := ou.turn hT (by omega)
    have hzW13 : W12.heap.size ≤ W13.heap.size := hT.size
    clear hT
    clear og
    have og := ogq
    clear ogq
    have c_g00 : W13.cell? ⟨W6.heap.size, 0, none⟩ = some (.bool U.p) := rblk_cell P_g0 0
    have c_g01 : W13.cell? ⟨W6.heap.size, 1, none⟩ = some (.slice ag.A U.l.length ag.c) := rblk_cell P_g0 1
    have c_g02 : W13.cell? ⟨W6.heap.size, 2, none⟩ = some (.slice ag.D U.m.length ag.d) := rblk_cell P_g0 2
    go_wp2_with fail
    clear c_g00 c_g01 c_g02
    refine (HH.out ag _ og.rds).mono ?_
    rintro e W14 ⟨rfl, hb⟩
    have hzW14 : W13.heap.size ≤ W14.heap.size := hb.size
    replace P_w0 := rblk_below P_w0 hb
    replace P_g0 := rblk_below P_g0 hb
    replace ou := ou.below hb
    replace og := og.below hb
    replace kb := bt kb hb
    clear hb
    go_wp2_with fail
    refine (T.out _ (R.out _ kb).1 (R.out _ kb).2).mono ?_
    rintro e W15 ⟨M4, A4, c4, rfl, hk4, hd4, hc4, o4, hap4, hb⟩
    have hzW15 : W14.heap.size ≤ W15.heap.size := hb.size
    replace P_w0 := rblk_below P_w0 hb
    replace P_g0 := rblk_below P_g0 hb
    replace ou := ou.below hb
    replace og := og.below hb
    replace kb := bt kb hb
    clear hb
    go_wp2_with fail
    refine (HI.out M4 A4 c4 _ hd4 o4.rds).mono ?_
    rintro e W16 ⟨ah, rfl, hxh, hyh, oh, haph, hb⟩
    have hzW16 : W15.heap.size ≤ W16.heap.size := hb.size
    replace P_w0 := rblk_below P_w0 hb
    replace P_g0 := rblk_below P_g0 hb
    replace ou := ou.below hb
    replace og := og.below hb
    replace o4 := o4.below hb
    replace kb := bt kb hb
    clear hb
    clear o4
    have P_h0 := heap_alloc_new W16 (.cells #[.bool U.p, .slice ah.A U.l.length ah.c, .slice ah.D U.m.length ah.d] 29)
    have hb := ba1 W16 (.cells #[.bool U.p, .slice ah.A U.l.length ah.c, .slice ah.D U.m.length ah.d] 29)
    replace P_w0 := rblk_below P_w0 hb
    replace P_g0 := rblk_below P_g0 hb
    replace ou := ou.below hb
    replace og := og.below hb
    replace oh := oh.below hb
    replace kb := bt kb hb
    clear hb
    have hzW17 : W16.heap.size < (W16.alloc (.cells #[.bool U.p, .slice ah.A U.l.length ah.c, .slice ah.D U.m.length ah.d] 29)).heap.size := by rw [sz1]; omega
    have c_h00 : (W16.alloc (.cells #[.bool U.p, .slice ah.A U.l.length ah.c, .slice ah.D U.m.length ah.d] 29)).cell? ⟨W16.heap.size, 0, none⟩ = some (.bool U.p) := rblk_cell P_h0 0
    have c_h01 : (W16.alloc (.cells #[.bool U.p, .slice ah.A U.l.length ah.c, .slice ah.D U.m.length ah.d] 29)).cell? ⟨W16.heap.size, 1, none⟩ = some (.slice ah.A U.l.length ah.c) := rblk_cell P_h0 1
    have c_h02 : (W16.alloc (.cells #[.bool U.p, .slice ah.A U.l.length ah.c, .slice ah.D U.m.length ah.d] 29)).cell? ⟨W16.heap.size, 2, none⟩ = some (.slice ah.D U.m.length ah.d) := rblk_cell P_h0 2
    have c_w00 : (W16.alloc (.cells #[.bool U.p, .slice ah.A U.l.length ah.c, .slice ah.D U.m.length ah.d] 29)).cell? ⟨W3.heap.size, 0, none⟩ = some (.bool U.p) := rblk_cell P_w0 0
    have c_w01 : (W16.alloc (.cells #[.bool U.p, .slice ah.A U.l.length ah.c, .slice ah.D U.m.length ah.d] 29)).cell? ⟨W3.heap.size, 1, none⟩ = some (.slice au.A U.l.length au.c) := rblk_cell P_w0 1
    have c_w02 : (W16.alloc (.cells #[.bool U.p, .slice ah.A U.l.length ah.c, .slice ah.D U.m.length ah.d] 29)).cell? ⟨W3.heap.size, 2, none⟩ = some (.slice au.D U.m.length au.d) := rblk_cell P_w0 2
    go_wp2_with fail
    clear c_h00 c_h01 c_h02 c_w00 c_w01 c_w02
    generalize W16.alloc (.cells #[.bool U.p, .slice ah.A U.l.length ah.c, .slice ah.D U.m.length ah.d] 29) = W17 at kb hzW17 P_w0 P_g0 P_h0 ou og oh ⊢
    refine (HE.out ah au _ oh.rds ou.rds).mono ?_
    rintro e W18 ⟨rfl, hb⟩
    have hzW18 : W17.heap.size ≤ W18.heap.size := hb.size
    replace P_w0 := rblk_below P_w0 hb
    replace P_g0 := rblk_below P_g0 hb
    replace P_h0 := rblk_below P_h0 hb
    replace ou := ou.below hb
    replace og := og.below hb
    replace oh := oh.below hb
    replace kb := bt kb hb
    clear hb
    have c_g00 : W18.cell? ⟨W6.heap.size, 0, none⟩ = some (.bool U.p) := rblk_cell P_g0 0
    have c_g01 : W18.cell? ⟨W6.heap.size, 1, none⟩ = some (.slice ag.A U.l.length ag.c) := rblk_cell P_g0 1
    have c_g02 : W18.cell? ⟨W6.heap.size, 2, none⟩ = some (.slice ag.D U.m.length ag.d) := rblk_cell P_g0 2
    go_wp2_with fail
    clear c_g00 c_g01 c_g02
    refine (HH.out ag _ og.rds).mono ?_
    rintro e W19 ⟨rfl, hb⟩
    have hzW19 : W18.heap.size ≤ W19.heap.size := hb.size
    replace P_w0 := rblk_below P_w0 hb
    replace P_g0 := rblk_below P_g0 hb
    replace P_h0 := rblk_below P_h0 hb
    replace ou := ou.below hb
    replace og := og.below hb
    replace oh := oh.below hb
    replace kb := bt kb hb
    clear hb
    go_wp2
    go_ret
    exact ⟨rfl, kb⟩
  · have SZ := Lib.hid (fun W h => szPS_n L A c 1048576 W hm hL (by omega) (by omega) hg h)
    generalize L.length = n at SZ ⊢
    go_enter Tryz.func4, Tryz.ntmps4
    go_wp2_with fail
    refine (SZ.out _ hA).mono ?_
    rintro e W1 ⟨rfl, hb⟩
    go_wp2
    go_ret
    exact ⟨rfl, hb⟩
end Go.Proofs.YtaohiacpdljacaaGreat

