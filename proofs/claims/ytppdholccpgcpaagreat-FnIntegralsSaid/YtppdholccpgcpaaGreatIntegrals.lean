/-
  The walk of the law of integrals.
-/
import Derived.Test.YtppdholccpgcpaaGreatLawP
import Derived.Test.YtppdholccpgcpaaGreatInL0
import Derived.Test.YtppdholccpgcpaaGreatWg
import Derived.Test.YtppdholccpgcpaaGreatAppT
namespace Go.Proofs.YtppdholccpgcpaaGreat
open Go.ChangeShapes Go.WideShapes Go.ChangeAt Go.RowKit
set_option linter.unusedVariables false
set_option linter.unusedSimpArgs false
set_option maxRecDepth 4000
attribute [local go_sem ↓] Go.wp_at_zero Go.wp_at_succ
set_option maxHeartbeats 4000000 in
theorem law_integrals (A : Option Addr) (n c : Nat) (w : World) (hn : n ≤ 9223372036854775807) (hA : RdB w A n w.heap.size) :
    Calls Tryz.prog 5 #[.slice A n c] w fun e w' => e = .returned (.bool true) ∧ Below w.heap.size w w' := by
  by_cases hg : (1048576 : Int) < (n : Int)
  · go_enter Tryz.func5, Tryz.ntmps5
    go_wp2
    go_ret
    exact ⟨rfl, Below.refl _ _⟩
  have hn2 : n ≤ 1048576 := by omega
  have HM := Lib.hid (makeTri_any A n c w hn2 hA)
  have HV0 := Lib.hid (fun W hb => makeVec_any 4 3 A n c W (by omega) (by omega) hn2 (hA.belowV (w' := W) hb))
  unfold VecPost at HV0
  clear hA
  go_enter Tryz.func5, Tryz.ntmps5
  go_wp2_with fail
  refine (HM.out).mono ?_
  rintro e W1 ⟨⟨p, q, r, G, hd, hpr, rfl, P_l, o1, o2, o3⟩, kb⟩
  have hLR : Rds W1 (srow (some ⟨G, 0, none⟩) [p, q, r]) := Rds.cons (rd_blk P_l rfl) (rds3 o1 o2 o3)
  clear HM P_l o1 o2 o3
  go_wp2_with fail
  refine (HV0.out _ kb).mono ?_
  rintro e W2 ⟨U, D, d, hU, hF, rfl, hown, hO, hap, hb⟩
  obtain ⟨I, R, V, hV1, k0, k1, k2, k3, k4, k5, k6, k7, k8, k9, k10, k11, k12⟩ := all_integrals p q r hd.1 hd.2.1 hd.2.2 hpr U hU hF
  have hUR : Rds W2 (srowQ D U) := (srowQ_own hown hO hap).1.rds
  replace hLR := hLR.below hb
  replace kb := bt kb hb
  rw [hU]
  obtain ⟨u1, hu1⟩ := getQ (L := U) (i := 1) (by omega)
  have hV2 : u1.x = V := hV1 u1 hu1
  have HU1 := Lib.hid (And.intro hu1 hV2)
  have HR1 := Lib.hid (fun W => k0 W)
  have HI := Lib.hid (fun A D d W h1 h2 h3 h4 => k1 A D d W h1 h2 h3 h4)
  have HIo := Lib.hid (fun A E b0 b1 b2 W h1 h2 h3 h4 => k2 A E b0 b1 b2 W h1 h2 h3 h4)
  have HOk := Lib.hid (fun a W h => k3 a W h)
  have HP := Lib.hid (fun A D d E b0 b1 b2 W h1 h2 h3 h4 h5 h6 => k4 A D d E b0 b1 b2 W h1 h2 h3 h4 h5 h6)
  have HEi := Lib.hid (fun a b W h h' => k5 a b W h h')
  have HAr := Lib.hid (fun A W h1 h2 => k6 A W h1 h2)
  have HEa := Lib.hid (fun a b W h h' => k7 a b W h h')
  have HV := Lib.hid (fun A D d W h1 h2 h3 h4 h5 => k8 A D d W h1 h2 h3 h4 h5)
  have HEv := Lib.hid (fun a b W h h' => k9 a b W h h')
  have HG := Lib.hid (fun A E b0 b1 b2 W h1 h2 h3 h4 => k10 A E b0 b1 b2 W h1 h2 h3 h4)
  have HPt := Lib.hid (fun W => k11 W)
  have HSm := Lib.hid (fun a b c d W h h' => k12 a b c d W h h')
  unfold MadeQ at HR1 HI HIo HP HAr HV
  unfold MadeP at HG HPt
  clear HV0 hd hpr k0 k1 k2 k3 k4 k5 k6 k7 k8 k9 k10 k11 k12 hU hF hown hO hap hb hn hn2 hg hu1 hV1 hV2
  go_wp2_with fail
  refine (HR1.out _).mono ?_
  rintro e V0 ⟨b0, rfl, _, _, ob0, _, hb⟩
  replace hLR := hLR.below hb
  replace hUR := hUR.below hb
  replace ob0 := ob0.rds
  replace kb := bt kb hb
  clear hb
  go_wp2_with fail
  refine (HR1.out _).mono ?_
  rintro e V1 ⟨b1, rfl, _, _, ob1, _, hb⟩
  replace hLR := hLR.below hb
  replace hUR := hUR.below hb
  replace ob0 := ob0.below hb
  replace ob1 := ob1.rds
  replace kb := bt kb hb
  clear hb
  go_wp2_with fail
  refine (HR1.out _).mono ?_
  rintro e V2 ⟨b2, rfl, _, _, ob2, _, hb⟩
  replace hLR := hLR.below hb
  replace hUR := hUR.below hb
  replace ob0 := ob0.below hb
  replace ob1 := ob1.below hb
  replace ob2 := ob2.rds
  replace kb := bt kb hb
  clear hb
  have P_n := heap_alloc_new V2 (.cells #[.bool (rfi 1).p, .slice b0.A (rfi 1).l.length b0.c, .slice b0.D (rfi 1).m.length b0.d, .bool (rfi 1).p, .slice b1.A (rfi 1).l.length b1.c, .slice b1.D (rfi 1).m.length b1.d, .bool (rfi 1).p, .slice b2.A (rfi 1).l.length b2.c, .slice b2.D (rfi 1).m.length b2.d] 29)
  have hb := ba1 V2 (.cells #[.bool (rfi 1).p, .slice b0.A (rfi 1).l.length b0.c, .slice b0.D (rfi 1).m.length b0.d, .bool (rfi 1).p, .slice b1.A (rfi 1).l.length b1.c, .slice b1.D (rfi 1).m.length b1.d, .bool (rfi 1).p, .slice b2.A (rfi 1).l.length b2.c, .slice b2.D (rfi 1).m.length b2.d] 29)
  replace hLR := hLR.below hb
  replace hUR := hUR.below hb
  replace ob0 := ob0.below hb
  replace ob1 := ob1.below hb
  replace ob2 := ob2.below hb
  replace kb := bt kb hb
  clear hb
  go_wp2_with fail
  generalize V2.alloc (.cells #[.bool (rfi 1).p, .slice b0.A (rfi 1).l.length b0.c, .slice b0.D (rfi 1).m.length b0.d, .bool (rfi 1).p, .slice b1.A (rfi 1).l.length b1.c, .slice b1.D (rfi 1).m.length b1.d, .bool (rfi 1).p, .slice b2.A (rfi 1).l.length b2.c, .slice b2.D (rfi 1).m.length b2.d] 29) = V3 at P_n hLR hUR ob0 ob1 ob2 kb ⊢
  generalize V2.heap.size = gn at P_n ⊢
  have hOR : Rds V3 (srowQ (some ⟨gn, 0, none⟩) (ones b0 b1 b2)) := Rds.cons (rd_blk P_n rfl) (ob0.app (ob1.app (ob2.app (Rds.nil _))))
  clear P_n ob0 ob1 ob2
  refine (HI.out _ _ _ _ hLR.hd hLR.tl hUR.hd hUR.tl).mono ?_
  rintro e V4 ⟨ai, rfl, _, _, oi, _, hb⟩
  replace hLR := hLR.below hb
  replace hUR := hUR.below hb
  replace hOR := hOR.below hb
  replace oi := oi.rds
  replace kb := bt kb hb
  clear hb
  have P_i := heap_alloc_new V4 (.cells (r3 I ai) 29)
  have hb := ba1 V4 (.cells (r3 I ai) 29)
  replace hLR := hLR.below hb
  replace hUR := hUR.below hb
  replace hOR := hOR.below hb
  replace oi := oi.below hb
  replace kb := bt kb hb
  clear hb
  go_wp2_with fail
  generalize V4.alloc (.cells (r3 I ai) 29) = V5 at P_i hLR hUR hOR oi kb ⊢
  generalize V4.heap.size = gi at P_i ⊢
  obtain ⟨gu, ou, rfl, _⟩ : ∃ gu ou, D = some ⟨gu, ou, none⟩ ∧ True := by
    obtain ⟨g, o, h, _⟩ := hUR.hd.three HU1.out.1
    exact ⟨g, o, h, trivial⟩
  obtain ⟨RR, hRR⟩ : ∃ RR, RR = srow (some ⟨G, 0, none⟩) [p, q, r] ++ (srowQ (some ⟨gu, ou, none⟩) U ++ (srowQ (some ⟨gn, 0, none⟩) (ones b0 b1 b2) ++ rows I ai)) := ⟨_, rfl⟩
  have rr : Rds V5 RR := by rw [hRR]; exact hLR.app (hUR.app (hOR.app oi))
  have RL : Hid (∀ W, Rds W RR → Rds W (srow (some ⟨G, 0, none⟩) [p, q, r])) := Lib.hid (fun W h => by rw [hRR] at h; exact rds_l h)
  have RU : Hid (∀ W, Rds W RR → Rds W (srowQ (some ⟨gu, ou, none⟩) U)) := Lib.hid (fun W h => by rw [hRR] at h; exact rds_l (rds_r h))
  have RO : Hid (∀ W, Rds W RR → Rds W (srowQ (some ⟨gn, 0, none⟩) (ones b0 b1 b2))) := Lib.hid (fun W h => by rw [hRR] at h; exact rds_l (rds_r (rds_r h)))
  have RI : Hid (∀ W, Rds W RR → Rds W (rows I ai)) := Lib.hid (fun W h => by rw [hRR] at h; exact rds_r (rds_r (rds_r h)))
  have RV1 : Hid (∀ W, Rds W RR → Rds W (rows u1.x u1.a)) := Lib.hid (fun W h => (RU.out W h).tl.atQ HU1.out.1)
  have RQ : Hid (∀ W, Rds W RR → Rds W (prow q)) := Lib.hid (fun W h => (RL.out W h).tl.at (i := 1) rfl)
  clear hRR hLR hUR hOR oi
  obtain ⟨v1, hv1⟩ : ∃ v, v = u1.a := ⟨_, rfl⟩
  have LU : Hid (∀ W, Rds W RR → (W.cell? ⟨gu, ou + 3, none⟩ = some (.bool V.p) ∧ W.cell? ⟨gu, ou + 3 + 1, none⟩ = some (.slice v1.A V.l.length v1.c) ∧ W.cell? ⟨gu, ou + 3 + 2, none⟩ = some (.slice v1.D V.m.length v1.d)) ∧ Rds W (rows V v1)) := Lib.hid (fun W h => by
    obtain ⟨_, _, he, _, c1, c2, c3⟩ := (RU.out W h).hd.three HU1.out.1
    cases he
    have h2 := RV1.out W h
    rw [HU1.out.2] at c1 c2 c3 h2
    rw [hv1]
    exact ⟨⟨c1, c2, c3⟩, h2⟩)
  clear hv1
  have LQ : Hid (∀ W, Rds W RR → W.cell? ⟨G, 6, none⟩ = some (.bool q.x.p) ∧ W.cell? ⟨G, 7, none⟩ = some (.slice q.a.A q.x.l.length q.a.c) ∧ W.cell? ⟨G, 8, none⟩ = some (.slice q.a.D q.x.m.length q.a.d) ∧ W.cell? ⟨G, 9, none⟩ = some (.bool q.y.p) ∧ W.cell? ⟨G, 10, none⟩ = some (.slice q.b.A q.y.l.length q.b.c) ∧ W.cell? ⟨G, 11, none⟩ = some (.slice q.b.D q.y.m.length q.b.d)) := Lib.hid (fun W h => by
    obtain ⟨_, _, he, _, c0, c1, c2, c3, c4, c5⟩ := (RL.out W h).hd.six (i := 1) (p := q) rfl
    cases he
    exact ⟨by simpa using c0, by simpa using c1, by simpa using c2, by simpa using c3, by simpa using c4, by simpa using c5⟩)
  refine wp_region_held_drew (S := fun w' => w'.heap[gi]? = some (.cells (r3 I ai) 29 (0, 0)) ∧ Rds w' RR ∧ Below w.heap.size w w') (by kernel_rfl) ⟨P_i, rr.below ((Below.refl _ _).drew), bt kb ((Below.refl _ _).drew)⟩ (fun hHeld => ?_)
  clear P_i rr kb
  refine tk (i := 0) (v := ?vg1_1) rfl (by kernel_rfl) (fun _ _ _ h => h) (Or.inl ⟨by rfl, ?hg1_1⟩) hHeld ?_
  case hg1_1 => (intro w hSw; (try dsimp only at hSw); have t0 := rblk_cell hSw.1 0; have t1 := rblk_cell hSw.1 1; have t2 := rblk_cell hSw.1 2; clear hSw; go_simp; (try with_reducible rfl))
  try simp only [ps]
  refine rd1 (i := 1) (by kernel_rfl) rfl (fun K hK => ?_)
  go_simp
  (go_at_call 29; ((with_reducible refine (HOk.out _ _ (RI.out _ hHeld.2.1)).mono ?_); rintro e Wr1_2 ⟨rfl, hb⟩))
  refine hK.out _ _ ⟨rblk_below hHeld.1 hb, hHeld.2.1.below hb, bt hHeld.2.2 hb⟩ (fun hH => ?_)
  replace hHeld := hH
  clear hK K hH
  clear hb
  try simp only [ps]
  refine tk (i := 2) (v := ?vg1_3) rfl (by kernel_rfl) (fun _ _ _ h => h) (Or.inl ⟨by rfl, ?hg1_3⟩) hHeld ?_
  case hg1_3 => (intro w hSw; (try dsimp only at hSw); clear hSw; go_simp; (try with_reducible rfl))
  try simp only [ps]
  refine tk (i := 3) (v := ?vg1_4) rfl (by kernel_rfl) (fun _ _ _ h => h) (Or.inl ⟨by rfl, ?hg1_4⟩) hHeld ?_
  case hg1_4 => (intro w hSw; (try dsimp only at hSw); clear hSw; go_simp; (try with_reducible rfl))
  try simp only [ps]
  refine tk (i := 4) (v := ?vg1_5) rfl (by kernel_rfl) (fun _ _ _ h => h) (Or.inl ⟨by rfl, ?hg1_5⟩) hHeld ?_
  case hg1_5 => (intro w hSw; (try dsimp only at hSw); clear hSw; go_simp; (try with_reducible rfl))
  try simp only [ps]
  refine tk (i := 5) (v := ?vg1_6) rfl (by kernel_rfl) (fun _ _ _ h => h) (Or.inl ⟨by rfl, ?hg1_6⟩) hHeld ?_
  case hg1_6 => (intro w hSw; (try dsimp only at hSw); clear hSw; go_simp; (try with_reducible rfl))
  try simp only [ps]
  refine tk (i := 7) (v := ?vg1_7) rfl (by kernel_rfl) (fun _ _ _ h => h) (Or.inl ⟨by rfl, ?hg1_7⟩) hHeld ?_
  case hg1_7 => (intro w hSw; (try dsimp only at hSw); have t0 := rblk_cell hSw.1 0; have t1 := rblk_cell hSw.1 1; have t2 := rblk_cell hSw.1 2; clear hSw; go_simp; (try with_reducible rfl))
  try simp only [ps]
  refine rd1 (i := 6) (by kernel_rfl) rfl (fun K hK => ?_)
  go_simp
  (go_at_call 33; ((with_reducible refine (HP.out _ _ _ _ _ _ _ _ (RL.out _ hHeld.2.1).hd (RL.out _ hHeld.2.1).tl (RU.out _ hHeld.2.1).hd (RU.out _ hHeld.2.1).tl (RO.out _ hHeld.2.1).hd (RO.out _ hHeld.2.1).tl).mono ?_); rintro e Wr1_8 ⟨ap, rfl, _, _, op, _, hb⟩))
  refine hK.out _ _ ⟨rblk_below hHeld.1 hb, hHeld.2.1.below hb, bt hHeld.2.2 hb⟩ (fun hH => ?_)
  replace hHeld := hH
  clear hK K hH
  replace op := op.rds
  clear hb
  try simp only [ps]
  refine rd1 (i := 8) (by kernel_rfl) rfl (fun K hK => ?_)
  go_simp
  (go_at_call 20; ((with_reducible refine (HEi.out _ _ _ op (RI.out _ hHeld.2.1)).mono ?_); rintro e Wr1_9 ⟨rfl, hb⟩))
  refine hK.out _ _ ⟨rblk_below hHeld.1 hb, hHeld.2.1.below hb, bt hHeld.2.2 hb⟩ (fun hH => ?_)
  replace hHeld := hH
  clear hK K hH
  replace op := op.below hb
  clear hb
  try simp only [ps]
  refine tk (i := 9) (v := ?vg1_10) rfl (by kernel_rfl) (fun _ _ _ h => h) (Or.inl ⟨by rfl, ?hg1_10⟩) hHeld ?_
  case hg1_10 => (intro w hSw; (try dsimp only at hSw); clear hSw; go_simp; (try with_reducible rfl))
  try simp only [ps]
  refine tk (i := 10) (v := ?vg1_11) rfl (by kernel_rfl) (fun _ _ _ h => h) (Or.inl ⟨by rfl, ?hg1_11⟩) hHeld ?_
  case hg1_11 => (intro w hSw; (try dsimp only at hSw); clear hSw; go_simp; (try with_reducible rfl))
  try simp only [ps]
  refine tk (i := 11) (v := ?vg1_12) rfl (by kernel_rfl) (fun _ _ _ h => h) (Or.inl ⟨by rfl, ?hg1_12⟩) hHeld ?_
  case hg1_12 => (intro w hSw; (try dsimp only at hSw); clear hSw; go_simp; (try with_reducible rfl))
  try simp only [ps]
  refine tk (i := 12) (v := ?vg1_13) rfl (by kernel_rfl) (fun _ _ _ h => h) (Or.inl ⟨by rfl, ?hg1_13⟩) hHeld ?_
  case hg1_13 => (intro w hSw; (try dsimp only at hSw); clear hSw; go_simp; (try with_reducible rfl))
  try simp only [ps]
  refine tk (i := 14) (v := ?vg1_14) rfl (by kernel_rfl) (fun _ _ _ h => h) (Or.inl ⟨by rfl, ?hg1_14⟩) hHeld ?_
  case hg1_14 => (intro w hSw; (try dsimp only at hSw); clear hSw; go_simp; (try with_reducible rfl))
  try simp only [ps]
  refine rd1 (i := 13) (by kernel_rfl) rfl (fun K hK => ?_)
  go_simp
  (go_at_call 32; ((with_reducible refine (HIo.out _ _ _ _ _ _ (RL.out _ hHeld.2.1).hd (RL.out _ hHeld.2.1).tl (RO.out _ hHeld.2.1).hd (RO.out _ hHeld.2.1).tl).mono ?_); rintro e Wr1_15 ⟨am, rfl, _, _, om, _, hb⟩))
  refine hK.out _ _ ⟨rblk_below hHeld.1 hb, hHeld.2.1.below hb, bt hHeld.2.2 hb⟩ (fun hH => ?_)
  replace hHeld := hH
  clear hK K hH
  replace op := op.below hb
  replace om := om.rds
  clear hb
  try simp only [ps]
  refine rd1 (i := 15) (by kernel_rfl) rfl (fun K hK => ?_)
  go_simp
  (go_at_call 30; ((with_reducible refine (HAr.out _ _ (RL.out _ hHeld.2.1).hd (RL.out _ hHeld.2.1).tl).mono ?_); rintro e Wr1_16 ⟨an, rfl, _, _, on, _, hb⟩))
  refine hK.out _ _ ⟨rblk_below hHeld.1 hb, hHeld.2.1.below hb, bt hHeld.2.2 hb⟩ (fun hH => ?_)
  replace hHeld := hH
  clear hK K hH
  replace op := op.below hb
  replace om := om.below hb
  replace on := on.rds
  clear hb
  try simp only [ps]
  refine rd1 (i := 16) (by kernel_rfl) rfl (fun K hK => ?_)
  go_simp
  (go_at_call 20; ((with_reducible refine (HEa.out _ _ _ om on).mono ?_); rintro e Wr1_17 ⟨rfl, hb⟩))
  refine hK.out _ _ ⟨rblk_below hHeld.1 hb, hHeld.2.1.below hb, bt hHeld.2.2 hb⟩ (fun hH => ?_)
  replace hHeld := hH
  clear hK K hH
  replace op := op.below hb
  replace om := om.below hb
  replace on := on.below hb
  clear hb
  try simp only [ps]
  refine tk (i := 17) (v := ?vg1_18) rfl (by kernel_rfl) (fun _ _ _ h => h) (Or.inl ⟨by rfl, ?hg1_18⟩) hHeld ?_
  case hg1_18 => (intro w hSw; (try dsimp only at hSw); clear hSw; go_simp; (try with_reducible rfl))
  try simp only [ps]
  refine tk (i := 18) (v := ?vg1_19) rfl (by kernel_rfl) (fun _ _ _ h => h) (Or.inl ⟨by rfl, ?hg1_19⟩) hHeld ?_
  case hg1_19 => (intro w hSw; (try dsimp only at hSw); clear hSw; go_simp; (try with_reducible rfl))
  try simp only [ps]
  refine tk (i := 19) (v := ?vg1_20) rfl (by kernel_rfl) (fun _ _ _ h => h) (Or.inl ⟨by rfl, ?hg1_20⟩) hHeld ?_
  case hg1_20 => (intro w hSw; (try dsimp only at hSw); clear hSw; go_simp; (try with_reducible rfl))
  try simp only [ps]
  refine tk (i := 20) (v := ?vg1_21) rfl (by kernel_rfl) (fun _ _ _ h => h) (Or.inl ⟨by rfl, ?hg1_21⟩) hHeld ?_
  case hg1_21 => (intro w hSw; (try dsimp only at hSw); clear hSw; go_simp; (try with_reducible rfl))
  try simp only [ps]
  refine tk (i := 21) (v := ?vg1_22) rfl (by kernel_rfl) (fun _ _ _ h => h) (Or.inl ⟨by rfl, ?hg1_22⟩) hHeld ?_
  case hg1_22 => (intro w hSw; (try dsimp only at hSw); clear hSw; go_simp; (try with_reducible rfl))
  try simp only [ps]
  refine tk (i := 22) (v := ?vg1_23) rfl (by kernel_rfl) (fun _ _ _ h => h) (Or.inl ⟨by rfl, ?hg1_23⟩) hHeld ?_
  case hg1_23 => (intro w hSw; (try dsimp only at hSw); clear hSw; go_simp; (try with_reducible rfl))
  try simp only [ps]
  refine tk (i := 23) (v := ?vg1_24) rfl (by kernel_rfl) (fun _ _ _ h => h) (Or.inl ⟨by rfl, ?hg1_24⟩) hHeld ?_
  case hg1_24 => (intro w hSw; (try dsimp only at hSw); obtain ⟨t0, t1, t2, t3, t4, t5⟩ := LQ.out _ hSw.2.1; clear hSw; go_simp; (try with_reducible rfl))
  try simp only [ps]
  refine tk (i := 25) (v := ?vg1_25) rfl (by kernel_rfl) (fun _ _ _ h => h) (Or.inl ⟨by rfl, ?hg1_25⟩) hHeld ?_
  case hg1_25 => (intro w hSw; (try dsimp only at hSw); clear hSw; go_simp; (try with_reducible rfl))
  try simp only [ps]
  refine tk (i := 26) (v := ?vg1_26) rfl (by kernel_rfl) (fun _ _ _ h => h) (Or.inl ⟨by rfl, ?hg1_26⟩) hHeld ?_
  case hg1_26 => (intro w hSw; (try dsimp only at hSw); clear hSw; go_simp; (try with_reducible rfl))
  try simp only [ps]
  refine tk (i := 27) (v := ?vg1_27) rfl (by kernel_rfl) (fun _ _ _ h => h) (Or.inl ⟨by rfl, ?hg1_27⟩) hHeld ?_
  case hg1_27 => (intro w hSw; (try dsimp only at hSw); obtain ⟨t0, t1, t2⟩ := (LU.out _ hSw.2.1).1; clear hSw; go_simp; (try with_reducible rfl))
  try simp only [ps]
  refine rd1 (i := 24) (by kernel_rfl) rfl (fun K hK => ?_)
  go_simp
  (go_at_call 34; ((with_reducible refine (HV.out _ _ _ _ (RL.out _ hHeld.2.1).hd (RL.out _ hHeld.2.1).tl (RU.out _ hHeld.2.1).hd (RU.out _ hHeld.2.1).tl (RQ.out _ hHeld.2.1)).mono ?_); rintro e Wr1_28 ⟨av, rfl, _, _, ov, _, hb⟩))
  refine hK.out _ _ ⟨rblk_below hHeld.1 hb, hHeld.2.1.below hb, bt hHeld.2.2 hb⟩ (fun hH => ?_)
  replace hHeld := hH
  clear hK K hH
  replace op := op.below hb
  replace om := om.below hb
  replace on := on.below hb
  replace ov := ov.rds
  clear hb
  try simp only [ps]
  refine rd1 (i := 28) (by kernel_rfl) rfl (fun K hK => ?_)
  go_simp
  (go_at_call 20; ((with_reducible refine (HEv.out _ _ _ ov (LU.out _ hHeld.2.1).2).mono ?_); rintro e Wr1_29 ⟨rfl, hb⟩))
  refine hK.out _ _ ⟨rblk_below hHeld.1 hb, hHeld.2.1.below hb, bt hHeld.2.2 hb⟩ (fun hH => ?_)
  replace hHeld := hH
  clear hK K hH
  replace op := op.below hb
  replace om := om.below hb
  replace on := on.below hb
  replace ov := ov.below hb
  clear hb
  try simp only [ps]
  refine tk (i := 29) (v := ?vg1_30) rfl (by kernel_rfl) (fun _ _ _ h => h) (Or.inl ⟨by rfl, ?hg1_30⟩) hHeld ?_
  case hg1_30 => (intro w hSw; (try dsimp only at hSw); clear hSw; go_simp; (try with_reducible rfl))
  try simp only [ps]
  refine tk (i := 30) (v := ?vg1_31) rfl (by kernel_rfl) (fun _ _ _ h => h) (Or.inl ⟨by rfl, ?hg1_31⟩) hHeld ?_
  case hg1_31 => (intro w hSw; (try dsimp only at hSw); clear hSw; go_simp; (try with_reducible rfl))
  try simp only [ps]
  refine tk (i := 31) (v := ?vg1_32) rfl (by kernel_rfl) (fun _ _ _ h => h) (Or.inl ⟨by rfl, ?hg1_32⟩) hHeld ?_
  case hg1_32 => (intro w hSw; (try dsimp only at hSw); clear hSw; go_simp; (try with_reducible rfl))
  try simp only [ps]
  refine tk (i := 32) (v := ?vg1_33) rfl (by kernel_rfl) (fun _ _ _ h => h) (Or.inl ⟨by rfl, ?hg1_33⟩) hHeld ?_
  case hg1_33 => (intro w hSw; (try dsimp only at hSw); clear hSw; go_simp; (try with_reducible rfl))
  try simp only [ps]
  refine rd1 (i := 33) (by kernel_rfl) rfl (fun K hK => ?_)
  go_simp
  (go_at_call 35; ((with_reducible refine (HG.out _ _ _ _ _ _ (RL.out _ hHeld.2.1).hd (RL.out _ hHeld.2.1).tl (RO.out _ hHeld.2.1).hd (RO.out _ hHeld.2.1).tl).mono ?_); rintro e Wr1_34 ⟨ag, bg, rfl, _, og, _, hb⟩))
  refine hK.out _ _ ⟨rblk_below hHeld.1 hb, hHeld.2.1.below hb, bt hHeld.2.2 hb⟩ (fun hH => ?_)
  replace hHeld := hH
  clear hK K hH
  replace op := op.below hb
  replace om := om.below hb
  replace on := on.below hb
  replace ov := ov.below hb
  replace og := og.rds
  clear hb
  try simp only [ps]
  refine rd1 (i := 34) (by kernel_rfl) rfl (fun K hK => ?_)
  go_simp
  (go_at_call 16; ((with_reducible refine (HPt.out _).mono ?_); rintro e Wr1_35 ⟨az, bz, rfl, _, oz, _, hb⟩))
  refine hK.out _ _ ⟨rblk_below hHeld.1 hb, hHeld.2.1.below hb, bt hHeld.2.2 hb⟩ (fun hH => ?_)
  replace hHeld := hH
  clear hK K hH
  replace op := op.below hb
  replace om := om.below hb
  replace on := on.below hb
  replace ov := ov.below hb
  replace og := og.below hb
  replace oz := oz.rds
  clear hb
  try simp only [ps]
  refine rd1 (i := 35) (by kernel_rfl) rfl (fun K hK => ?_)
  go_simp
  (go_at_call 19; ((with_reducible refine (HSm.out _ _ _ _ _ og oz).mono ?_); rintro e Wr1_36 ⟨rfl, hb⟩))
  refine hK.out _ _ ⟨rblk_below hHeld.1 hb, hHeld.2.1.below hb, bt hHeld.2.2 hb⟩ (fun hH => ?_)
  replace hHeld := hH
  clear hK K hH
  replace op := op.below hb
  replace om := om.below hb
  replace on := on.below hb
  replace ov := ov.below hb
  replace og := og.below hb
  replace oz := oz.below hb
  clear hb
  try simp only [ps]
  refine tk (i := 36) (v := ?vg1_37) rfl (by kernel_rfl) (fun _ _ _ h => h) (Or.inl ⟨by rfl, ?hg1_37⟩) hHeld ?_
  case hg1_37 => (intro w hSw; (try dsimp only at hSw); clear hSw; go_simp; (try with_reducible rfl))
  try simp only [ps]
  refine tk (i := 37) (v := ?vg1_38) rfl (by kernel_rfl) (fun _ _ _ h => h) (Or.inl ⟨by rfl, ?hg1_38⟩) hHeld ?_
  case hg1_38 => (intro w hSw; (try dsimp only at hSw); clear hSw; go_simp; (try with_reducible rfl))
  try simp only [ps]
  refine wpAnyH_done (by kernel_rfl) ?_ _
  have kz := hHeld.2.2
  clear hHeld
  go_wp2
  go_ret
  exact ⟨rfl, kz⟩
end Go.Proofs.YtppdholccpgcpaaGreat
