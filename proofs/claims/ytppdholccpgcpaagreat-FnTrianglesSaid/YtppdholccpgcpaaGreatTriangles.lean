/-
  The walk of the law of triangles.
-/
import Derived.Test.YtppdholccpgcpaaGreatTrL
import Derived.Test.YtppdholccpgcpaaGreatMkPZ
namespace Go.Proofs.YtppdholccpgcpaaGreat
open Go.ChangeShapes Go.WideShapes Go.ChangeAt Go.RowKit
open Go.ChangeMaps (open_string shut_string)
set_option linter.unusedVariables false
set_option linter.unusedSimpArgs false
set_option maxRecDepth 4000
def Cel (w : World) (g : Nat) (l : List Value) : Prop := g < w.heap.size ∧ ∀ j, j < l.length → w.cell? ⟨g, j, none⟩ = l[j]?
theorem Cel.below {w w' : World} {g : Nat} {l : List Value} (h : Cel w g l) (hb : Below w.heap.size w w') : Cel w' g l :=
  ⟨Nat.lt_of_lt_of_le h.1 hb.size, fun j hj => by rw [hb.cell (p := ⟨g, j, none⟩) h.1]; exact h.2 j hj⟩
def Off (a b lo hi : Nat) : Prop := (a < lo ∨ hi ≤ a) ∧ (b < lo ∨ hi ≤ b)
theorem dat3 {M : List PV} {a b c d e f : R3} (h : dat M = [(a, b), (c, d), (e, f)]) : ∃ g0 g1 g2 : PV, M = [g0, g1, g2] ∧ (a = g0.x ∧ b = g0.y) ∧ (c = g1.x ∧ d = g1.y) ∧ e = g2.x ∧ f = g2.y := by
  have hl : M.length = 3 := by have := congrArg List.length h; simpa [dat] using this
  obtain ⟨g0, g1, g2, rfl⟩ := three_of_len hl
  simp only [dat, List.map_cons, List.map_nil, List.cons.injEq, Prod.mk.injEq, and_true] at h
  exact ⟨g0, g1, g2, rfl, ⟨h.1.1.symm, h.1.2.symm⟩, ⟨h.2.1.1.symm, h.2.1.2.symm⟩, h.2.2.1.symm, h.2.2.2.symm⟩
theorem makeU_any (k : Nat) (y : Int) (hy : y = (k : Int)) (A : Option Addr) (n c : Nat) (w : World) (hk : k ≤ 10) (hn : n ≤ 1048576) (hA : RdB w A n w.heap.size) :
    Calls Tryz.prog 12 #[.slice A n c, .int .i64 y] w fun e w' => (∃ u : PV, DdP 3 u ∧ e = .returned (.agg #[.bool u.x.p, .slice u.a.A u.x.l.length u.a.c, .slice u.a.D u.x.m.length u.a.d, .bool u.y.p, .slice u.b.A u.y.l.length u.b.c, .slice u.b.D u.y.m.length u.b.d]) ∧ Owns w.heap.size w'.heap.size w' (prow u)) ∧ Below w.heap.size w w' :=
  (makePt_any k y hy A n c w hk hn hA).mono fun e w' ⟨⟨X, Y, a, b, hd, he, _, ho⟩, hb⟩ => ⟨⟨⟨X, Y, a, b⟩, hd, he, ho⟩, hb⟩
theorem rfiQ (x : Int) (W : World) (h : -9223372036854775808 ≤ x ∧ x ≤ 9223372036854775807) : Calls Tryz.prog 22 #[.int .i64 x] W (MadeQ W.heap.size (rfi x) W) := (impl_rfi x W h).mono fun e w' k => MadeR.toQ (x := rfi x) k
set_option maxHeartbeats 8000000 in
theorem law_triangles (A : Option Addr) (n c : Nat) (w : World) (hn : n ≤ 9223372036854775807) (hA : RdB w A n w.heap.size) :
    Calls Tryz.prog 3 #[.slice A n c] w fun e w' => e = .returned (.bool true) ∧ Below w.heap.size w w' := by
  by_cases hg : (1048576 : Int) < (n : Int)
  · go_enter Tryz.func3, Tryz.ntmps3
    go_wp2
    go_ret
    exact ⟨rfl, Below.refl _ _⟩
  have hn2 : n ≤ 1048576 := by omega
  have HM := Lib.hid (makeTri_any A n c w hn2 hA)
  have HU := Lib.hid (fun W h => makeU_any 9 9 rfl A n c W (by omega) hn2 h)
  have HA0 : Hid (∀ W, Below w.heap.size w W → RdB W A n W.heap.size) := Lib.hid (fun W hb => hA.belowB hb)
  clear hA
  go_enter Tryz.func3, Tryz.ntmps3
  go_wp2_with fail
  refine (HM.out).mono ?_
  rintro e' W1 ⟨⟨p, q, r, G, hd, hpr, rfl, P_l, o1, o2, o3⟩, kb⟩
  go_wp2_with fail
  refine (HU.out _ (HA0.out _ kb)).mono ?_
  rintro e' W2 ⟨⟨u, hdu, rfl, ou⟩, hb⟩
  replace P_l := rblk_below P_l hb
  replace o1 := o1.below hb
  replace o2 := o2.below hb
  replace o3 := o3.below hb
  replace kb := bt kb hb
  clear hb
  obtain ⟨B0, B1, B2, TX0, TY0, TX1, TY1, TX2, TY2, SX1, SY1, SX2, SY2, GX0, GY0, GX1, GY1, GX2, GY2, AX1, AY1, AX2, AY2, E1, CX, CY, MX, MY, GL, hGL, b0, b1, b2, b3, b4, b5, b6, b7, b8, b9, b10, b11, b12, b13, b14, b15, b16, b17, b18, b19, b20, b21, b22⟩ := all_triangles p q r u hd.1 hd.2.1 hd.2.2 hdu hpr
  have HBa := Lib.hid (fun A W h h' k => b0 A W h h' k)
  have HGr := Lib.hid (fun A W h h' => b1 A W h h')
  have HPr := Lib.hid (fun A W h h' => b2 A W h h')
  have HPA := Lib.hid (fun W => b3 W)
  have HSc0 := Lib.hid (fun e W h h' => b4 e W h h')
  have HSc1 := Lib.hid (fun e W h h' => b5 e W h h')
  have HSc2 := Lib.hid (fun e W h h' => b6 e W h h')
  have HAd0 := Lib.hid (fun a b c d W h h' => b7 a b c d W h h')
  have HAd1 := Lib.hid (fun a b c d W h h' => b8 a b c d W h h')
  have HAd2 := Lib.hid (fun a b c d W h h' => b9 a b c d W h h')
  have HAg0 := Lib.hid (fun a b c d W h h' => b10 a b c d W h h')
  have HAg1 := Lib.hid (fun a b c d W h h' => b11 a b c d W h h')
  have HAg2 := Lib.hid (fun a b c d W h h' => b12 a b c d W h h')
  have HSm := Lib.hid (fun a b c d lo hi W h h' => b13 a b c d lo hi W h h')
  have HSz := Lib.hid (fun a b c d lo hi W h h' => b14 a b c d lo hi W h h')
  have HR1 := Lib.hid (fun a b W h h' => b15 a b W h h')
  have HR2 := Lib.hid (fun a b W h h' => b16 a b W h h')
  have HEq := Lib.hid (fun a b lo hi W h h' => b17 a b lo hi W h h')
  have HCe := Lib.hid (fun A W h h' => b18 A W h h')
  have HS1 := Lib.hid (fun A a b W h h' k => b19 A a b W h h' k)
  have HMi := Lib.hid (fun W h h' => b20 W h h')
  have HS2 := Lib.hid (fun A a b W h h' k => b21 A a b W h h' k)
  have HS3 := Lib.hid (fun A W h h' k => b22 A W h h' k)
  unfold MadeP at HPA HSc0 HSc1 HSc2 HAd0 HAd1 HAd2 HAg0 HAg1 HAg2 HCe HMi
  unfold MadeQ at HR1 HR2
  unfold MadePS at HGr
  unfold MadeL3 at HBa
  clear HM HU HA0 hd hpr hdu b0 b1 b2 b3 b4 b5 b6 b7 b8 b9 b10 b11 b12 b13 b14 b15 b16 b17 b18 b19 b20 b21 b22
  have P_4 := heap_alloc_new W2 (.cells #[.bool u.x.p, .slice u.a.A u.x.l.length u.a.c, .slice u.a.D u.x.m.length u.a.d, .bool u.y.p, .slice u.b.A u.y.l.length u.b.c, .slice u.b.D u.y.m.length u.b.d] 31)
  have hb := ba1 W2 (.cells #[.bool u.x.p, .slice u.a.A u.x.l.length u.a.c, .slice u.a.D u.x.m.length u.a.d, .bool u.y.p, .slice u.b.A u.y.l.length u.b.c, .slice u.b.D u.y.m.length u.b.d] 31)
  replace P_l := rblk_below P_l hb
  replace o1 := o1.below hb
  replace o2 := o2.below hb
  replace o3 := o3.below hb
  replace ou := ou.below hb
  replace kb := bt kb hb
  clear hb
  have t0 : (W2.alloc (.cells #[.bool u.x.p, .slice u.a.A u.x.l.length u.a.c, .slice u.a.D u.x.m.length u.a.d, .bool u.y.p, .slice u.b.A u.y.l.length u.b.c, .slice u.b.D u.y.m.length u.b.d] 31)).cell? ⟨W2.heap.size, 0, none⟩ = some (.bool u.x.p) := rblk_cell P_4 0
  have t1 : (W2.alloc (.cells #[.bool u.x.p, .slice u.a.A u.x.l.length u.a.c, .slice u.a.D u.x.m.length u.a.d, .bool u.y.p, .slice u.b.A u.y.l.length u.b.c, .slice u.b.D u.y.m.length u.b.d] 31)).cell? ⟨W2.heap.size, 1, none⟩ = some (.slice u.a.A u.x.l.length u.a.c) := rblk_cell P_4 1
  have t2 : (W2.alloc (.cells #[.bool u.x.p, .slice u.a.A u.x.l.length u.a.c, .slice u.a.D u.x.m.length u.a.d, .bool u.y.p, .slice u.b.A u.y.l.length u.b.c, .slice u.b.D u.y.m.length u.b.d] 31)).cell? ⟨W2.heap.size, 2, none⟩ = some (.slice u.a.D u.x.m.length u.a.d) := rblk_cell P_4 2
  have t3 : (W2.alloc (.cells #[.bool u.x.p, .slice u.a.A u.x.l.length u.a.c, .slice u.a.D u.x.m.length u.a.d, .bool u.y.p, .slice u.b.A u.y.l.length u.b.c, .slice u.b.D u.y.m.length u.b.d] 31)).cell? ⟨W2.heap.size, 3, none⟩ = some (.bool u.y.p) := rblk_cell P_4 3
  have t4 : (W2.alloc (.cells #[.bool u.x.p, .slice u.a.A u.x.l.length u.a.c, .slice u.a.D u.x.m.length u.a.d, .bool u.y.p, .slice u.b.A u.y.l.length u.b.c, .slice u.b.D u.y.m.length u.b.d] 31)).cell? ⟨W2.heap.size, 4, none⟩ = some (.slice u.b.A u.y.l.length u.b.c) := rblk_cell P_4 4
  have t5 : (W2.alloc (.cells #[.bool u.x.p, .slice u.a.A u.x.l.length u.a.c, .slice u.a.D u.x.m.length u.a.d, .bool u.y.p, .slice u.b.A u.y.l.length u.b.c, .slice u.b.D u.y.m.length u.b.d] 31)).cell? ⟨W2.heap.size, 5, none⟩ = some (.slice u.b.D u.y.m.length u.b.d) := rblk_cell P_4 5
  go_wp2_with fail
  clear t0 t1 t2 t3 t4 t5
  generalize W2.alloc (.cells #[.bool u.x.p, .slice u.a.A u.x.l.length u.a.c, .slice u.a.D u.x.m.length u.a.d, .bool u.y.p, .slice u.b.A u.y.l.length u.b.c, .slice u.b.D u.y.m.length u.b.d] 31) = W3 at P_4 P_l kb o1 o2 o3 ou ⊢
  generalize W2.heap.size = g4 at P_4 ⊢
  have rL : RdS W3 (some ⟨G, 0, none⟩) (flat [p, q, r]) := rd_blk P_l rfl
  have rR : Rds W3 (lrow [p, q, r]) := rds3 o1 o2 o3
  refine (HBa.out _ _ rL rR ou.rds).mono ?_
  rintro e' W4 ⟨Gb, e0, e1, e2, rfl, P_b, ⟨rb0, rb1, rb2⟩, hb⟩
  replace P_l := rblk_below P_l hb
  replace P_4 := rblk_below P_4 hb
  replace o1 := o1.below hb
  replace o2 := o2.below hb
  replace o3 := o3.below hb
  replace rL := rL.below hb
  replace rR := rR.below hb
  replace ou := ou.below hb
  replace kb := bt kb hb
  clear hb
  go_wp2_with fail
  refine (HGr.out _ _ rL rR).mono ?_
  rintro e' W5 ⟨M, Ag, cg, rfl, _, hdat, _, hO, _, hb⟩
  replace P_l := rblk_below P_l hb
  replace P_4 := rblk_below P_4 hb
  replace P_b := rblk_below P_b hb
  replace o1 := o1.below hb
  replace o2 := o2.below hb
  replace o3 := o3.below hb
  replace rL := rL.below hb
  replace rR := rR.below hb
  replace rb0 := rb0.below hb
  replace rb1 := rb1.below hb
  replace rb2 := rb2.below hb
  replace ou := ou.below hb
  replace kb := bt kb hb
  clear hb
  rw [hGL] at hdat
  clear hGL
  obtain ⟨g0, g1, g2, rfl, ⟨rfl, rfl⟩, ⟨rfl, rfl⟩, rfl, rfl⟩ := dat3 hdat
  clear hdat
  have hcel : ∃ gg, Ag = some ⟨gg, 0, none⟩ ∧ Cel W5 gg (flat [g0, g1, g2]) := by
    rcases hO.hd with h | ⟨gg, ha, _, hlt, hcs, _⟩
    · exact absurd h (by intro k; cases k)
    · exact ⟨gg, ha, hlt, hcs⟩
  obtain ⟨gg, rfl, hC⟩ := hcel
  have rg := hO.tl.rds
  rw [lrow_cons, lrow_cons, lrow_one] at rg
  have rg0 := rds_l rg
  have rg1 := rds_l (rds_r rg)
  have rg2 := rds_r (rds_r rg)
  clear rg hO
  rw [show ([g0, g1, g2] : List PV).length = 3 from rfl]
  go_wp2_with fail
  refine (HPr.out _ _ rL rR).mono ?_
  rintro e' W6 ⟨rfl, hb⟩
  replace P_l := rblk_below P_l hb
  replace P_4 := rblk_below P_4 hb
  replace P_b := rblk_below P_b hb
  replace o1 := o1.below hb
  replace o2 := o2.below hb
  replace o3 := o3.below hb
  replace rL := rL.below hb
  replace rR := rR.below hb
  replace rb0 := rb0.below hb
  replace rb1 := rb1.below hb
  replace rb2 := rb2.below hb
  replace rg0 := rg0.below hb
  replace rg1 := rg1.below hb
  replace rg2 := rg2.below hb
  replace hC := hC.below hb
  replace ou := ou.below hb
  replace kb := bt kb hb
  clear hb
  go_wp2_with fail
  refine (HPA.out _).mono ?_
  rintro e' W7 ⟨sa, sb, rfl, _, os, _, hb⟩
  replace P_l := rblk_below P_l hb
  replace P_4 := rblk_below P_4 hb
  replace P_b := rblk_below P_b hb
  replace o1 := o1.below hb
  replace o2 := o2.below hb
  replace o3 := o3.below hb
  replace rL := rL.below hb
  replace rR := rR.below hb
  replace rb0 := rb0.below hb
  replace rb1 := rb1.below hb
  replace rb2 := rb2.below hb
  replace rg0 := rg0.below hb
  replace rg1 := rg1.below hb
  replace rg2 := rg2.below hb
  replace hC := hC.below hb
  replace ou := ou.below hb
  replace kb := bt kb hb
  clear hb
  have HX : Hid (∀ W, Below W7.heap.size W7 W → (W.heap[G]? = some (.cells #[.bool p.x.p, .slice p.a.A p.x.l.length p.a.c, .slice p.a.D p.x.m.length p.a.d, .bool p.y.p, .slice p.b.A p.y.l.length p.b.c, .slice p.b.D p.y.m.length p.b.d, .bool q.x.p, .slice q.a.A q.x.l.length q.a.c, .slice q.a.D q.x.m.length q.a.d, .bool q.y.p, .slice q.b.A q.y.l.length q.b.c, .slice q.b.D q.y.m.length q.b.d, .bool r.x.p, .slice r.a.A r.x.l.length r.a.c, .slice r.a.D r.x.m.length r.a.d, .bool r.y.p, .slice r.b.A r.y.l.length r.b.c, .slice r.b.D r.y.m.length r.b.d] 31 (0, 0)) ∧ W.heap[g4]? = some (.cells #[.bool u.x.p, .slice u.a.A u.x.l.length u.a.c, .slice u.a.D u.x.m.length u.a.d, .bool u.y.p, .slice u.b.A u.y.l.length u.b.c, .slice u.b.D u.y.m.length u.b.d] 31 (0, 0)) ∧ W.heap[Gb]? = some (.cells #[.bool B0.p, .slice e0.A B0.l.length e0.c, .slice e0.D B0.m.length e0.d, .bool B1.p, .slice e1.A B1.l.length e1.c, .slice e1.D B1.m.length e1.d, .bool B2.p, .slice e2.A B2.l.length e2.c, .slice e2.D B2.m.length e2.d] 79 (0, 0)) ∧ Cel W gg (flat [g0, g1, g2])) ∧ (Rds W (prow p) ∧ Rds W (prow q) ∧ Rds W (prow r)) ∧ (Rds W (rows B0 e0) ∧ Rds W (rows B1 e1) ∧ Rds W (rows B2 e2)) ∧ (Rds W (prow g0) ∧ Rds W (prow g1) ∧ Rds W (prow g2)) ∧ Owns W1.heap.size W2.heap.size W (prow u) ∧ (RdS W (some ⟨G, 0, none⟩) (flat [p, q, r]) ∧ Rds W (lrow [p, q, r])) ∧ Below w.heap.size w W) := Lib.hid (fun W hb => ⟨⟨rblk_below P_l hb, rblk_below P_4 hb, rblk_below P_b hb, hC.below hb⟩, ⟨o1.below hb, o2.below hb, o3.below hb⟩, ⟨rb0.below hb, rb1.below hb, rb2.below hb⟩, ⟨rg0.below hb, rg1.below hb, rg2.below hb⟩, ou.below hb, ⟨rL.below hb, rR.below hb⟩, bt kb hb⟩)
  have HG : Hid (G < W7.heap.size ∧ g4 < W7.heap.size ∧ Gb < W7.heap.size ∧ gg < W7.heap.size) := Lib.hid ⟨rblk_lt P_l, rblk_lt P_4, rblk_lt P_b, hC.1⟩
  clear P_l P_4 P_b hC o1 o2 o3 rb0 rb1 rb2 rg0 rg1 rg2 ou rL rR kb
  have P_7 := heap_alloc_new W7 (.cells #[.bool (rfi 0).p, .slice sa.A (rfi 0).l.length sa.c, .slice sa.D (rfi 0).m.length sa.d, .bool (rfi 0).p, .slice sb.A (rfi 0).l.length sb.c, .slice sb.D (rfi 0).m.length sb.d] 31)
  have kx := ba1 W7 (.cells #[.bool (rfi 0).p, .slice sa.A (rfi 0).l.length sa.c, .slice sa.D (rfi 0).m.length sa.d, .bool (rfi 0).p, .slice sb.A (rfi 0).l.length sb.c, .slice sb.D (rfi 0).m.length sb.d] 31)
  replace os := os.below kx
  have z7 := sz1 W7 (.cells #[.bool (rfi 0).p, .slice sa.A (rfi 0).l.length sa.c, .slice sa.D (rfi 0).m.length sa.d, .bool (rfi 0).p, .slice sb.A (rfi 0).l.length sb.c, .slice sb.D (rfi 0).m.length sb.d] 31)
  go_wp2_with fail
  generalize W7.alloc (.cells #[.bool (rfi 0).p, .slice sa.A (rfi 0).l.length sa.c, .slice sa.D (rfi 0).m.length sa.d, .bool (rfi 0).p, .slice sb.A (rfi 0).l.length sb.c, .slice sb.D (rfi 0).m.length sb.d] 31) = W8 at P_7 kx os z7 ⊢
  refine (HPA.out _).mono ?_
  rintro e' W9 ⟨ta, tb, rfl, _, oa, _, hb⟩
  replace P_7 := rblk_below P_7 hb
  replace os := os.below hb
  replace kx := bt kx hb
  have z9 := hb.size
  clear hb
  have P_8 := heap_alloc_new W9 (.cells #[.bool (rfi 0).p, .slice ta.A (rfi 0).l.length ta.c, .slice ta.D (rfi 0).m.length ta.d, .bool (rfi 0).p, .slice tb.A (rfi 0).l.length tb.c, .slice tb.D (rfi 0).m.length tb.d] 31)
  have hb := ba1 W9 (.cells #[.bool (rfi 0).p, .slice ta.A (rfi 0).l.length ta.c, .slice ta.D (rfi 0).m.length ta.d, .bool (rfi 0).p, .slice tb.A (rfi 0).l.length tb.c, .slice tb.D (rfi 0).m.length tb.d] 31)
  replace P_7 := rblk_below P_7 hb
  replace os := os.below hb
  replace oa := oa.below hb
  replace kx := bt kx hb
  clear hb
  go_wp2_with fail
  generalize W9.alloc (.cells #[.bool (rfi 0).p, .slice ta.A (rfi 0).l.length ta.c, .slice ta.D (rfi 0).m.length ta.d, .bool (rfi 0).p, .slice tb.A (rfi 0).l.length tb.c, .slice tb.D (rfi 0).m.length tb.d] 31) = W10 at P_7 P_8 kx os oa ⊢
  have HO : Hid (W7.heap.size < W9.heap.size ∧ Off W7.heap.size W9.heap.size W6.heap.size W7.heap.size ∧ Off W7.heap.size W9.heap.size W8.heap.size W9.heap.size) := Lib.hid ⟨by omega, ⟨.inr (Nat.le_refl _), .inr (by omega)⟩, .inl (by omega), .inr (Nat.le_refl _)⟩
  clear z7 z9
  generalize W9.heap.size = g8 at P_8 HO oa ⊢
  go_loopw [39] (fun k w' => ∃ (j : Nat) (X Y V Z : R3) (sa sb ta tb : Ad) (lo hi lo2 hi2 : Nat), j ≤ 3 ∧ k = .int .i64 (j : Int) ∧ (j = 0 → X = (rfi 0) ∧ Y = (rfi 0) ∧ V = (rfi 0) ∧ Z = (rfi 0)) ∧ (j = 1 → X = SX1 ∧ Y = SY1 ∧ V = AX1 ∧ Z = AY1) ∧ (j = 2 → X = SX2 ∧ Y = SY2 ∧ V = AX2 ∧ Z = AY2) ∧ (j = 3 → X = u.x ∧ Y = u.y ∧ V = (rfi 0) ∧ Z = (rfi 0)) ∧ w'.heap[W7.heap.size]? = some (.cells #[.bool X.p, .slice sa.A X.l.length sa.c, .slice sa.D X.m.length sa.d, .bool Y.p, .slice sb.A Y.l.length sb.c, .slice sb.D Y.m.length sb.d] 31 (0, 0)) ∧ w'.heap[g8]? = some (.cells #[.bool V.p, .slice ta.A V.l.length ta.c, .slice ta.D V.m.length ta.d, .bool Z.p, .slice tb.A Z.l.length tb.c, .slice tb.D Z.m.length tb.d] 31 (0, 0)) ∧ Owns lo hi w' (rows X sa ++ rows Y sb) ∧ Off W7.heap.size g8 lo hi ∧ Owns lo2 hi2 w' (rows V ta ++ rows Z tb) ∧ Off W7.heap.size g8 lo2 hi2 ∧ Below W7.heap.size W7 w') (fun k _ => 3 - (intOf k).toNat)
  case atStart => exact ⟨0, _, _, _, _, sa, sb, ta, tb, _, _, _, _, by omega, rfl, (fun _ => ⟨rfl, rfl, rfl, rfl⟩), (fun h => by omega), (fun h => by omega), (fun h => by omega), P_7, P_8, os, HO.out.2.1, oa, HO.out.2.2, kx⟩
  case round =>
    clear P_7 P_8 os oa kx
    obtain ⟨j, X, Y, V, Z, sa, sb, ta, tb, lo, hi, lo2, hi2, hj, rfl, n0, n1, n2, n3, P_7, P_8, os, hos, oa, hoa, kx⟩ := hrel
    have hjc : j = 0 ∨ j = 1 ∨ j = 2 ∨ j = 3 := by omega
    rcases hjc with rfl | rfl | rfl | rfl
    · obtain ⟨rfl, rfl, rfl, rfl⟩ := n0 rfl
      clear n0 n1 n2 n3 hj
      have HF := Lib.hid (And.intro hos hoa)
      clear hos hoa
      go_wp2_with fail
      have hb : Below wr.heap.size wr wr.drew := (Below.refl _ _).drew
      replace P_7 := rblk_below P_7 hb
      replace P_8 := rblk_below P_8 hb
      replace os := os.below hb
      replace oa := oa.below hb
      replace kx := bt kx hb
      clear hb
      have P_l := (HX.out _ kx).1.1
      have P_b := (HX.out _ kx).1.2.2.1
      refine wp_region_held_drew (S := fun w' => w'.heap[G]? = some (.cells #[.bool p.x.p, .slice p.a.A p.x.l.length p.a.c, .slice p.a.D p.x.m.length p.a.d, .bool p.y.p, .slice p.b.A p.y.l.length p.b.c, .slice p.b.D p.y.m.length p.b.d, .bool q.x.p, .slice q.a.A q.x.l.length q.a.c, .slice q.a.D q.x.m.length q.a.d, .bool q.y.p, .slice q.b.A q.y.l.length q.b.c, .slice q.b.D q.y.m.length q.b.d, .bool r.x.p, .slice r.a.A r.x.l.length r.a.c, .slice r.a.D r.x.m.length r.a.d, .bool r.y.p, .slice r.b.A r.y.l.length r.b.c, .slice r.b.D r.y.m.length r.b.d] 31 (0, 0)) ∧ w'.heap[Gb]? = some (.cells #[.bool B0.p, .slice e0.A B0.l.length e0.c, .slice e0.D B0.m.length e0.d, .bool B1.p, .slice e1.A B1.l.length e1.c, .slice e1.D B1.m.length e1.d, .bool B2.p, .slice e2.A B2.l.length e2.c, .slice e2.D B2.m.length e2.d] 79 (0, 0))) (by kernel_rfl) ⟨P_l, P_b⟩ (fun hHeld => ?_)
      clear P_l P_b
      generalize wr.drew = Wd at *
      refine tk (i := 1) (v := ?vg1_1) rfl (by kernel_rfl) (fun _ _ _ h => h) (Or.inl ⟨by rfl, ?hg1_1⟩) hHeld ?_
      case hg1_1 => (intro w hSw; (try dsimp only at hSw); go_simp; (try with_reducible rfl))
      try simp only [ps]
      refine tk (i := 2) (v := ?vg1_2) rfl (by kernel_rfl) (fun _ _ _ h => h) (Or.inl ⟨by rfl, ?hg1_2⟩) hHeld ?_
      case hg1_2 => (intro w hSw; (try dsimp only at hSw); go_simp; (try with_reducible rfl))
      try simp only [ps]
      refine tk (i := 3) (v := .pointer (some ⟨Gb, 0, none⟩)) rfl (by kernel_rfl) (fun _ _ _ h => h) (Or.inl ⟨by rfl, ?hg1_3⟩) hHeld ?_
      case hg1_3 => (intro w hSw; (try dsimp only at hSw); go_simp; (try rfl))
      try simp only [ps]
      refine tk (i := 4) (v := ?vg1_4) rfl (by kernel_rfl) (fun _ _ _ h => h) (Or.inl ⟨by rfl, ?hg1_4⟩) hHeld ?_
      case hg1_4 => (intro w hSw; (try dsimp only at hSw); have t0 := rblk_cell hSw.2 0; have t1 := rblk_cell hSw.2 1; have t2 := rblk_cell hSw.2 2; go_simp; (try with_reducible rfl))
      try simp only [ps]
      refine tk (i := 5) (v := ?vg1_5) rfl (by kernel_rfl) (fun _ _ _ h => h) (Or.inl ⟨by rfl, ?hg1_5⟩) hHeld ?_
      case hg1_5 => (intro w hSw; (try dsimp only at hSw); go_simp; (try with_reducible rfl))
      try simp only [ps]
      refine tk (i := 6) (v := ?vg1_6) rfl (by kernel_rfl) (fun _ _ _ h => h) (Or.inl ⟨by rfl, ?hg1_6⟩) hHeld ?_
      case hg1_6 => (intro w hSw; (try dsimp only at hSw); go_simp; (try with_reducible rfl))
      try simp only [ps]
      refine tk (i := 7) (v := .pointer (some ⟨G, 0, none⟩)) rfl (by kernel_rfl) (fun _ _ _ h => h) (Or.inl ⟨by rfl, ?hg1_7⟩) hHeld ?_
      case hg1_7 => (intro w hSw; (try dsimp only at hSw); go_simp; (try rfl))
      try simp only [ps]
      refine tk (i := 8) (v := ?vg1_8) rfl (by kernel_rfl) (fun _ _ _ h => h) (Or.inl ⟨by rfl, ?hg1_8⟩) hHeld ?_
      case hg1_8 => (intro w hSw; (try dsimp only at hSw); have t0 := rblk_cell hSw.1 0; have t1 := rblk_cell hSw.1 1; have t2 := rblk_cell hSw.1 2; have t3 := rblk_cell hSw.1 3; have t4 := rblk_cell hSw.1 4; have t5 := rblk_cell hSw.1 5; go_simp; (try with_reducible rfl))
      try simp only [ps]
      refine wpAnyH_ready (rs := [0, 9]) (by kernel_rfl) (by simp) ?_
      refine rc1 rfl (fun K hK => ?_) (rc1 rfl (fun K hK => ?_) AllReadyH.nil)
      · skip
        have t0 := rblk_cell P_7 0
        have t1 := rblk_cell P_7 1
        have t2 := rblk_cell P_7 2
        have t3 := rblk_cell P_7 3
        have t4 := rblk_cell P_7 4
        have t5 := rblk_cell P_7 5
        go_simp
        clear t0 t1 t2 t3 t4 t5
        refine hK.out _ _ hHeld (fun hH => ?_)
        clear hK K hH
        try simp only [ps]
        refine rd1 (i := 9) (by kernel_rfl) rfl (fun K hK => ?_)
        go_simp
        (go_at_call 18; ((with_reducible refine (HSc0.out _ _ (HX.out _ kx).2.2.1.1 (HX.out _ kx).2.1.1).mono ?_); rintro e Wr1_9 ⟨ca, cb, rfl, hcc, oc, hapc, hb⟩))
        refine hK.out _ _ ⟨rblk_below hHeld.1 hb, rblk_below hHeld.2 hb⟩ (fun hH => ?_)
        replace hHeld := hH
        clear hK K hH
        replace P_7 := rblk_below P_7 hb
        replace P_8 := rblk_below P_8 hb
        replace os := os.below hb
        replace oa := oa.below hb
        replace kx := bt kx hb
        clear hapc hcc
        clear hb
        try simp only [ps]
        refine rd1 (i := 10) (by kernel_rfl) rfl (fun K hK => ?_)
        have hlv := rblk_lt P_8
        go_simp
        (go_at_call 17; ((with_reducible refine (HAd0.out _ _ _ _ _ os.rds oc.rds).mono ?_); rintro e' Wa ⟨na, nb, rfl, hcn, on, hapn, hb⟩))
        refine hK.out _ _ ⟨rblk_below hHeld.1 hb, rblk_below hHeld.2 hb⟩ (fun hH => ?_)
        replace hHeld := hH
        clear hK K hH
        replace P_7 := rblk_below P_7 hb
        replace P_8 := rblk_below P_8 hb
        replace os := os.below hb
        replace oa := oa.below hb
        replace kx := bt kx hb
        replace oc := oc.below hb
        clear hb hapn hcn oc os
        try simp only [ps]
        refine rd1 (i := 11) (by kernel_rfl) rfl (fun K hK => ?_)
        have t0 := rblk_cell P_7 0
        have q0 := rblk_free P_7 0
        have t1 := rblk_cell P_7 1
        have q1 := rblk_free P_7 1
        have t2 := rblk_cell P_7 2
        have q2 := rblk_free P_7 2
        have t3 := rblk_cell P_7 3
        have q3 := rblk_free P_7 3
        have t4 := rblk_cell P_7 4
        have q4 := rblk_free P_7 4
        have t5 := rblk_cell P_7 5
        have q5 := rblk_free P_7 5
        go_simp
        clear t0 q0 t1 q1 t2 q2 t3 q3 t4 q4 t5 q5
        refine hK.out _ _ ⟨six_other' hHeld.1 (show W7.heap.size ≠ G by have := HG.out; omega) (.bool SX1.p) (.slice na.A SX1.l.length na.c) (.slice na.D SX1.m.length na.d) (.bool SY1.p) (.slice nb.A SY1.l.length nb.c) (.slice nb.D SY1.m.length nb.d), six_other' hHeld.2 (show W7.heap.size ≠ Gb by have := HG.out; omega) (.bool SX1.p) (.slice na.A SX1.l.length na.c) (.slice na.D SX1.m.length na.d) (.bool SY1.p) (.slice nb.A SY1.l.length nb.c) (.slice nb.D SY1.m.length nb.d)⟩ (fun hH => ?_)
        clear hK K hH hHeld
        replace P_7 := six_same' P_7 (.bool SX1.p) (.slice na.A SX1.l.length na.c) (.slice na.D SX1.m.length na.d) (.bool SY1.p) (.slice nb.A SY1.l.length nb.c) (.slice nb.D SY1.m.length nb.d)
        replace P_8 := six_other' P_8 (show W7.heap.size ≠ g8 by have := HO.out.1; omega) (.bool SX1.p) (.slice na.A SX1.l.length na.c) (.slice na.D SX1.m.length na.d) (.bool SY1.p) (.slice nb.A SY1.l.length nb.c) (.slice nb.D SY1.m.length nb.d)
        replace oa := (((((oa.put (b := W7.heap.size) (o := 0) HF.out.2.1 (.bool SX1.p)).put (b := W7.heap.size) (o := 1) HF.out.2.1 (.slice na.A SX1.l.length na.c)).put (b := W7.heap.size) (o := 2) HF.out.2.1 (.slice na.D SX1.m.length na.d)).put (b := W7.heap.size) (o := 3) HF.out.2.1 (.bool SY1.p)).put (b := W7.heap.size) (o := 4) HF.out.2.1 (.slice nb.A SY1.l.length nb.c)).put (b := W7.heap.size) (o := 5) HF.out.2.1 (.slice nb.D SY1.m.length nb.d)
        replace on := (((((on.put (b := W7.heap.size) (o := 0) (.inl (by have := HO.out.1; omega)) (.bool SX1.p)).put (b := W7.heap.size) (o := 1) (.inl (by have := HO.out.1; omega)) (.slice na.A SX1.l.length na.c)).put (b := W7.heap.size) (o := 2) (.inl (by have := HO.out.1; omega)) (.slice na.D SX1.m.length na.d)).put (b := W7.heap.size) (o := 3) (.inl (by have := HO.out.1; omega)) (.bool SY1.p)).put (b := W7.heap.size) (o := 4) (.inl (by have := HO.out.1; omega)) (.slice nb.A SY1.l.length nb.c)).put (b := W7.heap.size) (o := 5) (.inl (by have := HO.out.1; omega)) (.slice nb.D SY1.m.length nb.d)
        replace kx := below_put6 (r := W7.heap.size) kx (Nat.le_refl _) (.bool SX1.p) (.slice na.A SX1.l.length na.c) (.slice na.D SX1.m.length na.d) (.bool SY1.p) (.slice nb.A SY1.l.length nb.c) (.slice nb.D SY1.m.length nb.d)
        try simp only [ps]
        refine wpAnyH_done (by kernel_rfl) ?_ _
        obtain ⟨l1, h1, on, hn1⟩ : ∃ l h, Owns l h _ (rows SX1 na ++ rows SY1 nb) ∧ g8 < l := ⟨_, _, on, hlv⟩
        clear hlv
        generalize (((((Wa.setCell ⟨W7.heap.size, 0, none⟩ (.bool SX1.p)).setCell ⟨W7.heap.size, 1, none⟩ (.slice na.A SX1.l.length na.c)).setCell ⟨W7.heap.size, 2, none⟩ (.slice na.D SX1.m.length na.d)).setCell ⟨W7.heap.size, 3, none⟩ (.bool SY1.p)).setCell ⟨W7.heap.size, 4, none⟩ (.slice nb.A SY1.l.length nb.c)).setCell ⟨W7.heap.size, 5, none⟩ (.slice nb.D SY1.m.length nb.d) = Wb at P_7 P_8 oa on kx ⊢
        go_wp2_with fail
        have hb : Below Wb.heap.size Wb Wb.drew := (Below.refl _ _).drew
        replace P_7 := rblk_below P_7 hb
        replace P_8 := rblk_below P_8 hb
        replace oa := oa.below hb
        replace on := on.below hb
        replace kx := bt kx hb
        clear hb
        have hC := (HX.out _ kx).1.2.2.2
        refine wp_region_held_drew (S := fun w' => Cel w' gg (flat [g0, g1, g2])) (by kernel_rfl) (hC) (fun hHeld => ?_)
        clear hC
        generalize Wb.drew = We at *
        refine tk (i := 1) (v := ?vg2_1) rfl (by kernel_rfl) (fun _ _ _ h => h) (Or.inl ⟨by rfl, ?hg2_1⟩) hHeld ?_
        case hg2_1 => (intro w hSw; (try dsimp only at hSw); go_simp; (try with_reducible rfl))
        try simp only [ps]
        refine tk (i := 2) (v := ?vg2_2) rfl (by kernel_rfl) (fun _ _ _ h => h) (Or.inl ⟨by rfl, ?hg2_2⟩) hHeld ?_
        case hg2_2 => (intro w hSw; (try dsimp only at hSw); go_simp; (try with_reducible rfl))
        try simp only [ps]
        refine tk (i := 3) (v := .pointer (some ⟨gg, 0, none⟩)) rfl (by kernel_rfl) (fun _ _ _ h => h) (Or.inl ⟨by rfl, ?hg2_3⟩) hHeld ?_
        case hg2_3 => (intro w hSw; (try dsimp only at hSw); go_simp; (try rfl))
        try simp only [ps]
        refine tk (i := 4) (v := ?vg2_4) rfl (by kernel_rfl) (fun _ _ _ h => h) (Or.inl ⟨by rfl, ?hg2_4⟩) hHeld ?_
        case hg2_4 => (intro w hSw; (try dsimp only at hSw); have t0 : w.cell? ⟨gg, 0, none⟩ = some (.bool g0.x.p) := hSw.2 0 (show _ < 18 by omega); have t1 : w.cell? ⟨gg, 1, none⟩ = some (.slice g0.a.A g0.x.l.length g0.a.c) := hSw.2 1 (show _ < 18 by omega); have t2 : w.cell? ⟨gg, 2, none⟩ = some (.slice g0.a.D g0.x.m.length g0.a.d) := hSw.2 2 (show _ < 18 by omega); have t3 : w.cell? ⟨gg, 3, none⟩ = some (.bool g0.y.p) := hSw.2 3 (show _ < 18 by omega); have t4 : w.cell? ⟨gg, 4, none⟩ = some (.slice g0.b.A g0.y.l.length g0.b.c) := hSw.2 4 (show _ < 18 by omega); have t5 : w.cell? ⟨gg, 5, none⟩ = some (.slice g0.b.D g0.y.m.length g0.b.d) := hSw.2 5 (show _ < 18 by omega); go_simp; (try with_reducible rfl))
        try simp only [ps]
        refine rd1 (i := 0) (by kernel_rfl) rfl (fun K hK => ?_)
        have t0 := rblk_cell P_8 0
        have t1 := rblk_cell P_8 1
        have t2 := rblk_cell P_8 2
        have t3 := rblk_cell P_8 3
        have t4 := rblk_cell P_8 4
        have t5 := rblk_cell P_8 5
        go_simp
        clear t0 t1 t2 t3 t4 t5
        refine hK.out _ _ hHeld (fun hH => ?_)
        clear hK K hH
        try simp only [ps]
        refine rd1 (i := 5) (by kernel_rfl) rfl (fun K hK => ?_)
        have hlv := rblk_lt P_8
        have rgk : Rds _ (rows g0.x g0.a ++ rows g0.y g0.b) := (HX.out _ kx).2.2.2.1.1
        go_simp
        (go_at_call 17; ((with_reducible refine (HAg0.out _ _ g0.a g0.b _ oa.rds rgk).mono ?_); rintro e' Wf ⟨ma, mb, rfl, hcm, om, hapm, hb⟩))
        refine hK.out _ _ (hHeld.below hb) (fun hH => ?_)
        replace hHeld := hH
        clear hK K hH
        replace P_7 := rblk_below P_7 hb
        replace P_8 := rblk_below P_8 hb
        replace oa := oa.below hb
        replace on := on.below hb
        replace kx := bt kx hb
        clear hb hapm hcm oa rgk
        try simp only [ps]
        refine rd1 (i := 6) (by kernel_rfl) rfl (fun K hK => ?_)
        have t0 := rblk_cell P_8 0
        have q0 := rblk_free P_8 0
        have t1 := rblk_cell P_8 1
        have q1 := rblk_free P_8 1
        have t2 := rblk_cell P_8 2
        have q2 := rblk_free P_8 2
        have t3 := rblk_cell P_8 3
        have q3 := rblk_free P_8 3
        have t4 := rblk_cell P_8 4
        have q4 := rblk_free P_8 4
        have t5 := rblk_cell P_8 5
        have q5 := rblk_free P_8 5
        go_simp
        clear t0 q0 t1 q1 t2 q2 t3 q3 t4 q4 t5 q5
        have hge : W7.heap.size ≤ g8 := by have := HO.out.1; omega
        replace P_8 := six_same' P_8 (.bool AX1.p) (.slice ma.A AX1.l.length ma.c) (.slice ma.D AX1.m.length ma.d) (.bool AY1.p) (.slice mb.A AY1.l.length mb.c) (.slice mb.D AY1.m.length mb.d)
        replace P_7 := six_other' P_7 (show g8 ≠ W7.heap.size by have := HO.out.1; omega) (.bool AX1.p) (.slice ma.A AX1.l.length ma.c) (.slice ma.D AX1.m.length ma.d) (.bool AY1.p) (.slice mb.A AY1.l.length mb.c) (.slice mb.D AY1.m.length mb.d)
        replace on := (((((on.put (b := g8) (o := 0) (.inl hn1) (.bool AX1.p)).put (b := g8) (o := 1) (.inl hn1) (.slice ma.A AX1.l.length ma.c)).put (b := g8) (o := 2) (.inl hn1) (.slice ma.D AX1.m.length ma.d)).put (b := g8) (o := 3) (.inl hn1) (.bool AY1.p)).put (b := g8) (o := 4) (.inl hn1) (.slice mb.A AY1.l.length mb.c)).put (b := g8) (o := 5) (.inl hn1) (.slice mb.D AY1.m.length mb.d)
        replace om := (((((om.put (b := g8) (o := 0) (.inl hlv) (.bool AX1.p)).put (b := g8) (o := 1) (.inl hlv) (.slice ma.A AX1.l.length ma.c)).put (b := g8) (o := 2) (.inl hlv) (.slice ma.D AX1.m.length ma.d)).put (b := g8) (o := 3) (.inl hlv) (.bool AY1.p)).put (b := g8) (o := 4) (.inl hlv) (.slice mb.A AY1.l.length mb.c)).put (b := g8) (o := 5) (.inl hlv) (.slice mb.D AY1.m.length mb.d)
        replace kx := below_put6 (r := g8) kx hge (.bool AX1.p) (.slice ma.A AX1.l.length ma.c) (.slice ma.D AX1.m.length ma.d) (.bool AY1.p) (.slice mb.A AY1.l.length mb.c) (.slice mb.D AY1.m.length mb.d)
        refine hK.out _ _ (HX.out _ kx).1.2.2.2 (fun hH => ?_)
        clear hK K hH hHeld
        generalize (((((Wf.setCell ⟨g8, 0, none⟩ (.bool AX1.p)).setCell ⟨g8, 1, none⟩ (.slice ma.A AX1.l.length ma.c)).setCell ⟨g8, 2, none⟩ (.slice ma.D AX1.m.length ma.d)).setCell ⟨g8, 3, none⟩ (.bool AY1.p)).setCell ⟨g8, 4, none⟩ (.slice mb.A AY1.l.length mb.c)).setCell ⟨g8, 5, none⟩ (.slice mb.D AY1.m.length mb.d) = Wg at P_7 P_8 on om kx ⊢
        try simp only [ps]
        refine wpAnyH_done (by kernel_rfl) ?_ _
        have HR := Lib.hid (And.intro P_7 (And.intro P_8 (And.intro on (And.intro om kx))))
        have HN : Hid (Off W7.heap.size g8 l1 h1) := Lib.hid ⟨.inl (by have := HO.out.1; omega), .inl hn1⟩
        have HL2 := Lib.hid hlv
        clear P_7 P_8 on om kx hlv hn1 hge
        go_wp2
        go_roundw
        case rel => exact ⟨1, _, _, _, _, na, nb, ma, mb, l1, h1, _, _, by omega, by go_num, (fun h => by omega), (fun _ => ⟨rfl, rfl, rfl, rfl⟩), (fun h => by omega), (fun h => by omega), HR.out.1, HR.out.2.1, HR.out.2.2.1, HN.out, HR.out.2.2.2.1, ⟨.inl (Nat.lt_trans (by have := HO.out.1; omega) HL2.out), .inl HL2.out⟩, HR.out.2.2.2.2⟩
        case measure => simp [intOf]
      · skip
        go_simp
        (go_at_call 18; ((with_reducible refine (HSc0.out _ _ (HX.out _ kx).2.2.1.1 (HX.out _ kx).2.1.1).mono ?_); rintro e Wr1_10 ⟨ca, cb, rfl, hcc, oc, hapc, hb⟩))
        refine hK.out _ _ ⟨rblk_below hHeld.1 hb, rblk_below hHeld.2 hb⟩ (fun hH => ?_)
        replace hHeld := hH
        clear hK K hH
        replace P_7 := rblk_below P_7 hb
        replace P_8 := rblk_below P_8 hb
        replace os := os.below hb
        replace oa := oa.below hb
        replace kx := bt kx hb
        clear hapc hcc
        clear hb
        try simp only [ps]
        refine rd1 (i := 0) (by kernel_rfl) rfl (fun K hK => ?_)
        have t0 := rblk_cell P_7 0
        have t1 := rblk_cell P_7 1
        have t2 := rblk_cell P_7 2
        have t3 := rblk_cell P_7 3
        have t4 := rblk_cell P_7 4
        have t5 := rblk_cell P_7 5
        go_simp
        clear t0 t1 t2 t3 t4 t5
        refine hK.out _ _ hHeld (fun hH => ?_)
        clear hK K hH
        try simp only [ps]
        refine rd1 (i := 10) (by kernel_rfl) rfl (fun K hK => ?_)
        have hlv := rblk_lt P_8
        go_simp
        (go_at_call 17; ((with_reducible refine (HAd0.out _ _ _ _ _ os.rds oc.rds).mono ?_); rintro e' Wa ⟨na, nb, rfl, hcn, on, hapn, hb⟩))
        refine hK.out _ _ ⟨rblk_below hHeld.1 hb, rblk_below hHeld.2 hb⟩ (fun hH => ?_)
        replace hHeld := hH
        clear hK K hH
        replace P_7 := rblk_below P_7 hb
        replace P_8 := rblk_below P_8 hb
        replace os := os.below hb
        replace oa := oa.below hb
        replace kx := bt kx hb
        replace oc := oc.below hb
        clear hb hapn hcn oc os
        try simp only [ps]
        refine rd1 (i := 11) (by kernel_rfl) rfl (fun K hK => ?_)
        have t0 := rblk_cell P_7 0
        have q0 := rblk_free P_7 0
        have t1 := rblk_cell P_7 1
        have q1 := rblk_free P_7 1
        have t2 := rblk_cell P_7 2
        have q2 := rblk_free P_7 2
        have t3 := rblk_cell P_7 3
        have q3 := rblk_free P_7 3
        have t4 := rblk_cell P_7 4
        have q4 := rblk_free P_7 4
        have t5 := rblk_cell P_7 5
        have q5 := rblk_free P_7 5
        go_simp
        clear t0 q0 t1 q1 t2 q2 t3 q3 t4 q4 t5 q5
        refine hK.out _ _ ⟨six_other' hHeld.1 (show W7.heap.size ≠ G by have := HG.out; omega) (.bool SX1.p) (.slice na.A SX1.l.length na.c) (.slice na.D SX1.m.length na.d) (.bool SY1.p) (.slice nb.A SY1.l.length nb.c) (.slice nb.D SY1.m.length nb.d), six_other' hHeld.2 (show W7.heap.size ≠ Gb by have := HG.out; omega) (.bool SX1.p) (.slice na.A SX1.l.length na.c) (.slice na.D SX1.m.length na.d) (.bool SY1.p) (.slice nb.A SY1.l.length nb.c) (.slice nb.D SY1.m.length nb.d)⟩ (fun hH => ?_)
        clear hK K hH hHeld
        replace P_7 := six_same' P_7 (.bool SX1.p) (.slice na.A SX1.l.length na.c) (.slice na.D SX1.m.length na.d) (.bool SY1.p) (.slice nb.A SY1.l.length nb.c) (.slice nb.D SY1.m.length nb.d)
        replace P_8 := six_other' P_8 (show W7.heap.size ≠ g8 by have := HO.out.1; omega) (.bool SX1.p) (.slice na.A SX1.l.length na.c) (.slice na.D SX1.m.length na.d) (.bool SY1.p) (.slice nb.A SY1.l.length nb.c) (.slice nb.D SY1.m.length nb.d)
        replace oa := (((((oa.put (b := W7.heap.size) (o := 0) HF.out.2.1 (.bool SX1.p)).put (b := W7.heap.size) (o := 1) HF.out.2.1 (.slice na.A SX1.l.length na.c)).put (b := W7.heap.size) (o := 2) HF.out.2.1 (.slice na.D SX1.m.length na.d)).put (b := W7.heap.size) (o := 3) HF.out.2.1 (.bool SY1.p)).put (b := W7.heap.size) (o := 4) HF.out.2.1 (.slice nb.A SY1.l.length nb.c)).put (b := W7.heap.size) (o := 5) HF.out.2.1 (.slice nb.D SY1.m.length nb.d)
        replace on := (((((on.put (b := W7.heap.size) (o := 0) (.inl (by have := HO.out.1; omega)) (.bool SX1.p)).put (b := W7.heap.size) (o := 1) (.inl (by have := HO.out.1; omega)) (.slice na.A SX1.l.length na.c)).put (b := W7.heap.size) (o := 2) (.inl (by have := HO.out.1; omega)) (.slice na.D SX1.m.length na.d)).put (b := W7.heap.size) (o := 3) (.inl (by have := HO.out.1; omega)) (.bool SY1.p)).put (b := W7.heap.size) (o := 4) (.inl (by have := HO.out.1; omega)) (.slice nb.A SY1.l.length nb.c)).put (b := W7.heap.size) (o := 5) (.inl (by have := HO.out.1; omega)) (.slice nb.D SY1.m.length nb.d)
        replace kx := below_put6 (r := W7.heap.size) kx (Nat.le_refl _) (.bool SX1.p) (.slice na.A SX1.l.length na.c) (.slice na.D SX1.m.length na.d) (.bool SY1.p) (.slice nb.A SY1.l.length nb.c) (.slice nb.D SY1.m.length nb.d)
        try simp only [ps]
        refine wpAnyH_done (by kernel_rfl) ?_ _
        obtain ⟨l1, h1, on, hn1⟩ : ∃ l h, Owns l h _ (rows SX1 na ++ rows SY1 nb) ∧ g8 < l := ⟨_, _, on, hlv⟩
        clear hlv
        generalize (((((Wa.setCell ⟨W7.heap.size, 0, none⟩ (.bool SX1.p)).setCell ⟨W7.heap.size, 1, none⟩ (.slice na.A SX1.l.length na.c)).setCell ⟨W7.heap.size, 2, none⟩ (.slice na.D SX1.m.length na.d)).setCell ⟨W7.heap.size, 3, none⟩ (.bool SY1.p)).setCell ⟨W7.heap.size, 4, none⟩ (.slice nb.A SY1.l.length nb.c)).setCell ⟨W7.heap.size, 5, none⟩ (.slice nb.D SY1.m.length nb.d) = Wb at P_7 P_8 oa on kx ⊢
        go_wp2_with fail
        have hb : Below Wb.heap.size Wb Wb.drew := (Below.refl _ _).drew
        replace P_7 := rblk_below P_7 hb
        replace P_8 := rblk_below P_8 hb
        replace oa := oa.below hb
        replace on := on.below hb
        replace kx := bt kx hb
        clear hb
        have hC := (HX.out _ kx).1.2.2.2
        refine wp_region_held_drew (S := fun w' => Cel w' gg (flat [g0, g1, g2])) (by kernel_rfl) (hC) (fun hHeld => ?_)
        clear hC
        generalize Wb.drew = We at *
        refine tk (i := 1) (v := ?vg3_1) rfl (by kernel_rfl) (fun _ _ _ h => h) (Or.inl ⟨by rfl, ?hg3_1⟩) hHeld ?_
        case hg3_1 => (intro w hSw; (try dsimp only at hSw); go_simp; (try with_reducible rfl))
        try simp only [ps]
        refine tk (i := 2) (v := ?vg3_2) rfl (by kernel_rfl) (fun _ _ _ h => h) (Or.inl ⟨by rfl, ?hg3_2⟩) hHeld ?_
        case hg3_2 => (intro w hSw; (try dsimp only at hSw); go_simp; (try with_reducible rfl))
        try simp only [ps]
        refine tk (i := 3) (v := .pointer (some ⟨gg, 0, none⟩)) rfl (by kernel_rfl) (fun _ _ _ h => h) (Or.inl ⟨by rfl, ?hg3_3⟩) hHeld ?_
        case hg3_3 => (intro w hSw; (try dsimp only at hSw); go_simp; (try rfl))
        try simp only [ps]
        refine tk (i := 4) (v := ?vg3_4) rfl (by kernel_rfl) (fun _ _ _ h => h) (Or.inl ⟨by rfl, ?hg3_4⟩) hHeld ?_
        case hg3_4 => (intro w hSw; (try dsimp only at hSw); have t0 : w.cell? ⟨gg, 0, none⟩ = some (.bool g0.x.p) := hSw.2 0 (show _ < 18 by omega); have t1 : w.cell? ⟨gg, 1, none⟩ = some (.slice g0.a.A g0.x.l.length g0.a.c) := hSw.2 1 (show _ < 18 by omega); have t2 : w.cell? ⟨gg, 2, none⟩ = some (.slice g0.a.D g0.x.m.length g0.a.d) := hSw.2 2 (show _ < 18 by omega); have t3 : w.cell? ⟨gg, 3, none⟩ = some (.bool g0.y.p) := hSw.2 3 (show _ < 18 by omega); have t4 : w.cell? ⟨gg, 4, none⟩ = some (.slice g0.b.A g0.y.l.length g0.b.c) := hSw.2 4 (show _ < 18 by omega); have t5 : w.cell? ⟨gg, 5, none⟩ = some (.slice g0.b.D g0.y.m.length g0.b.d) := hSw.2 5 (show _ < 18 by omega); go_simp; (try with_reducible rfl))
        try simp only [ps]
        refine rd1 (i := 0) (by kernel_rfl) rfl (fun K hK => ?_)
        have t0 := rblk_cell P_8 0
        have t1 := rblk_cell P_8 1
        have t2 := rblk_cell P_8 2
        have t3 := rblk_cell P_8 3
        have t4 := rblk_cell P_8 4
        have t5 := rblk_cell P_8 5
        go_simp
        clear t0 t1 t2 t3 t4 t5
        refine hK.out _ _ hHeld (fun hH => ?_)
        clear hK K hH
        try simp only [ps]
        refine rd1 (i := 5) (by kernel_rfl) rfl (fun K hK => ?_)
        have hlv := rblk_lt P_8
        have rgk : Rds _ (rows g0.x g0.a ++ rows g0.y g0.b) := (HX.out _ kx).2.2.2.1.1
        go_simp
        (go_at_call 17; ((with_reducible refine (HAg0.out _ _ g0.a g0.b _ oa.rds rgk).mono ?_); rintro e' Wf ⟨ma, mb, rfl, hcm, om, hapm, hb⟩))
        refine hK.out _ _ (hHeld.below hb) (fun hH => ?_)
        replace hHeld := hH
        clear hK K hH
        replace P_7 := rblk_below P_7 hb
        replace P_8 := rblk_below P_8 hb
        replace oa := oa.below hb
        replace on := on.below hb
        replace kx := bt kx hb
        clear hb hapm hcm oa rgk
        try simp only [ps]
        refine rd1 (i := 6) (by kernel_rfl) rfl (fun K hK => ?_)
        have t0 := rblk_cell P_8 0
        have q0 := rblk_free P_8 0
        have t1 := rblk_cell P_8 1
        have q1 := rblk_free P_8 1
        have t2 := rblk_cell P_8 2
        have q2 := rblk_free P_8 2
        have t3 := rblk_cell P_8 3
        have q3 := rblk_free P_8 3
        have t4 := rblk_cell P_8 4
        have q4 := rblk_free P_8 4
        have t5 := rblk_cell P_8 5
        have q5 := rblk_free P_8 5
        go_simp
        clear t0 q0 t1 q1 t2 q2 t3 q3 t4 q4 t5 q5
        have hge : W7.heap.size ≤ g8 := by have := HO.out.1; omega
        replace P_8 := six_same' P_8 (.bool AX1.p) (.slice ma.A AX1.l.length ma.c) (.slice ma.D AX1.m.length ma.d) (.bool AY1.p) (.slice mb.A AY1.l.length mb.c) (.slice mb.D AY1.m.length mb.d)
        replace P_7 := six_other' P_7 (show g8 ≠ W7.heap.size by have := HO.out.1; omega) (.bool AX1.p) (.slice ma.A AX1.l.length ma.c) (.slice ma.D AX1.m.length ma.d) (.bool AY1.p) (.slice mb.A AY1.l.length mb.c) (.slice mb.D AY1.m.length mb.d)
        replace on := (((((on.put (b := g8) (o := 0) (.inl hn1) (.bool AX1.p)).put (b := g8) (o := 1) (.inl hn1) (.slice ma.A AX1.l.length ma.c)).put (b := g8) (o := 2) (.inl hn1) (.slice ma.D AX1.m.length ma.d)).put (b := g8) (o := 3) (.inl hn1) (.bool AY1.p)).put (b := g8) (o := 4) (.inl hn1) (.slice mb.A AY1.l.length mb.c)).put (b := g8) (o := 5) (.inl hn1) (.slice mb.D AY1.m.length mb.d)
        replace om := (((((om.put (b := g8) (o := 0) (.inl hlv) (.bool AX1.p)).put (b := g8) (o := 1) (.inl hlv) (.slice ma.A AX1.l.length ma.c)).put (b := g8) (o := 2) (.inl hlv) (.slice ma.D AX1.m.length ma.d)).put (b := g8) (o := 3) (.inl hlv) (.bool AY1.p)).put (b := g8) (o := 4) (.inl hlv) (.slice mb.A AY1.l.length mb.c)).put (b := g8) (o := 5) (.inl hlv) (.slice mb.D AY1.m.length mb.d)
        replace kx := below_put6 (r := g8) kx hge (.bool AX1.p) (.slice ma.A AX1.l.length ma.c) (.slice ma.D AX1.m.length ma.d) (.bool AY1.p) (.slice mb.A AY1.l.length mb.c) (.slice mb.D AY1.m.length mb.d)
        refine hK.out _ _ (HX.out _ kx).1.2.2.2 (fun hH => ?_)
        clear hK K hH hHeld
        generalize (((((Wf.setCell ⟨g8, 0, none⟩ (.bool AX1.p)).setCell ⟨g8, 1, none⟩ (.slice ma.A AX1.l.length ma.c)).setCell ⟨g8, 2, none⟩ (.slice ma.D AX1.m.length ma.d)).setCell ⟨g8, 3, none⟩ (.bool AY1.p)).setCell ⟨g8, 4, none⟩ (.slice mb.A AY1.l.length mb.c)).setCell ⟨g8, 5, none⟩ (.slice mb.D AY1.m.length mb.d) = Wg at P_7 P_8 on om kx ⊢
        try simp only [ps]
        refine wpAnyH_done (by kernel_rfl) ?_ _
        have HR := Lib.hid (And.intro P_7 (And.intro P_8 (And.intro on (And.intro om kx))))
        have HN : Hid (Off W7.heap.size g8 l1 h1) := Lib.hid ⟨.inl (by have := HO.out.1; omega), .inl hn1⟩
        have HL2 := Lib.hid hlv
        clear P_7 P_8 on om kx hlv hn1 hge
        go_wp2
        go_roundw
        case rel => exact ⟨1, _, _, _, _, na, nb, ma, mb, l1, h1, _, _, by omega, by go_num, (fun h => by omega), (fun _ => ⟨rfl, rfl, rfl, rfl⟩), (fun h => by omega), (fun h => by omega), HR.out.1, HR.out.2.1, HR.out.2.2.1, HN.out, HR.out.2.2.2.1, ⟨.inl (Nat.lt_trans (by have := HO.out.1; omega) HL2.out), .inl HL2.out⟩, HR.out.2.2.2.2⟩
        case measure => simp [intOf]
    · obtain ⟨rfl, rfl, rfl, rfl⟩ := n1 rfl
      clear n0 n1 n2 n3 hj
      have HF := Lib.hid (And.intro hos hoa)
      clear hos hoa
      go_wp2_with fail
      have hb : Below wr.heap.size wr wr.drew := (Below.refl _ _).drew
      replace P_7 := rblk_below P_7 hb
      replace P_8 := rblk_below P_8 hb
      replace os := os.below hb
      replace oa := oa.below hb
      replace kx := bt kx hb
      clear hb
      have P_l := (HX.out _ kx).1.1
      have P_b := (HX.out _ kx).1.2.2.1
      refine wp_region_held_drew (S := fun w' => w'.heap[G]? = some (.cells #[.bool p.x.p, .slice p.a.A p.x.l.length p.a.c, .slice p.a.D p.x.m.length p.a.d, .bool p.y.p, .slice p.b.A p.y.l.length p.b.c, .slice p.b.D p.y.m.length p.b.d, .bool q.x.p, .slice q.a.A q.x.l.length q.a.c, .slice q.a.D q.x.m.length q.a.d, .bool q.y.p, .slice q.b.A q.y.l.length q.b.c, .slice q.b.D q.y.m.length q.b.d, .bool r.x.p, .slice r.a.A r.x.l.length r.a.c, .slice r.a.D r.x.m.length r.a.d, .bool r.y.p, .slice r.b.A r.y.l.length r.b.c, .slice r.b.D r.y.m.length r.b.d] 31 (0, 0)) ∧ w'.heap[Gb]? = some (.cells #[.bool B0.p, .slice e0.A B0.l.length e0.c, .slice e0.D B0.m.length e0.d, .bool B1.p, .slice e1.A B1.l.length e1.c, .slice e1.D B1.m.length e1.d, .bool B2.p, .slice e2.A B2.l.length e2.c, .slice e2.D B2.m.length e2.d] 79 (0, 0))) (by kernel_rfl) ⟨P_l, P_b⟩ (fun hHeld => ?_)
      clear P_l P_b
      generalize wr.drew = Wd at *
      refine tk (i := 1) (v := ?vg4_1) rfl (by kernel_rfl) (fun _ _ _ h => h) (Or.inl ⟨by rfl, ?hg4_1⟩) hHeld ?_
      case hg4_1 => (intro w hSw; (try dsimp only at hSw); go_simp; (try with_reducible rfl))
      try simp only [ps]
      refine tk (i := 2) (v := ?vg4_2) rfl (by kernel_rfl) (fun _ _ _ h => h) (Or.inl ⟨by rfl, ?hg4_2⟩) hHeld ?_
      case hg4_2 => (intro w hSw; (try dsimp only at hSw); go_simp; (try with_reducible rfl))
      try simp only [ps]
      refine tk (i := 3) (v := .pointer (some ⟨Gb, 3, none⟩)) rfl (by kernel_rfl) (fun _ _ _ h => h) (Or.inl ⟨by rfl, ?hg4_3⟩) hHeld ?_
      case hg4_3 => (intro w hSw; (try dsimp only at hSw); go_simp; (try rfl))
      try simp only [ps]
      refine tk (i := 4) (v := ?vg4_4) rfl (by kernel_rfl) (fun _ _ _ h => h) (Or.inl ⟨by rfl, ?hg4_4⟩) hHeld ?_
      case hg4_4 => (intro w hSw; (try dsimp only at hSw); have t0 := rblk_cell hSw.2 3; have t1 := rblk_cell hSw.2 4; have t2 := rblk_cell hSw.2 5; go_simp; (try with_reducible rfl))
      try simp only [ps]
      refine tk (i := 5) (v := ?vg4_5) rfl (by kernel_rfl) (fun _ _ _ h => h) (Or.inl ⟨by rfl, ?hg4_5⟩) hHeld ?_
      case hg4_5 => (intro w hSw; (try dsimp only at hSw); go_simp; (try with_reducible rfl))
      try simp only [ps]
      refine tk (i := 6) (v := ?vg4_6) rfl (by kernel_rfl) (fun _ _ _ h => h) (Or.inl ⟨by rfl, ?hg4_6⟩) hHeld ?_
      case hg4_6 => (intro w hSw; (try dsimp only at hSw); go_simp; (try with_reducible rfl))
      try simp only [ps]
      refine tk (i := 7) (v := .pointer (some ⟨G, 6, none⟩)) rfl (by kernel_rfl) (fun _ _ _ h => h) (Or.inl ⟨by rfl, ?hg4_7⟩) hHeld ?_
      case hg4_7 => (intro w hSw; (try dsimp only at hSw); go_simp; (try rfl))
      try simp only [ps]
      refine tk (i := 8) (v := ?vg4_8) rfl (by kernel_rfl) (fun _ _ _ h => h) (Or.inl ⟨by rfl, ?hg4_8⟩) hHeld ?_
      case hg4_8 => (intro w hSw; (try dsimp only at hSw); have t0 := rblk_cell hSw.1 6; have t1 := rblk_cell hSw.1 7; have t2 := rblk_cell hSw.1 8; have t3 := rblk_cell hSw.1 9; have t4 := rblk_cell hSw.1 10; have t5 := rblk_cell hSw.1 11; go_simp; (try with_reducible rfl))
      try simp only [ps]
      refine wpAnyH_ready (rs := [0, 9]) (by kernel_rfl) (by simp) ?_
      refine rc1 rfl (fun K hK => ?_) (rc1 rfl (fun K hK => ?_) AllReadyH.nil)
      · skip
        have t0 := rblk_cell P_7 0
        have t1 := rblk_cell P_7 1
        have t2 := rblk_cell P_7 2
        have t3 := rblk_cell P_7 3
        have t4 := rblk_cell P_7 4
        have t5 := rblk_cell P_7 5
        go_simp
        clear t0 t1 t2 t3 t4 t5
        refine hK.out _ _ hHeld (fun hH => ?_)
        clear hK K hH
        try simp only [ps]
        refine rd1 (i := 9) (by kernel_rfl) rfl (fun K hK => ?_)
        go_simp
        (go_at_call 18; ((with_reducible refine (HSc1.out _ _ (HX.out _ kx).2.2.1.2.1 (HX.out _ kx).2.1.2.1).mono ?_); rintro e Wr4_9 ⟨ca, cb, rfl, hcc, oc, hapc, hb⟩))
        refine hK.out _ _ ⟨rblk_below hHeld.1 hb, rblk_below hHeld.2 hb⟩ (fun hH => ?_)
        replace hHeld := hH
        clear hK K hH
        replace P_7 := rblk_below P_7 hb
        replace P_8 := rblk_below P_8 hb
        replace os := os.below hb
        replace oa := oa.below hb
        replace kx := bt kx hb
        clear hapc hcc
        clear hb
        try simp only [ps]
        refine rd1 (i := 10) (by kernel_rfl) rfl (fun K hK => ?_)
        have hlv := rblk_lt P_8
        go_simp
        (go_at_call 17; ((with_reducible refine (HAd1.out _ _ _ _ _ os.rds oc.rds).mono ?_); rintro e' Wa ⟨na, nb, rfl, hcn, on, hapn, hb⟩))
        refine hK.out _ _ ⟨rblk_below hHeld.1 hb, rblk_below hHeld.2 hb⟩ (fun hH => ?_)
        replace hHeld := hH
        clear hK K hH
        replace P_7 := rblk_below P_7 hb
        replace P_8 := rblk_below P_8 hb
        replace os := os.below hb
        replace oa := oa.below hb
        replace kx := bt kx hb
        replace oc := oc.below hb
        clear hb hapn hcn oc os
        try simp only [ps]
        refine rd1 (i := 11) (by kernel_rfl) rfl (fun K hK => ?_)
        have t0 := rblk_cell P_7 0
        have q0 := rblk_free P_7 0
        have t1 := rblk_cell P_7 1
        have q1 := rblk_free P_7 1
        have t2 := rblk_cell P_7 2
        have q2 := rblk_free P_7 2
        have t3 := rblk_cell P_7 3
        have q3 := rblk_free P_7 3
        have t4 := rblk_cell P_7 4
        have q4 := rblk_free P_7 4
        have t5 := rblk_cell P_7 5
        have q5 := rblk_free P_7 5
        go_simp
        clear t0 q0 t1 q1 t2 q2 t3 q3 t4 q4 t5 q5
        refine hK.out _ _ ⟨six_other' hHeld.1 (show W7.heap.size ≠ G by have := HG.out; omega) (.bool SX2.p) (.slice na.A SX2.l.length na.c) (.slice na.D SX2.m.length na.d) (.bool SY2.p) (.slice nb.A SY2.l.length nb.c) (.slice nb.D SY2.m.length nb.d), six_other' hHeld.2 (show W7.heap.size ≠ Gb by have := HG.out; omega) (.bool SX2.p) (.slice na.A SX2.l.length na.c) (.slice na.D SX2.m.length na.d) (.bool SY2.p) (.slice nb.A SY2.l.length nb.c) (.slice nb.D SY2.m.length nb.d)⟩ (fun hH => ?_)
        clear hK K hH hHeld
        replace P_7 := six_same' P_7 (.bool SX2.p) (.slice na.A SX2.l.length na.c) (.slice na.D SX2.m.length na.d) (.bool SY2.p) (.slice nb.A SY2.l.length nb.c) (.slice nb.D SY2.m.length nb.d)
        replace P_8 := six_other' P_8 (show W7.heap.size ≠ g8 by have := HO.out.1; omega) (.bool SX2.p) (.slice na.A SX2.l.length na.c) (.slice na.D SX2.m.length na.d) (.bool SY2.p) (.slice nb.A SY2.l.length nb.c) (.slice nb.D SY2.m.length nb.d)
        replace oa := (((((oa.put (b := W7.heap.size) (o := 0) HF.out.2.1 (.bool SX2.p)).put (b := W7.heap.size) (o := 1) HF.out.2.1 (.slice na.A SX2.l.length na.c)).put (b := W7.heap.size) (o := 2) HF.out.2.1 (.slice na.D SX2.m.length na.d)).put (b := W7.heap.size) (o := 3) HF.out.2.1 (.bool SY2.p)).put (b := W7.heap.size) (o := 4) HF.out.2.1 (.slice nb.A SY2.l.length nb.c)).put (b := W7.heap.size) (o := 5) HF.out.2.1 (.slice nb.D SY2.m.length nb.d)
        replace on := (((((on.put (b := W7.heap.size) (o := 0) (.inl (by have := HO.out.1; omega)) (.bool SX2.p)).put (b := W7.heap.size) (o := 1) (.inl (by have := HO.out.1; omega)) (.slice na.A SX2.l.length na.c)).put (b := W7.heap.size) (o := 2) (.inl (by have := HO.out.1; omega)) (.slice na.D SX2.m.length na.d)).put (b := W7.heap.size) (o := 3) (.inl (by have := HO.out.1; omega)) (.bool SY2.p)).put (b := W7.heap.size) (o := 4) (.inl (by have := HO.out.1; omega)) (.slice nb.A SY2.l.length nb.c)).put (b := W7.heap.size) (o := 5) (.inl (by have := HO.out.1; omega)) (.slice nb.D SY2.m.length nb.d)
        replace kx := below_put6 (r := W7.heap.size) kx (Nat.le_refl _) (.bool SX2.p) (.slice na.A SX2.l.length na.c) (.slice na.D SX2.m.length na.d) (.bool SY2.p) (.slice nb.A SY2.l.length nb.c) (.slice nb.D SY2.m.length nb.d)
        try simp only [ps]
        refine wpAnyH_done (by kernel_rfl) ?_ _
        obtain ⟨l1, h1, on, hn1⟩ : ∃ l h, Owns l h _ (rows SX2 na ++ rows SY2 nb) ∧ g8 < l := ⟨_, _, on, hlv⟩
        clear hlv
        generalize (((((Wa.setCell ⟨W7.heap.size, 0, none⟩ (.bool SX2.p)).setCell ⟨W7.heap.size, 1, none⟩ (.slice na.A SX2.l.length na.c)).setCell ⟨W7.heap.size, 2, none⟩ (.slice na.D SX2.m.length na.d)).setCell ⟨W7.heap.size, 3, none⟩ (.bool SY2.p)).setCell ⟨W7.heap.size, 4, none⟩ (.slice nb.A SY2.l.length nb.c)).setCell ⟨W7.heap.size, 5, none⟩ (.slice nb.D SY2.m.length nb.d) = Wb at P_7 P_8 oa on kx ⊢
        go_wp2_with fail
        have hb : Below Wb.heap.size Wb Wb.drew := (Below.refl _ _).drew
        replace P_7 := rblk_below P_7 hb
        replace P_8 := rblk_below P_8 hb
        replace oa := oa.below hb
        replace on := on.below hb
        replace kx := bt kx hb
        clear hb
        have hC := (HX.out _ kx).1.2.2.2
        refine wp_region_held_drew (S := fun w' => Cel w' gg (flat [g0, g1, g2])) (by kernel_rfl) (hC) (fun hHeld => ?_)
        clear hC
        generalize Wb.drew = We at *
        refine tk (i := 1) (v := ?vg5_1) rfl (by kernel_rfl) (fun _ _ _ h => h) (Or.inl ⟨by rfl, ?hg5_1⟩) hHeld ?_
        case hg5_1 => (intro w hSw; (try dsimp only at hSw); go_simp; (try with_reducible rfl))
        try simp only [ps]
        refine tk (i := 2) (v := ?vg5_2) rfl (by kernel_rfl) (fun _ _ _ h => h) (Or.inl ⟨by rfl, ?hg5_2⟩) hHeld ?_
        case hg5_2 => (intro w hSw; (try dsimp only at hSw); go_simp; (try with_reducible rfl))
        try simp only [ps]
        refine tk (i := 3) (v := .pointer (some ⟨gg, 6, none⟩)) rfl (by kernel_rfl) (fun _ _ _ h => h) (Or.inl ⟨by rfl, ?hg5_3⟩) hHeld ?_
        case hg5_3 => (intro w hSw; (try dsimp only at hSw); go_simp; (try rfl))
        try simp only [ps]
        refine tk (i := 4) (v := ?vg5_4) rfl (by kernel_rfl) (fun _ _ _ h => h) (Or.inl ⟨by rfl, ?hg5_4⟩) hHeld ?_
        case hg5_4 => (intro w hSw; (try dsimp only at hSw); have t0 : w.cell? ⟨gg, 6, none⟩ = some (.bool g1.x.p) := hSw.2 6 (show _ < 18 by omega); have t1 : w.cell? ⟨gg, 7, none⟩ = some (.slice g1.a.A g1.x.l.length g1.a.c) := hSw.2 7 (show _ < 18 by omega); have t2 : w.cell? ⟨gg, 8, none⟩ = some (.slice g1.a.D g1.x.m.length g1.a.d) := hSw.2 8 (show _ < 18 by omega); have t3 : w.cell? ⟨gg, 9, none⟩ = some (.bool g1.y.p) := hSw.2 9 (show _ < 18 by omega); have t4 : w.cell? ⟨gg, 10, none⟩ = some (.slice g1.b.A g1.y.l.length g1.b.c) := hSw.2 10 (show _ < 18 by omega); have t5 : w.cell? ⟨gg, 11, none⟩ = some (.slice g1.b.D g1.y.m.length g1.b.d) := hSw.2 11 (show _ < 18 by omega); go_simp; (try with_reducible rfl))
        try simp only [ps]
        refine rd1 (i := 0) (by kernel_rfl) rfl (fun K hK => ?_)
        have t0 := rblk_cell P_8 0
        have t1 := rblk_cell P_8 1
        have t2 := rblk_cell P_8 2
        have t3 := rblk_cell P_8 3
        have t4 := rblk_cell P_8 4
        have t5 := rblk_cell P_8 5
        go_simp
        clear t0 t1 t2 t3 t4 t5
        refine hK.out _ _ hHeld (fun hH => ?_)
        clear hK K hH
        try simp only [ps]
        refine rd1 (i := 5) (by kernel_rfl) rfl (fun K hK => ?_)
        have hlv := rblk_lt P_8
        have rgk : Rds _ (rows g1.x g1.a ++ rows g1.y g1.b) := (HX.out _ kx).2.2.2.1.2.1
        go_simp
        (go_at_call 17; ((with_reducible refine (HAg1.out _ _ g1.a g1.b _ oa.rds rgk).mono ?_); rintro e' Wf ⟨ma, mb, rfl, hcm, om, hapm, hb⟩))
        refine hK.out _ _ (hHeld.below hb) (fun hH => ?_)
        replace hHeld := hH
        clear hK K hH
        replace P_7 := rblk_below P_7 hb
        replace P_8 := rblk_below P_8 hb
        replace oa := oa.below hb
        replace on := on.below hb
        replace kx := bt kx hb
        clear hb hapm hcm oa rgk
        try simp only [ps]
        refine rd1 (i := 6) (by kernel_rfl) rfl (fun K hK => ?_)
        have t0 := rblk_cell P_8 0
        have q0 := rblk_free P_8 0
        have t1 := rblk_cell P_8 1
        have q1 := rblk_free P_8 1
        have t2 := rblk_cell P_8 2
        have q2 := rblk_free P_8 2
        have t3 := rblk_cell P_8 3
        have q3 := rblk_free P_8 3
        have t4 := rblk_cell P_8 4
        have q4 := rblk_free P_8 4
        have t5 := rblk_cell P_8 5
        have q5 := rblk_free P_8 5
        go_simp
        clear t0 q0 t1 q1 t2 q2 t3 q3 t4 q4 t5 q5
        have hge : W7.heap.size ≤ g8 := by have := HO.out.1; omega
        replace P_8 := six_same' P_8 (.bool AX2.p) (.slice ma.A AX2.l.length ma.c) (.slice ma.D AX2.m.length ma.d) (.bool AY2.p) (.slice mb.A AY2.l.length mb.c) (.slice mb.D AY2.m.length mb.d)
        replace P_7 := six_other' P_7 (show g8 ≠ W7.heap.size by have := HO.out.1; omega) (.bool AX2.p) (.slice ma.A AX2.l.length ma.c) (.slice ma.D AX2.m.length ma.d) (.bool AY2.p) (.slice mb.A AY2.l.length mb.c) (.slice mb.D AY2.m.length mb.d)
        replace on := (((((on.put (b := g8) (o := 0) (.inl hn1) (.bool AX2.p)).put (b := g8) (o := 1) (.inl hn1) (.slice ma.A AX2.l.length ma.c)).put (b := g8) (o := 2) (.inl hn1) (.slice ma.D AX2.m.length ma.d)).put (b := g8) (o := 3) (.inl hn1) (.bool AY2.p)).put (b := g8) (o := 4) (.inl hn1) (.slice mb.A AY2.l.length mb.c)).put (b := g8) (o := 5) (.inl hn1) (.slice mb.D AY2.m.length mb.d)
        replace om := (((((om.put (b := g8) (o := 0) (.inl hlv) (.bool AX2.p)).put (b := g8) (o := 1) (.inl hlv) (.slice ma.A AX2.l.length ma.c)).put (b := g8) (o := 2) (.inl hlv) (.slice ma.D AX2.m.length ma.d)).put (b := g8) (o := 3) (.inl hlv) (.bool AY2.p)).put (b := g8) (o := 4) (.inl hlv) (.slice mb.A AY2.l.length mb.c)).put (b := g8) (o := 5) (.inl hlv) (.slice mb.D AY2.m.length mb.d)
        replace kx := below_put6 (r := g8) kx hge (.bool AX2.p) (.slice ma.A AX2.l.length ma.c) (.slice ma.D AX2.m.length ma.d) (.bool AY2.p) (.slice mb.A AY2.l.length mb.c) (.slice mb.D AY2.m.length mb.d)
        refine hK.out _ _ (HX.out _ kx).1.2.2.2 (fun hH => ?_)
        clear hK K hH hHeld
        generalize (((((Wf.setCell ⟨g8, 0, none⟩ (.bool AX2.p)).setCell ⟨g8, 1, none⟩ (.slice ma.A AX2.l.length ma.c)).setCell ⟨g8, 2, none⟩ (.slice ma.D AX2.m.length ma.d)).setCell ⟨g8, 3, none⟩ (.bool AY2.p)).setCell ⟨g8, 4, none⟩ (.slice mb.A AY2.l.length mb.c)).setCell ⟨g8, 5, none⟩ (.slice mb.D AY2.m.length mb.d) = Wg at P_7 P_8 on om kx ⊢
        try simp only [ps]
        refine wpAnyH_done (by kernel_rfl) ?_ _
        have HR := Lib.hid (And.intro P_7 (And.intro P_8 (And.intro on (And.intro om kx))))
        have HN : Hid (Off W7.heap.size g8 l1 h1) := Lib.hid ⟨.inl (by have := HO.out.1; omega), .inl hn1⟩
        have HL2 := Lib.hid hlv
        clear P_7 P_8 on om kx hlv hn1 hge
        go_wp2
        go_roundw
        case rel => exact ⟨2, _, _, _, _, na, nb, ma, mb, l1, h1, _, _, by omega, by go_num, (fun h => by omega), (fun h => by omega), (fun _ => ⟨rfl, rfl, rfl, rfl⟩), (fun h => by omega), HR.out.1, HR.out.2.1, HR.out.2.2.1, HN.out, HR.out.2.2.2.1, ⟨.inl (Nat.lt_trans (by have := HO.out.1; omega) HL2.out), .inl HL2.out⟩, HR.out.2.2.2.2⟩
        case measure => simp [intOf]
      · skip
        go_simp
        (go_at_call 18; ((with_reducible refine (HSc1.out _ _ (HX.out _ kx).2.2.1.2.1 (HX.out _ kx).2.1.2.1).mono ?_); rintro e Wr4_10 ⟨ca, cb, rfl, hcc, oc, hapc, hb⟩))
        refine hK.out _ _ ⟨rblk_below hHeld.1 hb, rblk_below hHeld.2 hb⟩ (fun hH => ?_)
        replace hHeld := hH
        clear hK K hH
        replace P_7 := rblk_below P_7 hb
        replace P_8 := rblk_below P_8 hb
        replace os := os.below hb
        replace oa := oa.below hb
        replace kx := bt kx hb
        clear hapc hcc
        clear hb
        try simp only [ps]
        refine rd1 (i := 0) (by kernel_rfl) rfl (fun K hK => ?_)
        have t0 := rblk_cell P_7 0
        have t1 := rblk_cell P_7 1
        have t2 := rblk_cell P_7 2
        have t3 := rblk_cell P_7 3
        have t4 := rblk_cell P_7 4
        have t5 := rblk_cell P_7 5
        go_simp
        clear t0 t1 t2 t3 t4 t5
        refine hK.out _ _ hHeld (fun hH => ?_)
        clear hK K hH
        try simp only [ps]
        refine rd1 (i := 10) (by kernel_rfl) rfl (fun K hK => ?_)
        have hlv := rblk_lt P_8
        go_simp
        (go_at_call 17; ((with_reducible refine (HAd1.out _ _ _ _ _ os.rds oc.rds).mono ?_); rintro e' Wa ⟨na, nb, rfl, hcn, on, hapn, hb⟩))
        refine hK.out _ _ ⟨rblk_below hHeld.1 hb, rblk_below hHeld.2 hb⟩ (fun hH => ?_)
        replace hHeld := hH
        clear hK K hH
        replace P_7 := rblk_below P_7 hb
        replace P_8 := rblk_below P_8 hb
        replace os := os.below hb
        replace oa := oa.below hb
        replace kx := bt kx hb
        replace oc := oc.below hb
        clear hb hapn hcn oc os
        try simp only [ps]
        refine rd1 (i := 11) (by kernel_rfl) rfl (fun K hK => ?_)
        have t0 := rblk_cell P_7 0
        have q0 := rblk_free P_7 0
        have t1 := rblk_cell P_7 1
        have q1 := rblk_free P_7 1
        have t2 := rblk_cell P_7 2
        have q2 := rblk_free P_7 2
        have t3 := rblk_cell P_7 3
        have q3 := rblk_free P_7 3
        have t4 := rblk_cell P_7 4
        have q4 := rblk_free P_7 4
        have t5 := rblk_cell P_7 5
        have q5 := rblk_free P_7 5
        go_simp
        clear t0 q0 t1 q1 t2 q2 t3 q3 t4 q4 t5 q5
        refine hK.out _ _ ⟨six_other' hHeld.1 (show W7.heap.size ≠ G by have := HG.out; omega) (.bool SX2.p) (.slice na.A SX2.l.length na.c) (.slice na.D SX2.m.length na.d) (.bool SY2.p) (.slice nb.A SY2.l.length nb.c) (.slice nb.D SY2.m.length nb.d), six_other' hHeld.2 (show W7.heap.size ≠ Gb by have := HG.out; omega) (.bool SX2.p) (.slice na.A SX2.l.length na.c) (.slice na.D SX2.m.length na.d) (.bool SY2.p) (.slice nb.A SY2.l.length nb.c) (.slice nb.D SY2.m.length nb.d)⟩ (fun hH => ?_)
        clear hK K hH hHeld
        replace P_7 := six_same' P_7 (.bool SX2.p) (.slice na.A SX2.l.length na.c) (.slice na.D SX2.m.length na.d) (.bool SY2.p) (.slice nb.A SY2.l.length nb.c) (.slice nb.D SY2.m.length nb.d)
        replace P_8 := six_other' P_8 (show W7.heap.size ≠ g8 by have := HO.out.1; omega) (.bool SX2.p) (.slice na.A SX2.l.length na.c) (.slice na.D SX2.m.length na.d) (.bool SY2.p) (.slice nb.A SY2.l.length nb.c) (.slice nb.D SY2.m.length nb.d)
        replace oa := (((((oa.put (b := W7.heap.size) (o := 0) HF.out.2.1 (.bool SX2.p)).put (b := W7.heap.size) (o := 1) HF.out.2.1 (.slice na.A SX2.l.length na.c)).put (b := W7.heap.size) (o := 2) HF.out.2.1 (.slice na.D SX2.m.length na.d)).put (b := W7.heap.size) (o := 3) HF.out.2.1 (.bool SY2.p)).put (b := W7.heap.size) (o := 4) HF.out.2.1 (.slice nb.A SY2.l.length nb.c)).put (b := W7.heap.size) (o := 5) HF.out.2.1 (.slice nb.D SY2.m.length nb.d)
        replace on := (((((on.put (b := W7.heap.size) (o := 0) (.inl (by have := HO.out.1; omega)) (.bool SX2.p)).put (b := W7.heap.size) (o := 1) (.inl (by have := HO.out.1; omega)) (.slice na.A SX2.l.length na.c)).put (b := W7.heap.size) (o := 2) (.inl (by have := HO.out.1; omega)) (.slice na.D SX2.m.length na.d)).put (b := W7.heap.size) (o := 3) (.inl (by have := HO.out.1; omega)) (.bool SY2.p)).put (b := W7.heap.size) (o := 4) (.inl (by have := HO.out.1; omega)) (.slice nb.A SY2.l.length nb.c)).put (b := W7.heap.size) (o := 5) (.inl (by have := HO.out.1; omega)) (.slice nb.D SY2.m.length nb.d)
        replace kx := below_put6 (r := W7.heap.size) kx (Nat.le_refl _) (.bool SX2.p) (.slice na.A SX2.l.length na.c) (.slice na.D SX2.m.length na.d) (.bool SY2.p) (.slice nb.A SY2.l.length nb.c) (.slice nb.D SY2.m.length nb.d)
        try simp only [ps]
        refine wpAnyH_done (by kernel_rfl) ?_ _
        obtain ⟨l1, h1, on, hn1⟩ : ∃ l h, Owns l h _ (rows SX2 na ++ rows SY2 nb) ∧ g8 < l := ⟨_, _, on, hlv⟩
        clear hlv
        generalize (((((Wa.setCell ⟨W7.heap.size, 0, none⟩ (.bool SX2.p)).setCell ⟨W7.heap.size, 1, none⟩ (.slice na.A SX2.l.length na.c)).setCell ⟨W7.heap.size, 2, none⟩ (.slice na.D SX2.m.length na.d)).setCell ⟨W7.heap.size, 3, none⟩ (.bool SY2.p)).setCell ⟨W7.heap.size, 4, none⟩ (.slice nb.A SY2.l.length nb.c)).setCell ⟨W7.heap.size, 5, none⟩ (.slice nb.D SY2.m.length nb.d) = Wb at P_7 P_8 oa on kx ⊢
        go_wp2_with fail
        have hb : Below Wb.heap.size Wb Wb.drew := (Below.refl _ _).drew
        replace P_7 := rblk_below P_7 hb
        replace P_8 := rblk_below P_8 hb
        replace oa := oa.below hb
        replace on := on.below hb
        replace kx := bt kx hb
        clear hb
        have hC := (HX.out _ kx).1.2.2.2
        refine wp_region_held_drew (S := fun w' => Cel w' gg (flat [g0, g1, g2])) (by kernel_rfl) (hC) (fun hHeld => ?_)
        clear hC
        generalize Wb.drew = We at *
        refine tk (i := 1) (v := ?vg6_1) rfl (by kernel_rfl) (fun _ _ _ h => h) (Or.inl ⟨by rfl, ?hg6_1⟩) hHeld ?_
        case hg6_1 => (intro w hSw; (try dsimp only at hSw); go_simp; (try with_reducible rfl))
        try simp only [ps]
        refine tk (i := 2) (v := ?vg6_2) rfl (by kernel_rfl) (fun _ _ _ h => h) (Or.inl ⟨by rfl, ?hg6_2⟩) hHeld ?_
        case hg6_2 => (intro w hSw; (try dsimp only at hSw); go_simp; (try with_reducible rfl))
        try simp only [ps]
        refine tk (i := 3) (v := .pointer (some ⟨gg, 6, none⟩)) rfl (by kernel_rfl) (fun _ _ _ h => h) (Or.inl ⟨by rfl, ?hg6_3⟩) hHeld ?_
        case hg6_3 => (intro w hSw; (try dsimp only at hSw); go_simp; (try rfl))
        try simp only [ps]
        refine tk (i := 4) (v := ?vg6_4) rfl (by kernel_rfl) (fun _ _ _ h => h) (Or.inl ⟨by rfl, ?hg6_4⟩) hHeld ?_
        case hg6_4 => (intro w hSw; (try dsimp only at hSw); have t0 : w.cell? ⟨gg, 6, none⟩ = some (.bool g1.x.p) := hSw.2 6 (show _ < 18 by omega); have t1 : w.cell? ⟨gg, 7, none⟩ = some (.slice g1.a.A g1.x.l.length g1.a.c) := hSw.2 7 (show _ < 18 by omega); have t2 : w.cell? ⟨gg, 8, none⟩ = some (.slice g1.a.D g1.x.m.length g1.a.d) := hSw.2 8 (show _ < 18 by omega); have t3 : w.cell? ⟨gg, 9, none⟩ = some (.bool g1.y.p) := hSw.2 9 (show _ < 18 by omega); have t4 : w.cell? ⟨gg, 10, none⟩ = some (.slice g1.b.A g1.y.l.length g1.b.c) := hSw.2 10 (show _ < 18 by omega); have t5 : w.cell? ⟨gg, 11, none⟩ = some (.slice g1.b.D g1.y.m.length g1.b.d) := hSw.2 11 (show _ < 18 by omega); go_simp; (try with_reducible rfl))
        try simp only [ps]
        refine rd1 (i := 0) (by kernel_rfl) rfl (fun K hK => ?_)
        have t0 := rblk_cell P_8 0
        have t1 := rblk_cell P_8 1
        have t2 := rblk_cell P_8 2
        have t3 := rblk_cell P_8 3
        have t4 := rblk_cell P_8 4
        have t5 := rblk_cell P_8 5
        go_simp
        clear t0 t1 t2 t3 t4 t5
        refine hK.out _ _ hHeld (fun hH => ?_)
        clear hK K hH
        try simp only [ps]
        refine rd1 (i := 5) (by kernel_rfl) rfl (fun K hK => ?_)
        have hlv := rblk_lt P_8
        have rgk : Rds _ (rows g1.x g1.a ++ rows g1.y g1.b) := (HX.out _ kx).2.2.2.1.2.1
        go_simp
        (go_at_call 17; ((with_reducible refine (HAg1.out _ _ g1.a g1.b _ oa.rds rgk).mono ?_); rintro e' Wf ⟨ma, mb, rfl, hcm, om, hapm, hb⟩))
        refine hK.out _ _ (hHeld.below hb) (fun hH => ?_)
        replace hHeld := hH
        clear hK K hH
        replace P_7 := rblk_below P_7 hb
        replace P_8 := rblk_below P_8 hb
        replace oa := oa.below hb
        replace on := on.below hb
        replace kx := bt kx hb
        clear hb hapm hcm oa rgk
        try simp only [ps]
        refine rd1 (i := 6) (by kernel_rfl) rfl (fun K hK => ?_)
        have t0 := rblk_cell P_8 0
        have q0 := rblk_free P_8 0
        have t1 := rblk_cell P_8 1
        have q1 := rblk_free P_8 1
        have t2 := rblk_cell P_8 2
        have q2 := rblk_free P_8 2
        have t3 := rblk_cell P_8 3
        have q3 := rblk_free P_8 3
        have t4 := rblk_cell P_8 4
        have q4 := rblk_free P_8 4
        have t5 := rblk_cell P_8 5
        have q5 := rblk_free P_8 5
        go_simp
        clear t0 q0 t1 q1 t2 q2 t3 q3 t4 q4 t5 q5
        have hge : W7.heap.size ≤ g8 := by have := HO.out.1; omega
        replace P_8 := six_same' P_8 (.bool AX2.p) (.slice ma.A AX2.l.length ma.c) (.slice ma.D AX2.m.length ma.d) (.bool AY2.p) (.slice mb.A AY2.l.length mb.c) (.slice mb.D AY2.m.length mb.d)
        replace P_7 := six_other' P_7 (show g8 ≠ W7.heap.size by have := HO.out.1; omega) (.bool AX2.p) (.slice ma.A AX2.l.length ma.c) (.slice ma.D AX2.m.length ma.d) (.bool AY2.p) (.slice mb.A AY2.l.length mb.c) (.slice mb.D AY2.m.length mb.d)
        replace on := (((((on.put (b := g8) (o := 0) (.inl hn1) (.bool AX2.p)).put (b := g8) (o := 1) (.inl hn1) (.slice ma.A AX2.l.length ma.c)).put (b := g8) (o := 2) (.inl hn1) (.slice ma.D AX2.m.length ma.d)).put (b := g8) (o := 3) (.inl hn1) (.bool AY2.p)).put (b := g8) (o := 4) (.inl hn1) (.slice mb.A AY2.l.length mb.c)).put (b := g8) (o := 5) (.inl hn1) (.slice mb.D AY2.m.length mb.d)
        replace om := (((((om.put (b := g8) (o := 0) (.inl hlv) (.bool AX2.p)).put (b := g8) (o := 1) (.inl hlv) (.slice ma.A AX2.l.length ma.c)).put (b := g8) (o := 2) (.inl hlv) (.slice ma.D AX2.m.length ma.d)).put (b := g8) (o := 3) (.inl hlv) (.bool AY2.p)).put (b := g8) (o := 4) (.inl hlv) (.slice mb.A AY2.l.length mb.c)).put (b := g8) (o := 5) (.inl hlv) (.slice mb.D AY2.m.length mb.d)
        replace kx := below_put6 (r := g8) kx hge (.bool AX2.p) (.slice ma.A AX2.l.length ma.c) (.slice ma.D AX2.m.length ma.d) (.bool AY2.p) (.slice mb.A AY2.l.length mb.c) (.slice mb.D AY2.m.length mb.d)
        refine hK.out _ _ (HX.out _ kx).1.2.2.2 (fun hH => ?_)
        clear hK K hH hHeld
        generalize (((((Wf.setCell ⟨g8, 0, none⟩ (.bool AX2.p)).setCell ⟨g8, 1, none⟩ (.slice ma.A AX2.l.length ma.c)).setCell ⟨g8, 2, none⟩ (.slice ma.D AX2.m.length ma.d)).setCell ⟨g8, 3, none⟩ (.bool AY2.p)).setCell ⟨g8, 4, none⟩ (.slice mb.A AY2.l.length mb.c)).setCell ⟨g8, 5, none⟩ (.slice mb.D AY2.m.length mb.d) = Wg at P_7 P_8 on om kx ⊢
        try simp only [ps]
        refine wpAnyH_done (by kernel_rfl) ?_ _
        have HR := Lib.hid (And.intro P_7 (And.intro P_8 (And.intro on (And.intro om kx))))
        have HN : Hid (Off W7.heap.size g8 l1 h1) := Lib.hid ⟨.inl (by have := HO.out.1; omega), .inl hn1⟩
        have HL2 := Lib.hid hlv
        clear P_7 P_8 on om kx hlv hn1 hge
        go_wp2
        go_roundw
        case rel => exact ⟨2, _, _, _, _, na, nb, ma, mb, l1, h1, _, _, by omega, by go_num, (fun h => by omega), (fun h => by omega), (fun _ => ⟨rfl, rfl, rfl, rfl⟩), (fun h => by omega), HR.out.1, HR.out.2.1, HR.out.2.2.1, HN.out, HR.out.2.2.2.1, ⟨.inl (Nat.lt_trans (by have := HO.out.1; omega) HL2.out), .inl HL2.out⟩, HR.out.2.2.2.2⟩
        case measure => simp [intOf]
    · obtain ⟨rfl, rfl, rfl, rfl⟩ := n2 rfl
      clear n0 n1 n2 n3 hj
      have HF := Lib.hid (And.intro hos hoa)
      clear hos hoa
      go_wp2_with fail
      have hb : Below wr.heap.size wr wr.drew := (Below.refl _ _).drew
      replace P_7 := rblk_below P_7 hb
      replace P_8 := rblk_below P_8 hb
      replace os := os.below hb
      replace oa := oa.below hb
      replace kx := bt kx hb
      clear hb
      have P_l := (HX.out _ kx).1.1
      have P_b := (HX.out _ kx).1.2.2.1
      refine wp_region_held_drew (S := fun w' => w'.heap[G]? = some (.cells #[.bool p.x.p, .slice p.a.A p.x.l.length p.a.c, .slice p.a.D p.x.m.length p.a.d, .bool p.y.p, .slice p.b.A p.y.l.length p.b.c, .slice p.b.D p.y.m.length p.b.d, .bool q.x.p, .slice q.a.A q.x.l.length q.a.c, .slice q.a.D q.x.m.length q.a.d, .bool q.y.p, .slice q.b.A q.y.l.length q.b.c, .slice q.b.D q.y.m.length q.b.d, .bool r.x.p, .slice r.a.A r.x.l.length r.a.c, .slice r.a.D r.x.m.length r.a.d, .bool r.y.p, .slice r.b.A r.y.l.length r.b.c, .slice r.b.D r.y.m.length r.b.d] 31 (0, 0)) ∧ w'.heap[Gb]? = some (.cells #[.bool B0.p, .slice e0.A B0.l.length e0.c, .slice e0.D B0.m.length e0.d, .bool B1.p, .slice e1.A B1.l.length e1.c, .slice e1.D B1.m.length e1.d, .bool B2.p, .slice e2.A B2.l.length e2.c, .slice e2.D B2.m.length e2.d] 79 (0, 0))) (by kernel_rfl) ⟨P_l, P_b⟩ (fun hHeld => ?_)
      clear P_l P_b
      generalize wr.drew = Wd at *
      refine tk (i := 1) (v := ?vg7_1) rfl (by kernel_rfl) (fun _ _ _ h => h) (Or.inl ⟨by rfl, ?hg7_1⟩) hHeld ?_
      case hg7_1 => (intro w hSw; (try dsimp only at hSw); go_simp; (try with_reducible rfl))
      try simp only [ps]
      refine tk (i := 2) (v := ?vg7_2) rfl (by kernel_rfl) (fun _ _ _ h => h) (Or.inl ⟨by rfl, ?hg7_2⟩) hHeld ?_
      case hg7_2 => (intro w hSw; (try dsimp only at hSw); go_simp; (try with_reducible rfl))
      try simp only [ps]
      refine tk (i := 3) (v := .pointer (some ⟨Gb, 6, none⟩)) rfl (by kernel_rfl) (fun _ _ _ h => h) (Or.inl ⟨by rfl, ?hg7_3⟩) hHeld ?_
      case hg7_3 => (intro w hSw; (try dsimp only at hSw); go_simp; (try rfl))
      try simp only [ps]
      refine tk (i := 4) (v := ?vg7_4) rfl (by kernel_rfl) (fun _ _ _ h => h) (Or.inl ⟨by rfl, ?hg7_4⟩) hHeld ?_
      case hg7_4 => (intro w hSw; (try dsimp only at hSw); have t0 := rblk_cell hSw.2 6; have t1 := rblk_cell hSw.2 7; have t2 := rblk_cell hSw.2 8; go_simp; (try with_reducible rfl))
      try simp only [ps]
      refine tk (i := 5) (v := ?vg7_5) rfl (by kernel_rfl) (fun _ _ _ h => h) (Or.inl ⟨by rfl, ?hg7_5⟩) hHeld ?_
      case hg7_5 => (intro w hSw; (try dsimp only at hSw); go_simp; (try with_reducible rfl))
      try simp only [ps]
      refine tk (i := 6) (v := ?vg7_6) rfl (by kernel_rfl) (fun _ _ _ h => h) (Or.inl ⟨by rfl, ?hg7_6⟩) hHeld ?_
      case hg7_6 => (intro w hSw; (try dsimp only at hSw); go_simp; (try with_reducible rfl))
      try simp only [ps]
      refine tk (i := 7) (v := .pointer (some ⟨G, 12, none⟩)) rfl (by kernel_rfl) (fun _ _ _ h => h) (Or.inl ⟨by rfl, ?hg7_7⟩) hHeld ?_
      case hg7_7 => (intro w hSw; (try dsimp only at hSw); go_simp; (try rfl))
      try simp only [ps]
      refine tk (i := 8) (v := ?vg7_8) rfl (by kernel_rfl) (fun _ _ _ h => h) (Or.inl ⟨by rfl, ?hg7_8⟩) hHeld ?_
      case hg7_8 => (intro w hSw; (try dsimp only at hSw); have t0 := rblk_cell hSw.1 12; have t1 := rblk_cell hSw.1 13; have t2 := rblk_cell hSw.1 14; have t3 := rblk_cell hSw.1 15; have t4 := rblk_cell hSw.1 16; have t5 := rblk_cell hSw.1 17; go_simp; (try with_reducible rfl))
      try simp only [ps]
      refine wpAnyH_ready (rs := [0, 9]) (by kernel_rfl) (by simp) ?_
      refine rc1 rfl (fun K hK => ?_) (rc1 rfl (fun K hK => ?_) AllReadyH.nil)
      · skip
        have t0 := rblk_cell P_7 0
        have t1 := rblk_cell P_7 1
        have t2 := rblk_cell P_7 2
        have t3 := rblk_cell P_7 3
        have t4 := rblk_cell P_7 4
        have t5 := rblk_cell P_7 5
        go_simp
        clear t0 t1 t2 t3 t4 t5
        refine hK.out _ _ hHeld (fun hH => ?_)
        clear hK K hH
        try simp only [ps]
        refine rd1 (i := 9) (by kernel_rfl) rfl (fun K hK => ?_)
        go_simp
        (go_at_call 18; ((with_reducible refine (HSc2.out _ _ (HX.out _ kx).2.2.1.2.2 (HX.out _ kx).2.1.2.2).mono ?_); rintro e Wr7_9 ⟨ca, cb, rfl, hcc, oc, hapc, hb⟩))
        refine hK.out _ _ ⟨rblk_below hHeld.1 hb, rblk_below hHeld.2 hb⟩ (fun hH => ?_)
        replace hHeld := hH
        clear hK K hH
        replace P_7 := rblk_below P_7 hb
        replace P_8 := rblk_below P_8 hb
        replace os := os.below hb
        replace oa := oa.below hb
        replace kx := bt kx hb
        clear hapc hcc
        clear hb
        try simp only [ps]
        refine rd1 (i := 10) (by kernel_rfl) rfl (fun K hK => ?_)
        have hlv := rblk_lt P_8
        go_simp
        (go_at_call 17; ((with_reducible refine (HAd2.out _ _ _ _ _ os.rds oc.rds).mono ?_); rintro e' Wa ⟨na, nb, rfl, hcn, on, hapn, hb⟩))
        refine hK.out _ _ ⟨rblk_below hHeld.1 hb, rblk_below hHeld.2 hb⟩ (fun hH => ?_)
        replace hHeld := hH
        clear hK K hH
        replace P_7 := rblk_below P_7 hb
        replace P_8 := rblk_below P_8 hb
        replace os := os.below hb
        replace oa := oa.below hb
        replace kx := bt kx hb
        replace oc := oc.below hb
        clear hb hapn hcn oc os
        try simp only [ps]
        refine rd1 (i := 11) (by kernel_rfl) rfl (fun K hK => ?_)
        have t0 := rblk_cell P_7 0
        have q0 := rblk_free P_7 0
        have t1 := rblk_cell P_7 1
        have q1 := rblk_free P_7 1
        have t2 := rblk_cell P_7 2
        have q2 := rblk_free P_7 2
        have t3 := rblk_cell P_7 3
        have q3 := rblk_free P_7 3
        have t4 := rblk_cell P_7 4
        have q4 := rblk_free P_7 4
        have t5 := rblk_cell P_7 5
        have q5 := rblk_free P_7 5
        go_simp
        clear t0 q0 t1 q1 t2 q2 t3 q3 t4 q4 t5 q5
        refine hK.out _ _ ⟨six_other' hHeld.1 (show W7.heap.size ≠ G by have := HG.out; omega) (.bool u.x.p) (.slice na.A u.x.l.length na.c) (.slice na.D u.x.m.length na.d) (.bool u.y.p) (.slice nb.A u.y.l.length nb.c) (.slice nb.D u.y.m.length nb.d), six_other' hHeld.2 (show W7.heap.size ≠ Gb by have := HG.out; omega) (.bool u.x.p) (.slice na.A u.x.l.length na.c) (.slice na.D u.x.m.length na.d) (.bool u.y.p) (.slice nb.A u.y.l.length nb.c) (.slice nb.D u.y.m.length nb.d)⟩ (fun hH => ?_)
        clear hK K hH hHeld
        replace P_7 := six_same' P_7 (.bool u.x.p) (.slice na.A u.x.l.length na.c) (.slice na.D u.x.m.length na.d) (.bool u.y.p) (.slice nb.A u.y.l.length nb.c) (.slice nb.D u.y.m.length nb.d)
        replace P_8 := six_other' P_8 (show W7.heap.size ≠ g8 by have := HO.out.1; omega) (.bool u.x.p) (.slice na.A u.x.l.length na.c) (.slice na.D u.x.m.length na.d) (.bool u.y.p) (.slice nb.A u.y.l.length nb.c) (.slice nb.D u.y.m.length nb.d)
        replace oa := (((((oa.put (b := W7.heap.size) (o := 0) HF.out.2.1 (.bool u.x.p)).put (b := W7.heap.size) (o := 1) HF.out.2.1 (.slice na.A u.x.l.length na.c)).put (b := W7.heap.size) (o := 2) HF.out.2.1 (.slice na.D u.x.m.length na.d)).put (b := W7.heap.size) (o := 3) HF.out.2.1 (.bool u.y.p)).put (b := W7.heap.size) (o := 4) HF.out.2.1 (.slice nb.A u.y.l.length nb.c)).put (b := W7.heap.size) (o := 5) HF.out.2.1 (.slice nb.D u.y.m.length nb.d)
        replace on := (((((on.put (b := W7.heap.size) (o := 0) (.inl (by have := HO.out.1; omega)) (.bool u.x.p)).put (b := W7.heap.size) (o := 1) (.inl (by have := HO.out.1; omega)) (.slice na.A u.x.l.length na.c)).put (b := W7.heap.size) (o := 2) (.inl (by have := HO.out.1; omega)) (.slice na.D u.x.m.length na.d)).put (b := W7.heap.size) (o := 3) (.inl (by have := HO.out.1; omega)) (.bool u.y.p)).put (b := W7.heap.size) (o := 4) (.inl (by have := HO.out.1; omega)) (.slice nb.A u.y.l.length nb.c)).put (b := W7.heap.size) (o := 5) (.inl (by have := HO.out.1; omega)) (.slice nb.D u.y.m.length nb.d)
        replace kx := below_put6 (r := W7.heap.size) kx (Nat.le_refl _) (.bool u.x.p) (.slice na.A u.x.l.length na.c) (.slice na.D u.x.m.length na.d) (.bool u.y.p) (.slice nb.A u.y.l.length nb.c) (.slice nb.D u.y.m.length nb.d)
        try simp only [ps]
        refine wpAnyH_done (by kernel_rfl) ?_ _
        obtain ⟨l1, h1, on, hn1⟩ : ∃ l h, Owns l h _ (rows u.x na ++ rows u.y nb) ∧ g8 < l := ⟨_, _, on, hlv⟩
        clear hlv
        generalize (((((Wa.setCell ⟨W7.heap.size, 0, none⟩ (.bool u.x.p)).setCell ⟨W7.heap.size, 1, none⟩ (.slice na.A u.x.l.length na.c)).setCell ⟨W7.heap.size, 2, none⟩ (.slice na.D u.x.m.length na.d)).setCell ⟨W7.heap.size, 3, none⟩ (.bool u.y.p)).setCell ⟨W7.heap.size, 4, none⟩ (.slice nb.A u.y.l.length nb.c)).setCell ⟨W7.heap.size, 5, none⟩ (.slice nb.D u.y.m.length nb.d) = Wb at P_7 P_8 oa on kx ⊢
        go_wp2_with fail
        have hb : Below Wb.heap.size Wb Wb.drew := (Below.refl _ _).drew
        replace P_7 := rblk_below P_7 hb
        replace P_8 := rblk_below P_8 hb
        replace oa := oa.below hb
        replace on := on.below hb
        replace kx := bt kx hb
        clear hb
        have hC := (HX.out _ kx).1.2.2.2
        refine wp_region_held_drew (S := fun w' => Cel w' gg (flat [g0, g1, g2])) (by kernel_rfl) (hC) (fun hHeld => ?_)
        clear hC
        generalize Wb.drew = We at *
        refine tk (i := 1) (v := ?vg8_1) rfl (by kernel_rfl) (fun _ _ _ h => h) (Or.inl ⟨by rfl, ?hg8_1⟩) hHeld ?_
        case hg8_1 => (intro w hSw; (try dsimp only at hSw); go_simp; (try with_reducible rfl))
        try simp only [ps]
        refine tk (i := 2) (v := ?vg8_2) rfl (by kernel_rfl) (fun _ _ _ h => h) (Or.inl ⟨by rfl, ?hg8_2⟩) hHeld ?_
        case hg8_2 => (intro w hSw; (try dsimp only at hSw); go_simp; (try with_reducible rfl))
        try simp only [ps]
        refine tk (i := 3) (v := .pointer (some ⟨gg, 12, none⟩)) rfl (by kernel_rfl) (fun _ _ _ h => h) (Or.inl ⟨by rfl, ?hg8_3⟩) hHeld ?_
        case hg8_3 => (intro w hSw; (try dsimp only at hSw); go_simp; (try rfl))
        try simp only [ps]
        refine tk (i := 4) (v := ?vg8_4) rfl (by kernel_rfl) (fun _ _ _ h => h) (Or.inl ⟨by rfl, ?hg8_4⟩) hHeld ?_
        case hg8_4 => (intro w hSw; (try dsimp only at hSw); have t0 : w.cell? ⟨gg, 12, none⟩ = some (.bool g2.x.p) := hSw.2 12 (show _ < 18 by omega); have t1 : w.cell? ⟨gg, 13, none⟩ = some (.slice g2.a.A g2.x.l.length g2.a.c) := hSw.2 13 (show _ < 18 by omega); have t2 : w.cell? ⟨gg, 14, none⟩ = some (.slice g2.a.D g2.x.m.length g2.a.d) := hSw.2 14 (show _ < 18 by omega); have t3 : w.cell? ⟨gg, 15, none⟩ = some (.bool g2.y.p) := hSw.2 15 (show _ < 18 by omega); have t4 : w.cell? ⟨gg, 16, none⟩ = some (.slice g2.b.A g2.y.l.length g2.b.c) := hSw.2 16 (show _ < 18 by omega); have t5 : w.cell? ⟨gg, 17, none⟩ = some (.slice g2.b.D g2.y.m.length g2.b.d) := hSw.2 17 (show _ < 18 by omega); go_simp; (try with_reducible rfl))
        try simp only [ps]
        refine rd1 (i := 0) (by kernel_rfl) rfl (fun K hK => ?_)
        have t0 := rblk_cell P_8 0
        have t1 := rblk_cell P_8 1
        have t2 := rblk_cell P_8 2
        have t3 := rblk_cell P_8 3
        have t4 := rblk_cell P_8 4
        have t5 := rblk_cell P_8 5
        go_simp
        clear t0 t1 t2 t3 t4 t5
        refine hK.out _ _ hHeld (fun hH => ?_)
        clear hK K hH
        try simp only [ps]
        refine rd1 (i := 5) (by kernel_rfl) rfl (fun K hK => ?_)
        have hlv := rblk_lt P_8
        have rgk : Rds _ (rows g2.x g2.a ++ rows g2.y g2.b) := (HX.out _ kx).2.2.2.1.2.2
        go_simp
        (go_at_call 17; ((with_reducible refine (HAg2.out _ _ g2.a g2.b _ oa.rds rgk).mono ?_); rintro e' Wf ⟨ma, mb, rfl, hcm, om, hapm, hb⟩))
        refine hK.out _ _ (hHeld.below hb) (fun hH => ?_)
        replace hHeld := hH
        clear hK K hH
        replace P_7 := rblk_below P_7 hb
        replace P_8 := rblk_below P_8 hb
        replace oa := oa.below hb
        replace on := on.below hb
        replace kx := bt kx hb
        clear hb hapm hcm oa rgk
        try simp only [ps]
        refine rd1 (i := 6) (by kernel_rfl) rfl (fun K hK => ?_)
        have t0 := rblk_cell P_8 0
        have q0 := rblk_free P_8 0
        have t1 := rblk_cell P_8 1
        have q1 := rblk_free P_8 1
        have t2 := rblk_cell P_8 2
        have q2 := rblk_free P_8 2
        have t3 := rblk_cell P_8 3
        have q3 := rblk_free P_8 3
        have t4 := rblk_cell P_8 4
        have q4 := rblk_free P_8 4
        have t5 := rblk_cell P_8 5
        have q5 := rblk_free P_8 5
        go_simp
        clear t0 q0 t1 q1 t2 q2 t3 q3 t4 q4 t5 q5
        have hge : W7.heap.size ≤ g8 := by have := HO.out.1; omega
        replace P_8 := six_same' P_8 (.bool (rfi 0).p) (.slice ma.A (rfi 0).l.length ma.c) (.slice ma.D (rfi 0).m.length ma.d) (.bool (rfi 0).p) (.slice mb.A (rfi 0).l.length mb.c) (.slice mb.D (rfi 0).m.length mb.d)
        replace P_7 := six_other' P_7 (show g8 ≠ W7.heap.size by have := HO.out.1; omega) (.bool (rfi 0).p) (.slice ma.A (rfi 0).l.length ma.c) (.slice ma.D (rfi 0).m.length ma.d) (.bool (rfi 0).p) (.slice mb.A (rfi 0).l.length mb.c) (.slice mb.D (rfi 0).m.length mb.d)
        replace on := (((((on.put (b := g8) (o := 0) (.inl hn1) (.bool (rfi 0).p)).put (b := g8) (o := 1) (.inl hn1) (.slice ma.A (rfi 0).l.length ma.c)).put (b := g8) (o := 2) (.inl hn1) (.slice ma.D (rfi 0).m.length ma.d)).put (b := g8) (o := 3) (.inl hn1) (.bool (rfi 0).p)).put (b := g8) (o := 4) (.inl hn1) (.slice mb.A (rfi 0).l.length mb.c)).put (b := g8) (o := 5) (.inl hn1) (.slice mb.D (rfi 0).m.length mb.d)
        replace om := (((((om.put (b := g8) (o := 0) (.inl hlv) (.bool (rfi 0).p)).put (b := g8) (o := 1) (.inl hlv) (.slice ma.A (rfi 0).l.length ma.c)).put (b := g8) (o := 2) (.inl hlv) (.slice ma.D (rfi 0).m.length ma.d)).put (b := g8) (o := 3) (.inl hlv) (.bool (rfi 0).p)).put (b := g8) (o := 4) (.inl hlv) (.slice mb.A (rfi 0).l.length mb.c)).put (b := g8) (o := 5) (.inl hlv) (.slice mb.D (rfi 0).m.length mb.d)
        replace kx := below_put6 (r := g8) kx hge (.bool (rfi 0).p) (.slice ma.A (rfi 0).l.length ma.c) (.slice ma.D (rfi 0).m.length ma.d) (.bool (rfi 0).p) (.slice mb.A (rfi 0).l.length mb.c) (.slice mb.D (rfi 0).m.length mb.d)
        refine hK.out _ _ (HX.out _ kx).1.2.2.2 (fun hH => ?_)
        clear hK K hH hHeld
        generalize (((((Wf.setCell ⟨g8, 0, none⟩ (.bool (rfi 0).p)).setCell ⟨g8, 1, none⟩ (.slice ma.A (rfi 0).l.length ma.c)).setCell ⟨g8, 2, none⟩ (.slice ma.D (rfi 0).m.length ma.d)).setCell ⟨g8, 3, none⟩ (.bool (rfi 0).p)).setCell ⟨g8, 4, none⟩ (.slice mb.A (rfi 0).l.length mb.c)).setCell ⟨g8, 5, none⟩ (.slice mb.D (rfi 0).m.length mb.d) = Wg at P_7 P_8 on om kx ⊢
        try simp only [ps]
        refine wpAnyH_done (by kernel_rfl) ?_ _
        have HR := Lib.hid (And.intro P_7 (And.intro P_8 (And.intro on (And.intro om kx))))
        have HN : Hid (Off W7.heap.size g8 l1 h1) := Lib.hid ⟨.inl (by have := HO.out.1; omega), .inl hn1⟩
        have HL2 := Lib.hid hlv
        clear P_7 P_8 on om kx hlv hn1 hge
        go_wp2
        go_roundw
        case rel => exact ⟨3, _, _, _, _, na, nb, ma, mb, l1, h1, _, _, by omega, by go_num, (fun h => by omega), (fun h => by omega), (fun h => by omega), (fun _ => ⟨rfl, rfl, rfl, rfl⟩), HR.out.1, HR.out.2.1, HR.out.2.2.1, HN.out, HR.out.2.2.2.1, ⟨.inl (Nat.lt_trans (by have := HO.out.1; omega) HL2.out), .inl HL2.out⟩, HR.out.2.2.2.2⟩
        case measure => simp [intOf]
      · skip
        go_simp
        (go_at_call 18; ((with_reducible refine (HSc2.out _ _ (HX.out _ kx).2.2.1.2.2 (HX.out _ kx).2.1.2.2).mono ?_); rintro e Wr7_10 ⟨ca, cb, rfl, hcc, oc, hapc, hb⟩))
        refine hK.out _ _ ⟨rblk_below hHeld.1 hb, rblk_below hHeld.2 hb⟩ (fun hH => ?_)
        replace hHeld := hH
        clear hK K hH
        replace P_7 := rblk_below P_7 hb
        replace P_8 := rblk_below P_8 hb
        replace os := os.below hb
        replace oa := oa.below hb
        replace kx := bt kx hb
        clear hapc hcc
        clear hb
        try simp only [ps]
        refine rd1 (i := 0) (by kernel_rfl) rfl (fun K hK => ?_)
        have t0 := rblk_cell P_7 0
        have t1 := rblk_cell P_7 1
        have t2 := rblk_cell P_7 2
        have t3 := rblk_cell P_7 3
        have t4 := rblk_cell P_7 4
        have t5 := rblk_cell P_7 5
        go_simp
        clear t0 t1 t2 t3 t4 t5
        refine hK.out _ _ hHeld (fun hH => ?_)
        clear hK K hH
        try simp only [ps]
        refine rd1 (i := 10) (by kernel_rfl) rfl (fun K hK => ?_)
        have hlv := rblk_lt P_8
        go_simp
        (go_at_call 17; ((with_reducible refine (HAd2.out _ _ _ _ _ os.rds oc.rds).mono ?_); rintro e' Wa ⟨na, nb, rfl, hcn, on, hapn, hb⟩))
        refine hK.out _ _ ⟨rblk_below hHeld.1 hb, rblk_below hHeld.2 hb⟩ (fun hH => ?_)
        replace hHeld := hH
        clear hK K hH
        replace P_7 := rblk_below P_7 hb
        replace P_8 := rblk_below P_8 hb
        replace os := os.below hb
        replace oa := oa.below hb
        replace kx := bt kx hb
        replace oc := oc.below hb
        clear hb hapn hcn oc os
        try simp only [ps]
        refine rd1 (i := 11) (by kernel_rfl) rfl (fun K hK => ?_)
        have t0 := rblk_cell P_7 0
        have q0 := rblk_free P_7 0
        have t1 := rblk_cell P_7 1
        have q1 := rblk_free P_7 1
        have t2 := rblk_cell P_7 2
        have q2 := rblk_free P_7 2
        have t3 := rblk_cell P_7 3
        have q3 := rblk_free P_7 3
        have t4 := rblk_cell P_7 4
        have q4 := rblk_free P_7 4
        have t5 := rblk_cell P_7 5
        have q5 := rblk_free P_7 5
        go_simp
        clear t0 q0 t1 q1 t2 q2 t3 q3 t4 q4 t5 q5
        refine hK.out _ _ ⟨six_other' hHeld.1 (show W7.heap.size ≠ G by have := HG.out; omega) (.bool u.x.p) (.slice na.A u.x.l.length na.c) (.slice na.D u.x.m.length na.d) (.bool u.y.p) (.slice nb.A u.y.l.length nb.c) (.slice nb.D u.y.m.length nb.d), six_other' hHeld.2 (show W7.heap.size ≠ Gb by have := HG.out; omega) (.bool u.x.p) (.slice na.A u.x.l.length na.c) (.slice na.D u.x.m.length na.d) (.bool u.y.p) (.slice nb.A u.y.l.length nb.c) (.slice nb.D u.y.m.length nb.d)⟩ (fun hH => ?_)
        clear hK K hH hHeld
        replace P_7 := six_same' P_7 (.bool u.x.p) (.slice na.A u.x.l.length na.c) (.slice na.D u.x.m.length na.d) (.bool u.y.p) (.slice nb.A u.y.l.length nb.c) (.slice nb.D u.y.m.length nb.d)
        replace P_8 := six_other' P_8 (show W7.heap.size ≠ g8 by have := HO.out.1; omega) (.bool u.x.p) (.slice na.A u.x.l.length na.c) (.slice na.D u.x.m.length na.d) (.bool u.y.p) (.slice nb.A u.y.l.length nb.c) (.slice nb.D u.y.m.length nb.d)
        replace oa := (((((oa.put (b := W7.heap.size) (o := 0) HF.out.2.1 (.bool u.x.p)).put (b := W7.heap.size) (o := 1) HF.out.2.1 (.slice na.A u.x.l.length na.c)).put (b := W7.heap.size) (o := 2) HF.out.2.1 (.slice na.D u.x.m.length na.d)).put (b := W7.heap.size) (o := 3) HF.out.2.1 (.bool u.y.p)).put (b := W7.heap.size) (o := 4) HF.out.2.1 (.slice nb.A u.y.l.length nb.c)).put (b := W7.heap.size) (o := 5) HF.out.2.1 (.slice nb.D u.y.m.length nb.d)
        replace on := (((((on.put (b := W7.heap.size) (o := 0) (.inl (by have := HO.out.1; omega)) (.bool u.x.p)).put (b := W7.heap.size) (o := 1) (.inl (by have := HO.out.1; omega)) (.slice na.A u.x.l.length na.c)).put (b := W7.heap.size) (o := 2) (.inl (by have := HO.out.1; omega)) (.slice na.D u.x.m.length na.d)).put (b := W7.heap.size) (o := 3) (.inl (by have := HO.out.1; omega)) (.bool u.y.p)).put (b := W7.heap.size) (o := 4) (.inl (by have := HO.out.1; omega)) (.slice nb.A u.y.l.length nb.c)).put (b := W7.heap.size) (o := 5) (.inl (by have := HO.out.1; omega)) (.slice nb.D u.y.m.length nb.d)
        replace kx := below_put6 (r := W7.heap.size) kx (Nat.le_refl _) (.bool u.x.p) (.slice na.A u.x.l.length na.c) (.slice na.D u.x.m.length na.d) (.bool u.y.p) (.slice nb.A u.y.l.length nb.c) (.slice nb.D u.y.m.length nb.d)
        try simp only [ps]
        refine wpAnyH_done (by kernel_rfl) ?_ _
        obtain ⟨l1, h1, on, hn1⟩ : ∃ l h, Owns l h _ (rows u.x na ++ rows u.y nb) ∧ g8 < l := ⟨_, _, on, hlv⟩
        clear hlv
        generalize (((((Wa.setCell ⟨W7.heap.size, 0, none⟩ (.bool u.x.p)).setCell ⟨W7.heap.size, 1, none⟩ (.slice na.A u.x.l.length na.c)).setCell ⟨W7.heap.size, 2, none⟩ (.slice na.D u.x.m.length na.d)).setCell ⟨W7.heap.size, 3, none⟩ (.bool u.y.p)).setCell ⟨W7.heap.size, 4, none⟩ (.slice nb.A u.y.l.length nb.c)).setCell ⟨W7.heap.size, 5, none⟩ (.slice nb.D u.y.m.length nb.d) = Wb at P_7 P_8 oa on kx ⊢
        go_wp2_with fail
        have hb : Below Wb.heap.size Wb Wb.drew := (Below.refl _ _).drew
        replace P_7 := rblk_below P_7 hb
        replace P_8 := rblk_below P_8 hb
        replace oa := oa.below hb
        replace on := on.below hb
        replace kx := bt kx hb
        clear hb
        have hC := (HX.out _ kx).1.2.2.2
        refine wp_region_held_drew (S := fun w' => Cel w' gg (flat [g0, g1, g2])) (by kernel_rfl) (hC) (fun hHeld => ?_)
        clear hC
        generalize Wb.drew = We at *
        refine tk (i := 1) (v := ?vg9_1) rfl (by kernel_rfl) (fun _ _ _ h => h) (Or.inl ⟨by rfl, ?hg9_1⟩) hHeld ?_
        case hg9_1 => (intro w hSw; (try dsimp only at hSw); go_simp; (try with_reducible rfl))
        try simp only [ps]
        refine tk (i := 2) (v := ?vg9_2) rfl (by kernel_rfl) (fun _ _ _ h => h) (Or.inl ⟨by rfl, ?hg9_2⟩) hHeld ?_
        case hg9_2 => (intro w hSw; (try dsimp only at hSw); go_simp; (try with_reducible rfl))
        try simp only [ps]
        refine tk (i := 3) (v := .pointer (some ⟨gg, 12, none⟩)) rfl (by kernel_rfl) (fun _ _ _ h => h) (Or.inl ⟨by rfl, ?hg9_3⟩) hHeld ?_
        case hg9_3 => (intro w hSw; (try dsimp only at hSw); go_simp; (try rfl))
        try simp only [ps]
        refine tk (i := 4) (v := ?vg9_4) rfl (by kernel_rfl) (fun _ _ _ h => h) (Or.inl ⟨by rfl, ?hg9_4⟩) hHeld ?_
        case hg9_4 => (intro w hSw; (try dsimp only at hSw); have t0 : w.cell? ⟨gg, 12, none⟩ = some (.bool g2.x.p) := hSw.2 12 (show _ < 18 by omega); have t1 : w.cell? ⟨gg, 13, none⟩ = some (.slice g2.a.A g2.x.l.length g2.a.c) := hSw.2 13 (show _ < 18 by omega); have t2 : w.cell? ⟨gg, 14, none⟩ = some (.slice g2.a.D g2.x.m.length g2.a.d) := hSw.2 14 (show _ < 18 by omega); have t3 : w.cell? ⟨gg, 15, none⟩ = some (.bool g2.y.p) := hSw.2 15 (show _ < 18 by omega); have t4 : w.cell? ⟨gg, 16, none⟩ = some (.slice g2.b.A g2.y.l.length g2.b.c) := hSw.2 16 (show _ < 18 by omega); have t5 : w.cell? ⟨gg, 17, none⟩ = some (.slice g2.b.D g2.y.m.length g2.b.d) := hSw.2 17 (show _ < 18 by omega); go_simp; (try with_reducible rfl))
        try simp only [ps]
        refine rd1 (i := 0) (by kernel_rfl) rfl (fun K hK => ?_)
        have t0 := rblk_cell P_8 0
        have t1 := rblk_cell P_8 1
        have t2 := rblk_cell P_8 2
        have t3 := rblk_cell P_8 3
        have t4 := rblk_cell P_8 4
        have t5 := rblk_cell P_8 5
        go_simp
        clear t0 t1 t2 t3 t4 t5
        refine hK.out _ _ hHeld (fun hH => ?_)
        clear hK K hH
        try simp only [ps]
        refine rd1 (i := 5) (by kernel_rfl) rfl (fun K hK => ?_)
        have hlv := rblk_lt P_8
        have rgk : Rds _ (rows g2.x g2.a ++ rows g2.y g2.b) := (HX.out _ kx).2.2.2.1.2.2
        go_simp
        (go_at_call 17; ((with_reducible refine (HAg2.out _ _ g2.a g2.b _ oa.rds rgk).mono ?_); rintro e' Wf ⟨ma, mb, rfl, hcm, om, hapm, hb⟩))
        refine hK.out _ _ (hHeld.below hb) (fun hH => ?_)
        replace hHeld := hH
        clear hK K hH
        replace P_7 := rblk_below P_7 hb
        replace P_8 := rblk_below P_8 hb
        replace oa := oa.below hb
        replace on := on.below hb
        replace kx := bt kx hb
        clear hb hapm hcm oa rgk
        try simp only [ps]
        refine rd1 (i := 6) (by kernel_rfl) rfl (fun K hK => ?_)
        have t0 := rblk_cell P_8 0
        have q0 := rblk_free P_8 0
        have t1 := rblk_cell P_8 1
        have q1 := rblk_free P_8 1
        have t2 := rblk_cell P_8 2
        have q2 := rblk_free P_8 2
        have t3 := rblk_cell P_8 3
        have q3 := rblk_free P_8 3
        have t4 := rblk_cell P_8 4
        have q4 := rblk_free P_8 4
        have t5 := rblk_cell P_8 5
        have q5 := rblk_free P_8 5
        go_simp
        clear t0 q0 t1 q1 t2 q2 t3 q3 t4 q4 t5 q5
        have hge : W7.heap.size ≤ g8 := by have := HO.out.1; omega
        replace P_8 := six_same' P_8 (.bool (rfi 0).p) (.slice ma.A (rfi 0).l.length ma.c) (.slice ma.D (rfi 0).m.length ma.d) (.bool (rfi 0).p) (.slice mb.A (rfi 0).l.length mb.c) (.slice mb.D (rfi 0).m.length mb.d)
        replace P_7 := six_other' P_7 (show g8 ≠ W7.heap.size by have := HO.out.1; omega) (.bool (rfi 0).p) (.slice ma.A (rfi 0).l.length ma.c) (.slice ma.D (rfi 0).m.length ma.d) (.bool (rfi 0).p) (.slice mb.A (rfi 0).l.length mb.c) (.slice mb.D (rfi 0).m.length mb.d)
        replace on := (((((on.put (b := g8) (o := 0) (.inl hn1) (.bool (rfi 0).p)).put (b := g8) (o := 1) (.inl hn1) (.slice ma.A (rfi 0).l.length ma.c)).put (b := g8) (o := 2) (.inl hn1) (.slice ma.D (rfi 0).m.length ma.d)).put (b := g8) (o := 3) (.inl hn1) (.bool (rfi 0).p)).put (b := g8) (o := 4) (.inl hn1) (.slice mb.A (rfi 0).l.length mb.c)).put (b := g8) (o := 5) (.inl hn1) (.slice mb.D (rfi 0).m.length mb.d)
        replace om := (((((om.put (b := g8) (o := 0) (.inl hlv) (.bool (rfi 0).p)).put (b := g8) (o := 1) (.inl hlv) (.slice ma.A (rfi 0).l.length ma.c)).put (b := g8) (o := 2) (.inl hlv) (.slice ma.D (rfi 0).m.length ma.d)).put (b := g8) (o := 3) (.inl hlv) (.bool (rfi 0).p)).put (b := g8) (o := 4) (.inl hlv) (.slice mb.A (rfi 0).l.length mb.c)).put (b := g8) (o := 5) (.inl hlv) (.slice mb.D (rfi 0).m.length mb.d)
        replace kx := below_put6 (r := g8) kx hge (.bool (rfi 0).p) (.slice ma.A (rfi 0).l.length ma.c) (.slice ma.D (rfi 0).m.length ma.d) (.bool (rfi 0).p) (.slice mb.A (rfi 0).l.length mb.c) (.slice mb.D (rfi 0).m.length mb.d)
        refine hK.out _ _ (HX.out _ kx).1.2.2.2 (fun hH => ?_)
        clear hK K hH hHeld
        generalize (((((Wf.setCell ⟨g8, 0, none⟩ (.bool (rfi 0).p)).setCell ⟨g8, 1, none⟩ (.slice ma.A (rfi 0).l.length ma.c)).setCell ⟨g8, 2, none⟩ (.slice ma.D (rfi 0).m.length ma.d)).setCell ⟨g8, 3, none⟩ (.bool (rfi 0).p)).setCell ⟨g8, 4, none⟩ (.slice mb.A (rfi 0).l.length mb.c)).setCell ⟨g8, 5, none⟩ (.slice mb.D (rfi 0).m.length mb.d) = Wg at P_7 P_8 on om kx ⊢
        try simp only [ps]
        refine wpAnyH_done (by kernel_rfl) ?_ _
        have HR := Lib.hid (And.intro P_7 (And.intro P_8 (And.intro on (And.intro om kx))))
        have HN : Hid (Off W7.heap.size g8 l1 h1) := Lib.hid ⟨.inl (by have := HO.out.1; omega), .inl hn1⟩
        have HL2 := Lib.hid hlv
        clear P_7 P_8 on om kx hlv hn1 hge
        go_wp2
        go_roundw
        case rel => exact ⟨3, _, _, _, _, na, nb, ma, mb, l1, h1, _, _, by omega, by go_num, (fun h => by omega), (fun h => by omega), (fun h => by omega), (fun _ => ⟨rfl, rfl, rfl, rfl⟩), HR.out.1, HR.out.2.1, HR.out.2.2.1, HN.out, HR.out.2.2.2.1, ⟨.inl (Nat.lt_trans (by have := HO.out.1; omega) HL2.out), .inl HL2.out⟩, HR.out.2.2.2.2⟩
        case measure => simp [intOf]
    · obtain ⟨rfl, rfl, rfl, rfl⟩ := n3 rfl
      clear n0 n1 n2 hj hos hoa
      go_wp2_with fail
      have hb : Below wr.heap.size wr wr.drew := (Below.refl _ _).drew
      replace P_7 := rblk_below P_7 hb
      replace P_8 := rblk_below P_8 hb
      replace os := os.below hb
      replace oa := oa.below hb
      replace kx := bt kx hb
      clear hb
      obtain ⟨⟨P_l, P_4, P_b, _⟩, ⟨o1, o2, o3⟩, ⟨rb0, rb1, rb2⟩, _, ou, ⟨rL, rR⟩, kb⟩ := HX.out _ kx
      refine wp_region_held_drew (S := fun w' => w'.heap[W7.heap.size]? = some (.cells #[.bool u.x.p, .slice sa.A u.x.l.length sa.c, .slice sa.D u.x.m.length sa.d, .bool u.y.p, .slice sb.A u.y.l.length sb.c, .slice sb.D u.y.m.length sb.d] 31 (0, 0)) ∧ w'.heap[g8]? = some (.cells #[.bool (rfi 0).p, .slice ta.A (rfi 0).l.length ta.c, .slice ta.D (rfi 0).m.length ta.d, .bool (rfi 0).p, .slice tb.A (rfi 0).l.length tb.c, .slice tb.D (rfi 0).m.length tb.d] 31 (0, 0)) ∧ w'.heap[g4]? = some (.cells #[.bool u.x.p, .slice u.a.A u.x.l.length u.a.c, .slice u.a.D u.x.m.length u.a.d, .bool u.y.p, .slice u.b.A u.y.l.length u.b.c, .slice u.b.D u.y.m.length u.b.d] 31 (0, 0)) ∧ w'.heap[Gb]? = some (.cells #[.bool B0.p, .slice e0.A B0.l.length e0.c, .slice e0.D B0.m.length e0.d, .bool B1.p, .slice e1.A B1.l.length e1.c, .slice e1.D B1.m.length e1.d, .bool B2.p, .slice e2.A B2.l.length e2.c, .slice e2.D B2.m.length e2.d] 79 (0, 0)) ∧ w'.heap[G]? = some (.cells #[.bool p.x.p, .slice p.a.A p.x.l.length p.a.c, .slice p.a.D p.x.m.length p.a.d, .bool p.y.p, .slice p.b.A p.y.l.length p.b.c, .slice p.b.D p.y.m.length p.b.d, .bool q.x.p, .slice q.a.A q.x.l.length q.a.c, .slice q.a.D q.x.m.length q.a.d, .bool q.y.p, .slice q.b.A q.y.l.length q.b.c, .slice q.b.D q.y.m.length q.b.d, .bool r.x.p, .slice r.a.A r.x.l.length r.a.c, .slice r.a.D r.x.m.length r.a.d, .bool r.y.p, .slice r.b.A r.y.l.length r.b.c, .slice r.b.D r.y.m.length r.b.d] 31 (0, 0))) (by kernel_rfl) ⟨P_7, P_8, P_4, P_b, P_l⟩ (fun hHeld => ?_)
      clear P_7 P_8 P_4 P_b P_l kx
      generalize wr.drew = Wd at *
      refine tk (i := 0) (v := ?vg10_1) rfl (by kernel_rfl) (fun _ _ _ h => h) (Or.inl ⟨by rfl, ?hg10_1⟩) hHeld ?_
      case hg10_1 => (intro w hSw; (try dsimp only at hSw); have t0 := rblk_cell hSw.1 0; have t1 := rblk_cell hSw.1 1; have t2 := rblk_cell hSw.1 2; have t3 := rblk_cell hSw.1 3; have t4 := rblk_cell hSw.1 4; have t5 := rblk_cell hSw.1 5; go_simp; (try with_reducible rfl))
      try simp only [ps]
      refine tk (i := 1) (v := ?vg10_2) rfl (by kernel_rfl) (fun _ _ _ h => h) (Or.inl ⟨by rfl, ?hg10_2⟩) hHeld ?_
      case hg10_2 => (intro w hSw; (try dsimp only at hSw); have t0 := rblk_cell hSw.2.2.1 0; have t1 := rblk_cell hSw.2.2.1 1; have t2 := rblk_cell hSw.2.2.1 2; have t3 := rblk_cell hSw.2.2.1 3; have t4 := rblk_cell hSw.2.2.1 4; have t5 := rblk_cell hSw.2.2.1 5; go_simp; (try with_reducible rfl))
      try simp only [ps]
      refine rd1 (i := 2) (by kernel_rfl) rfl (fun K hK => ?_)
      go_simp
      (go_at_call 19; ((with_reducible refine (HSm.out _ _ _ _ _ _ _ os.rds ou).mono ?_); rintro e Wr10_3 ⟨rfl, hb⟩))
      refine hK.out _ _ ⟨rblk_below hHeld.1 hb, rblk_below hHeld.2.1 hb, rblk_below hHeld.2.2.1 hb, rblk_below hHeld.2.2.2.1 hb, rblk_below hHeld.2.2.2.2 hb⟩ (fun hH => ?_)
      replace hHeld := hH
      clear hK K hH
      replace os := os.below hb
      replace oa := oa.below hb
      replace ou := ou.below hb
      replace o1 := o1.below hb
      replace o2 := o2.below hb
      replace o3 := o3.below hb
      replace rb0 := rb0.below hb
      replace rb1 := rb1.below hb
      replace rb2 := rb2.below hb
      replace rL := rL.below hb
      replace rR := rR.below hb
      replace kb := bt kb hb
      clear hb
      try simp only [ps]
      refine tk (i := 3) (v := ?vg10_4) rfl (by kernel_rfl) (fun _ _ _ h => h) (Or.inl ⟨by rfl, ?hg10_4⟩) hHeld ?_
      case hg10_4 => (intro w hSw; (try dsimp only at hSw); go_simp; (try with_reducible rfl))
      try simp only [ps]
      refine tk (i := 4) (v := ?vg10_5) rfl (by kernel_rfl) (fun _ _ _ h => h) (Or.inl ⟨by rfl, ?hg10_5⟩) hHeld ?_
      case hg10_5 => (intro w hSw; (try dsimp only at hSw); have t0 := rblk_cell hSw.2.1 0; have t1 := rblk_cell hSw.2.1 1; have t2 := rblk_cell hSw.2.1 2; have t3 := rblk_cell hSw.2.1 3; have t4 := rblk_cell hSw.2.1 4; have t5 := rblk_cell hSw.2.1 5; go_simp; (try with_reducible rfl))
      try simp only [ps]
      refine rd1 (i := 5) (by kernel_rfl) rfl (fun K hK => ?_)
      go_simp
      (go_at_call 16; ((with_reducible refine (HPA.out _).mono ?_); rintro e Wr10_6 ⟨za, zb, rfl, hcz, oz, hapz, hb⟩))
      refine hK.out _ _ ⟨rblk_below hHeld.1 hb, rblk_below hHeld.2.1 hb, rblk_below hHeld.2.2.1 hb, rblk_below hHeld.2.2.2.1 hb, rblk_below hHeld.2.2.2.2 hb⟩ (fun hH => ?_)
      replace hHeld := hH
      clear hK K hH
      replace os := os.below hb
      replace oa := oa.below hb
      replace ou := ou.below hb
      replace o1 := o1.below hb
      replace o2 := o2.below hb
      replace o3 := o3.below hb
      replace rb0 := rb0.below hb
      replace rb1 := rb1.below hb
      replace rb2 := rb2.below hb
      replace rL := rL.below hb
      replace rR := rR.below hb
      replace kb := bt kb hb
      clear hapz hcz
      clear hb
      try simp only [ps]
      refine rd1 (i := 6) (by kernel_rfl) rfl (fun K hK => ?_)
      go_simp
      (go_at_call 19; ((with_reducible refine (HSz.out _ _ _ _ _ _ _ oa.rds oz).mono ?_); rintro e Wr10_7 ⟨rfl, hb⟩))
      refine hK.out _ _ ⟨rblk_below hHeld.1 hb, rblk_below hHeld.2.1 hb, rblk_below hHeld.2.2.1 hb, rblk_below hHeld.2.2.2.1 hb, rblk_below hHeld.2.2.2.2 hb⟩ (fun hH => ?_)
      replace hHeld := hH
      clear hK K hH
      replace os := os.below hb
      replace oa := oa.below hb
      replace ou := ou.below hb
      replace o1 := o1.below hb
      replace o2 := o2.below hb
      replace o3 := o3.below hb
      replace rb0 := rb0.below hb
      replace rb1 := rb1.below hb
      replace rb2 := rb2.below hb
      replace rL := rL.below hb
      replace rR := rR.below hb
      replace kb := bt kb hb
      replace oz := oz.below hb
      clear hb
      try simp only [ps]
      refine tk (i := 7) (v := ?vg10_8) rfl (by kernel_rfl) (fun _ _ _ h => h) (Or.inl ⟨by rfl, ?hg10_8⟩) hHeld ?_
      case hg10_8 => (intro w hSw; (try dsimp only at hSw); go_simp; (try with_reducible rfl))
      try simp only [ps]
      refine tk (i := 8) (v := ?vg10_9) rfl (by kernel_rfl) (fun _ _ _ h => h) (Or.inl ⟨by rfl, ?hg10_9⟩) hHeld ?_
      case hg10_9 => (intro w hSw; (try dsimp only at hSw); go_simp; (try with_reducible rfl))
      try simp only [ps]
      refine tk (i := 9) (v := ?vg10_10) rfl (by kernel_rfl) (fun _ _ _ h => h) (Or.inl ⟨by rfl, ?hg10_10⟩) hHeld ?_
      case hg10_10 => (intro w hSw; (try dsimp only at hSw); go_simp; (try with_reducible rfl))
      try simp only [ps]
      refine tk (i := 10) (v := .pointer (some ⟨Gb, 0, none⟩)) rfl (by kernel_rfl) (fun _ _ _ h => h) (Or.inl ⟨by rfl, ?hg10_11⟩) hHeld ?_
      case hg10_11 => (intro w hSw; (try dsimp only at hSw); go_simp; (try rfl))
      try simp only [ps]
      refine tk (i := 11) (v := ?vg10_12) rfl (by kernel_rfl) (fun _ _ _ h => h) (Or.inl ⟨by rfl, ?hg10_12⟩) hHeld ?_
      case hg10_12 => (intro w hSw; (try dsimp only at hSw); have t0 := rblk_cell hSw.2.2.2.1 0; have t1 := rblk_cell hSw.2.2.2.1 1; have t2 := rblk_cell hSw.2.2.2.1 2; go_simp; (try with_reducible rfl))
      try simp only [ps]
      refine tk (i := 12) (v := ?vg10_13) rfl (by kernel_rfl) (fun _ _ _ h => h) (Or.inl ⟨by rfl, ?hg10_13⟩) hHeld ?_
      case hg10_13 => (intro w hSw; (try dsimp only at hSw); go_simp; (try with_reducible rfl))
      try simp only [ps]
      refine tk (i := 13) (v := .pointer (some ⟨Gb, 3, none⟩)) rfl (by kernel_rfl) (fun _ _ _ h => h) (Or.inl ⟨by rfl, ?hg10_14⟩) hHeld ?_
      case hg10_14 => (intro w hSw; (try dsimp only at hSw); go_simp; (try rfl))
      try simp only [ps]
      refine tk (i := 14) (v := ?vg10_15) rfl (by kernel_rfl) (fun _ _ _ h => h) (Or.inl ⟨by rfl, ?hg10_15⟩) hHeld ?_
      case hg10_15 => (intro w hSw; (try dsimp only at hSw); have t0 := rblk_cell hSw.2.2.2.1 3; have t1 := rblk_cell hSw.2.2.2.1 4; have t2 := rblk_cell hSw.2.2.2.1 5; go_simp; (try with_reducible rfl))
      try simp only [ps]
      refine tk (i := 15) (v := ?vg10_16) rfl (by kernel_rfl) (fun _ _ _ h => h) (Or.inl ⟨by rfl, ?hg10_16⟩) hHeld ?_
      case hg10_16 => (intro w hSw; (try dsimp only at hSw); go_simp; (try with_reducible rfl))
      try simp only [ps]
      refine tk (i := 16) (v := .pointer (some ⟨Gb, 6, none⟩)) rfl (by kernel_rfl) (fun _ _ _ h => h) (Or.inl ⟨by rfl, ?hg10_17⟩) hHeld ?_
      case hg10_17 => (intro w hSw; (try dsimp only at hSw); go_simp; (try rfl))
      try simp only [ps]
      refine tk (i := 17) (v := ?vg10_18) rfl (by kernel_rfl) (fun _ _ _ h => h) (Or.inl ⟨by rfl, ?hg10_18⟩) hHeld ?_
      case hg10_18 => (intro w hSw; (try dsimp only at hSw); have t0 := rblk_cell hSw.2.2.2.1 6; have t1 := rblk_cell hSw.2.2.2.1 7; have t2 := rblk_cell hSw.2.2.2.1 8; go_simp; (try with_reducible rfl))
      try simp only [ps]
      refine rd1 (i := 18) (by kernel_rfl) rfl (fun K hK => ?_)
      go_simp
      (go_at_call 21; ((with_reducible refine (HR1.out _ _ _ rb1 rb2).mono ?_); rintro e Wr10_19 ⟨y1, rfl, hx1, hy1, o18, hap1, hb⟩))
      refine hK.out _ _ ⟨rblk_below hHeld.1 hb, rblk_below hHeld.2.1 hb, rblk_below hHeld.2.2.1 hb, rblk_below hHeld.2.2.2.1 hb, rblk_below hHeld.2.2.2.2 hb⟩ (fun hH => ?_)
      replace hHeld := hH
      clear hK K hH
      replace os := os.below hb
      replace oa := oa.below hb
      replace ou := ou.below hb
      replace o1 := o1.below hb
      replace o2 := o2.below hb
      replace o3 := o3.below hb
      replace rb0 := rb0.below hb
      replace rb1 := rb1.below hb
      replace rb2 := rb2.below hb
      replace rL := rL.below hb
      replace rR := rR.below hb
      replace kb := bt kb hb
      replace oz := oz.below hb
      clear hap1 hx1 hy1
      clear hb
      try simp only [ps]
      refine rd1 (i := 19) (by kernel_rfl) rfl (fun K hK => ?_)
      go_simp
      (go_at_call 21; ((with_reducible refine (HR2.out _ _ _ rb0 o18.rds).mono ?_); rintro e Wr10_20 ⟨y2, rfl, hx2, hy2, o19, hap2, hb⟩))
      refine hK.out _ _ ⟨rblk_below hHeld.1 hb, rblk_below hHeld.2.1 hb, rblk_below hHeld.2.2.1 hb, rblk_below hHeld.2.2.2.1 hb, rblk_below hHeld.2.2.2.2 hb⟩ (fun hH => ?_)
      replace hHeld := hH
      clear hK K hH
      replace os := os.below hb
      replace oa := oa.below hb
      replace ou := ou.below hb
      replace o1 := o1.below hb
      replace o2 := o2.below hb
      replace o3 := o3.below hb
      replace rb0 := rb0.below hb
      replace rb1 := rb1.below hb
      replace rb2 := rb2.below hb
      replace rL := rL.below hb
      replace rR := rR.below hb
      replace kb := bt kb hb
      replace oz := oz.below hb
      replace o18 := o18.below hb
      clear hap2 hx2 hy2
      clear hb
      try simp only [ps]
      refine rd1 (i := 20) (by kernel_rfl) rfl (fun K hK => ?_)
      go_simp
      (go_at_call 22; ((with_reducible refine (rfiQ 1 _ (by decide)).mono ?_); rintro e Wr10_21 ⟨y3, rfl, hx3, hy3, o20, hap3, hb⟩))
      refine hK.out _ _ ⟨rblk_below hHeld.1 hb, rblk_below hHeld.2.1 hb, rblk_below hHeld.2.2.1 hb, rblk_below hHeld.2.2.2.1 hb, rblk_below hHeld.2.2.2.2 hb⟩ (fun hH => ?_)
      replace hHeld := hH
      clear hK K hH
      replace os := os.below hb
      replace oa := oa.below hb
      replace ou := ou.below hb
      replace o1 := o1.below hb
      replace o2 := o2.below hb
      replace o3 := o3.below hb
      replace rb0 := rb0.below hb
      replace rb1 := rb1.below hb
      replace rb2 := rb2.below hb
      replace rL := rL.below hb
      replace rR := rR.below hb
      replace kb := bt kb hb
      replace oz := oz.below hb
      replace o18 := o18.below hb
      replace o19 := o19.below hb
      clear hap3 hx3 hy3
      clear hb
      try simp only [ps]
      refine rd1 (i := 21) (by kernel_rfl) rfl (fun K hK => ?_)
      go_simp
      (go_at_call 20; ((with_reducible refine (HEq.out _ _ _ _ _ o19.rds o20).mono ?_); rintro e Wr10_22 ⟨rfl, hb⟩))
      refine hK.out _ _ ⟨rblk_below hHeld.1 hb, rblk_below hHeld.2.1 hb, rblk_below hHeld.2.2.1 hb, rblk_below hHeld.2.2.2.1 hb, rblk_below hHeld.2.2.2.2 hb⟩ (fun hH => ?_)
      replace hHeld := hH
      clear hK K hH
      replace os := os.below hb
      replace oa := oa.below hb
      replace ou := ou.below hb
      replace o1 := o1.below hb
      replace o2 := o2.below hb
      replace o3 := o3.below hb
      replace rb0 := rb0.below hb
      replace rb1 := rb1.below hb
      replace rb2 := rb2.below hb
      replace rL := rL.below hb
      replace rR := rR.below hb
      replace kb := bt kb hb
      replace oz := oz.below hb
      replace o18 := o18.below hb
      replace o19 := o19.below hb
      replace o20 := o20.below hb
      clear hb
      try simp only [ps]
      refine tk (i := 22) (v := ?vg10_23) rfl (by kernel_rfl) (fun _ _ _ h => h) (Or.inl ⟨by rfl, ?hg10_23⟩) hHeld ?_
      case hg10_23 => (intro w hSw; (try dsimp only at hSw); go_simp; (try with_reducible rfl))
      try simp only [ps]
      refine tk (i := 23) (v := ?vg10_24) rfl (by kernel_rfl) (fun _ _ _ h => h) (Or.inl ⟨by rfl, ?hg10_24⟩) hHeld ?_
      case hg10_24 => (intro w hSw; (try dsimp only at hSw); go_simp; (try with_reducible rfl))
      try simp only [ps]
      refine tk (i := 24) (v := ?vg10_25) rfl (by kernel_rfl) (fun _ _ _ h => h) (Or.inl ⟨by rfl, ?hg10_25⟩) hHeld ?_
      case hg10_25 => (intro w hSw; (try dsimp only at hSw); go_simp; (try with_reducible rfl))
      try simp only [ps]
      refine tk (i := 25) (v := ?vg10_26) rfl (by kernel_rfl) (fun _ _ _ h => h) (Or.inl ⟨by rfl, ?hg10_26⟩) hHeld ?_
      case hg10_26 => (intro w hSw; (try dsimp only at hSw); go_simp; (try with_reducible rfl))
      try simp only [ps]
      refine rd1 (i := 26) (by kernel_rfl) rfl (fun K hK => ?_)
      go_simp
      (go_at_call 24; ((with_reducible refine (HCe.out _ _ rL rR).mono ?_); rintro e Wr10_27 ⟨ya, yb, rfl, hc4, o26, hap4, hb⟩))
      refine hK.out _ _ ⟨rblk_below hHeld.1 hb, rblk_below hHeld.2.1 hb, rblk_below hHeld.2.2.1 hb, rblk_below hHeld.2.2.2.1 hb, rblk_below hHeld.2.2.2.2 hb⟩ (fun hH => ?_)
      replace hHeld := hH
      clear hK K hH
      replace os := os.below hb
      replace oa := oa.below hb
      replace ou := ou.below hb
      replace o1 := o1.below hb
      replace o2 := o2.below hb
      replace o3 := o3.below hb
      replace rb0 := rb0.below hb
      replace rb1 := rb1.below hb
      replace rb2 := rb2.below hb
      replace rL := rL.below hb
      replace rR := rR.below hb
      replace kb := bt kb hb
      replace oz := oz.below hb
      replace o18 := o18.below hb
      replace o19 := o19.below hb
      replace o20 := o20.below hb
      clear hap4 hc4
      clear hb
      try simp only [ps]
      refine rd1 (i := 27) (by kernel_rfl) rfl (fun K hK => ?_)
      go_simp
      (go_at_call 23; ((with_reducible refine (HS1.out _ _ _ _ rL rR o26.rds).mono ?_); rintro e Wr10_28 ⟨rfl, hb⟩))
      refine hK.out _ _ ⟨rblk_below hHeld.1 hb, rblk_below hHeld.2.1 hb, rblk_below hHeld.2.2.1 hb, rblk_below hHeld.2.2.2.1 hb, rblk_below hHeld.2.2.2.2 hb⟩ (fun hH => ?_)
      replace hHeld := hH
      clear hK K hH
      replace os := os.below hb
      replace oa := oa.below hb
      replace ou := ou.below hb
      replace o1 := o1.below hb
      replace o2 := o2.below hb
      replace o3 := o3.below hb
      replace rb0 := rb0.below hb
      replace rb1 := rb1.below hb
      replace rb2 := rb2.below hb
      replace rL := rL.below hb
      replace rR := rR.below hb
      replace kb := bt kb hb
      replace oz := oz.below hb
      replace o18 := o18.below hb
      replace o19 := o19.below hb
      replace o20 := o20.below hb
      replace o26 := o26.below hb
      clear hb
      try simp only [ps]
      refine tk (i := 28) (v := ?vg10_29) rfl (by kernel_rfl) (fun _ _ _ h => h) (Or.inl ⟨by rfl, ?hg10_29⟩) hHeld ?_
      case hg10_29 => (intro w hSw; (try dsimp only at hSw); go_simp; (try with_reducible rfl))
      try simp only [ps]
      refine tk (i := 29) (v := ?vg10_30) rfl (by kernel_rfl) (fun _ _ _ h => h) (Or.inl ⟨by rfl, ?hg10_30⟩) hHeld ?_
      case hg10_30 => (intro w hSw; (try dsimp only at hSw); go_simp; (try with_reducible rfl))
      try simp only [ps]
      refine tk (i := 30) (v := ?vg10_31) rfl (by kernel_rfl) (fun _ _ _ h => h) (Or.inl ⟨by rfl, ?hg10_31⟩) hHeld ?_
      case hg10_31 => (intro w hSw; (try dsimp only at hSw); go_simp; (try with_reducible rfl))
      try simp only [ps]
      refine tk (i := 31) (v := ?vg10_32) rfl (by kernel_rfl) (fun _ _ _ h => h) (Or.inl ⟨by rfl, ?hg10_32⟩) hHeld ?_
      case hg10_32 => (intro w hSw; (try dsimp only at hSw); go_simp; (try with_reducible rfl))
      try simp only [ps]
      refine tk (i := 32) (v := ?vg10_33) rfl (by kernel_rfl) (fun _ _ _ h => h) (Or.inl ⟨by rfl, ?hg10_33⟩) hHeld ?_
      case hg10_33 => (intro w hSw; (try dsimp only at hSw); go_simp; (try with_reducible rfl))
      try simp only [ps]
      refine tk (i := 33) (v := .pointer (some ⟨G, 0, none⟩)) rfl (by kernel_rfl) (fun _ _ _ h => h) (Or.inl ⟨by rfl, ?hg10_34⟩) hHeld ?_
      case hg10_34 => (intro w hSw; (try dsimp only at hSw); go_simp; (try rfl))
      try simp only [ps]
      refine tk (i := 34) (v := ?vg10_35) rfl (by kernel_rfl) (fun _ _ _ h => h) (Or.inl ⟨by rfl, ?hg10_35⟩) hHeld ?_
      case hg10_35 => (intro w hSw; (try dsimp only at hSw); have t0 := rblk_cell hSw.2.2.2.2 0; have t1 := rblk_cell hSw.2.2.2.2 1; have t2 := rblk_cell hSw.2.2.2.2 2; have t3 := rblk_cell hSw.2.2.2.2 3; have t4 := rblk_cell hSw.2.2.2.2 4; have t5 := rblk_cell hSw.2.2.2.2 5; go_simp; (try with_reducible rfl))
      try simp only [ps]
      refine tk (i := 35) (v := ?vg10_36) rfl (by kernel_rfl) (fun _ _ _ h => h) (Or.inl ⟨by rfl, ?hg10_36⟩) hHeld ?_
      case hg10_36 => (intro w hSw; (try dsimp only at hSw); go_simp; (try with_reducible rfl))
      try simp only [ps]
      refine tk (i := 36) (v := .pointer (some ⟨G, 6, none⟩)) rfl (by kernel_rfl) (fun _ _ _ h => h) (Or.inl ⟨by rfl, ?hg10_37⟩) hHeld ?_
      case hg10_37 => (intro w hSw; (try dsimp only at hSw); go_simp; (try rfl))
      try simp only [ps]
      refine tk (i := 37) (v := ?vg10_38) rfl (by kernel_rfl) (fun _ _ _ h => h) (Or.inl ⟨by rfl, ?hg10_38⟩) hHeld ?_
      case hg10_38 => (intro w hSw; (try dsimp only at hSw); have t0 := rblk_cell hSw.2.2.2.2 6; have t1 := rblk_cell hSw.2.2.2.2 7; have t2 := rblk_cell hSw.2.2.2.2 8; have t3 := rblk_cell hSw.2.2.2.2 9; have t4 := rblk_cell hSw.2.2.2.2 10; have t5 := rblk_cell hSw.2.2.2.2 11; go_simp; (try with_reducible rfl))
      try simp only [ps]
      refine rd1 (i := 38) (by kernel_rfl) rfl (fun K hK => ?_)
      go_simp
      (go_at_call 25; ((with_reducible refine (HMi.out _ o1 o2).mono ?_); rintro e Wr10_39 ⟨yc, yd, rfl, hc5, o38, hap5, hb⟩))
      refine hK.out _ _ ⟨rblk_below hHeld.1 hb, rblk_below hHeld.2.1 hb, rblk_below hHeld.2.2.1 hb, rblk_below hHeld.2.2.2.1 hb, rblk_below hHeld.2.2.2.2 hb⟩ (fun hH => ?_)
      replace hHeld := hH
      clear hK K hH
      replace os := os.below hb
      replace oa := oa.below hb
      replace ou := ou.below hb
      replace o1 := o1.below hb
      replace o2 := o2.below hb
      replace o3 := o3.below hb
      replace rb0 := rb0.below hb
      replace rb1 := rb1.below hb
      replace rb2 := rb2.below hb
      replace rL := rL.below hb
      replace rR := rR.below hb
      replace kb := bt kb hb
      replace oz := oz.below hb
      replace o18 := o18.below hb
      replace o19 := o19.below hb
      replace o20 := o20.below hb
      replace o26 := o26.below hb
      clear hap5 hc5
      clear hb
      try simp only [ps]
      refine rd1 (i := 39) (by kernel_rfl) rfl (fun K hK => ?_)
      go_simp
      (go_at_call 23; ((with_reducible refine (HS2.out _ _ _ _ rL rR o38.rds).mono ?_); rintro e Wr10_40 ⟨rfl, hb⟩))
      refine hK.out _ _ ⟨rblk_below hHeld.1 hb, rblk_below hHeld.2.1 hb, rblk_below hHeld.2.2.1 hb, rblk_below hHeld.2.2.2.1 hb, rblk_below hHeld.2.2.2.2 hb⟩ (fun hH => ?_)
      replace hHeld := hH
      clear hK K hH
      replace os := os.below hb
      replace oa := oa.below hb
      replace ou := ou.below hb
      replace o1 := o1.below hb
      replace o2 := o2.below hb
      replace o3 := o3.below hb
      replace rb0 := rb0.below hb
      replace rb1 := rb1.below hb
      replace rb2 := rb2.below hb
      replace rL := rL.below hb
      replace rR := rR.below hb
      replace kb := bt kb hb
      replace oz := oz.below hb
      replace o18 := o18.below hb
      replace o19 := o19.below hb
      replace o20 := o20.below hb
      replace o26 := o26.below hb
      replace o38 := o38.below hb
      clear hb
      try simp only [ps]
      refine tk (i := 40) (v := ?vg10_41) rfl (by kernel_rfl) (fun _ _ _ h => h) (Or.inl ⟨by rfl, ?hg10_41⟩) hHeld ?_
      case hg10_41 => (intro w hSw; (try dsimp only at hSw); go_simp; (try with_reducible rfl))
      try simp only [ps]
      refine tk (i := 41) (v := ?vg10_42) rfl (by kernel_rfl) (fun _ _ _ h => h) (Or.inl ⟨by rfl, ?hg10_42⟩) hHeld ?_
      case hg10_42 => (intro w hSw; (try dsimp only at hSw); go_simp; (try with_reducible rfl))
      try simp only [ps]
      refine tk (i := 42) (v := ?vg10_43) rfl (by kernel_rfl) (fun _ _ _ h => h) (Or.inl ⟨by rfl, ?hg10_43⟩) hHeld ?_
      case hg10_43 => (intro w hSw; (try dsimp only at hSw); go_simp; (try with_reducible rfl))
      try simp only [ps]
      refine tk (i := 43) (v := ?vg10_44) rfl (by kernel_rfl) (fun _ _ _ h => h) (Or.inl ⟨by rfl, ?hg10_44⟩) hHeld ?_
      case hg10_44 => (intro w hSw; (try dsimp only at hSw); go_simp; (try with_reducible rfl))
      try simp only [ps]
      refine tk (i := 44) (v := ?vg10_45) rfl (by kernel_rfl) (fun _ _ _ h => h) (Or.inl ⟨by rfl, ?hg10_45⟩) hHeld ?_
      case hg10_45 => (intro w hSw; (try dsimp only at hSw); go_simp; (try with_reducible rfl))
      try simp only [ps]
      refine tk (i := 45) (v := .pointer (some ⟨G, 12, none⟩)) rfl (by kernel_rfl) (fun _ _ _ h => h) (Or.inl ⟨by rfl, ?hg10_46⟩) hHeld ?_
      case hg10_46 => (intro w hSw; (try dsimp only at hSw); go_simp; (try rfl))
      try simp only [ps]
      refine tk (i := 46) (v := ?vg10_47) rfl (by kernel_rfl) (fun _ _ _ h => h) (Or.inl ⟨by rfl, ?hg10_47⟩) hHeld ?_
      case hg10_47 => (intro w hSw; (try dsimp only at hSw); have t0 := rblk_cell hSw.2.2.2.2 12; have t1 := rblk_cell hSw.2.2.2.2 13; have t2 := rblk_cell hSw.2.2.2.2 14; have t3 := rblk_cell hSw.2.2.2.2 15; have t4 := rblk_cell hSw.2.2.2.2 16; have t5 := rblk_cell hSw.2.2.2.2 17; go_simp; (try with_reducible rfl))
      try simp only [ps]
      refine rd1 (i := 47) (by kernel_rfl) rfl (fun K hK => ?_)
      go_simp
      (go_at_call 23; ((with_reducible refine (HS3.out _ _ rL rR o3).mono ?_); rintro e Wr10_48 ⟨rfl, hb⟩))
      refine hK.out _ _ ⟨rblk_below hHeld.1 hb, rblk_below hHeld.2.1 hb, rblk_below hHeld.2.2.1 hb, rblk_below hHeld.2.2.2.1 hb, rblk_below hHeld.2.2.2.2 hb⟩ (fun hH => ?_)
      replace hHeld := hH
      clear hK K hH
      replace os := os.below hb
      replace oa := oa.below hb
      replace ou := ou.below hb
      replace o1 := o1.below hb
      replace o2 := o2.below hb
      replace o3 := o3.below hb
      replace rb0 := rb0.below hb
      replace rb1 := rb1.below hb
      replace rb2 := rb2.below hb
      replace rL := rL.below hb
      replace rR := rR.below hb
      replace kb := bt kb hb
      replace oz := oz.below hb
      replace o18 := o18.below hb
      replace o19 := o19.below hb
      replace o20 := o20.below hb
      replace o26 := o26.below hb
      replace o38 := o38.below hb
      clear hb
      try simp only [ps]
      refine tk (i := 48) (v := ?vg10_49) rfl (by kernel_rfl) (fun _ _ _ h => h) (Or.inl ⟨by rfl, ?hg10_49⟩) hHeld ?_
      case hg10_49 => (intro w hSw; (try dsimp only at hSw); go_simp; (try with_reducible rfl))
      try simp only [ps]
      refine tk (i := 49) (v := ?vg10_50) rfl (by kernel_rfl) (fun _ _ _ h => h) (Or.inl ⟨by rfl, ?hg10_50⟩) hHeld ?_
      case hg10_50 => (intro w hSw; (try dsimp only at hSw); go_simp; (try with_reducible rfl))
      try simp only [ps]
      refine tk (i := 50) (v := ?vg10_51) rfl (by kernel_rfl) (fun _ _ _ h => h) (Or.inl ⟨by rfl, ?hg10_51⟩) hHeld ?_
      case hg10_51 => (intro w hSw; (try dsimp only at hSw); go_simp; (try with_reducible rfl))
      try simp only [ps]
      refine wpAnyH_done (by kernel_rfl) ?_ _
      have HR := Lib.hid kb
      clear hHeld kb os oa ou o1 o2 o3 rb0 rb1 rb2 rL rR oz o18 o19 o20 o26 o38
      go_wp2
      go_ret
      exact ⟨rfl, HR.out⟩
end Go.Proofs.YtppdholccpgcpaaGreat
