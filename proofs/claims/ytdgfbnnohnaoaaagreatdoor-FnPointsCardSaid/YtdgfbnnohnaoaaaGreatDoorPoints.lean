/-
  The walk of the law of points.
-/
import Derived.Test.YtdgfbnnohnaoaaaGreatDoorPoM
namespace Go.Proofs.YtdgfbnnohnaoaaaGreatDoor
open Go.ChangeShapes Go.WideShapes Go.ChangeAt Go.RowKit
open Go.ChangeMaps (open_string shut_string)
set_option linter.unusedVariables false
set_option linter.unusedSimpArgs false
set_option maxRecDepth 4000

theorem rfiQ (x : Int) (W : World) (h : -9223372036854775808 ≤ x ∧ x ≤ 9223372036854775807) : Calls Tryz.prog 16 #[.int .i64 x] W (MadeQ W.heap.size (rfi x) W) := (impl_rfi x W h).mono fun e w' k => MadeR.toQ (x := rfi x) k
set_option maxHeartbeats 4000000 in
theorem law_points (A : Option Addr) (n c0 : Nat) (w : World) (mx : Int) (hn : n ≤ 9223372036854775807) (hA : RdB w A n w.heap.size) (htab : Lib.TabIs Tryz.prog w "internal/strconv.uint64pow10" .u64 Lib.pow10Tab) (hmx : w.cell? ⟨0, 0, none⟩ = some (.int .i64 mx)) :
    Calls Tryz.prog 3 #[.slice A n c0] w fun e w' => e = .returned (.bool true) ∧ Below w.heap.size w w' := by
  by_cases hg : (1048576 : Int) < (n : Int)
  · go_enter Tryz.func3, Tryz.ntmps3
    go_wp2
    go_ret
    exact ⟨rfl, Below.refl _ _⟩
  have hn2 : n ≤ 1048576 := by omega
  have HM0 := Lib.hid (fun k y W hy hk h => makePt_any k y hy A n c0 W hk hn2 h)
  have HA0 : Hid (∀ W, Below w.heap.size w W → RdB W A n W.heap.size) := Lib.hid (fun W hb => hA.belowB hb)
  have HT := Lib.hid htab
  have HX := Lib.hid hmx
  clear hA htab hmx
  unfold PtPost at HM0
  go_enter Tryz.func3, Tryz.ntmps3
  go_wp2_with fail
  have kb := Below.refl w.heap.size w
  refine (HM0.out 0 _ _ rfl (by omega) (HA0.out _ kb)).mono ?_
  rintro e' U0 ⟨⟨px, py, a, b, hdp, rfl, hcp, op⟩, hb⟩
  replace kb := bt kb hb
  clear hb
  clear hcp
  have P_p := heap_alloc_new U0 (.cells #[.bool px.p, .slice a.A px.l.length a.c, .slice a.D px.m.length a.d, .bool py.p, .slice b.A py.l.length b.c, .slice b.D py.m.length b.d] 29)
  have hb := ba1 U0 (.cells #[.bool px.p, .slice a.A px.l.length a.c, .slice a.D px.m.length a.d, .bool py.p, .slice b.A py.l.length b.c, .slice b.D py.m.length b.d] 29)
  replace op := op.below hb
  replace kb := bt kb hb
  clear hb
  go_wp2_with fail
  generalize U0.alloc (.cells #[.bool px.p, .slice a.A px.l.length a.c, .slice a.D px.m.length a.d, .bool py.p, .slice b.A py.l.length b.c, .slice b.D py.m.length b.d] 29) = V1 at kb P_p op ⊢
  generalize U0.heap.size = g_p at P_p ⊢
  refine (HM0.out 1 _ _ rfl (by omega) (HA0.out _ kb)).mono ?_
  rintro e' U1 ⟨⟨qx, qy, c, d, hdq, rfl, hcq, oq⟩, hb⟩
  replace P_p := rblk_below P_p hb
  replace op := op.below hb
  replace kb := bt kb hb
  clear hb
  clear hcq
  have P_q := heap_alloc_new U1 (.cells #[.bool qx.p, .slice c.A qx.l.length c.c, .slice c.D qx.m.length c.d, .bool qy.p, .slice d.A qy.l.length d.c, .slice d.D qy.m.length d.d] 29)
  have hb := ba1 U1 (.cells #[.bool qx.p, .slice c.A qx.l.length c.c, .slice c.D qx.m.length c.d, .bool qy.p, .slice d.A qy.l.length d.c, .slice d.D qy.m.length d.d] 29)
  replace P_p := rblk_below P_p hb
  replace op := op.below hb
  replace oq := oq.below hb
  replace kb := bt kb hb
  clear hb
  go_wp2_with fail
  generalize U1.alloc (.cells #[.bool qx.p, .slice c.A qx.l.length c.c, .slice c.D qx.m.length c.d, .bool qy.p, .slice d.A qy.l.length d.c, .slice d.D qy.m.length d.d] 29) = V2 at kb P_p P_q op oq ⊢
  generalize U1.heap.size = g_q at P_q ⊢
  refine (HM0.out 2 _ _ rfl (by omega) (HA0.out _ kb)).mono ?_
  rintro e' U2 ⟨⟨rx, ry, e, g, hdr, rfl, hcr, orr⟩, hb⟩
  replace P_p := rblk_below P_p hb
  replace P_q := rblk_below P_q hb
  replace op := op.below hb
  replace oq := oq.below hb
  replace kb := bt kb hb
  clear hb
  clear hcr
  obtain ⟨T, D, N, MX, MY, SX, SY, I, Z, b0, b1, b2, b3, b4, b5, b6, b7, b8, b9, b10, b11, b12, b13, b14, b15, b16, b17, b18, b19⟩ := all_points px py qx qy rx ry hdp.1 hdp.2 hdq.1 hdq.2 hdr.1 hdr.2
  have HF := Lib.hid (fun a b W h t => b0 a b W h t)
  have HP := Lib.hid (fun mx W h => b1 mx W h)
  have HD1 := Lib.hid (fun a b c d e g W h h' k => b2 a b c d e g W h h' k)
  have HD2 := Lib.hid (fun a b c d e g W h h' k => b3 a b c d e g W h h' k)
  have HD3 := Lib.hid (fun a b c d e g W h h' k => b4 a b c d e g W h h' k)
  have HN := Lib.hid (fun a W h => b5 a W h)
  have HM := Lib.hid (fun a b c d W h h' => b6 a b c d W h h')
  have HD4 := Lib.hid (fun a b c d e g W h h' k => b7 a b c d e g W h h' k)
  have HZ := Lib.hid (fun a W h => b8 a W h)
  have HA := Lib.hid (fun a b c d W h h' => b9 a b c d W h h')
  have HB := Lib.hid (fun c d e g W h h' => b10 c d e g W h h')
  have HS := Lib.hid (fun a e g W h h' => b11 a e g W h h')
  have HI1 := Lib.hid (fun a b c d W h h' => b12 a b c d W h h')
  have HI2 := Lib.hid (fun a b c d W h h' => b13 a b c d W h h')
  have HC := Lib.hid (fun a b W h => b14 a b W h)
  have ED := Lib.hid (fun a b lo hi W h h' => b15 a b lo hi W h h')
  have EN := Lib.hid (fun a b lo hi W h h' => b16 a b lo hi W h h')
  have EI := Lib.hid (fun a b lo hi W h h' => b17 a b lo hi W h h')
  have SP := Lib.hid (fun a b c d lo hi W h h' => b18 a b c d lo hi W h h')
  have SS := Lib.hid (fun a b c d lo hi W h h' => b19 a b c d lo hi W h h')
  unfold MadeP at HM HA HB HS
  unfold MadeQ at HD1 HD2 HD3 HN HD4 HI1 HI2 HC
  unfold PairP at HP
  clear hdp hdq hdr HM0 HA0 b0 b1 b2 b3 b4 b5 b6 b7 b8 b9 b10 b11 b12 b13 b14 b15 b16 b17 b18 b19
  have P_r := heap_alloc_new U2 (.cells #[.bool rx.p, .slice e.A rx.l.length e.c, .slice e.D rx.m.length e.d, .bool ry.p, .slice g.A ry.l.length g.c, .slice g.D ry.m.length g.d] 29)
  have hb := ba1 U2 (.cells #[.bool rx.p, .slice e.A rx.l.length e.c, .slice e.D rx.m.length e.d, .bool ry.p, .slice g.A ry.l.length g.c, .slice g.D ry.m.length g.d] 29)
  replace P_p := rblk_below P_p hb
  replace P_q := rblk_below P_q hb
  replace op := op.below hb
  replace oq := oq.below hb
  replace orr := orr.below hb
  replace kb := bt kb hb
  clear hb
  have t0 : (U2.alloc (.cells #[.bool rx.p, .slice e.A rx.l.length e.c, .slice e.D rx.m.length e.d, .bool ry.p, .slice g.A ry.l.length g.c, .slice g.D ry.m.length g.d] 29)).cell? ⟨g_p, 0, none⟩ = some (.bool px.p) := rblk_cell P_p 0
  have t1 : (U2.alloc (.cells #[.bool rx.p, .slice e.A rx.l.length e.c, .slice e.D rx.m.length e.d, .bool ry.p, .slice g.A ry.l.length g.c, .slice g.D ry.m.length g.d] 29)).cell? ⟨g_p, 1, none⟩ = some (.slice a.A px.l.length a.c) := rblk_cell P_p 1
  have t2 : (U2.alloc (.cells #[.bool rx.p, .slice e.A rx.l.length e.c, .slice e.D rx.m.length e.d, .bool ry.p, .slice g.A ry.l.length g.c, .slice g.D ry.m.length g.d] 29)).cell? ⟨g_p, 2, none⟩ = some (.slice a.D px.m.length a.d) := rblk_cell P_p 2
  have t3 : (U2.alloc (.cells #[.bool rx.p, .slice e.A rx.l.length e.c, .slice e.D rx.m.length e.d, .bool ry.p, .slice g.A ry.l.length g.c, .slice g.D ry.m.length g.d] 29)).cell? ⟨g_p, 3, none⟩ = some (.bool py.p) := rblk_cell P_p 3
  have t4 : (U2.alloc (.cells #[.bool rx.p, .slice e.A rx.l.length e.c, .slice e.D rx.m.length e.d, .bool ry.p, .slice g.A ry.l.length g.c, .slice g.D ry.m.length g.d] 29)).cell? ⟨g_p, 4, none⟩ = some (.slice b.A py.l.length b.c) := rblk_cell P_p 4
  have t5 : (U2.alloc (.cells #[.bool rx.p, .slice e.A rx.l.length e.c, .slice e.D rx.m.length e.d, .bool ry.p, .slice g.A ry.l.length g.c, .slice g.D ry.m.length g.d] 29)).cell? ⟨g_p, 5, none⟩ = some (.slice b.D py.m.length b.d) := rblk_cell P_p 5
  go_wp2_with fail
  clear t0 t1 t2 t3 t4 t5
  generalize U2.alloc (.cells #[.bool rx.p, .slice e.A rx.l.length e.c, .slice e.D rx.m.length e.d, .bool ry.p, .slice g.A ry.l.length g.c, .slice g.D ry.m.length g.d] 29) = V3 at kb P_p P_q P_r op oq orr ⊢
  generalize U2.heap.size = g_r at P_r ⊢
  refine (HF.out _ _ _ op.rds (tab_below kb HT.out)).mono ?_
  rintro e' W1 ⟨rfl, hb⟩
  replace P_p := rblk_below P_p hb
  replace P_q := rblk_below P_q hb
  replace P_r := rblk_below P_r hb
  replace op := op.below hb
  replace oq := oq.below hb
  replace orr := orr.below hb
  replace kb := bt kb hb
  clear hb
  go_wp2_with fail
  refine (HP.out _ _ (cell_kept HX.out kb)).mono ?_
  rintro e' W2 ⟨a1, b1, rfl, hc1, ox, hap1, hb⟩
  replace P_p := rblk_below P_p hb
  replace P_q := rblk_below P_q hb
  replace P_r := rblk_below P_r hb
  replace op := op.below hb
  replace oq := oq.below hb
  replace orr := orr.below hb
  replace kb := bt kb hb
  clear hb
  clear hc1 hap1
  have P_x := heap_alloc_new W2 (.cells #[.bool px.p, .slice a1.A px.l.length a1.c, .slice a1.D px.m.length a1.d, .bool py.p, .slice b1.A py.l.length b1.c, .slice b1.D py.m.length b1.d] 29)
  have hb := ba1 W2 (.cells #[.bool px.p, .slice a1.A px.l.length a1.c, .slice a1.D px.m.length a1.d, .bool py.p, .slice b1.A py.l.length b1.c, .slice b1.D py.m.length b1.d] 29)
  replace P_p := rblk_below P_p hb
  replace P_q := rblk_below P_q hb
  replace P_r := rblk_below P_r hb
  replace op := op.below hb
  replace oq := oq.below hb
  replace orr := orr.below hb
  replace ox := ox.below hb
  replace kb := bt kb hb
  clear hb
  have t0 : (W2.alloc (.cells #[.bool px.p, .slice a1.A px.l.length a1.c, .slice a1.D px.m.length a1.d, .bool py.p, .slice b1.A py.l.length b1.c, .slice b1.D py.m.length b1.d] 29)).cell? ⟨g_p, 0, none⟩ = some (.bool px.p) := rblk_cell P_p 0
  have t1 : (W2.alloc (.cells #[.bool px.p, .slice a1.A px.l.length a1.c, .slice a1.D px.m.length a1.d, .bool py.p, .slice b1.A py.l.length b1.c, .slice b1.D py.m.length b1.d] 29)).cell? ⟨g_p, 1, none⟩ = some (.slice a.A px.l.length a.c) := rblk_cell P_p 1
  have t2 : (W2.alloc (.cells #[.bool px.p, .slice a1.A px.l.length a1.c, .slice a1.D px.m.length a1.d, .bool py.p, .slice b1.A py.l.length b1.c, .slice b1.D py.m.length b1.d] 29)).cell? ⟨g_p, 2, none⟩ = some (.slice a.D px.m.length a.d) := rblk_cell P_p 2
  have t3 : (W2.alloc (.cells #[.bool px.p, .slice a1.A px.l.length a1.c, .slice a1.D px.m.length a1.d, .bool py.p, .slice b1.A py.l.length b1.c, .slice b1.D py.m.length b1.d] 29)).cell? ⟨g_p, 3, none⟩ = some (.bool py.p) := rblk_cell P_p 3
  have t4 : (W2.alloc (.cells #[.bool px.p, .slice a1.A px.l.length a1.c, .slice a1.D px.m.length a1.d, .bool py.p, .slice b1.A py.l.length b1.c, .slice b1.D py.m.length b1.d] 29)).cell? ⟨g_p, 4, none⟩ = some (.slice b.A py.l.length b.c) := rblk_cell P_p 4
  have t5 : (W2.alloc (.cells #[.bool px.p, .slice a1.A px.l.length a1.c, .slice a1.D px.m.length a1.d, .bool py.p, .slice b1.A py.l.length b1.c, .slice b1.D py.m.length b1.d] 29)).cell? ⟨g_p, 5, none⟩ = some (.slice b.D py.m.length b.d) := rblk_cell P_p 5
  have t6 : (W2.alloc (.cells #[.bool px.p, .slice a1.A px.l.length a1.c, .slice a1.D px.m.length a1.d, .bool py.p, .slice b1.A py.l.length b1.c, .slice b1.D py.m.length b1.d] 29)).cell? ⟨g_q, 0, none⟩ = some (.bool qx.p) := rblk_cell P_q 0
  have t7 : (W2.alloc (.cells #[.bool px.p, .slice a1.A px.l.length a1.c, .slice a1.D px.m.length a1.d, .bool py.p, .slice b1.A py.l.length b1.c, .slice b1.D py.m.length b1.d] 29)).cell? ⟨g_q, 1, none⟩ = some (.slice c.A qx.l.length c.c) := rblk_cell P_q 1
  have t8 : (W2.alloc (.cells #[.bool px.p, .slice a1.A px.l.length a1.c, .slice a1.D px.m.length a1.d, .bool py.p, .slice b1.A py.l.length b1.c, .slice b1.D py.m.length b1.d] 29)).cell? ⟨g_q, 2, none⟩ = some (.slice c.D qx.m.length c.d) := rblk_cell P_q 2
  have t9 : (W2.alloc (.cells #[.bool px.p, .slice a1.A px.l.length a1.c, .slice a1.D px.m.length a1.d, .bool py.p, .slice b1.A py.l.length b1.c, .slice b1.D py.m.length b1.d] 29)).cell? ⟨g_q, 3, none⟩ = some (.bool qy.p) := rblk_cell P_q 3
  have t10 : (W2.alloc (.cells #[.bool px.p, .slice a1.A px.l.length a1.c, .slice a1.D px.m.length a1.d, .bool py.p, .slice b1.A py.l.length b1.c, .slice b1.D py.m.length b1.d] 29)).cell? ⟨g_q, 4, none⟩ = some (.slice d.A qy.l.length d.c) := rblk_cell P_q 4
  have t11 : (W2.alloc (.cells #[.bool px.p, .slice a1.A px.l.length a1.c, .slice a1.D px.m.length a1.d, .bool py.p, .slice b1.A py.l.length b1.c, .slice b1.D py.m.length b1.d] 29)).cell? ⟨g_q, 5, none⟩ = some (.slice d.D qy.m.length d.d) := rblk_cell P_q 5
  have t12 : (W2.alloc (.cells #[.bool px.p, .slice a1.A px.l.length a1.c, .slice a1.D px.m.length a1.d, .bool py.p, .slice b1.A py.l.length b1.c, .slice b1.D py.m.length b1.d] 29)).cell? ⟨g_r, 0, none⟩ = some (.bool rx.p) := rblk_cell P_r 0
  have t13 : (W2.alloc (.cells #[.bool px.p, .slice a1.A px.l.length a1.c, .slice a1.D px.m.length a1.d, .bool py.p, .slice b1.A py.l.length b1.c, .slice b1.D py.m.length b1.d] 29)).cell? ⟨g_r, 1, none⟩ = some (.slice e.A rx.l.length e.c) := rblk_cell P_r 1
  have t14 : (W2.alloc (.cells #[.bool px.p, .slice a1.A px.l.length a1.c, .slice a1.D px.m.length a1.d, .bool py.p, .slice b1.A py.l.length b1.c, .slice b1.D py.m.length b1.d] 29)).cell? ⟨g_r, 2, none⟩ = some (.slice e.D rx.m.length e.d) := rblk_cell P_r 2
  have t15 : (W2.alloc (.cells #[.bool px.p, .slice a1.A px.l.length a1.c, .slice a1.D px.m.length a1.d, .bool py.p, .slice b1.A py.l.length b1.c, .slice b1.D py.m.length b1.d] 29)).cell? ⟨g_r, 3, none⟩ = some (.bool ry.p) := rblk_cell P_r 3
  have t16 : (W2.alloc (.cells #[.bool px.p, .slice a1.A px.l.length a1.c, .slice a1.D px.m.length a1.d, .bool py.p, .slice b1.A py.l.length b1.c, .slice b1.D py.m.length b1.d] 29)).cell? ⟨g_r, 4, none⟩ = some (.slice g.A ry.l.length g.c) := rblk_cell P_r 4
  have t17 : (W2.alloc (.cells #[.bool px.p, .slice a1.A px.l.length a1.c, .slice a1.D px.m.length a1.d, .bool py.p, .slice b1.A py.l.length b1.c, .slice b1.D py.m.length b1.d] 29)).cell? ⟨g_r, 5, none⟩ = some (.slice g.D ry.m.length g.d) := rblk_cell P_r 5
  go_wp2_with fail
  clear t0 t1 t2 t3 t4 t5 t6 t7 t8 t9 t10 t11 t12 t13 t14 t15 t16 t17
  generalize W2.alloc (.cells #[.bool px.p, .slice a1.A px.l.length a1.c, .slice a1.D px.m.length a1.d, .bool py.p, .slice b1.A py.l.length b1.c, .slice b1.D py.m.length b1.d] 29) = V4 at kb P_p P_q P_r P_x op oq orr ox ⊢
  generalize W2.heap.size = g_x at P_x ⊢
  refine (HD1.out _ _ _ _ _ _ _ op.rds oq.rds orr.rds).mono ?_
  rintro e' W3 ⟨a2, rfl, hx2, hy2, od, hap2, hb⟩
  replace P_p := rblk_below P_p hb
  replace P_q := rblk_below P_q hb
  replace P_r := rblk_below P_r hb
  replace P_x := rblk_below P_x hb
  replace op := op.below hb
  replace oq := oq.below hb
  replace orr := orr.below hb
  replace ox := ox.below hb
  replace kb := bt kb hb
  clear hb
  clear hx2 hy2 hap2
  have P_d := heap_alloc_new W3 (.cells #[.bool D.p, .slice a2.A D.l.length a2.c, .slice a2.D D.m.length a2.d] 27)
  have hb := ba1 W3 (.cells #[.bool D.p, .slice a2.A D.l.length a2.c, .slice a2.D D.m.length a2.d] 27)
  replace P_p := rblk_below P_p hb
  replace P_q := rblk_below P_q hb
  replace P_r := rblk_below P_r hb
  replace P_x := rblk_below P_x hb
  replace op := op.below hb
  replace oq := oq.below hb
  replace orr := orr.below hb
  replace ox := ox.below hb
  replace od := od.below hb
  replace kb := bt kb hb
  clear hb
  have t0 : (W3.alloc (.cells #[.bool D.p, .slice a2.A D.l.length a2.c, .slice a2.D D.m.length a2.d] 27)).cell? ⟨g_p, 0, none⟩ = some (.bool px.p) := rblk_cell P_p 0
  have t1 : (W3.alloc (.cells #[.bool D.p, .slice a2.A D.l.length a2.c, .slice a2.D D.m.length a2.d] 27)).cell? ⟨g_p, 1, none⟩ = some (.slice a.A px.l.length a.c) := rblk_cell P_p 1
  have t2 : (W3.alloc (.cells #[.bool D.p, .slice a2.A D.l.length a2.c, .slice a2.D D.m.length a2.d] 27)).cell? ⟨g_p, 2, none⟩ = some (.slice a.D px.m.length a.d) := rblk_cell P_p 2
  have t3 : (W3.alloc (.cells #[.bool D.p, .slice a2.A D.l.length a2.c, .slice a2.D D.m.length a2.d] 27)).cell? ⟨g_p, 3, none⟩ = some (.bool py.p) := rblk_cell P_p 3
  have t4 : (W3.alloc (.cells #[.bool D.p, .slice a2.A D.l.length a2.c, .slice a2.D D.m.length a2.d] 27)).cell? ⟨g_p, 4, none⟩ = some (.slice b.A py.l.length b.c) := rblk_cell P_p 4
  have t5 : (W3.alloc (.cells #[.bool D.p, .slice a2.A D.l.length a2.c, .slice a2.D D.m.length a2.d] 27)).cell? ⟨g_p, 5, none⟩ = some (.slice b.D py.m.length b.d) := rblk_cell P_p 5
  have t6 : (W3.alloc (.cells #[.bool D.p, .slice a2.A D.l.length a2.c, .slice a2.D D.m.length a2.d] 27)).cell? ⟨g_q, 0, none⟩ = some (.bool qx.p) := rblk_cell P_q 0
  have t7 : (W3.alloc (.cells #[.bool D.p, .slice a2.A D.l.length a2.c, .slice a2.D D.m.length a2.d] 27)).cell? ⟨g_q, 1, none⟩ = some (.slice c.A qx.l.length c.c) := rblk_cell P_q 1
  have t8 : (W3.alloc (.cells #[.bool D.p, .slice a2.A D.l.length a2.c, .slice a2.D D.m.length a2.d] 27)).cell? ⟨g_q, 2, none⟩ = some (.slice c.D qx.m.length c.d) := rblk_cell P_q 2
  have t9 : (W3.alloc (.cells #[.bool D.p, .slice a2.A D.l.length a2.c, .slice a2.D D.m.length a2.d] 27)).cell? ⟨g_q, 3, none⟩ = some (.bool qy.p) := rblk_cell P_q 3
  have t10 : (W3.alloc (.cells #[.bool D.p, .slice a2.A D.l.length a2.c, .slice a2.D D.m.length a2.d] 27)).cell? ⟨g_q, 4, none⟩ = some (.slice d.A qy.l.length d.c) := rblk_cell P_q 4
  have t11 : (W3.alloc (.cells #[.bool D.p, .slice a2.A D.l.length a2.c, .slice a2.D D.m.length a2.d] 27)).cell? ⟨g_q, 5, none⟩ = some (.slice d.D qy.m.length d.d) := rblk_cell P_q 5
  go_wp2_with fail
  clear t0 t1 t2 t3 t4 t5 t6 t7 t8 t9 t10 t11
  generalize W3.alloc (.cells #[.bool D.p, .slice a2.A D.l.length a2.c, .slice a2.D D.m.length a2.d] 27) = V5 at kb P_p P_q P_r P_x P_d op oq orr ox od ⊢
  generalize W3.heap.size = g_d at P_d ⊢
  refine (HM.out _ _ _ _ _ op.rds oq.rds).mono ?_
  rintro e' W4 ⟨a3, b3, rfl, hc3, om, hap3, hb⟩
  replace P_p := rblk_below P_p hb
  replace P_q := rblk_below P_q hb
  replace P_r := rblk_below P_r hb
  replace P_x := rblk_below P_x hb
  replace P_d := rblk_below P_d hb
  replace op := op.below hb
  replace oq := oq.below hb
  replace orr := orr.below hb
  replace ox := ox.below hb
  replace od := od.below hb
  replace kb := bt kb hb
  clear hb
  clear hc3 hap3
  have P_m := heap_alloc_new W4 (.cells #[.bool MX.p, .slice a3.A MX.l.length a3.c, .slice a3.D MX.m.length a3.d, .bool MY.p, .slice b3.A MY.l.length b3.c, .slice b3.D MY.m.length b3.d] 29)
  have hb := ba1 W4 (.cells #[.bool MX.p, .slice a3.A MX.l.length a3.c, .slice a3.D MX.m.length a3.d, .bool MY.p, .slice b3.A MY.l.length b3.c, .slice b3.D MY.m.length b3.d] 29)
  replace P_p := rblk_below P_p hb
  replace P_q := rblk_below P_q hb
  replace P_r := rblk_below P_r hb
  replace P_x := rblk_below P_x hb
  replace P_d := rblk_below P_d hb
  replace op := op.below hb
  replace oq := oq.below hb
  replace orr := orr.below hb
  replace ox := ox.below hb
  replace od := od.below hb
  replace om := om.below hb
  replace kb := bt kb hb
  clear hb
  go_wp2_with fail
  generalize W4.alloc (.cells #[.bool MX.p, .slice a3.A MX.l.length a3.c, .slice a3.D MX.m.length a3.d, .bool MY.p, .slice b3.A MY.l.length b3.c, .slice b3.D MY.m.length b3.d] 29) = V6 at kb P_p P_q P_r P_x P_d P_m op oq orr ox od om ⊢
  generalize W4.heap.size = g_m at P_m ⊢
  have hb : Below V6.heap.size V6 V6.drew := (Below.refl _ _).drew
  replace op := op.below hb
  replace oq := oq.below hb
  replace orr := orr.below hb
  replace ox := ox.below hb
  replace od := od.below hb
  replace om := om.below hb
  replace kb := bt kb hb
  clear hb
  refine wp_region_held_drew (S := fun w' => w'.heap[g_p]? = some (.cells #[.bool px.p, .slice a.A px.l.length a.c, .slice a.D px.m.length a.d, .bool py.p, .slice b.A py.l.length b.c, .slice b.D py.m.length b.d] 29 (0, 0)) ∧ w'.heap[g_q]? = some (.cells #[.bool qx.p, .slice c.A qx.l.length c.c, .slice c.D qx.m.length c.d, .bool qy.p, .slice d.A qy.l.length d.c, .slice d.D qy.m.length d.d] 29 (0, 0)) ∧ w'.heap[g_r]? = some (.cells #[.bool rx.p, .slice e.A rx.l.length e.c, .slice e.D rx.m.length e.d, .bool ry.p, .slice g.A ry.l.length g.c, .slice g.D ry.m.length g.d] 29 (0, 0)) ∧ w'.heap[g_x]? = some (.cells #[.bool px.p, .slice a1.A px.l.length a1.c, .slice a1.D px.m.length a1.d, .bool py.p, .slice b1.A py.l.length b1.c, .slice b1.D py.m.length b1.d] 29 (0, 0)) ∧ w'.heap[g_d]? = some (.cells #[.bool D.p, .slice a2.A D.l.length a2.c, .slice a2.D D.m.length a2.d] 27 (0, 0)) ∧ w'.heap[g_m]? = some (.cells #[.bool MX.p, .slice a3.A MX.l.length a3.c, .slice a3.D MX.m.length a3.d, .bool MY.p, .slice b3.A MY.l.length b3.c, .slice b3.D MY.m.length b3.d] 29 (0, 0))) (by kernel_rfl) ⟨P_p, P_q, P_r, P_x, P_d, P_m⟩ (fun hHeld => ?_)
  clear P_p P_q P_r P_x P_d P_m
  generalize V6.drew = V0 at *
  refine tk (i := 0) (v := ?vg1_1) rfl (by kernel_rfl) (fun _ _ _ h => h) (Or.inl ⟨by rfl, ?hg1_1⟩) hHeld ?_
  case hg1_1 => (intro w hSw; (try dsimp only at hSw); go_simp; (try with_reducible rfl))
  try simp only [ps]
  refine tk (i := 1) (v := ?vg1_2) rfl (by kernel_rfl) (fun _ _ _ h => h) (Or.inl ⟨by rfl, ?hg1_2⟩) hHeld ?_
  case hg1_2 => (intro w hSw; (try dsimp only at hSw); go_simp; (try with_reducible rfl))
  try simp only [ps]
  refine tk (i := 2) (v := ?vg1_3) rfl (by kernel_rfl) (fun _ _ _ h => h) (Or.inl ⟨by rfl, ?hg1_3⟩) hHeld ?_
  case hg1_3 => (intro w hSw; (try dsimp only at hSw); have t0 := rblk_cell hSw.2.2.2.1 0; have t1 := rblk_cell hSw.2.2.2.1 1; have t2 := rblk_cell hSw.2.2.2.1 2; have t3 := rblk_cell hSw.2.2.2.1 3; have t4 := rblk_cell hSw.2.2.2.1 4; have t5 := rblk_cell hSw.2.2.2.1 5; go_simp; (try with_reducible rfl))
  try simp only [ps]
  refine tk (i := 3) (v := ?vg1_4) rfl (by kernel_rfl) (fun _ _ _ h => h) (Or.inl ⟨by rfl, ?hg1_4⟩) hHeld ?_
  case hg1_4 => (intro w hSw; (try dsimp only at hSw); have t0 := rblk_cell hSw.1 0; have t1 := rblk_cell hSw.1 1; have t2 := rblk_cell hSw.1 2; have t3 := rblk_cell hSw.1 3; have t4 := rblk_cell hSw.1 4; have t5 := rblk_cell hSw.1 5; go_simp; (try with_reducible rfl))
  try simp only [ps]
  refine rd1 (i := 4) (by kernel_rfl) rfl (fun K hK => ?_)
  go_simp
  (go_at_call 9; ((with_reducible refine (SP.out _ _ _ _ _ _ _ ox.rds op).mono ?_); rintro e Wr1_5 ⟨rfl, hb⟩))
  refine hK.out _ _ ⟨rblk_below hHeld.1 hb, rblk_below hHeld.2.1 hb, rblk_below hHeld.2.2.1 hb, rblk_below hHeld.2.2.2.1 hb, rblk_below hHeld.2.2.2.2.1 hb, rblk_below hHeld.2.2.2.2.2 hb⟩ (fun hH => ?_)
  replace hHeld := hH
  clear hK K hH
  replace op := op.below hb
  replace oq := oq.below hb
  replace orr := orr.below hb
  replace ox := ox.below hb
  replace od := od.below hb
  replace om := om.below hb
  replace kb := bt kb hb
  clear hb
  try simp only [ps]
  refine tk (i := 5) (v := ?vg1_6) rfl (by kernel_rfl) (fun _ _ _ h => h) (Or.inl ⟨by rfl, ?hg1_6⟩) hHeld ?_
  case hg1_6 => (intro w hSw; (try dsimp only at hSw); go_simp; (try with_reducible rfl))
  try simp only [ps]
  refine tk (i := 6) (v := ?vg1_7) rfl (by kernel_rfl) (fun _ _ _ h => h) (Or.inl ⟨by rfl, ?hg1_7⟩) hHeld ?_
  case hg1_7 => (intro w hSw; (try dsimp only at hSw); go_simp; (try with_reducible rfl))
  try simp only [ps]
  refine tk (i := 7) (v := ?vg1_8) rfl (by kernel_rfl) (fun _ _ _ h => h) (Or.inl ⟨by rfl, ?hg1_8⟩) hHeld ?_
  case hg1_8 => (intro w hSw; (try dsimp only at hSw); have t0 := rblk_cell hSw.2.2.2.2.1 0; have t1 := rblk_cell hSw.2.2.2.2.1 1; have t2 := rblk_cell hSw.2.2.2.2.1 2; go_simp; (try with_reducible rfl))
  try simp only [ps]
  refine tk (i := 8) (v := ?vg1_9) rfl (by kernel_rfl) (fun _ _ _ h => h) (Or.inl ⟨by rfl, ?hg1_9⟩) hHeld ?_
  case hg1_9 => (intro w hSw; (try dsimp only at hSw); have t0 := rblk_cell hSw.2.1 0; have t1 := rblk_cell hSw.2.1 1; have t2 := rblk_cell hSw.2.1 2; have t3 := rblk_cell hSw.2.1 3; have t4 := rblk_cell hSw.2.1 4; have t5 := rblk_cell hSw.2.1 5; go_simp; (try with_reducible rfl))
  try simp only [ps]
  refine tk (i := 9) (v := ?vg1_10) rfl (by kernel_rfl) (fun _ _ _ h => h) (Or.inl ⟨by rfl, ?hg1_10⟩) hHeld ?_
  case hg1_10 => (intro w hSw; (try dsimp only at hSw); have t0 := rblk_cell hSw.2.2.1 0; have t1 := rblk_cell hSw.2.2.1 1; have t2 := rblk_cell hSw.2.2.1 2; have t3 := rblk_cell hSw.2.2.1 3; have t4 := rblk_cell hSw.2.2.1 4; have t5 := rblk_cell hSw.2.2.1 5; go_simp; (try with_reducible rfl))
  try simp only [ps]
  refine tk (i := 10) (v := ?vg1_11) rfl (by kernel_rfl) (fun _ _ _ h => h) (Or.inl ⟨by rfl, ?hg1_11⟩) hHeld ?_
  case hg1_11 => (intro w hSw; (try dsimp only at hSw); have t0 := rblk_cell hSw.1 0; have t1 := rblk_cell hSw.1 1; have t2 := rblk_cell hSw.1 2; have t3 := rblk_cell hSw.1 3; have t4 := rblk_cell hSw.1 4; have t5 := rblk_cell hSw.1 5; go_simp; (try with_reducible rfl))
  try simp only [ps]
  refine rd1 (i := 11) (by kernel_rfl) rfl (fun K hK => ?_)
  go_simp
  (go_at_call 7; ((with_reducible refine (HD2.out _ _ _ _ _ _ _ op.rds oq.rds orr.rds).mono ?_); rintro e Wr1_12 ⟨z11, rfl, hx11, hy11, o11, hap11, hb⟩))
  refine hK.out _ _ ⟨rblk_below hHeld.1 hb, rblk_below hHeld.2.1 hb, rblk_below hHeld.2.2.1 hb, rblk_below hHeld.2.2.2.1 hb, rblk_below hHeld.2.2.2.2.1 hb, rblk_below hHeld.2.2.2.2.2 hb⟩ (fun hH => ?_)
  replace hHeld := hH
  clear hK K hH
  replace op := op.below hb
  replace oq := oq.below hb
  replace orr := orr.below hb
  replace ox := ox.below hb
  replace od := od.below hb
  replace om := om.below hb
  replace kb := bt kb hb
  clear hx11 hy11 hap11
  clear hb
  try simp only [ps]
  refine rd1 (i := 12) (by kernel_rfl) rfl (fun K hK => ?_)
  go_simp
  (go_at_call 10; ((with_reducible refine (ED.out _ _ _ _ _ od.rds o11).mono ?_); rintro e Wr1_13 ⟨rfl, hb⟩))
  refine hK.out _ _ ⟨rblk_below hHeld.1 hb, rblk_below hHeld.2.1 hb, rblk_below hHeld.2.2.1 hb, rblk_below hHeld.2.2.2.1 hb, rblk_below hHeld.2.2.2.2.1 hb, rblk_below hHeld.2.2.2.2.2 hb⟩ (fun hH => ?_)
  replace hHeld := hH
  clear hK K hH
  replace op := op.below hb
  replace oq := oq.below hb
  replace orr := orr.below hb
  replace ox := ox.below hb
  replace od := od.below hb
  replace om := om.below hb
  replace kb := bt kb hb
  replace o11 := o11.below hb
  clear hb
  try simp only [ps]
  refine tk (i := 13) (v := ?vg1_14) rfl (by kernel_rfl) (fun _ _ _ h => h) (Or.inl ⟨by rfl, ?hg1_14⟩) hHeld ?_
  case hg1_14 => (intro w hSw; (try dsimp only at hSw); go_simp; (try with_reducible rfl))
  try simp only [ps]
  refine tk (i := 14) (v := ?vg1_15) rfl (by kernel_rfl) (fun _ _ _ h => h) (Or.inl ⟨by rfl, ?hg1_15⟩) hHeld ?_
  case hg1_15 => (intro w hSw; (try dsimp only at hSw); go_simp; (try with_reducible rfl))
  try simp only [ps]
  refine tk (i := 15) (v := ?vg1_16) rfl (by kernel_rfl) (fun _ _ _ h => h) (Or.inl ⟨by rfl, ?hg1_16⟩) hHeld ?_
  case hg1_16 => (intro w hSw; (try dsimp only at hSw); have t0 := rblk_cell hSw.2.2.2.2.1 0; have t1 := rblk_cell hSw.2.2.2.2.1 1; have t2 := rblk_cell hSw.2.2.2.2.1 2; go_simp; (try with_reducible rfl))
  try simp only [ps]
  refine tk (i := 17) (v := ?vg1_17) rfl (by kernel_rfl) (fun _ _ _ h => h) (Or.inl ⟨by rfl, ?hg1_17⟩) hHeld ?_
  case hg1_17 => (intro w hSw; (try dsimp only at hSw); have t0 := rblk_cell hSw.2.1 0; have t1 := rblk_cell hSw.2.1 1; have t2 := rblk_cell hSw.2.1 2; have t3 := rblk_cell hSw.2.1 3; have t4 := rblk_cell hSw.2.1 4; have t5 := rblk_cell hSw.2.1 5; go_simp; (try with_reducible rfl))
  try simp only [ps]
  refine tk (i := 18) (v := ?vg1_18) rfl (by kernel_rfl) (fun _ _ _ h => h) (Or.inl ⟨by rfl, ?hg1_18⟩) hHeld ?_
  case hg1_18 => (intro w hSw; (try dsimp only at hSw); have t0 := rblk_cell hSw.1 0; have t1 := rblk_cell hSw.1 1; have t2 := rblk_cell hSw.1 2; have t3 := rblk_cell hSw.1 3; have t4 := rblk_cell hSw.1 4; have t5 := rblk_cell hSw.1 5; go_simp; (try with_reducible rfl))
  try simp only [ps]
  refine tk (i := 19) (v := ?vg1_19) rfl (by kernel_rfl) (fun _ _ _ h => h) (Or.inl ⟨by rfl, ?hg1_19⟩) hHeld ?_
  case hg1_19 => (intro w hSw; (try dsimp only at hSw); have t0 := rblk_cell hSw.2.2.1 0; have t1 := rblk_cell hSw.2.2.1 1; have t2 := rblk_cell hSw.2.2.1 2; have t3 := rblk_cell hSw.2.2.1 3; have t4 := rblk_cell hSw.2.2.1 4; have t5 := rblk_cell hSw.2.2.1 5; go_simp; (try with_reducible rfl))
  try simp only [ps]
  refine rd1 (i := 16) (by kernel_rfl) rfl (fun K hK => ?_)
  go_simp
  (go_at_call 11; ((with_reducible refine (HN.out _ _ od.rds).mono ?_); rintro e Wr1_20 ⟨z16, rfl, hx16, hy16, o16, hap16, hb⟩))
  refine hK.out _ _ ⟨rblk_below hHeld.1 hb, rblk_below hHeld.2.1 hb, rblk_below hHeld.2.2.1 hb, rblk_below hHeld.2.2.2.1 hb, rblk_below hHeld.2.2.2.2.1 hb, rblk_below hHeld.2.2.2.2.2 hb⟩ (fun hH => ?_)
  replace hHeld := hH
  clear hK K hH
  replace op := op.below hb
  replace oq := oq.below hb
  replace orr := orr.below hb
  replace ox := ox.below hb
  replace od := od.below hb
  replace om := om.below hb
  replace kb := bt kb hb
  replace o11 := o11.below hb
  clear hx16 hy16 hap16
  clear hb
  try simp only [ps]
  refine rd1 (i := 20) (by kernel_rfl) rfl (fun K hK => ?_)
  go_simp
  (go_at_call 7; ((with_reducible refine (HD3.out _ _ _ _ _ _ _ op.rds oq.rds orr.rds).mono ?_); rintro e Wr1_21 ⟨z20, rfl, hx20, hy20, o20, hap20, hb⟩))
  refine hK.out _ _ ⟨rblk_below hHeld.1 hb, rblk_below hHeld.2.1 hb, rblk_below hHeld.2.2.1 hb, rblk_below hHeld.2.2.2.1 hb, rblk_below hHeld.2.2.2.2.1 hb, rblk_below hHeld.2.2.2.2.2 hb⟩ (fun hH => ?_)
  replace hHeld := hH
  clear hK K hH
  replace op := op.below hb
  replace oq := oq.below hb
  replace orr := orr.below hb
  replace ox := ox.below hb
  replace od := od.below hb
  replace om := om.below hb
  replace kb := bt kb hb
  replace o11 := o11.below hb
  replace o16 := o16.below hb
  clear hx20 hy20 hap20
  clear hb
  try simp only [ps]
  refine rd1 (i := 21) (by kernel_rfl) rfl (fun K hK => ?_)
  go_simp
  (go_at_call 10; ((with_reducible refine (EN.out _ _ _ _ _ o16.rds o20).mono ?_); rintro e Wr1_22 ⟨rfl, hb⟩))
  refine hK.out _ _ ⟨rblk_below hHeld.1 hb, rblk_below hHeld.2.1 hb, rblk_below hHeld.2.2.1 hb, rblk_below hHeld.2.2.2.1 hb, rblk_below hHeld.2.2.2.2.1 hb, rblk_below hHeld.2.2.2.2.2 hb⟩ (fun hH => ?_)
  replace hHeld := hH
  clear hK K hH
  replace op := op.below hb
  replace oq := oq.below hb
  replace orr := orr.below hb
  replace ox := ox.below hb
  replace od := od.below hb
  replace om := om.below hb
  replace kb := bt kb hb
  replace o11 := o11.below hb
  replace o16 := o16.below hb
  replace o20 := o20.below hb
  clear hb
  try simp only [ps]
  refine tk (i := 22) (v := ?vg1_23) rfl (by kernel_rfl) (fun _ _ _ h => h) (Or.inl ⟨by rfl, ?hg1_23⟩) hHeld ?_
  case hg1_23 => (intro w hSw; (try dsimp only at hSw); go_simp; (try with_reducible rfl))
  try simp only [ps]
  refine tk (i := 23) (v := ?vg1_24) rfl (by kernel_rfl) (fun _ _ _ h => h) (Or.inl ⟨by rfl, ?hg1_24⟩) hHeld ?_
  case hg1_24 => (intro w hSw; (try dsimp only at hSw); go_simp; (try with_reducible rfl))
  try simp only [ps]
  refine tk (i := 24) (v := ?vg1_25) rfl (by kernel_rfl) (fun _ _ _ h => h) (Or.inl ⟨by rfl, ?hg1_25⟩) hHeld ?_
  case hg1_25 => (intro w hSw; (try dsimp only at hSw); have t0 := rblk_cell hSw.1 0; have t1 := rblk_cell hSw.1 1; have t2 := rblk_cell hSw.1 2; have t3 := rblk_cell hSw.1 3; have t4 := rblk_cell hSw.1 4; have t5 := rblk_cell hSw.1 5; go_simp; (try with_reducible rfl))
  try simp only [ps]
  refine tk (i := 25) (v := ?vg1_26) rfl (by kernel_rfl) (fun _ _ _ h => h) (Or.inl ⟨by rfl, ?hg1_26⟩) hHeld ?_
  case hg1_26 => (intro w hSw; (try dsimp only at hSw); have t0 := rblk_cell hSw.2.1 0; have t1 := rblk_cell hSw.2.1 1; have t2 := rblk_cell hSw.2.1 2; have t3 := rblk_cell hSw.2.1 3; have t4 := rblk_cell hSw.2.1 4; have t5 := rblk_cell hSw.2.1 5; go_simp; (try with_reducible rfl))
  try simp only [ps]
  refine tk (i := 27) (v := ?vg1_27) rfl (by kernel_rfl) (fun _ _ _ h => h) (Or.inl ⟨by rfl, ?hg1_27⟩) hHeld ?_
  case hg1_27 => (intro w hSw; (try dsimp only at hSw); have t0 := rblk_cell hSw.2.1 0; have t1 := rblk_cell hSw.2.1 1; have t2 := rblk_cell hSw.2.1 2; have t3 := rblk_cell hSw.2.1 3; have t4 := rblk_cell hSw.2.1 4; have t5 := rblk_cell hSw.2.1 5; go_simp; (try with_reducible rfl))
  try simp only [ps]
  refine tk (i := 29) (v := ?vg1_28) rfl (by kernel_rfl) (fun _ _ _ h => h) (Or.inl ⟨by rfl, ?hg1_28⟩) hHeld ?_
  case hg1_28 => (intro w hSw; (try dsimp only at hSw); have t0 := rblk_cell hSw.1 0; have t1 := rblk_cell hSw.1 1; have t2 := rblk_cell hSw.1 2; have t3 := rblk_cell hSw.1 3; have t4 := rblk_cell hSw.1 4; have t5 := rblk_cell hSw.1 5; go_simp; (try with_reducible rfl))
  try simp only [ps]
  refine rd1 (i := 26) (by kernel_rfl) rfl (fun K hK => ?_)
  go_simp
  (go_at_call 13; ((with_reducible refine (HA.out _ _ _ _ _ op.rds oq.rds).mono ?_); rintro e Wr1_29 ⟨z26, y26, rfl, hc26, o26, hap26, hb⟩))
  refine hK.out _ _ ⟨rblk_below hHeld.1 hb, rblk_below hHeld.2.1 hb, rblk_below hHeld.2.2.1 hb, rblk_below hHeld.2.2.2.1 hb, rblk_below hHeld.2.2.2.2.1 hb, rblk_below hHeld.2.2.2.2.2 hb⟩ (fun hH => ?_)
  replace hHeld := hH
  clear hK K hH
  replace op := op.below hb
  replace oq := oq.below hb
  replace orr := orr.below hb
  replace ox := ox.below hb
  replace od := od.below hb
  replace om := om.below hb
  replace kb := bt kb hb
  replace o11 := o11.below hb
  replace o16 := o16.below hb
  replace o20 := o20.below hb
  clear hc26 hap26
  clear hb
  try simp only [ps]
  refine rd1 (i := 28) (by kernel_rfl) rfl (fun K hK => ?_)
  go_simp
  (go_at_call 12; ((with_reducible refine (HB.out _ _ _ _ _ o26.rds oq.rds).mono ?_); rintro e Wr1_30 ⟨z28, y28, rfl, hc28, o28, hap28, hb⟩))
  refine hK.out _ _ ⟨rblk_below hHeld.1 hb, rblk_below hHeld.2.1 hb, rblk_below hHeld.2.2.1 hb, rblk_below hHeld.2.2.2.1 hb, rblk_below hHeld.2.2.2.2.1 hb, rblk_below hHeld.2.2.2.2.2 hb⟩ (fun hH => ?_)
  replace hHeld := hH
  clear hK K hH
  replace op := op.below hb
  replace oq := oq.below hb
  replace orr := orr.below hb
  replace ox := ox.below hb
  replace od := od.below hb
  replace om := om.below hb
  replace kb := bt kb hb
  replace o11 := o11.below hb
  replace o16 := o16.below hb
  replace o20 := o20.below hb
  replace o26 := o26.below hb
  clear hc28 hap28
  clear hb
  try simp only [ps]
  refine rd1 (i := 30) (by kernel_rfl) rfl (fun K hK => ?_)
  go_simp
  (go_at_call 9; ((with_reducible refine (SP.out _ _ _ _ _ _ _ o28.rds op).mono ?_); rintro e Wr1_31 ⟨rfl, hb⟩))
  refine hK.out _ _ ⟨rblk_below hHeld.1 hb, rblk_below hHeld.2.1 hb, rblk_below hHeld.2.2.1 hb, rblk_below hHeld.2.2.2.1 hb, rblk_below hHeld.2.2.2.2.1 hb, rblk_below hHeld.2.2.2.2.2 hb⟩ (fun hH => ?_)
  replace hHeld := hH
  clear hK K hH
  replace op := op.below hb
  replace oq := oq.below hb
  replace orr := orr.below hb
  replace ox := ox.below hb
  replace od := od.below hb
  replace om := om.below hb
  replace kb := bt kb hb
  replace o11 := o11.below hb
  replace o16 := o16.below hb
  replace o20 := o20.below hb
  replace o26 := o26.below hb
  replace o28 := o28.below hb
  clear hb
  try simp only [ps]
  refine tk (i := 31) (v := ?vg1_32) rfl (by kernel_rfl) (fun _ _ _ h => h) (Or.inl ⟨by rfl, ?hg1_32⟩) hHeld ?_
  case hg1_32 => (intro w hSw; (try dsimp only at hSw); go_simp; (try with_reducible rfl))
  try simp only [ps]
  refine tk (i := 32) (v := ?vg1_33) rfl (by kernel_rfl) (fun _ _ _ h => h) (Or.inl ⟨by rfl, ?hg1_33⟩) hHeld ?_
  case hg1_33 => (intro w hSw; (try dsimp only at hSw); go_simp; (try with_reducible rfl))
  try simp only [ps]
  refine tk (i := 33) (v := ?vg1_34) rfl (by kernel_rfl) (fun _ _ _ h => h) (Or.inl ⟨by rfl, ?hg1_34⟩) hHeld ?_
  case hg1_34 => (intro w hSw; (try dsimp only at hSw); have t0 := rblk_cell hSw.1 0; have t1 := rblk_cell hSw.1 1; have t2 := rblk_cell hSw.1 2; have t3 := rblk_cell hSw.1 3; have t4 := rblk_cell hSw.1 4; have t5 := rblk_cell hSw.1 5; go_simp; (try with_reducible rfl))
  try simp only [ps]
  refine tk (i := 34) (v := ?vg1_35) rfl (by kernel_rfl) (fun _ _ _ h => h) (Or.inl ⟨by rfl, ?hg1_35⟩) hHeld ?_
  case hg1_35 => (intro w hSw; (try dsimp only at hSw); have t0 := rblk_cell hSw.2.1 0; have t1 := rblk_cell hSw.2.1 1; have t2 := rblk_cell hSw.2.1 2; have t3 := rblk_cell hSw.2.1 3; have t4 := rblk_cell hSw.2.1 4; have t5 := rblk_cell hSw.2.1 5; go_simp; (try with_reducible rfl))
  try simp only [ps]
  refine tk (i := 35) (v := ?vg1_36) rfl (by kernel_rfl) (fun _ _ _ h => h) (Or.inl ⟨by rfl, ?hg1_36⟩) hHeld ?_
  case hg1_36 => (intro w hSw; (try dsimp only at hSw); have t0 := rblk_cell hSw.2.2.2.2.2 0; have t1 := rblk_cell hSw.2.2.2.2.2 1; have t2 := rblk_cell hSw.2.2.2.2.2 2; have t3 := rblk_cell hSw.2.2.2.2.2 3; have t4 := rblk_cell hSw.2.2.2.2.2 4; have t5 := rblk_cell hSw.2.2.2.2.2 5; go_simp; (try with_reducible rfl))
  try simp only [ps]
  refine rd1 (i := 36) (by kernel_rfl) rfl (fun K hK => ?_)
  go_simp
  (go_at_call 7; ((with_reducible refine (HD4.out _ _ _ _ _ _ _ op.rds oq.rds om.rds).mono ?_); rintro e Wr1_37 ⟨z36, rfl, hx36, hy36, o36, hap36, hb⟩))
  refine hK.out _ _ ⟨rblk_below hHeld.1 hb, rblk_below hHeld.2.1 hb, rblk_below hHeld.2.2.1 hb, rblk_below hHeld.2.2.2.1 hb, rblk_below hHeld.2.2.2.2.1 hb, rblk_below hHeld.2.2.2.2.2 hb⟩ (fun hH => ?_)
  replace hHeld := hH
  clear hK K hH
  replace op := op.below hb
  replace oq := oq.below hb
  replace orr := orr.below hb
  replace ox := ox.below hb
  replace od := od.below hb
  replace om := om.below hb
  replace kb := bt kb hb
  replace o11 := o11.below hb
  replace o16 := o16.below hb
  replace o20 := o20.below hb
  replace o26 := o26.below hb
  replace o28 := o28.below hb
  clear hx36 hy36 hap36
  clear hb
  try simp only [ps]
  refine rd1 (i := 37) (by kernel_rfl) rfl (fun K hK => ?_)
  go_simp
  (go_at_call 14; ((with_reducible refine (HZ.out _ _ o36.rds).mono ?_); rintro e Wr1_38 ⟨rfl, hb⟩))
  refine hK.out _ _ ⟨rblk_below hHeld.1 hb, rblk_below hHeld.2.1 hb, rblk_below hHeld.2.2.1 hb, rblk_below hHeld.2.2.2.1 hb, rblk_below hHeld.2.2.2.2.1 hb, rblk_below hHeld.2.2.2.2.2 hb⟩ (fun hH => ?_)
  replace hHeld := hH
  clear hK K hH
  replace op := op.below hb
  replace oq := oq.below hb
  replace orr := orr.below hb
  replace ox := ox.below hb
  replace od := od.below hb
  replace om := om.below hb
  replace kb := bt kb hb
  replace o11 := o11.below hb
  replace o16 := o16.below hb
  replace o20 := o20.below hb
  replace o26 := o26.below hb
  replace o28 := o28.below hb
  replace o36 := o36.below hb
  clear hb
  try simp only [ps]
  refine tk (i := 38) (v := ?vg1_39) rfl (by kernel_rfl) (fun _ _ _ h => h) (Or.inl ⟨by rfl, ?hg1_39⟩) hHeld ?_
  case hg1_39 => (intro w hSw; (try dsimp only at hSw); go_simp; (try with_reducible rfl))
  try simp only [ps]
  refine tk (i := 39) (v := ?vg1_40) rfl (by kernel_rfl) (fun _ _ _ h => h) (Or.inl ⟨by rfl, ?hg1_40⟩) hHeld ?_
  case hg1_40 => (intro w hSw; (try dsimp only at hSw); go_simp; (try with_reducible rfl))
  try simp only [ps]
  refine tk (i := 40) (v := ?vg1_41) rfl (by kernel_rfl) (fun _ _ _ h => h) (Or.inl ⟨by rfl, ?hg1_41⟩) hHeld ?_
  case hg1_41 => (intro w hSw; (try dsimp only at hSw); go_simp; (try with_reducible rfl))
  try simp only [ps]
  refine tk (i := 42) (v := ?vg1_42) rfl (by kernel_rfl) (fun _ _ _ h => h) (Or.inl ⟨by rfl, ?hg1_42⟩) hHeld ?_
  case hg1_42 => (intro w hSw; (try dsimp only at hSw); have t0 := rblk_cell hSw.2.2.2.2.2 0; have t1 := rblk_cell hSw.2.2.2.2.2 1; have t2 := rblk_cell hSw.2.2.2.2.2 2; have t3 := rblk_cell hSw.2.2.2.2.2 3; have t4 := rblk_cell hSw.2.2.2.2.2 4; have t5 := rblk_cell hSw.2.2.2.2.2 5; go_simp; (try with_reducible rfl))
  try simp only [ps]
  refine tk (i := 44) (v := ?vg1_43) rfl (by kernel_rfl) (fun _ _ _ h => h) (Or.inl ⟨by rfl, ?hg1_43⟩) hHeld ?_
  case hg1_43 => (intro w hSw; (try dsimp only at hSw); have t0 := rblk_cell hSw.1 0; have t1 := rblk_cell hSw.1 1; have t2 := rblk_cell hSw.1 2; have t3 := rblk_cell hSw.1 3; have t4 := rblk_cell hSw.1 4; have t5 := rblk_cell hSw.1 5; go_simp; (try with_reducible rfl))
  try simp only [ps]
  refine tk (i := 45) (v := ?vg1_44) rfl (by kernel_rfl) (fun _ _ _ h => h) (Or.inl ⟨by rfl, ?hg1_44⟩) hHeld ?_
  case hg1_44 => (intro w hSw; (try dsimp only at hSw); have t0 := rblk_cell hSw.2.1 0; have t1 := rblk_cell hSw.2.1 1; have t2 := rblk_cell hSw.2.1 2; have t3 := rblk_cell hSw.2.1 3; have t4 := rblk_cell hSw.2.1 4; have t5 := rblk_cell hSw.2.1 5; go_simp; (try with_reducible rfl))
  try simp only [ps]
  refine rd1 (i := 41) (by kernel_rfl) rfl (fun K hK => ?_)
  go_simp
  (go_at_call 16; ((with_reducible refine (rfiQ 2 _ (by decide)).mono ?_); rintro e Wr1_45 ⟨z41, rfl, hx41, hy41, o41, hap41, hb⟩))
  refine hK.out _ _ ⟨rblk_below hHeld.1 hb, rblk_below hHeld.2.1 hb, rblk_below hHeld.2.2.1 hb, rblk_below hHeld.2.2.2.1 hb, rblk_below hHeld.2.2.2.2.1 hb, rblk_below hHeld.2.2.2.2.2 hb⟩ (fun hH => ?_)
  replace hHeld := hH
  clear hK K hH
  replace op := op.below hb
  replace oq := oq.below hb
  replace orr := orr.below hb
  replace ox := ox.below hb
  replace od := od.below hb
  replace om := om.below hb
  replace kb := bt kb hb
  replace o11 := o11.below hb
  replace o16 := o16.below hb
  replace o20 := o20.below hb
  replace o26 := o26.below hb
  replace o28 := o28.below hb
  replace o36 := o36.below hb
  clear hx41 hy41 hap41
  clear hb
  try simp only [ps]
  refine rd1 (i := 43) (by kernel_rfl) rfl (fun K hK => ?_)
  go_simp
  (go_at_call 15; ((with_reducible refine (HS.out _ _ _ _ o41.rds om.rds).mono ?_); rintro e Wr1_46 ⟨z43, y43, rfl, hc43, o43, hap43, hb⟩))
  refine hK.out _ _ ⟨rblk_below hHeld.1 hb, rblk_below hHeld.2.1 hb, rblk_below hHeld.2.2.1 hb, rblk_below hHeld.2.2.2.1 hb, rblk_below hHeld.2.2.2.2.1 hb, rblk_below hHeld.2.2.2.2.2 hb⟩ (fun hH => ?_)
  replace hHeld := hH
  clear hK K hH
  replace op := op.below hb
  replace oq := oq.below hb
  replace orr := orr.below hb
  replace ox := ox.below hb
  replace od := od.below hb
  replace om := om.below hb
  replace kb := bt kb hb
  replace o11 := o11.below hb
  replace o16 := o16.below hb
  replace o20 := o20.below hb
  replace o26 := o26.below hb
  replace o28 := o28.below hb
  replace o36 := o36.below hb
  replace o41 := o41.below hb
  clear hc43 hap43
  clear hb
  try simp only [ps]
  refine rd1 (i := 46) (by kernel_rfl) rfl (fun K hK => ?_)
  go_simp
  (go_at_call 13; ((with_reducible refine (HA.out _ _ _ _ _ op.rds oq.rds).mono ?_); rintro e Wr1_47 ⟨z46, y46, rfl, hc46, o46, hap46, hb⟩))
  refine hK.out _ _ ⟨rblk_below hHeld.1 hb, rblk_below hHeld.2.1 hb, rblk_below hHeld.2.2.1 hb, rblk_below hHeld.2.2.2.1 hb, rblk_below hHeld.2.2.2.2.1 hb, rblk_below hHeld.2.2.2.2.2 hb⟩ (fun hH => ?_)
  replace hHeld := hH
  clear hK K hH
  replace op := op.below hb
  replace oq := oq.below hb
  replace orr := orr.below hb
  replace ox := ox.below hb
  replace od := od.below hb
  replace om := om.below hb
  replace kb := bt kb hb
  replace o11 := o11.below hb
  replace o16 := o16.below hb
  replace o20 := o20.below hb
  replace o26 := o26.below hb
  replace o28 := o28.below hb
  replace o36 := o36.below hb
  replace o41 := o41.below hb
  replace o43 := o43.below hb
  clear hc46 hap46
  clear hb
  try simp only [ps]
  refine rd1 (i := 47) (by kernel_rfl) rfl (fun K hK => ?_)
  go_simp
  (go_at_call 9; ((with_reducible refine (SS.out _ _ _ _ _ _ _ o43.rds o46).mono ?_); rintro e Wr1_48 ⟨rfl, hb⟩))
  refine hK.out _ _ ⟨rblk_below hHeld.1 hb, rblk_below hHeld.2.1 hb, rblk_below hHeld.2.2.1 hb, rblk_below hHeld.2.2.2.1 hb, rblk_below hHeld.2.2.2.2.1 hb, rblk_below hHeld.2.2.2.2.2 hb⟩ (fun hH => ?_)
  replace hHeld := hH
  clear hK K hH
  replace op := op.below hb
  replace oq := oq.below hb
  replace orr := orr.below hb
  replace ox := ox.below hb
  replace od := od.below hb
  replace om := om.below hb
  replace kb := bt kb hb
  replace o11 := o11.below hb
  replace o16 := o16.below hb
  replace o20 := o20.below hb
  replace o26 := o26.below hb
  replace o28 := o28.below hb
  replace o36 := o36.below hb
  replace o41 := o41.below hb
  replace o43 := o43.below hb
  replace o46 := o46.below hb
  clear hb
  try simp only [ps]
  refine tk (i := 48) (v := ?vg1_49) rfl (by kernel_rfl) (fun _ _ _ h => h) (Or.inl ⟨by rfl, ?hg1_49⟩) hHeld ?_
  case hg1_49 => (intro w hSw; (try dsimp only at hSw); go_simp; (try with_reducible rfl))
  try simp only [ps]
  refine tk (i := 49) (v := ?vg1_50) rfl (by kernel_rfl) (fun _ _ _ h => h) (Or.inl ⟨by rfl, ?hg1_50⟩) hHeld ?_
  case hg1_50 => (intro w hSw; (try dsimp only at hSw); go_simp; (try with_reducible rfl))
  try simp only [ps]
  refine tk (i := 50) (v := ?vg1_51) rfl (by kernel_rfl) (fun _ _ _ h => h) (Or.inl ⟨by rfl, ?hg1_51⟩) hHeld ?_
  case hg1_51 => (intro w hSw; (try dsimp only at hSw); have t0 := rblk_cell hSw.1 0; have t1 := rblk_cell hSw.1 1; have t2 := rblk_cell hSw.1 2; have t3 := rblk_cell hSw.1 3; have t4 := rblk_cell hSw.1 4; have t5 := rblk_cell hSw.1 5; go_simp; (try with_reducible rfl))
  try simp only [ps]
  refine tk (i := 51) (v := ?vg1_52) rfl (by kernel_rfl) (fun _ _ _ h => h) (Or.inl ⟨by rfl, ?hg1_52⟩) hHeld ?_
  case hg1_52 => (intro w hSw; (try dsimp only at hSw); have t0 := rblk_cell hSw.2.1 0; have t1 := rblk_cell hSw.2.1 1; have t2 := rblk_cell hSw.2.1 2; have t3 := rblk_cell hSw.2.1 3; have t4 := rblk_cell hSw.2.1 4; have t5 := rblk_cell hSw.2.1 5; go_simp; (try with_reducible rfl))
  try simp only [ps]
  refine tk (i := 53) (v := ?vg1_53) rfl (by kernel_rfl) (fun _ _ _ h => h) (Or.inl ⟨by rfl, ?hg1_53⟩) hHeld ?_
  case hg1_53 => (intro w hSw; (try dsimp only at hSw); have t0 := rblk_cell hSw.2.1 0; have t1 := rblk_cell hSw.2.1 1; have t2 := rblk_cell hSw.2.1 2; have t3 := rblk_cell hSw.2.1 3; have t4 := rblk_cell hSw.2.1 4; have t5 := rblk_cell hSw.2.1 5; go_simp; (try with_reducible rfl))
  try simp only [ps]
  refine tk (i := 54) (v := ?vg1_54) rfl (by kernel_rfl) (fun _ _ _ h => h) (Or.inl ⟨by rfl, ?hg1_54⟩) hHeld ?_
  case hg1_54 => (intro w hSw; (try dsimp only at hSw); have t0 := rblk_cell hSw.1 0; have t1 := rblk_cell hSw.1 1; have t2 := rblk_cell hSw.1 2; have t3 := rblk_cell hSw.1 3; have t4 := rblk_cell hSw.1 4; have t5 := rblk_cell hSw.1 5; go_simp; (try with_reducible rfl))
  try simp only [ps]
  refine rd1 (i := 52) (by kernel_rfl) rfl (fun K hK => ?_)
  go_simp
  (go_at_call 17; ((with_reducible refine (HI1.out _ _ _ _ _ op.rds oq.rds).mono ?_); rintro e Wr1_55 ⟨z52, rfl, hx52, hy52, o52, hap52, hb⟩))
  refine hK.out _ _ ⟨rblk_below hHeld.1 hb, rblk_below hHeld.2.1 hb, rblk_below hHeld.2.2.1 hb, rblk_below hHeld.2.2.2.1 hb, rblk_below hHeld.2.2.2.2.1 hb, rblk_below hHeld.2.2.2.2.2 hb⟩ (fun hH => ?_)
  replace hHeld := hH
  clear hK K hH
  replace op := op.below hb
  replace oq := oq.below hb
  replace orr := orr.below hb
  replace ox := ox.below hb
  replace od := od.below hb
  replace om := om.below hb
  replace kb := bt kb hb
  replace o11 := o11.below hb
  replace o16 := o16.below hb
  replace o20 := o20.below hb
  replace o26 := o26.below hb
  replace o28 := o28.below hb
  replace o36 := o36.below hb
  replace o41 := o41.below hb
  replace o43 := o43.below hb
  replace o46 := o46.below hb
  clear hx52 hy52 hap52
  clear hb
  try simp only [ps]
  refine rd1 (i := 55) (by kernel_rfl) rfl (fun K hK => ?_)
  go_simp
  (go_at_call 17; ((with_reducible refine (HI2.out _ _ _ _ _ op.rds oq.rds).mono ?_); rintro e Wr1_56 ⟨z55, rfl, hx55, hy55, o55, hap55, hb⟩))
  refine hK.out _ _ ⟨rblk_below hHeld.1 hb, rblk_below hHeld.2.1 hb, rblk_below hHeld.2.2.1 hb, rblk_below hHeld.2.2.2.1 hb, rblk_below hHeld.2.2.2.2.1 hb, rblk_below hHeld.2.2.2.2.2 hb⟩ (fun hH => ?_)
  replace hHeld := hH
  clear hK K hH
  replace op := op.below hb
  replace oq := oq.below hb
  replace orr := orr.below hb
  replace ox := ox.below hb
  replace od := od.below hb
  replace om := om.below hb
  replace kb := bt kb hb
  replace o11 := o11.below hb
  replace o16 := o16.below hb
  replace o20 := o20.below hb
  replace o26 := o26.below hb
  replace o28 := o28.below hb
  replace o36 := o36.below hb
  replace o41 := o41.below hb
  replace o43 := o43.below hb
  replace o46 := o46.below hb
  replace o52 := o52.below hb
  clear hx55 hy55 hap55
  clear hb
  try simp only [ps]
  refine rd1 (i := 56) (by kernel_rfl) rfl (fun K hK => ?_)
  go_simp
  (go_at_call 10; ((with_reducible refine (EI.out _ _ _ _ _ o52.rds o55).mono ?_); rintro e Wr1_57 ⟨rfl, hb⟩))
  refine hK.out _ _ ⟨rblk_below hHeld.1 hb, rblk_below hHeld.2.1 hb, rblk_below hHeld.2.2.1 hb, rblk_below hHeld.2.2.2.1 hb, rblk_below hHeld.2.2.2.2.1 hb, rblk_below hHeld.2.2.2.2.2 hb⟩ (fun hH => ?_)
  replace hHeld := hH
  clear hK K hH
  replace op := op.below hb
  replace oq := oq.below hb
  replace orr := orr.below hb
  replace ox := ox.below hb
  replace od := od.below hb
  replace om := om.below hb
  replace kb := bt kb hb
  replace o11 := o11.below hb
  replace o16 := o16.below hb
  replace o20 := o20.below hb
  replace o26 := o26.below hb
  replace o28 := o28.below hb
  replace o36 := o36.below hb
  replace o41 := o41.below hb
  replace o43 := o43.below hb
  replace o46 := o46.below hb
  replace o52 := o52.below hb
  replace o55 := o55.below hb
  clear hb
  try simp only [ps]
  refine tk (i := 57) (v := ?vg1_58) rfl (by kernel_rfl) (fun _ _ _ h => h) (Or.inl ⟨by rfl, ?hg1_58⟩) hHeld ?_
  case hg1_58 => (intro w hSw; (try dsimp only at hSw); go_simp; (try with_reducible rfl))
  try simp only [ps]
  refine tk (i := 58) (v := ?vg1_59) rfl (by kernel_rfl) (fun _ _ _ h => h) (Or.inl ⟨by rfl, ?hg1_59⟩) hHeld ?_
  case hg1_59 => (intro w hSw; (try dsimp only at hSw); go_simp; (try with_reducible rfl))
  try simp only [ps]
  refine tk (i := 59) (v := ?vg1_60) rfl (by kernel_rfl) (fun _ _ _ h => h) (Or.inl ⟨by rfl, ?hg1_60⟩) hHeld ?_
  case hg1_60 => (intro w hSw; (try dsimp only at hSw); have t0 := rblk_cell hSw.1 0; have t1 := rblk_cell hSw.1 1; have t2 := rblk_cell hSw.1 2; have t3 := rblk_cell hSw.1 3; have t4 := rblk_cell hSw.1 4; have t5 := rblk_cell hSw.1 5; go_simp; (try with_reducible rfl))
  try simp only [ps]
  refine tk (i := 60) (v := ?vg1_61) rfl (by kernel_rfl) (fun _ _ _ h => h) (Or.inl ⟨by rfl, ?hg1_61⟩) hHeld ?_
  case hg1_61 => (intro w hSw; (try dsimp only at hSw); have t0 := rblk_cell hSw.1 0; have t1 := rblk_cell hSw.1 1; have t2 := rblk_cell hSw.1 2; have t3 := rblk_cell hSw.1 3; have t4 := rblk_cell hSw.1 4; have t5 := rblk_cell hSw.1 5; go_simp; (try with_reducible rfl))
  try simp only [ps]
  refine rd1 (i := 61) (by kernel_rfl) rfl (fun K hK => ?_)
  go_simp
  (go_at_call 18; ((with_reducible refine (HC.out _ _ _ op.rds).mono ?_); rintro e Wr1_62 ⟨z61, rfl, hx61, hy61, o61, hap61, hb⟩))
  refine hK.out _ _ ⟨rblk_below hHeld.1 hb, rblk_below hHeld.2.1 hb, rblk_below hHeld.2.2.1 hb, rblk_below hHeld.2.2.2.1 hb, rblk_below hHeld.2.2.2.2.1 hb, rblk_below hHeld.2.2.2.2.2 hb⟩ (fun hH => ?_)
  replace hHeld := hH
  clear hK K hH
  replace op := op.below hb
  replace oq := oq.below hb
  replace orr := orr.below hb
  replace ox := ox.below hb
  replace od := od.below hb
  replace om := om.below hb
  replace kb := bt kb hb
  replace o11 := o11.below hb
  replace o16 := o16.below hb
  replace o20 := o20.below hb
  replace o26 := o26.below hb
  replace o28 := o28.below hb
  replace o36 := o36.below hb
  replace o41 := o41.below hb
  replace o43 := o43.below hb
  replace o46 := o46.below hb
  replace o52 := o52.below hb
  replace o55 := o55.below hb
  clear hx61 hy61 hap61
  clear hb
  try simp only [ps]
  refine rd1 (i := 62) (by kernel_rfl) rfl (fun K hK => ?_)
  go_simp
  (go_at_call 14; ((with_reducible refine (HZ.out _ _ o61.rds).mono ?_); rintro e Wr1_63 ⟨rfl, hb⟩))
  refine hK.out _ _ ⟨rblk_below hHeld.1 hb, rblk_below hHeld.2.1 hb, rblk_below hHeld.2.2.1 hb, rblk_below hHeld.2.2.2.1 hb, rblk_below hHeld.2.2.2.2.1 hb, rblk_below hHeld.2.2.2.2.2 hb⟩ (fun hH => ?_)
  replace hHeld := hH
  clear hK K hH
  replace op := op.below hb
  replace oq := oq.below hb
  replace orr := orr.below hb
  replace ox := ox.below hb
  replace od := od.below hb
  replace om := om.below hb
  replace kb := bt kb hb
  replace o11 := o11.below hb
  replace o16 := o16.below hb
  replace o20 := o20.below hb
  replace o26 := o26.below hb
  replace o28 := o28.below hb
  replace o36 := o36.below hb
  replace o41 := o41.below hb
  replace o43 := o43.below hb
  replace o46 := o46.below hb
  replace o52 := o52.below hb
  replace o55 := o55.below hb
  replace o61 := o61.below hb
  clear hb
  try simp only [ps]
  refine tk (i := 63) (v := ?vg1_64) rfl (by kernel_rfl) (fun _ _ _ h => h) (Or.inl ⟨by rfl, ?hg1_64⟩) hHeld ?_
  case hg1_64 => (intro w hSw; (try dsimp only at hSw); go_simp; (try with_reducible rfl))
  try simp only [ps]
  refine tk (i := 64) (v := ?vg1_65) rfl (by kernel_rfl) (fun _ _ _ h => h) (Or.inl ⟨by rfl, ?hg1_65⟩) hHeld ?_
  case hg1_65 => (intro w hSw; (try dsimp only at hSw); go_simp; (try with_reducible rfl))
  try simp only [ps]
  refine tk (i := 65) (v := ?vg1_66) rfl (by kernel_rfl) (fun _ _ _ h => h) (Or.inl ⟨by rfl, ?hg1_66⟩) hHeld ?_
  case hg1_66 => (intro w hSw; (try dsimp only at hSw); go_simp; (try with_reducible rfl))
  try simp only [ps]
  refine wpAnyH_done (by kernel_rfl) ?_ _
  have HR := Lib.hid kb
  clear hHeld kb op oq orr ox od om o11 o16 o20 o26 o28 o36 o41 o43 o46 o52 o55 o61
  go_wp2
  go_ret
  exact ⟨rfl, HR.out⟩
end Go.Proofs.YtdgfbnnohnaoaaaGreatDoor

