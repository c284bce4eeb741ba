/-
  The walk of the law of shapes.
-/
import Derived.Test.YtaohiacpdljacaaGreatWg
import Derived.Test.YtaohiacpdljacaaGreatShL
namespace Go.Proofs.YtaohiacpdljacaaGreat
open Go.ChangeShapes Go.WideShapes Go.ChangeAt Go.RowKit
set_option linter.unusedVariables false
set_option linter.unusedSimpArgs false
set_option maxRecDepth 4000
theorem six_same {w : World} {g : Nat} {T : TypeId} {o0 o1 o2 o3 o4 o5 : Value} (h : w.heap[g]? = some (.cells #[o0, o1, o2, o3, o4, o5] T (0, 0))) (u0 u1 u2 u3 u4 u5 : Value) : ((((((w.setCell ⟨g, 0, none⟩ u0).setCell ⟨g, 1, none⟩ u1).setCell ⟨g, 2, none⟩ u2).setCell ⟨g, 3, none⟩ u3).setCell ⟨g, 4, none⟩ u4).setCell ⟨g, 5, none⟩ u5).heap[g]? = some (.cells #[u0, u1, u2, u3, u4, u5] T (0, 0)) :=
  rblk_set (rblk_set (rblk_set (rblk_set (rblk_set (rblk_set h 0 u0) 1 u1) 2 u2) 3 u3) 4 u4) 5 u5
theorem six_other {w : World} {g k : Nat} {o : Obj} (h : w.heap[k]? = some o) (hne : g ≠ k) (u0 u1 u2 u3 u4 u5 : Value) : ((((((w.setCell ⟨g, 0, none⟩ u0).setCell ⟨g, 1, none⟩ u1).setCell ⟨g, 2, none⟩ u2).setCell ⟨g, 3, none⟩ u3).setCell ⟨g, 4, none⟩ u4).setCell ⟨g, 5, none⟩ u5).heap[k]? = some o :=
  rblk_other (rblk_other (rblk_other (rblk_other (rblk_other (rblk_other h 0 u0 hne) 1 u1 hne) 2 u2 hne) 3 u3 hne) 4 u4 hne) 5 u5 hne
theorem rfiQ (x : Int) (W : World) (h : -9223372036854775808 ≤ x ∧ x ≤ 9223372036854775807) : Calls Tryz.prog 12 #[.int .i64 x] W (MadeQ W.heap.size (rfi x) W) := (impl_rfi x W h).mono fun e w' k => MadeR.toQ (x := rfi x) k
/-- A point in a variable that a drawn statement lays. -/
def CutF (W0 : World) (FX FY : R3) (sv : Value) (wx : World) : Prop := ∃ (g : Nat) (c d : Ad), sv = .pointer (some ⟨g, 0, none⟩) ∧ W0.heap.size ≤ g ∧ wx.heap[g]? = some (.cells #[.bool FX.p, .slice c.A FX.l.length c.c, .slice c.D FX.m.length c.d, .bool FY.p, .slice d.A FY.l.length d.c, .slice d.D FY.m.length d.d] 31 (0, 0)) ∧ Rds wx (rows FX c ++ rows FY d) ∧ Below W0.heap.size W0 wx
set_option maxHeartbeats 4000000 in
theorem law_shapes (A : Option Addr) (n c : Nat) (w : World) (hn : n ≤ 9223372036854775807) (hA : RdB w A n w.heap.size) :
    Calls Tryz.prog 3 #[.slice A n c] w fun e w' => e = .returned (.bool true) ∧ Below w.heap.size w w' := by
  by_cases hg : (1048576 : Int) < (n : Int)
  · go_enter Tryz.func3, Tryz.ntmps3
    go_wp2
    go_ret
    exact ⟨rfl, Below.refl _ _⟩
  have hn2 : n ≤ 1048576 := by omega
  have HM := Lib.hid (makeTri_any A n c w hn2 hA)
  clear hA
  go_enter Tryz.func3, Tryz.ntmps3
  go_wp2_with fail
  refine (HM.out).mono ?_
  rintro e W1 ⟨⟨p, q, r, G, hd, hpr, rfl, P_l, o1, o2, o3⟩, kb⟩
  obtain ⟨U, V, FX, FY, S, H, b0, b1, b2, b3, b4, b5, b6, b7, b8, b9, b10, b11⟩ := all_shapes p q r hd.1 hd.2.1 hd.2.2 hpr
  have HAdd := Lib.hid (fun W h h' => b0 W h h')
  have HSub := Lib.hid (fun a b W h h' => b1 a b W h h')
  have HSh := Lib.hid (fun A W h h' => b2 A W h h')
  have HSg := Lib.hid (fun a W h => b3 a W h)
  have HCm := Lib.hid (fun a b W h h' => b4 a b W h h')
  have HOs := Lib.hid (fun A W h h' => b5 A W h h')
  have HOf := Lib.hid (fun A D c d W h h' k k' => b6 A D c d W h h' k k')
  have HOg := Lib.hid (fun A D c d W h h' k k' => b7 A D c d W h h' k k')
  have HAl := Lib.hid (fun A W h h' => b8 A W h h')
  have HAm := Lib.hid (fun D c d W h h' => b9 D c d W h h')
  have HEq := Lib.hid (fun a b lo hi W h h' => b10 a b lo hi W h h')
  have HSa := Lib.hid (fun a W h => b11 a W h)
  unfold MadeP at HAdd HSub
  unfold MadeQ at HSh HAl HAm
  clear HM hd hpr b0 b1 b2 b3 b4 b5 b6 b7 b8 b9 b10 b11
  go_wp2_with fail
  go_cut [4] (fun sv wx => CutF W1 FX FY sv wx)
  case first =>
    have kc : Below W1.heap.size W1 W1.drew := (Below.refl _ _).drew
    replace o1 := o1.below kc
    replace o2 := o2.below kc
    replace o3 := o3.below kc
    have hG := rblk_lt P_l
    refine wp_region_held_drew (S := fun w' => w'.heap[G]? = some (.cells #[.bool p.x.p, .slice p.a.A p.x.l.length p.a.c, .slice p.a.D p.x.m.length p.a.d, .bool p.y.p, .slice p.b.A p.y.l.length p.b.c, .slice p.b.D p.y.m.length p.b.d, .bool q.x.p, .slice q.a.A q.x.l.length q.a.c, .slice q.a.D q.x.m.length q.a.d, .bool q.y.p, .slice q.b.A q.y.l.length q.b.c, .slice q.b.D q.y.m.length q.b.d, .bool r.x.p, .slice r.a.A r.x.l.length r.a.c, .slice r.a.D r.x.m.length r.a.d, .bool r.y.p, .slice r.b.A r.y.l.length r.b.c, .slice r.b.D r.y.m.length r.b.d] 31 (0, 0))) (by kernel_rfl) (P_l) (fun hHeld => ?_)
    clear P_l kb
    generalize W1.drew = Wd at *
    refine tk (i := 0) (v := ?vg1_1) rfl (by kernel_rfl) (fun _ _ _ h => h) (Or.inl ⟨by rfl, ?hg1_1⟩) hHeld ?_
    case hg1_1 => (intro w hSw; (try dsimp only at hSw); go_simp; (try with_reducible rfl))
    try simp only [ps]
    refine tk (i := 1) (v := ?vg1_2) rfl (by kernel_rfl) (fun _ _ _ h => h) (Or.inl ⟨by rfl, ?hg1_2⟩) hHeld ?_
    case hg1_2 => (intro w hSw; (try dsimp only at hSw); go_simp; (try with_reducible rfl))
    try simp only [ps]
    refine tk (i := 2) (v := ?vg1_3) rfl (by kernel_rfl) (fun _ _ _ h => h) (Or.inl ⟨by rfl, ?hg1_3⟩) hHeld ?_
    case hg1_3 => (intro w hSw; (try dsimp only at hSw); have t0 := rblk_cell hSw 0; have t1 := rblk_cell hSw 1; have t2 := rblk_cell hSw 2; have t3 := rblk_cell hSw 3; have t4 := rblk_cell hSw 4; have t5 := rblk_cell hSw 5; have t6 := rblk_cell hSw 6; have t7 := rblk_cell hSw 7; have t8 := rblk_cell hSw 8; have t9 := rblk_cell hSw 9; have t10 := rblk_cell hSw 10; have t11 := rblk_cell hSw 11; have t12 := rblk_cell hSw 12; have t13 := rblk_cell hSw 13; have t14 := rblk_cell hSw 14; have t15 := rblk_cell hSw 15; have t16 := rblk_cell hSw 16; have t17 := rblk_cell hSw 17; go_simp; (try with_reducible rfl))
    try simp only [ps]
    refine tk (i := 3) (v := ?vg1_4) rfl (by kernel_rfl) (fun _ _ _ h => h) (Or.inl ⟨by rfl, ?hg1_4⟩) hHeld ?_
    case hg1_4 => (intro w hSw; (try dsimp only at hSw); go_simp; (try with_reducible rfl))
    try simp only [ps]
    refine tk (i := 4) (v := ?vg1_5) rfl (by kernel_rfl) (fun _ _ _ h => h) (Or.inl ⟨by rfl, ?hg1_5⟩) hHeld ?_
    case hg1_5 => (intro w hSw; (try dsimp only at hSw); go_simp; (try with_reducible rfl))
    try simp only [ps]
    refine tk (i := 5) (v := ?vg1_6) rfl (by kernel_rfl) (fun _ _ _ h => h) (Or.inl ⟨by rfl, ?hg1_6⟩) hHeld ?_
    case hg1_6 => (intro w hSw; (try dsimp only at hSw); have t0 := rblk_cell hSw 0; have t1 := rblk_cell hSw 1; have t2 := rblk_cell hSw 2; have t3 := rblk_cell hSw 3; have t4 := rblk_cell hSw 4; have t5 := rblk_cell hSw 5; have t6 := rblk_cell hSw 6; have t7 := rblk_cell hSw 7; have t8 := rblk_cell hSw 8; have t9 := rblk_cell hSw 9; have t10 := rblk_cell hSw 10; have t11 := rblk_cell hSw 11; have t12 := rblk_cell hSw 12; have t13 := rblk_cell hSw 13; have t14 := rblk_cell hSw 14; have t15 := rblk_cell hSw 15; have t16 := rblk_cell hSw 16; have t17 := rblk_cell hSw 17; go_simp; (try with_reducible rfl))
    try simp only [ps]
    refine tk (i := 7) (v := ?vg1_7) rfl (by kernel_rfl) (fun _ _ _ h => h) (Or.inl ⟨by rfl, ?hg1_7⟩) hHeld ?_
    case hg1_7 => (intro w hSw; (try dsimp only at hSw); go_simp; (try with_reducible rfl))
    try simp only [ps]
    refine tk (i := 8) (v := ?vg1_8) rfl (by kernel_rfl) (fun _ _ _ h => h) (Or.inl ⟨by rfl, ?hg1_8⟩) hHeld ?_
    case hg1_8 => (intro w hSw; (try dsimp only at hSw); go_simp; (try with_reducible rfl))
    try simp only [ps]
    refine tk (i := 9) (v := ?vg1_9) rfl (by kernel_rfl) (fun _ _ _ h => h) (Or.inl ⟨by rfl, ?hg1_9⟩) hHeld ?_
    case hg1_9 => (intro w hSw; (try dsimp only at hSw); have t0 := rblk_cell hSw 0; have t1 := rblk_cell hSw 1; have t2 := rblk_cell hSw 2; have t3 := rblk_cell hSw 3; have t4 := rblk_cell hSw 4; have t5 := rblk_cell hSw 5; have t6 := rblk_cell hSw 6; have t7 := rblk_cell hSw 7; have t8 := rblk_cell hSw 8; have t9 := rblk_cell hSw 9; have t10 := rblk_cell hSw 10; have t11 := rblk_cell hSw 11; have t12 := rblk_cell hSw 12; have t13 := rblk_cell hSw 13; have t14 := rblk_cell hSw 14; have t15 := rblk_cell hSw 15; have t16 := rblk_cell hSw 16; have t17 := rblk_cell hSw 17; go_simp; (try with_reducible rfl))
    try simp only [ps]
    refine wpAnyH_ready (rs := [6, 11]) (by kernel_rfl) (by simp) ?_
    refine rc1 rfl (fun K hK => ?_) (rc1 rfl (fun K hK => ?_) AllReadyH.nil)
    · skip
      go_simp
      (go_at_call 8; ((with_reducible refine (HAdd.out _ o1 o2).mono ?_); rintro e Wr1_10 ⟨a, b, rfl, hcU, oU, hapU, hb⟩))
      refine hK.out _ _ (rblk_below hHeld hb) (fun hH => ?_)
      replace hHeld := hH
      clear hK K hH
      replace o1 := o1.below hb
      replace o2 := o2.below hb
      replace o3 := o3.below hb
      replace kc := bt kc hb
      clear hb hapU hcU
      try simp only [ps]
      refine wpAnyH_ready (rs := [10, 11]) (by kernel_rfl) (by simp) ?_
      refine rc1 rfl (fun K hK => ?_) (rc1 rfl (fun K hK => ?_) AllReadyH.nil)
      · skip
        go_simp
        (go_at_call 7; ((with_reducible refine (HSub.out _ _ _ oU.rds o3).mono ?_); rintro e Wr1_11 ⟨c, d, rfl, hcF, oF, hapF, hb⟩))
        refine hK.out _ _ (rblk_below hHeld hb) (fun hH => ?_)
        replace hHeld := hH
        clear hK K hH
        replace o1 := o1.below hb
        replace o2 := o2.below hb
        replace o3 := o3.below hb
        replace kc := bt kc hb
        replace oU := oU.below hb
        clear hb hapF hcF oU
        try simp only [ps]
        refine rd1 (i := 11) (by kernel_rfl) rfl (fun K hK => ?_)
        go_simp
        have hge : W1.heap.size ≤ Wr1_11.heap.size := kc.size
        have tt := heap_alloc_new Wr1_11 (.cells z6 31)
        have hb := ba1 Wr1_11 (.cells z6 31)
        refine hK.out _ _ (rblk_below hHeld hb) (fun hH => ?_)
        replace hHeld := hH
        clear hK K hH
        replace o1 := o1.below hb
        replace o2 := o2.below hb
        replace o3 := o3.below hb
        replace kc := bt kc hb
        replace oF := oF.below hb
        clear hb
        generalize (Wr1_11.alloc (.cells z6 31)) = Wa1_12 at hHeld tt o1 o2 o3 kc oF ⊢
        generalize Wr1_11.heap.size = gx at tt hge oF ⊢
        try simp only [ps]
        refine rd1 (i := 12) (by kernel_rfl) rfl (fun K hK => ?_)
        have t0 := rblk_cell tt 0
        have q0 := rblk_free tt 0
        have t1 := rblk_cell tt 1
        have q1 := rblk_free tt 1
        have t2 := rblk_cell tt 2
        have q2 := rblk_free tt 2
        have t3 := rblk_cell tt 3
        have q3 := rblk_free tt 3
        have t4 := rblk_cell tt 4
        have q4 := rblk_free tt 4
        have t5 := rblk_cell tt 5
        have q5 := rblk_free tt 5
        go_simp
        clear t0 q0 t1 q1 t2 q2 t3 q3 t4 q4 t5 q5
        have hne : gx ≠ G := by omega
        refine hK.out _ _ (six_other hHeld hne (.bool FX.p) (.slice c.A FX.l.length c.c) (.slice c.D FX.m.length c.d) (.bool FY.p) (.slice d.A FY.l.length d.c) (.slice d.D FY.m.length d.d)) (fun hH => ?_)
        replace hHeld := hH
        clear hK K hH
        replace tt := six_same tt (.bool FX.p) (.slice c.A FX.l.length c.c) (.slice c.D FX.m.length c.d) (.bool FY.p) (.slice d.A FY.l.length d.c) (.slice d.D FY.m.length d.d)
        replace oF := (owns_put6 (r := gx) oF (.inr (Nat.le_refl _)) (.bool FX.p) (.slice c.A FX.l.length c.c) (.slice c.D FX.m.length c.d) (.bool FY.p) (.slice d.A FY.l.length d.c) (.slice d.D FY.m.length d.d)).rds
        replace kc := below_put6 (r := gx) kc hge (.bool FX.p) (.slice c.A FX.l.length c.c) (.slice c.D FX.m.length c.d) (.bool FY.p) (.slice d.A FY.l.length d.c) (.slice d.D FY.m.length d.d)
        try simp only [ps]
        refine wpAnyH_done (by kernel_rfl) ?_ _
        clear hHeld
        go_wp2_with fail
        go_meet
        exact ⟨gx, c, d, rfl, hge, tt, oF, kc⟩
      · skip
        go_simp
        have hge : W1.heap.size ≤ Wr1_10.heap.size := kc.size
        have tt := heap_alloc_new Wr1_10 (.cells z6 31)
        have hb := ba1 Wr1_10 (.cells z6 31)
        refine hK.out _ _ (rblk_below hHeld hb) (fun hH => ?_)
        replace hHeld := hH
        clear hK K hH
        replace o1 := o1.below hb
        replace o2 := o2.below hb
        replace o3 := o3.below hb
        replace kc := bt kc hb
        replace oU := oU.below hb
        clear hb
        generalize (Wr1_10.alloc (.cells z6 31)) = Wa1_13 at hHeld tt o1 o2 o3 kc oU ⊢
        generalize Wr1_10.heap.size = gx at tt hge oU ⊢
        try simp only [ps]
        refine rd1 (i := 10) (by kernel_rfl) rfl (fun K hK => ?_)
        have hgF := rblk_lt tt
        go_simp
        (go_at_call 7; ((with_reducible refine (HSub.out _ _ _ oU.rds o3).mono ?_); rintro e Wr1_14 ⟨c, d, rfl, hcF, oF, hapF, hb⟩))
        refine hK.out _ _ (rblk_below hHeld hb) (fun hH => ?_)
        replace hHeld := hH
        clear hK K hH
        replace o1 := o1.below hb
        replace o2 := o2.below hb
        replace o3 := o3.below hb
        replace kc := bt kc hb
        replace oU := oU.below hb
        replace tt := rblk_below tt hb
        clear hb hapF hcF oU
        try simp only [ps]
        refine rd1 (i := 12) (by kernel_rfl) rfl (fun K hK => ?_)
        have t0 := rblk_cell tt 0
        have q0 := rblk_free tt 0
        have t1 := rblk_cell tt 1
        have q1 := rblk_free tt 1
        have t2 := rblk_cell tt 2
        have q2 := rblk_free tt 2
        have t3 := rblk_cell tt 3
        have q3 := rblk_free tt 3
        have t4 := rblk_cell tt 4
        have q4 := rblk_free tt 4
        have t5 := rblk_cell tt 5
        have q5 := rblk_free tt 5
        go_simp
        clear t0 q0 t1 q1 t2 q2 t3 q3 t4 q4 t5 q5
        have hne : gx ≠ G := by omega
        refine hK.out _ _ (six_other hHeld hne (.bool FX.p) (.slice c.A FX.l.length c.c) (.slice c.D FX.m.length c.d) (.bool FY.p) (.slice d.A FY.l.length d.c) (.slice d.D FY.m.length d.d)) (fun hH => ?_)
        replace hHeld := hH
        clear hK K hH
        replace tt := six_same tt (.bool FX.p) (.slice c.A FX.l.length c.c) (.slice c.D FX.m.length c.d) (.bool FY.p) (.slice d.A FY.l.length d.c) (.slice d.D FY.m.length d.d)
        replace oF := (owns_put6 (r := gx) oF (.inl hgF) (.bool FX.p) (.slice c.A FX.l.length c.c) (.slice c.D FX.m.length c.d) (.bool FY.p) (.slice d.A FY.l.length d.c) (.slice d.D FY.m.length d.d)).rds
        replace kc := below_put6 (r := gx) kc hge (.bool FX.p) (.slice c.A FX.l.length c.c) (.slice c.D FX.m.length c.d) (.bool FY.p) (.slice d.A FY.l.length d.c) (.slice d.D FY.m.length d.d)
        try simp only [ps]
        refine wpAnyH_done (by kernel_rfl) ?_ _
        clear hHeld
        go_wp2_with fail
        go_meet
        exact ⟨gx, c, d, rfl, hge, tt, oF, kc⟩
    · skip
      go_simp
      have hge : W1.heap.size ≤ Wd.heap.size := kc.size
      have tt := heap_alloc_new Wd (.cells z6 31)
      have hb := ba1 Wd (.cells z6 31)
      refine hK.out _ _ (rblk_below hHeld hb) (fun hH => ?_)
      replace hHeld := hH
      clear hK K hH
      replace o1 := o1.below hb
      replace o2 := o2.below hb
      replace o3 := o3.below hb
      replace kc := bt kc hb
      clear hb
      generalize (Wd.alloc (.cells z6 31)) = Wa1_15 at hHeld tt o1 o2 o3 kc ⊢
      generalize Wd.heap.size = gx at tt hge ⊢
      try simp only [ps]
      refine rd1 (i := 6) (by kernel_rfl) rfl (fun K hK => ?_)
      go_simp
      (go_at_call 8; ((with_reducible refine (HAdd.out _ o1 o2).mono ?_); rintro e Wr1_16 ⟨a, b, rfl, hcU, oU, hapU, hb⟩))
      refine hK.out _ _ (rblk_below hHeld hb) (fun hH => ?_)
      replace hHeld := hH
      clear hK K hH
      replace o1 := o1.below hb
      replace o2 := o2.below hb
      replace o3 := o3.below hb
      replace kc := bt kc hb
      replace tt := rblk_below tt hb
      clear hb hapU hcU
      try simp only [ps]
      refine rd1 (i := 10) (by kernel_rfl) rfl (fun K hK => ?_)
      have hgF := rblk_lt tt
      go_simp
      (go_at_call 7; ((with_reducible refine (HSub.out _ _ _ oU.rds o3).mono ?_); rintro e Wr1_17 ⟨c, d, rfl, hcF, oF, hapF, hb⟩))
      refine hK.out _ _ (rblk_below hHeld hb) (fun hH => ?_)
      replace hHeld := hH
      clear hK K hH
      replace o1 := o1.below hb
      replace o2 := o2.below hb
      replace o3 := o3.below hb
      replace kc := bt kc hb
      replace tt := rblk_below tt hb
      replace oU := oU.below hb
      clear hb hapF hcF oU
      try simp only [ps]
      refine rd1 (i := 12) (by kernel_rfl) rfl (fun K hK => ?_)
      have t0 := rblk_cell tt 0
      have q0 := rblk_free tt 0
      have t1 := rblk_cell tt 1
      have q1 := rblk_free tt 1
      have t2 := rblk_cell tt 2
      have q2 := rblk_free tt 2
      have t3 := rblk_cell tt 3
      have q3 := rblk_free tt 3
      have t4 := rblk_cell tt 4
      have q4 := rblk_free tt 4
      have t5 := rblk_cell tt 5
      have q5 := rblk_free tt 5
      go_simp
      clear t0 q0 t1 q1 t2 q2 t3 q3 t4 q4 t5 q5
      have hne : gx ≠ G := by omega
      refine hK.out _ _ (six_other hHeld hne (.bool FX.p) (.slice c.A FX.l.length c.c) (.slice c.D FX.m.length c.d) (.bool FY.p) (.slice d.A FY.l.length d.c) (.slice d.D FY.m.length d.d)) (fun hH => ?_)
      replace hHeld := hH
      clear hK K hH
      replace tt := six_same tt (.bool FX.p) (.slice c.A FX.l.length c.c) (.slice c.D FX.m.length c.d) (.bool FY.p) (.slice d.A FY.l.length d.c) (.slice d.D FY.m.length d.d)
      replace oF := (owns_put6 (r := gx) oF (.inl hgF) (.bool FX.p) (.slice c.A FX.l.length c.c) (.slice c.D FX.m.length c.d) (.bool FY.p) (.slice d.A FY.l.length d.c) (.slice d.D FY.m.length d.d)).rds
      replace kc := below_put6 (r := gx) kc hge (.bool FX.p) (.slice c.A FX.l.length c.c) (.slice c.D FX.m.length c.d) (.bool FY.p) (.slice d.A FY.l.length d.c) (.slice d.D FY.m.length d.d)
      try simp only [ps]
      refine wpAnyH_done (by kernel_rfl) ?_ _
      clear hHeld
      go_wp2_with fail
      go_meet
      exact ⟨gx, c, d, rfl, hge, tt, oF, kc⟩
  case rest =>
    obtain ⟨g4, c, d, rfl, hge4, P_f, oF, hb⟩ := hcut
    replace P_l := rblk_below P_l hb
    replace o1 := o1.below hb
    replace o2 := o2.below hb
    replace o3 := o3.below hb
    replace kb := bt kb hb
    clear hb hge4
    go_wp2_with fail
    have hb : Below wc.heap.size wc wc.drew := (Below.refl _ _).drew
    replace o1 := o1.below hb
    replace o2 := o2.below hb
    replace o3 := o3.below hb
    replace oF := oF.below hb
    replace kb := bt kb hb
    clear hb
    refine wp_region_held_drew (S := fun w' => w'.heap[G]? = some (.cells #[.bool p.x.p, .slice p.a.A p.x.l.length p.a.c, .slice p.a.D p.x.m.length p.a.d, .bool p.y.p, .slice p.b.A p.y.l.length p.b.c, .slice p.b.D p.y.m.length p.b.d, .bool q.x.p, .slice q.a.A q.x.l.length q.a.c, .slice q.a.D q.x.m.length q.a.d, .bool q.y.p, .slice q.b.A q.y.l.length q.b.c, .slice q.b.D q.y.m.length q.b.d, .bool r.x.p, .slice r.a.A r.x.l.length r.a.c, .slice r.a.D r.x.m.length r.a.d, .bool r.y.p, .slice r.b.A r.y.l.length r.b.c, .slice r.b.D r.y.m.length r.b.d] 31 (0, 0)) ∧ w'.heap[g4]? = some (.cells #[.bool FX.p, .slice c.A FX.l.length c.c, .slice c.D FX.m.length c.d, .bool FY.p, .slice d.A FY.l.length d.c, .slice d.D FY.m.length d.d] 31 (0, 0))) (by kernel_rfl) ⟨P_l, P_f⟩ (fun hHeld => ?_)
    clear P_l P_f
    generalize wc.drew = W2 at *
    refine tk (i := 0) (v := ?vg2_1) rfl (by kernel_rfl) (fun _ _ _ h => h) (Or.inl ⟨by rfl, ?hg2_1⟩) hHeld ?_
    case hg2_1 => (intro w hSw; (try dsimp only at hSw); go_simp; (try with_reducible rfl))
    try simp only [ps]
    refine tk (i := 1) (v := ?vg2_2) rfl (by kernel_rfl) (fun _ _ _ h => h) (Or.inl ⟨by rfl, ?hg2_2⟩) hHeld ?_
    case hg2_2 => (intro w hSw; (try dsimp only at hSw); go_simp; (try with_reducible rfl))
    try simp only [ps]
    refine tk (i := 2) (v := ?vg2_3) rfl (by kernel_rfl) (fun _ _ _ h => h) (Or.inl ⟨by rfl, ?hg2_3⟩) hHeld ?_
    case hg2_3 => (intro w hSw; (try dsimp only at hSw); have t0 := rblk_cell hSw.1 0; have t1 := rblk_cell hSw.1 1; have t2 := rblk_cell hSw.1 2; have t3 := rblk_cell hSw.1 3; have t4 := rblk_cell hSw.1 4; have t5 := rblk_cell hSw.1 5; have t6 := rblk_cell hSw.1 6; have t7 := rblk_cell hSw.1 7; have t8 := rblk_cell hSw.1 8; have t9 := rblk_cell hSw.1 9; have t10 := rblk_cell hSw.1 10; have t11 := rblk_cell hSw.1 11; have t12 := rblk_cell hSw.1 12; have t13 := rblk_cell hSw.1 13; have t14 := rblk_cell hSw.1 14; have t15 := rblk_cell hSw.1 15; have t16 := rblk_cell hSw.1 16; have t17 := rblk_cell hSw.1 17; go_simp; (try with_reducible rfl))
    try simp only [ps]
    refine tk (i := 3) (v := ?vg2_4) rfl (by kernel_rfl) (fun _ _ _ h => h) (Or.inl ⟨by rfl, ?hg2_4⟩) hHeld ?_
    case hg2_4 => (intro w hSw; (try dsimp only at hSw); go_simp; (try with_reducible rfl))
    try simp only [ps]
    refine tk (i := 4) (v := ?vg2_5) rfl (by kernel_rfl) (fun _ _ _ h => h) (Or.inl ⟨by rfl, ?hg2_5⟩) hHeld ?_
    case hg2_5 => (intro w hSw; (try dsimp only at hSw); go_simp; (try with_reducible rfl))
    try simp only [ps]
    refine tk (i := 5) (v := ?vg2_6) rfl (by kernel_rfl) (fun _ _ _ h => h) (Or.inl ⟨by rfl, ?hg2_6⟩) hHeld ?_
    case hg2_6 => (intro w hSw; (try dsimp only at hSw); have t0 := rblk_cell hSw.1 0; have t1 := rblk_cell hSw.1 1; have t2 := rblk_cell hSw.1 2; have t3 := rblk_cell hSw.1 3; have t4 := rblk_cell hSw.1 4; have t5 := rblk_cell hSw.1 5; have t6 := rblk_cell hSw.1 6; have t7 := rblk_cell hSw.1 7; have t8 := rblk_cell hSw.1 8; have t9 := rblk_cell hSw.1 9; have t10 := rblk_cell hSw.1 10; have t11 := rblk_cell hSw.1 11; have t12 := rblk_cell hSw.1 12; have t13 := rblk_cell hSw.1 13; have t14 := rblk_cell hSw.1 14; have t15 := rblk_cell hSw.1 15; have t16 := rblk_cell hSw.1 16; have t17 := rblk_cell hSw.1 17; go_simp; (try with_reducible rfl))
    try simp only [ps]
    refine tk (i := 6) (v := ?vg2_7) rfl (by kernel_rfl) (fun _ _ _ h => h) (Or.inl ⟨by rfl, ?hg2_7⟩) hHeld ?_
    case hg2_7 => (intro w hSw; (try dsimp only at hSw); have t0 := rblk_cell hSw.2 0; have t1 := rblk_cell hSw.2 1; have t2 := rblk_cell hSw.2 2; have t3 := rblk_cell hSw.2 3; have t4 := rblk_cell hSw.2 4; have t5 := rblk_cell hSw.2 5; go_simp; (try with_reducible rfl))
    try simp only [ps]
    refine rd1 (i := 7) (by kernel_rfl) rfl (fun K hK => ?_)
    go_simp
    have P_m := heap_alloc_new W2 (.cells #[.bool q.x.p, .slice q.a.A q.x.l.length q.a.c, .slice q.a.D q.x.m.length q.a.d, .bool q.y.p, .slice q.b.A q.y.l.length q.b.c, .slice q.b.D q.y.m.length q.b.d, .bool p.x.p, .slice p.a.A p.x.l.length p.a.c, .slice p.a.D p.x.m.length p.a.d, .bool p.y.p, .slice p.b.A p.y.l.length p.b.c, .slice p.b.D p.y.m.length p.b.d, .bool FX.p, .slice c.A FX.l.length c.c, .slice c.D FX.m.length c.d, .bool FY.p, .slice d.A FY.l.length d.c, .slice d.D FY.m.length d.d] 31)
    have hb := ba1 W2 (.cells #[.bool q.x.p, .slice q.a.A q.x.l.length q.a.c, .slice q.a.D q.x.m.length q.a.d, .bool q.y.p, .slice q.b.A q.y.l.length q.b.c, .slice q.b.D q.y.m.length q.b.d, .bool p.x.p, .slice p.a.A p.x.l.length p.a.c, .slice p.a.D p.x.m.length p.a.d, .bool p.y.p, .slice p.b.A p.y.l.length p.b.c, .slice p.b.D p.y.m.length p.b.d, .bool FX.p, .slice c.A FX.l.length c.c, .slice c.D FX.m.length c.d, .bool FY.p, .slice d.A FY.l.length d.c, .slice d.D FY.m.length d.d] 31)
    refine hK.out _ _ ⟨rblk_below hHeld.1 hb, rblk_below hHeld.2 hb⟩ (fun hH => ?_)
    replace hHeld := hH
    clear hK K hH
    replace o1 := o1.below hb
    replace o2 := o2.below hb
    replace o3 := o3.below hb
    replace oF := oF.below hb
    replace kb := bt kb hb
    clear hb
    generalize W2.alloc (.cells #[.bool q.x.p, .slice q.a.A q.x.l.length q.a.c, .slice q.a.D q.x.m.length q.a.d, .bool q.y.p, .slice q.b.A q.y.l.length q.b.c, .slice q.b.D q.y.m.length q.b.d, .bool p.x.p, .slice p.a.A p.x.l.length p.a.c, .slice p.a.D p.x.m.length p.a.d, .bool p.y.p, .slice p.b.A p.y.l.length p.b.c, .slice p.b.D p.y.m.length p.b.d, .bool FX.p, .slice c.A FX.l.length c.c, .slice c.D FX.m.length c.d, .bool FY.p, .slice d.A FY.l.length d.c, .slice d.D FY.m.length d.d] 31) = W3 at hHeld P_m o1 o2 o3 oF kb ⊢
    generalize W2.heap.size = G2 at P_m ⊢
    try simp only [ps]
    refine tk (i := 8) (v := ?vg2_8) rfl (by kernel_rfl) (fun _ _ _ h => h) (Or.inl ⟨by rfl, ?hg2_8⟩) hHeld ?_
    case hg2_8 => (intro w hSw; (try dsimp only at hSw); go_simp; (try with_reducible rfl))
    try simp only [ps]
    refine wpAnyH_done (by kernel_rfl) ?_ _
    obtain ⟨P_l, P_f⟩ := hHeld
    clear P_f
    have rL : Rds W3 (lrow [p, q, r]) := rds3 o1 o2 o3
    have rM : Rds W3 (lrow [q, p, ⟨FX, FY, c, d⟩]) := rds3 o2 o1 oF
    clear o1 o2 o3 oF
    have sL : RdS W3 (some ⟨G, 0, none⟩) (flat [p, q, r]) := rd_blk P_l rfl
    have sM : RdS W3 (some ⟨G2, 0, none⟩) (flat [q, p, ⟨FX, FY, c, d⟩]) := rd_blk P_m rfl
    clear P_l P_m
    go_wp2_with fail
    refine (HSh.out _ _ sL rL).mono ?_
    rintro e W4 ⟨a, rfl, hx0, hy0, oS, hapS, hb⟩
    replace rL := rL.below hb
    replace rM := rM.below hb
    replace sL := sL.below hb
    replace sM := sM.below hb
    replace kb := bt kb hb
    clear hb hapS hx0 hy0
    have P_s := heap_alloc_new W4 (.cells (g3 S.p a.A S.l.length a.c a.D S.m.length a.d) 29)
    have hb := ba1 W4 (.cells (g3 S.p a.A S.l.length a.c a.D S.m.length a.d) 29)
    replace rL := rL.below hb
    replace rM := rM.below hb
    replace sL := sL.below hb
    replace sM := sM.below hb
    replace kb := bt kb hb
    replace oS := (oS.below hb).rds
    clear hb
    go_wp2_with fail
    generalize W4.alloc (.cells (g3 S.p a.A S.l.length a.c a.D S.m.length a.d) 29) = W5 at P_s kb rL rM sL sM oS ⊢
    generalize W4.heap.size = g6 at P_s ⊢
    have hb : Below W5.heap.size W5 W5.drew := (Below.refl _ _).drew
    replace rL := rL.below hb
    replace rM := rM.below hb
    replace sL := sL.below hb
    replace sM := sM.below hb
    replace kb := bt kb hb
    replace oS := oS.below hb
    clear hb
    refine wp_region_held_drew (S := fun w' => w'.heap[g6]? = some (.cells (g3 S.p a.A S.l.length a.c a.D S.m.length a.d) 29 (0, 0))) (by kernel_rfl) (P_s) (fun hHeld => ?_)
    clear P_s
    generalize W5.drew = W6 at *
    refine tk (i := 0) (v := ?vg3_1) rfl (by kernel_rfl) (fun _ _ _ h => h) (Or.inl ⟨by rfl, ?hg3_1⟩) hHeld ?_
    case hg3_1 => (intro w hSw; (try dsimp only at hSw); have t0 := rblk_cell hSw 0; have t1 := rblk_cell hSw 1; have t2 := rblk_cell hSw 2; go_simp; (try with_reducible rfl))
    try simp only [ps]
    refine rd1 (i := 1) (by kernel_rfl) rfl (fun K hK => ?_)
    go_simp
    (go_at_call 10; ((with_reducible refine (HSg.out _ _ oS).mono ?_); rintro e Wr3_2 ⟨rfl, hb⟩))
    refine hK.out _ _ (rblk_below hHeld hb) (fun hH => ?_)
    replace hHeld := hH
    clear hK K hH
    replace rL := rL.below hb
    replace rM := rM.below hb
    replace sL := sL.below hb
    replace sM := sM.below hb
    replace oS := oS.below hb
    replace kb := bt kb hb
    clear hb
    try simp only [ps]
    refine tk (i := 2) (v := ?vg3_3) rfl (by kernel_rfl) (fun _ _ _ h => h) (Or.inl ⟨by rfl, ?hg3_3⟩) hHeld ?_
    case hg3_3 => (intro w hSw; (try dsimp only at hSw); go_simp; (try with_reducible rfl))
    try simp only [ps]
    refine tk (i := 3) (v := ?vg3_4) rfl (by kernel_rfl) (fun _ _ _ h => h) (Or.inl ⟨by rfl, ?hg3_4⟩) hHeld ?_
    case hg3_4 => (intro w hSw; (try dsimp only at hSw); go_simp; (try with_reducible rfl))
    try simp only [ps]
    refine tk (i := 4) (v := ?vg3_5) rfl (by kernel_rfl) (fun _ _ _ h => h) (Or.inl ⟨by rfl, ?hg3_5⟩) hHeld ?_
    case hg3_5 => (intro w hSw; (try dsimp only at hSw); have t0 := rblk_cell hSw 0; have t1 := rblk_cell hSw 1; have t2 := rblk_cell hSw 2; go_simp; (try with_reducible rfl))
    try simp only [ps]
    refine rd1 (i := 5) (by kernel_rfl) rfl (fun K hK => ?_)
    go_simp
    (go_at_call 12; ((with_reducible refine (rfiQ 1 _ (by decide)).mono ?_); rintro e Wr3_6 ⟨a1, rfl, hx1, hy1, o5, hap5, hb⟩))
    refine hK.out _ _ (rblk_below hHeld hb) (fun hH => ?_)
    replace hHeld := hH
    clear hK K hH
    replace rL := rL.below hb
    replace rM := rM.below hb
    replace sL := sL.below hb
    replace sM := sM.below hb
    replace oS := oS.below hb
    replace kb := bt kb hb
    clear hap5 hx1 hy1
    clear hb
    try simp only [ps]
    refine rd1 (i := 6) (by kernel_rfl) rfl (fun K hK => ?_)
    go_simp
    (go_at_call 11; ((with_reducible refine (HCm.out _ _ _ oS o5.rds).mono ?_); rintro e Wr3_7 ⟨rfl, hb⟩))
    refine hK.out _ _ (rblk_below hHeld hb) (fun hH => ?_)
    replace hHeld := hH
    clear hK K hH
    replace rL := rL.below hb
    replace rM := rM.below hb
    replace sL := sL.below hb
    replace sM := sM.below hb
    replace oS := oS.below hb
    replace kb := bt kb hb
    replace o5 := o5.below hb
    clear hb
    try simp only [ps]
    refine tk (i := 7) (v := ?vg3_8) rfl (by kernel_rfl) (fun _ _ _ h => h) (Or.inl ⟨by rfl, ?hg3_8⟩) hHeld ?_
    case hg3_8 => (intro w hSw; (try dsimp only at hSw); go_simp; (try with_reducible rfl))
    try simp only [ps]
    refine tk (i := 8) (v := ?vg3_9) rfl (by kernel_rfl) (fun _ _ _ h => h) (Or.inl ⟨by rfl, ?hg3_9⟩) hHeld ?_
    case hg3_9 => (intro w hSw; (try dsimp only at hSw); go_simp; (try with_reducible rfl))
    try simp only [ps]
    refine tk (i := 9) (v := ?vg3_10) rfl (by kernel_rfl) (fun _ _ _ h => h) (Or.inl ⟨by rfl, ?hg3_10⟩) hHeld ?_
    case hg3_10 => (intro w hSw; (try dsimp only at hSw); go_simp; (try with_reducible rfl))
    try simp only [ps]
    refine tk (i := 10) (v := ?vg3_11) rfl (by kernel_rfl) (fun _ _ _ h => h) (Or.inl ⟨by rfl, ?hg3_11⟩) hHeld ?_
    case hg3_11 => (intro w hSw; (try dsimp only at hSw); go_simp; (try with_reducible rfl))
    try simp only [ps]
    refine tk (i := 11) (v := ?vg3_12) rfl (by kernel_rfl) (fun _ _ _ h => h) (Or.inl ⟨by rfl, ?hg3_12⟩) hHeld ?_
    case hg3_12 => (intro w hSw; (try dsimp only at hSw); go_simp; (try with_reducible rfl))
    try simp only [ps]
    refine rd1 (i := 12) (by kernel_rfl) rfl (fun K hK => ?_)
    go_simp
    (go_at_call 13; ((with_reducible refine (HOs.out _ _ sL rL).mono ?_); rintro e Wr3_13 ⟨rfl, hb⟩))
    refine hK.out _ _ (rblk_below hHeld hb) (fun hH => ?_)
    replace hHeld := hH
    clear hK K hH
    replace rL := rL.below hb
    replace rM := rM.below hb
    replace sL := sL.below hb
    replace sM := sM.below hb
    replace oS := oS.below hb
    replace kb := bt kb hb
    replace o5 := o5.below hb
    clear hb
    try simp only [ps]
    refine tk (i := 13) (v := ?vg3_14) rfl (by kernel_rfl) (fun _ _ _ h => h) (Or.inl ⟨by rfl, ?hg3_14⟩) hHeld ?_
    case hg3_14 => (intro w hSw; (try dsimp only at hSw); go_simp; (try with_reducible rfl))
    try simp only [ps]
    refine tk (i := 14) (v := ?vg3_15) rfl (by kernel_rfl) (fun _ _ _ h => h) (Or.inl ⟨by rfl, ?hg3_15⟩) hHeld ?_
    case hg3_15 => (intro w hSw; (try dsimp only at hSw); go_simp; (try with_reducible rfl))
    try simp only [ps]
    refine tk (i := 15) (v := ?vg3_16) rfl (by kernel_rfl) (fun _ _ _ h => h) (Or.inl ⟨by rfl, ?hg3_16⟩) hHeld ?_
    case hg3_16 => (intro w hSw; (try dsimp only at hSw); go_simp; (try with_reducible rfl))
    try simp only [ps]
    refine tk (i := 16) (v := ?vg3_17) rfl (by kernel_rfl) (fun _ _ _ h => h) (Or.inl ⟨by rfl, ?hg3_17⟩) hHeld ?_
    case hg3_17 => (intro w hSw; (try dsimp only at hSw); go_simp; (try with_reducible rfl))
    try simp only [ps]
    refine rd1 (i := 17) (by kernel_rfl) rfl (fun K hK => ?_)
    go_simp
    (go_at_call 13; ((with_reducible refine (HOf.out _ _ _ _ _ sL rL sM rM).mono ?_); rintro e Wr3_18 ⟨rfl, hb⟩))
    refine hK.out _ _ (rblk_below hHeld hb) (fun hH => ?_)
    replace hHeld := hH
    clear hK K hH
    replace rL := rL.below hb
    replace rM := rM.below hb
    replace sL := sL.below hb
    replace sM := sM.below hb
    replace oS := oS.below hb
    replace kb := bt kb hb
    replace o5 := o5.below hb
    clear hb
    try simp only [ps]
    refine tk (i := 18) (v := ?vg3_19) rfl (by kernel_rfl) (fun _ _ _ h => h) (Or.inl ⟨by rfl, ?hg3_19⟩) hHeld ?_
    case hg3_19 => (intro w hSw; (try dsimp only at hSw); go_simp; (try with_reducible rfl))
    try simp only [ps]
    refine tk (i := 19) (v := ?vg3_20) rfl (by kernel_rfl) (fun _ _ _ h => h) (Or.inl ⟨by rfl, ?hg3_20⟩) hHeld ?_
    case hg3_20 => (intro w hSw; (try dsimp only at hSw); go_simp; (try with_reducible rfl))
    try simp only [ps]
    refine tk (i := 20) (v := ?vg3_21) rfl (by kernel_rfl) (fun _ _ _ h => h) (Or.inl ⟨by rfl, ?hg3_21⟩) hHeld ?_
    case hg3_21 => (intro w hSw; (try dsimp only at hSw); go_simp; (try with_reducible rfl))
    try simp only [ps]
    refine tk (i := 21) (v := ?vg3_22) rfl (by kernel_rfl) (fun _ _ _ h => h) (Or.inl ⟨by rfl, ?hg3_22⟩) hHeld ?_
    case hg3_22 => (intro w hSw; (try dsimp only at hSw); go_simp; (try with_reducible rfl))
    try simp only [ps]
    refine tk (i := 22) (v := ?vg3_23) rfl (by kernel_rfl) (fun _ _ _ h => h) (Or.inl ⟨by rfl, ?hg3_23⟩) hHeld ?_
    case hg3_23 => (intro w hSw; (try dsimp only at hSw); go_simp; (try with_reducible rfl))
    try simp only [ps]
    refine rd1 (i := 23) (by kernel_rfl) rfl (fun K hK => ?_)
    go_simp
    (go_at_call 13; ((with_reducible refine (HOg.out _ _ _ _ _ sL rL sM rM).mono ?_); rintro e Wr3_24 ⟨rfl, hb⟩))
    refine hK.out _ _ (rblk_below hHeld hb) (fun hH => ?_)
    replace hHeld := hH
    clear hK K hH
    replace rL := rL.below hb
    replace rM := rM.below hb
    replace sL := sL.below hb
    replace sM := sM.below hb
    replace oS := oS.below hb
    replace kb := bt kb hb
    replace o5 := o5.below hb
    clear hb
    try simp only [ps]
    refine tk (i := 24) (v := ?vg3_25) rfl (by kernel_rfl) (fun _ _ _ h => h) (Or.inl ⟨by rfl, ?hg3_25⟩) hHeld ?_
    case hg3_25 => (intro w hSw; (try dsimp only at hSw); go_simp; (try with_reducible rfl))
    try simp only [ps]
    refine tk (i := 25) (v := ?vg3_26) rfl (by kernel_rfl) (fun _ _ _ h => h) (Or.inl ⟨by rfl, ?hg3_26⟩) hHeld ?_
    case hg3_26 => (intro w hSw; (try dsimp only at hSw); go_simp; (try with_reducible rfl))
    try simp only [ps]
    refine tk (i := 26) (v := ?vg3_27) rfl (by kernel_rfl) (fun _ _ _ h => h) (Or.inl ⟨by rfl, ?hg3_27⟩) hHeld ?_
    case hg3_27 => (intro w hSw; (try dsimp only at hSw); go_simp; (try with_reducible rfl))
    try simp only [ps]
    refine tk (i := 27) (v := ?vg3_28) rfl (by kernel_rfl) (fun _ _ _ h => h) (Or.inl ⟨by rfl, ?hg3_28⟩) hHeld ?_
    case hg3_28 => (intro w hSw; (try dsimp only at hSw); go_simp; (try with_reducible rfl))
    try simp only [ps]
    refine tk (i := 29) (v := ?vg3_29) rfl (by kernel_rfl) (fun _ _ _ h => h) (Or.inl ⟨by rfl, ?hg3_29⟩) hHeld ?_
    case hg3_29 => (intro w hSw; (try dsimp only at hSw); go_simp; (try with_reducible rfl))
    try simp only [ps]
    refine rd1 (i := 28) (by kernel_rfl) rfl (fun K hK => ?_)
    go_simp
    (go_at_call 15; ((with_reducible refine (HAl.out _ _ sL rL).mono ?_); rintro e Wr3_30 ⟨a2, rfl, hx2, hy2, o7, hap7, hb⟩))
    refine hK.out _ _ (rblk_below hHeld hb) (fun hH => ?_)
    replace hHeld := hH
    clear hK K hH
    replace rL := rL.below hb
    replace rM := rM.below hb
    replace sL := sL.below hb
    replace sM := sM.below hb
    replace oS := oS.below hb
    replace kb := bt kb hb
    replace o5 := o5.below hb
    clear hap7 hx2 hy2
    clear hb
    try simp only [ps]
    refine rd1 (i := 30) (by kernel_rfl) rfl (fun K hK => ?_)
    go_simp
    (go_at_call 15; ((with_reducible refine (HAm.out _ _ _ _ sM rM).mono ?_); rintro e Wr3_31 ⟨a3, rfl, hx3, hy3, o8, hap8, hb⟩))
    refine hK.out _ _ (rblk_below hHeld hb) (fun hH => ?_)
    replace hHeld := hH
    clear hK K hH
    replace rL := rL.below hb
    replace rM := rM.below hb
    replace sL := sL.below hb
    replace sM := sM.below hb
    replace oS := oS.below hb
    replace kb := bt kb hb
    replace o5 := o5.below hb
    replace o7 := o7.below hb
    clear hap8 hx3 hy3
    clear hb
    try simp only [ps]
    refine rd1 (i := 31) (by kernel_rfl) rfl (fun K hK => ?_)
    go_simp
    (go_at_call 14; ((with_reducible refine (HEq.out _ _ _ _ _ o7.rds o8).mono ?_); rintro e Wr3_32 ⟨rfl, hb⟩))
    refine hK.out _ _ (rblk_below hHeld hb) (fun hH => ?_)
    replace hHeld := hH
    clear hK K hH
    replace rL := rL.below hb
    replace rM := rM.below hb
    replace sL := sL.below hb
    replace sM := sM.below hb
    replace oS := oS.below hb
    replace kb := bt kb hb
    replace o5 := o5.below hb
    replace o7 := o7.below hb
    replace o8 := o8.below hb
    clear hb
    try simp only [ps]
    refine tk (i := 32) (v := ?vg3_33) rfl (by kernel_rfl) (fun _ _ _ h => h) (Or.inl ⟨by rfl, ?hg3_33⟩) hHeld ?_
    case hg3_33 => (intro w hSw; (try dsimp only at hSw); go_simp; (try with_reducible rfl))
    try simp only [ps]
    refine tk (i := 33) (v := ?vg3_34) rfl (by kernel_rfl) (fun _ _ _ h => h) (Or.inl ⟨by rfl, ?hg3_34⟩) hHeld ?_
    case hg3_34 => (intro w hSw; (try dsimp only at hSw); go_simp; (try with_reducible rfl))
    try simp only [ps]
    refine tk (i := 34) (v := ?vg3_35) rfl (by kernel_rfl) (fun _ _ _ h => h) (Or.inl ⟨by rfl, ?hg3_35⟩) hHeld ?_
    case hg3_35 => (intro w hSw; (try dsimp only at hSw); go_simp; (try with_reducible rfl))
    try simp only [ps]
    refine rd1 (i := 35) (by kernel_rfl) rfl (fun K hK => ?_)
    go_simp
    (go_at_call 15; ((with_reducible refine (HAl.out _ _ sL rL).mono ?_); rintro e Wr3_36 ⟨a4, rfl, hx4, hy4, o9, hap9, hb⟩))
    refine hK.out _ _ (rblk_below hHeld hb) (fun hH => ?_)
    replace hHeld := hH
    clear hK K hH
    replace rL := rL.below hb
    replace rM := rM.below hb
    replace sL := sL.below hb
    replace sM := sM.below hb
    replace oS := oS.below hb
    replace kb := bt kb hb
    replace o5 := o5.below hb
    replace o7 := o7.below hb
    replace o8 := o8.below hb
    clear hap9 hx4 hy4
    clear hb
    try simp only [ps]
    refine rd1 (i := 36) (by kernel_rfl) rfl (fun K hK => ?_)
    go_simp
    (go_at_call 10; ((with_reducible refine (HSa.out _ _ o9.rds).mono ?_); rintro e Wr3_37 ⟨rfl, hb⟩))
    refine hK.out _ _ (rblk_below hHeld hb) (fun hH => ?_)
    replace hHeld := hH
    clear hK K hH
    replace rL := rL.below hb
    replace rM := rM.below hb
    replace sL := sL.below hb
    replace sM := sM.below hb
    replace oS := oS.below hb
    replace kb := bt kb hb
    replace o5 := o5.below hb
    replace o7 := o7.below hb
    replace o8 := o8.below hb
    replace o9 := o9.below hb
    clear hb
    try simp only [ps]
    refine tk (i := 37) (v := ?vg3_38) rfl (by kernel_rfl) (fun _ _ _ h => h) (Or.inl ⟨by rfl, ?hg3_38⟩) hHeld ?_
    case hg3_38 => (intro w hSw; (try dsimp only at hSw); go_simp; (try with_reducible rfl))
    try simp only [ps]
    refine tk (i := 38) (v := ?vg3_39) rfl (by kernel_rfl) (fun _ _ _ h => h) (Or.inl ⟨by rfl, ?hg3_39⟩) hHeld ?_
    case hg3_39 => (intro w hSw; (try dsimp only at hSw); go_simp; (try with_reducible rfl))
    try simp only [ps]
    refine tk (i := 39) (v := ?vg3_40) rfl (by kernel_rfl) (fun _ _ _ h => h) (Or.inl ⟨by rfl, ?hg3_40⟩) hHeld ?_
    case hg3_40 => (intro w hSw; (try dsimp only at hSw); go_simp; (try with_reducible rfl))
    try simp only [ps]
    refine wpAnyH_done (by kernel_rfl) ?_ _
    have HR := Lib.hid kb
    clear hHeld rL rM sL sM oS kb
    go_wp2
    go_ret
    exact ⟨rfl, HR.out⟩
end Go.Proofs.YtaohiacpdljacaaGreat
