/-
  The laws' drawn triangles: 'l06Draw', 'MakeTriangle'.
-/
import Derived.Test.YtppdholccpgcpaaGreatLawP
import Derived.Test.YtppdholccpgcpaaGreatMkPt
import Derived.Test.YtppdholccpgcpaaGreatTriS
import Derived.Test.YtppdholccpgcpaaGreatShM0
namespace Go.Proofs.YtppdholccpgcpaaGreat
open Go.ChangeShapes Go.WideShapes Go.ChangeAt Go.RowKit
set_option linter.unusedVariables false
set_option linter.unusedSimpArgs false
set_option maxRecDepth 4000
theorem rd_blk {w : World} {g : Nat} {c : Array Value} {T : TypeId} (h : w.heap[g]? = some (.cells c T (0, 0))) {l : List Value} (hl : l = c.toList) : RdS w (some ⟨g, 0, none⟩) l :=
  .inr ⟨g, 0, rfl, rblk_lt h, fun j hj => by rw [Nat.zero_add, cell_of_row w g j c T (0, 0) h]; subst hl; simp⟩
theorem rds3 {w : World} {p q r : PV} (h : Rds w (prow p)) (h' : Rds w (prow q)) (h'' : Rds w (prow r)) : Rds w (lrow [p, q, r]) := by
  rw [lrow_cons, lrow_cons, lrow_one]; exact h.app (h'.app h'')
def DdP (k : Nat) (p : PV) : Prop := Dd k p.x ∧ Dd k p.y
theorem DdP.at {k : Nat} {p : PV} (h : DdP k p) (hk : k ≤ 216) : ∃ x y, AtP k p x y := by
  obtain ⟨⟨x, e, l⟩, y, e', l'⟩ := h
  exact ⟨x, y, by rw [e]; exact valx_ofO (fitO_some (l.fit hk)), by rw [e']; exact valx_ofO (fitO_some (l'.fit hk)), l, l'⟩
theorem DdP.len {k : Nat} {p : PV} (h : DdP k p) (hk : k ≤ 216) : LenP p := by
  have h1 := h.1.len hk
  have h2 := h.2.len hk
  exact ⟨⟨by omega, by omega⟩, by omega, by omega⟩
def TriPost (e : Ending) (w' : World) : Prop := ∃ (p q r : PV) (G : Nat), (DdP 3 p ∧ DdP 3 q ∧ DdP 3 r) ∧ properB [p, q, r] = true ∧ e = .returned (.slice (some ⟨G, 0, none⟩) 3 3) ∧ w'.heap[G]? = some (.cells (p18 p q r) 31 (0, 0)) ∧ Rds w' (prow p) ∧ Rds w' (prow q) ∧ Rds w' (prow r)
theorem rfi_at (x : Int) (h0 : -9 ≤ x) (h1 : x ≤ 9) : valx (rfi x) = some (x : Rat) ∧ Lg 1 (x : Rat) := by
  have hl : Lg 1 (x : Rat) := ⟨by show x.natAbs < 10 ^ 1; omega, by show 1 < 10 ^ 1; decide⟩
  have e : rfi x = ofO (some (x : Rat)) := rfl
  rw [e]
  exact ⟨valx_ofO (fitO_some (hl.fit (by omega))), hl⟩
theorem at_rfi (x y : Int) (a b : Ad) (h0 : -9 ≤ x ∧ x ≤ 9) (h1 : -9 ≤ y ∧ y ≤ 9) : AtP 1 ⟨rfi x, rfi y, a, b⟩ (x : Rat) (y : Rat) :=
  ⟨(rfi_at x h0.1 h0.2).1, (rfi_at y h1.1 h1.2).1, (rfi_at x h0.1 h0.2).2, (rfi_at y h1.1 h1.2).2⟩
theorem proper_int (x y u v s t : Int) (a0 b0 a1 b1 a2 b2 : Ad) (hx : -9 ≤ x ∧ x ≤ 9) (hy : -9 ≤ y ∧ y ≤ 9) (hu : -9 ≤ u ∧ u ≤ 9) (hv : -9 ≤ v ∧ v ≤ 9) (hs : -9 ≤ s ∧ s ≤ 9) (ht : -9 ≤ t ∧ t ≤ 9) (h : 0 < det (x : Rat) (y : Rat) (u : Rat) (v : Rat) (s : Rat) (t : Rat)) : properB [⟨rfi x, rfi y, a0, b0⟩, ⟨rfi u, rfi v, a1, b1⟩, ⟨rfi s, rfi t, a2, b2⟩] = true := by
  rw [proper_at (at_rfi x y a0 b0 hx hy) (at_rfi u v a1 b1 hu hv) (at_rfi s t a2 b2 hs ht) (by omega), decide_eq_true h]
theorem proper_last (a0 b0 a1 b1 a2 b2 : Ad) : properB [⟨rfi 0, rfi 0, a0, b0⟩, ⟨rfi 2, rfi 0, a1, b1⟩, ⟨rfi 0, rfi 1, a2, b2⟩] = true :=
  proper_int 0 0 2 0 0 1 a0 b0 a1 b1 a2 b2 (by omega) (by omega) (by omega) (by omega) (by omega) (by omega) (by decide +kernel)
set_option maxHeartbeats 4000000 in
theorem draw6_any (g : Nat) (A : Option Addr) (n c : Nat) (w : World) (hn : n ≤ 1048576) (hc : CurAt w g A n c) :
    Calls Tryz.prog 59 #[.pointer (some ⟨g, 0, none⟩)] w fun e w' => TriPost e w' ∧ w.grownBy w' (some g) := by
  have H := Lib.hid (fun W (h : CurAt W g A n c) => point_any g A n c W hn h)
  have HI : Hid (∀ (p q r : PV) (B : Option Addr) (W : World), DdP 3 p → DdP 3 q → DdP 3 r → CapP p → CapP q → CapP r → RdS W B (flat [p, q, r]) → Rds W (prow p) → Rds W (prow q) → Rds W (prow r) → Calls Tryz.prog 99 #[.slice B 3 3] W (fun e w' => e = .returned (.bool (properB [p, q, r])) ∧ Below W.heap.size W w')) := Lib.hid (fun p q r B W d1 d2 d3 c1 c2 c3 h h1 h2 h3 =>
    spec_proper [p, q, r] B 3 W (by simp) (fun x hx => by
      simp only [List.mem_cons, List.not_mem_nil, or_false] at hx
      rcases hx with rfl | rfl | rfl
      · exact d1.len (by omega)
      · exact d2.len (by omega)
      · exact d3.len (by omega)) (fun x hx => by
      simp only [List.mem_cons, List.not_mem_nil, or_false] at hx
      rcases hx with rfl | rfl | rfl <;> assumption) h (rds3 h1 h2 h3))
  have HP := Lib.hid (fun x y W h0 h1 => spec_pointAt x y W h0 h1)
  unfold PtPost at H
  unfold MadeP at HP
  have hgw := hc.lt
  have hl0 := Lib.hid hc.low
  have kg0 := grown_refl w (some g)
  go_enter Tryz.func59, Tryz.ntmps59
  go_wp2_with fail
  go_loopw [3] (fun k w' => ∃ j : Nat, j ≤ 6 ∧ k = .int .i64 (j : Int) ∧ CurAt w' g A n c ∧ w.grownBy w' (some g)) (fun k _ => 6 - (intOf k).toNat)
  case atStart => exact ⟨0, by omega, rfl, hc, kg0⟩
  case round =>
    clear hc kg0
    obtain ⟨j, hj, rfl, kc, kg⟩ := hrel
    by_cases hlt : j < 6
    · go_wp2_with fail
      have hg1 := kc.lt
      refine (H.out _ kc).mono ?_
      rintro e V1 ⟨⟨X1, Y1, a1, b1, hd1, rfl, hcp1, o1⟩, kc, hg⟩
      replace kg := grown2 kg hg
      have hz1 := hg.size
      clear hg
      go_wp2_with fail
      have hg2 := kc.lt
      refine (H.out _ kc).mono ?_
      rintro e V2 ⟨⟨X2, Y2, a2, b2, hd2, rfl, hcp2, o2⟩, kc, hg⟩
      replace o1 := owns_grownr o1 hg (by omega)
      replace kg := grown2 kg hg
      have hz2 := hg.size
      clear hg
      go_wp2_with fail
      have hg3 := kc.lt
      refine (H.out _ kc).mono ?_
      rintro e V3 ⟨⟨X3, Y3, a3, b3, hd3, rfl, hcp3, o3⟩, kc, hg⟩
      replace o1 := owns_grownr o1 hg (by omega)
      replace o2 := owns_grownr o2 hg (by omega)
      replace kg := grown2 kg hg
      have hz3 := hg.size
      clear hg
      have P_l := heap_alloc_new V3 (.cells #[.bool X1.p, .slice a1.A X1.l.length a1.c, .slice a1.D X1.m.length a1.d, .bool Y1.p, .slice b1.A Y1.l.length b1.c, .slice b1.D Y1.m.length b1.d, .bool X2.p, .slice a2.A X2.l.length a2.c, .slice a2.D X2.m.length a2.d, .bool Y2.p, .slice b2.A Y2.l.length b2.c, .slice b2.D Y2.m.length b2.d, .bool X3.p, .slice a3.A X3.l.length a3.c, .slice a3.D X3.m.length a3.d, .bool Y3.p, .slice b3.A Y3.l.length b3.c, .slice b3.D Y3.m.length b3.d] 31)
      have hb := ba1 V3 (.cells #[.bool X1.p, .slice a1.A X1.l.length a1.c, .slice a1.D X1.m.length a1.d, .bool Y1.p, .slice b1.A Y1.l.length b1.c, .slice b1.D Y1.m.length b1.d, .bool X2.p, .slice a2.A X2.l.length a2.c, .slice a2.D X2.m.length a2.d, .bool Y2.p, .slice b2.A Y2.l.length b2.c, .slice b2.D Y2.m.length b2.d, .bool X3.p, .slice a3.A X3.l.length a3.c, .slice a3.D X3.m.length a3.d, .bool Y3.p, .slice b3.A Y3.l.length b3.c, .slice b3.D Y3.m.length b3.d] 31)
      replace kc := kc.alloc (.cells #[.bool X1.p, .slice a1.A X1.l.length a1.c, .slice a1.D X1.m.length a1.d, .bool Y1.p, .slice b1.A Y1.l.length b1.c, .slice b1.D Y1.m.length b1.d, .bool X2.p, .slice a2.A X2.l.length a2.c, .slice a2.D X2.m.length a2.d, .bool Y2.p, .slice b2.A Y2.l.length b2.c, .slice b2.D Y2.m.length b2.d, .bool X3.p, .slice a3.A X3.l.length a3.c, .slice a3.D X3.m.length a3.d, .bool Y3.p, .slice b3.A Y3.l.length b3.c, .slice b3.D Y3.m.length b3.d] 31)
      replace o1 := (o1.below hb).rds
      replace o2 := (o2.below hb).rds
      replace o3 := (o3.below hb).rds
      replace kg := grownB kg (hb.mono kg.size)
      clear hb hz1 hz2 hz3 hg1 hg2 hg3
      go_wp2_with fail
      generalize V3.alloc (.cells #[.bool X1.p, .slice a1.A X1.l.length a1.c, .slice a1.D X1.m.length a1.d, .bool Y1.p, .slice b1.A Y1.l.length b1.c, .slice b1.D Y1.m.length b1.d, .bool X2.p, .slice a2.A X2.l.length a2.c, .slice a2.D X2.m.length a2.d, .bool Y2.p, .slice b2.A Y2.l.length b2.c, .slice b2.D Y2.m.length b2.d, .bool X3.p, .slice a3.A X3.l.length a3.c, .slice a3.D X3.m.length a3.d, .bool Y3.p, .slice b3.A Y3.l.length b3.c, .slice b3.D Y3.m.length b3.d] 31) = V4 at P_l kc kg o1 o2 o3 ⊢
      generalize V3.heap.size = G at P_l ⊢
      refine (HI.out ⟨X1, Y1, a1, b1⟩ ⟨X2, Y2, a2, b2⟩ ⟨X3, Y3, a3, b3⟩ _ _ hd1 hd2 hd3 hcp1 hcp2 hcp3 (rd_blk P_l rfl) o1 o2 o3).mono ?_
      rintro e V5 ⟨rfl, hb⟩
      replace P_l := rblk_below P_l hb
      replace o1 := o1.below hb
      replace o2 := o2.below hb
      replace o3 := o3.below hb
      replace kc := kc.belowB hgw hl0.out (hb.mono kg.size)
      replace kg := grownB kg (hb.mono kg.size)
      clear hb
      generalize hpr : properB [⟨X1, Y1, a1, b1⟩, ⟨X2, Y2, a2, b2⟩, ⟨X3, Y3, a3, b3⟩] = bb
      cases bb with
      | true =>
        have HR : Hid (TriPost (.returned (.slice (some ⟨G, 0, none⟩) 3 3)) V5 ∧ w.grownBy V5 (some g)) := Lib.hid ⟨⟨⟨X1, Y1, a1, b1⟩, ⟨X2, Y2, a2, b2⟩, ⟨X3, Y3, a3, b3⟩, G, ⟨hd1, hd2, hd3⟩, hpr, rfl, P_l, o1, o2, o3⟩, kg⟩
        clear P_l o1 o2 o3 kc kg
        go_wp2
        go_ret
        exact HR.out
      | false =>
        clear hpr
        go_wp2_with fail
        have hbd : Below V5.heap.size V5 V5.drew := (Below.refl _ _).drew
        replace kc := kc.belowB hgw hl0.out (hbd.mono kg.size)
        replace kg := grownB kg (hbd.mono kg.size)
        replace o1 := o1.below hbd
        replace o2 := o2.below hbd
        replace o3 := o3.below hbd
        refine wp_region_held_drew (S := fun w' => w'.heap[G]? = some (.cells #[.bool X1.p, .slice a1.A X1.l.length a1.c, .slice a1.D X1.m.length a1.d, .bool Y1.p, .slice b1.A Y1.l.length b1.c, .slice b1.D Y1.m.length b1.d, .bool X2.p, .slice a2.A X2.l.length a2.c, .slice a2.D X2.m.length a2.d, .bool Y2.p, .slice b2.A Y2.l.length b2.c, .slice b2.D Y2.m.length b2.d, .bool X3.p, .slice a3.A X3.l.length a3.c, .slice a3.D X3.m.length a3.d, .bool Y3.p, .slice b3.A Y3.l.length b3.c, .slice b3.D Y3.m.length b3.d] 31 (0, 0))) (by kernel_rfl) (P_l) (fun hHeld => ?_)
        clear P_l hbd
        generalize V5.drew = V6 at *
        refine tk (i := 0) (v := ?vg1_1) rfl (by kernel_rfl) (fun _ _ _ h => h) (Or.inl ⟨by rfl, ?hg1_1⟩) hHeld ?_
        case hg1_1 => (intro w hSw; (try dsimp only at hSw); go_simp; (try with_reducible rfl))
        try simp only [ps]
        refine tk (i := 1) (v := ?vg1_2) rfl (by kernel_rfl) (fun _ _ _ h => h) (Or.inl ⟨by rfl, ?hg1_2⟩) hHeld ?_
        case hg1_2 => (intro w hSw; (try dsimp only at hSw); go_simp; (try with_reducible rfl))
        try simp only [ps]
        refine tk (i := 2) (v := ?vg1_3) rfl (by kernel_rfl) (fun _ _ _ h => h) (Or.inl ⟨by rfl, ?hg1_3⟩) hHeld ?_
        case hg1_3 => (intro w hSw; (try dsimp only at hSw); have t0 := rblk_cell hSw 0; have t1 := rblk_cell hSw 1; have t2 := rblk_cell hSw 2; have t3 := rblk_cell hSw 3; have t4 := rblk_cell hSw 4; have t5 := rblk_cell hSw 5; have t6 := rblk_cell hSw 6; have t7 := rblk_cell hSw 7; have t8 := rblk_cell hSw 8; have t9 := rblk_cell hSw 9; have t10 := rblk_cell hSw 10; have t11 := rblk_cell hSw 11; have t12 := rblk_cell hSw 12; have t13 := rblk_cell hSw 13; have t14 := rblk_cell hSw 14; have t15 := rblk_cell hSw 15; have t16 := rblk_cell hSw 16; have t17 := rblk_cell hSw 17; go_simp; (try with_reducible rfl))
        try simp only [ps]
        refine tk (i := 3) (v := ?vg1_4) rfl (by kernel_rfl) (fun _ _ _ h => h) (Or.inl ⟨by rfl, ?hg1_4⟩) hHeld ?_
        case hg1_4 => (intro w hSw; (try dsimp only at hSw); go_simp; (try with_reducible rfl))
        try simp only [ps]
        refine tk (i := 4) (v := ?vg1_5) rfl (by kernel_rfl) (fun _ _ _ h => h) (Or.inl ⟨by rfl, ?hg1_5⟩) hHeld ?_
        case hg1_5 => (intro w hSw; (try dsimp only at hSw); go_simp; (try with_reducible rfl))
        try simp only [ps]
        refine tk (i := 5) (v := ?vg1_6) rfl (by kernel_rfl) (fun _ _ _ h => h) (Or.inl ⟨by rfl, ?hg1_6⟩) hHeld ?_
        case hg1_6 => (intro w hSw; (try dsimp only at hSw); have t0 := rblk_cell hSw 0; have t1 := rblk_cell hSw 1; have t2 := rblk_cell hSw 2; have t3 := rblk_cell hSw 3; have t4 := rblk_cell hSw 4; have t5 := rblk_cell hSw 5; have t6 := rblk_cell hSw 6; have t7 := rblk_cell hSw 7; have t8 := rblk_cell hSw 8; have t9 := rblk_cell hSw 9; have t10 := rblk_cell hSw 10; have t11 := rblk_cell hSw 11; have t12 := rblk_cell hSw 12; have t13 := rblk_cell hSw 13; have t14 := rblk_cell hSw 14; have t15 := rblk_cell hSw 15; have t16 := rblk_cell hSw 16; have t17 := rblk_cell hSw 17; go_simp; (try with_reducible rfl))
        try simp only [ps]
        refine tk (i := 6) (v := ?vg1_7) rfl (by kernel_rfl) (fun _ _ _ h => h) (Or.inl ⟨by rfl, ?hg1_7⟩) hHeld ?_
        case hg1_7 => (intro w hSw; (try dsimp only at hSw); go_simp; (try with_reducible rfl))
        try simp only [ps]
        refine tk (i := 7) (v := ?vg1_8) rfl (by kernel_rfl) (fun _ _ _ h => h) (Or.inl ⟨by rfl, ?hg1_8⟩) hHeld ?_
        case hg1_8 => (intro w hSw; (try dsimp only at hSw); go_simp; (try with_reducible rfl))
        try simp only [ps]
        refine tk (i := 8) (v := ?vg1_9) rfl (by kernel_rfl) (fun _ _ _ h => h) (Or.inl ⟨by rfl, ?hg1_9⟩) hHeld ?_
        case hg1_9 => (intro w hSw; (try dsimp only at hSw); have t0 := rblk_cell hSw 0; have t1 := rblk_cell hSw 1; have t2 := rblk_cell hSw 2; have t3 := rblk_cell hSw 3; have t4 := rblk_cell hSw 4; have t5 := rblk_cell hSw 5; have t6 := rblk_cell hSw 6; have t7 := rblk_cell hSw 7; have t8 := rblk_cell hSw 8; have t9 := rblk_cell hSw 9; have t10 := rblk_cell hSw 10; have t11 := rblk_cell hSw 11; have t12 := rblk_cell hSw 12; have t13 := rblk_cell hSw 13; have t14 := rblk_cell hSw 14; have t15 := rblk_cell hSw 15; have t16 := rblk_cell hSw 16; have t17 := rblk_cell hSw 17; go_simp; (try with_reducible rfl))
        try simp only [ps]
        refine rd1 (i := 9) (by kernel_rfl) rfl (fun K hK => ?_)
        go_simp
        have P_m := heap_alloc_new V6 (.cells #[.bool X1.p, .slice a1.A X1.l.length a1.c, .slice a1.D X1.m.length a1.d, .bool Y1.p, .slice b1.A Y1.l.length b1.c, .slice b1.D Y1.m.length b1.d, .bool X3.p, .slice a3.A X3.l.length a3.c, .slice a3.D X3.m.length a3.d, .bool Y3.p, .slice b3.A Y3.l.length b3.c, .slice b3.D Y3.m.length b3.d, .bool X2.p, .slice a2.A X2.l.length a2.c, .slice a2.D X2.m.length a2.d, .bool Y2.p, .slice b2.A Y2.l.length b2.c, .slice b2.D Y2.m.length b2.d] 31)
        have hb := ba1 V6 (.cells #[.bool X1.p, .slice a1.A X1.l.length a1.c, .slice a1.D X1.m.length a1.d, .bool Y1.p, .slice b1.A Y1.l.length b1.c, .slice b1.D Y1.m.length b1.d, .bool X3.p, .slice a3.A X3.l.length a3.c, .slice a3.D X3.m.length a3.d, .bool Y3.p, .slice b3.A Y3.l.length b3.c, .slice b3.D Y3.m.length b3.d, .bool X2.p, .slice a2.A X2.l.length a2.c, .slice a2.D X2.m.length a2.d, .bool Y2.p, .slice b2.A Y2.l.length b2.c, .slice b2.D Y2.m.length b2.d] 31)
        replace kc := kc.alloc (.cells #[.bool X1.p, .slice a1.A X1.l.length a1.c, .slice a1.D X1.m.length a1.d, .bool Y1.p, .slice b1.A Y1.l.length b1.c, .slice b1.D Y1.m.length b1.d, .bool X3.p, .slice a3.A X3.l.length a3.c, .slice a3.D X3.m.length a3.d, .bool Y3.p, .slice b3.A Y3.l.length b3.c, .slice b3.D Y3.m.length b3.d, .bool X2.p, .slice a2.A X2.l.length a2.c, .slice a2.D X2.m.length a2.d, .bool Y2.p, .slice b2.A Y2.l.length b2.c, .slice b2.D Y2.m.length b2.d] 31)
        replace kg := grownB kg (hb.mono kg.size)
        replace o1 := o1.below hb
        replace o2 := o2.below hb
        replace o3 := o3.below hb
        refine hK.out _ _ (rblk_below hHeld hb) (fun hH => ?_)
        replace hHeld := hH
        clear hK K hH hb
        generalize V6.alloc (.cells #[.bool X1.p, .slice a1.A X1.l.length a1.c, .slice a1.D X1.m.length a1.d, .bool Y1.p, .slice b1.A Y1.l.length b1.c, .slice b1.D Y1.m.length b1.d, .bool X3.p, .slice a3.A X3.l.length a3.c, .slice a3.D X3.m.length a3.d, .bool Y3.p, .slice b3.A Y3.l.length b3.c, .slice b3.D Y3.m.length b3.d, .bool X2.p, .slice a2.A X2.l.length a2.c, .slice a2.D X2.m.length a2.d, .bool Y2.p, .slice b2.A Y2.l.length b2.c, .slice b2.D Y2.m.length b2.d] 31) = V7 at hHeld P_m kc kg o1 o2 o3 ⊢
        generalize V6.heap.size = G2 at P_m ⊢
        try simp only [ps]
        refine tk (i := 10) (v := ?vg1_10) rfl (by kernel_rfl) (fun _ _ _ h => h) (Or.inl ⟨by rfl, ?hg1_10⟩) hHeld ?_
        case hg1_10 => (intro w hSw; (try dsimp only at hSw); go_simp; (try with_reducible rfl))
        try simp only [ps]
        refine wpAnyH_done (by kernel_rfl) ?_ _
        clear hHeld
        go_wp2_with fail
        refine (HI.out ⟨X1, Y1, a1, b1⟩ ⟨X3, Y3, a3, b3⟩ ⟨X2, Y2, a2, b2⟩ _ _ hd1 hd3 hd2 hcp1 hcp3 hcp2 (rd_blk P_m rfl) o1 o3 o2).mono ?_
        rintro e V8 ⟨rfl, hb⟩
        replace P_m := rblk_below P_m hb
        replace o1 := o1.below hb
        replace o2 := o2.below hb
        replace o3 := o3.below hb
        replace kc := kc.belowB hgw hl0.out (hb.mono kg.size)
        replace kg := grownB kg (hb.mono kg.size)
        clear hb
        generalize hpr : properB [⟨X1, Y1, a1, b1⟩, ⟨X3, Y3, a3, b3⟩, ⟨X2, Y2, a2, b2⟩] = bb
        cases bb with
        | true =>
          have HR : Hid (TriPost (.returned (.slice (some ⟨G2, 0, none⟩) 3 3)) V8 ∧ w.grownBy V8 (some g)) := Lib.hid ⟨⟨⟨X1, Y1, a1, b1⟩, ⟨X3, Y3, a3, b3⟩, ⟨X2, Y2, a2, b2⟩, G2, ⟨hd1, hd3, hd2⟩, hpr, rfl, P_m, o1, o3, o2⟩, kg⟩
          clear P_m o1 o2 o3 kc kg
          go_wp2
          go_ret
          exact HR.out
        | false =>
          clear hpr P_m o1 o2 o3
          have HC := Lib.hid (And.intro kc kg)
          clear kc kg
          go_wp2_with fail
          go_roundw
          case rel => exact ⟨j + 1, by omega, by go_num, HC.out.1, HC.out.2⟩
          case measure => simp [intOf]; omega
    · go_wp2_with fail
      have hz0 := kg.size
      refine (HP.out 0 0 _ ⟨by decide, by decide⟩ ⟨by decide, by decide⟩).mono ?_
      rintro e V1 ⟨a1, b1, rfl, hcp1, o1, hap1, hb⟩
      replace kg := grownB kg (hb.mono kg.size)
      clear hb hap1
      go_wp2_with fail
      refine (HP.out 2 0 _ ⟨by decide, by decide⟩ ⟨by decide, by decide⟩).mono ?_
      rintro e V2 ⟨a2, b2, rfl, hcp2, o2, hap2, hb⟩
      replace o1 := o1.below hb
      replace kg := grownB kg (hb.mono kg.size)
      clear hb hap2
      go_wp2_with fail
      refine (HP.out 0 1 _ ⟨by decide, by decide⟩ ⟨by decide, by decide⟩).mono ?_
      rintro e V3 ⟨a3, b3, rfl, hcp3, o3, hap3, hb⟩
      replace o1 := o1.below hb
      replace o2 := o2.below hb
      replace kg := grownB kg (hb.mono kg.size)
      clear hb hap3
      clear kc
      have P_l := heap_alloc_new V3 (.cells #[.bool (rfi 0).p, .slice a1.A (rfi 0).l.length a1.c, .slice a1.D (rfi 0).m.length a1.d, .bool (rfi 0).p, .slice b1.A (rfi 0).l.length b1.c, .slice b1.D (rfi 0).m.length b1.d, .bool (rfi 2).p, .slice a2.A (rfi 2).l.length a2.c, .slice a2.D (rfi 2).m.length a2.d, .bool (rfi 0).p, .slice b2.A (rfi 0).l.length b2.c, .slice b2.D (rfi 0).m.length b2.d, .bool (rfi 0).p, .slice a3.A (rfi 0).l.length a3.c, .slice a3.D (rfi 0).m.length a3.d, .bool (rfi 1).p, .slice b3.A (rfi 1).l.length b3.c, .slice b3.D (rfi 1).m.length b3.d] 31)
      have hb := ba1 V3 (.cells #[.bool (rfi 0).p, .slice a1.A (rfi 0).l.length a1.c, .slice a1.D (rfi 0).m.length a1.d, .bool (rfi 0).p, .slice b1.A (rfi 0).l.length b1.c, .slice b1.D (rfi 0).m.length b1.d, .bool (rfi 2).p, .slice a2.A (rfi 2).l.length a2.c, .slice a2.D (rfi 2).m.length a2.d, .bool (rfi 0).p, .slice b2.A (rfi 0).l.length b2.c, .slice b2.D (rfi 0).m.length b2.d, .bool (rfi 0).p, .slice a3.A (rfi 0).l.length a3.c, .slice a3.D (rfi 0).m.length a3.d, .bool (rfi 1).p, .slice b3.A (rfi 1).l.length b3.c, .slice b3.D (rfi 1).m.length b3.d] 31)
      replace o1 := (o1.below hb).rds
      replace o2 := (o2.below hb).rds
      replace o3 := (o3.below hb).rds
      replace kg := grownB kg (hb.mono kg.size)
      clear hb
      have d0 := (rfi_dd 0 (by decide) (by decide)).more (show 1 ≤ 3 by decide)
      have d1 := (rfi_dd 1 (by decide) (by decide)).more (show 1 ≤ 3 by decide)
      have d2 := (rfi_dd 2 (by decide) (by decide)).more (show 1 ≤ 3 by decide)
      have HR := Lib.hid (show TriPost (.returned (.slice (some ⟨V3.heap.size, 0, none⟩) 3 3)) (V3.alloc (.cells #[.bool (rfi 0).p, .slice a1.A (rfi 0).l.length a1.c, .slice a1.D (rfi 0).m.length a1.d, .bool (rfi 0).p, .slice b1.A (rfi 0).l.length b1.c, .slice b1.D (rfi 0).m.length b1.d, .bool (rfi 2).p, .slice a2.A (rfi 2).l.length a2.c, .slice a2.D (rfi 2).m.length a2.d, .bool (rfi 0).p, .slice b2.A (rfi 0).l.length b2.c, .slice b2.D (rfi 0).m.length b2.d, .bool (rfi 0).p, .slice a3.A (rfi 0).l.length a3.c, .slice a3.D (rfi 0).m.length a3.d, .bool (rfi 1).p, .slice b3.A (rfi 1).l.length b3.c, .slice b3.D (rfi 1).m.length b3.d] 31)) ∧ w.grownBy (V3.alloc (.cells #[.bool (rfi 0).p, .slice a1.A (rfi 0).l.length a1.c, .slice a1.D (rfi 0).m.length a1.d, .bool (rfi 0).p, .slice b1.A (rfi 0).l.length b1.c, .slice b1.D (rfi 0).m.length b1.d, .bool (rfi 2).p, .slice a2.A (rfi 2).l.length a2.c, .slice a2.D (rfi 2).m.length a2.d, .bool (rfi 0).p, .slice b2.A (rfi 0).l.length b2.c, .slice b2.D (rfi 0).m.length b2.d, .bool (rfi 0).p, .slice a3.A (rfi 0).l.length a3.c, .slice a3.D (rfi 0).m.length a3.d, .bool (rfi 1).p, .slice b3.A (rfi 1).l.length b3.c, .slice b3.D (rfi 1).m.length b3.d] 31)) (some g) from ⟨⟨⟨rfi 0, rfi 0, a1, b1⟩, ⟨rfi 2, rfi 0, a2, b2⟩, ⟨rfi 0, rfi 1, a3, b3⟩, V3.heap.size, ⟨⟨d0, d0⟩, ⟨d2, d0⟩, d0, d1⟩, proper_last _ _ _ _ _ _, rfl, P_l, o1, o2, o3⟩, kg⟩)
      clear P_l o1 o2 o3 kg d0 d1 d2
      go_wp2
      go_ret
      exact HR.out
set_option maxHeartbeats 1000000 in
theorem makeTri_any (A : Option Addr) (n c : Nat) (w : World) (hn : n ≤ 1048576) (hA : RdB w A n w.heap.size) :
    Calls Tryz.prog 11 #[.slice A n c, .int .i64 0] w fun e w' => TriPost e w' ∧ Below w.heap.size w w' := by
  have H := Lib.hid (new31_n 0 0 A n c w rfl (by omega) hn hA)
  go_enter Tryz.func11, Tryz.ntmps11
  go_wp2_with fail
  refine (H.out).mono ?_
  rintro e W1 ⟨rfl, hc1, hb1⟩
  go_wp2_with fail
  refine (draw6_any _ A n c _ hn hc1).mono ?_
  rintro e W2 ⟨⟨p, q, r, G, hd, hpr, rfl, hA2, o1, o2, o3⟩, hg2⟩
  have HR := Lib.hid (show TriPost (.returned (.slice (some ⟨G, 0, none⟩) 3 3)) W2 ∧ Below w.heap.size w W2 from ⟨⟨p, q, r, G, hd, hpr, rfl, hA2, o1, o2, o3⟩, below_own hb1 hg2 (Nat.le_refl _)⟩)
  clear hd hpr hA2 o1 o2 o3 hg2 hb1 hc1 hA
  go_wp2
  go_ret
  exact HR.out
end Go.Proofs.YtppdholccpgcpaaGreat
