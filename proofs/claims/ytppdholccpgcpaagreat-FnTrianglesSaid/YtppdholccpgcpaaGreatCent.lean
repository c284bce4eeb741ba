/-
  The program's Centroid for a proper triangle.
-/
import Derived.Test.YtppdholccpgcpaaGreatWg
import Derived.Test.YtppdholccpgcpaaGreatTriC
import Derived.Test.YtppdholccpgcpaaGreatTriS
import Derived.Test.YtppdholccpgcpaaGreatLawP
namespace Go.Proofs.YtppdholccpgcpaaGreat
open Go.ChangeShapes Go.WideShapes Go.ChangeAt Go.RowKit
set_option linter.unusedVariables false
set_option linter.unusedSimpArgs false
set_option maxRecDepth 4000
attribute [local go_sem ↓] Go.wp_at_zero Go.wp_at_succ
theorem six_same' {w : World} {g : Nat} {T : TypeId} {o0 o1 o2 o3 o4 o5 : Value} (h : w.heap[g]? = some (.cells #[o0, o1, o2, o3, o4, o5] T (0, 0))) (u0 u1 u2 u3 u4 u5 : Value) : ((((((w.setCell ⟨g, 0, none⟩ u0).setCell ⟨g, 1, none⟩ u1).setCell ⟨g, 2, none⟩ u2).setCell ⟨g, 3, none⟩ u3).setCell ⟨g, 4, none⟩ u4).setCell ⟨g, 5, none⟩ u5).heap[g]? = some (.cells #[u0, u1, u2, u3, u4, u5] T (0, 0)) :=
  rblk_set (rblk_set (rblk_set (rblk_set (rblk_set (rblk_set h 0 u0) 1 u1) 2 u2) 3 u3) 4 u4) 5 u5
theorem six_other' {w : World} {g k : Nat} {o : Obj} (h : w.heap[k]? = some o) (hne : g ≠ k) (u0 u1 u2 u3 u4 u5 : Value) : ((((((w.setCell ⟨g, 0, none⟩ u0).setCell ⟨g, 1, none⟩ u1).setCell ⟨g, 2, none⟩ u2).setCell ⟨g, 3, none⟩ u3).setCell ⟨g, 4, none⟩ u4).setCell ⟨g, 5, none⟩ u5).heap[k]? = some o :=
  rblk_other (rblk_other (rblk_other (rblk_other (rblk_other (rblk_other h 0 u0 hne) 1 u1 hne) 2 u2 hne) 3 u3 hne) 4 u4 hne) 5 u5 hne
def s1X (p q : PV) : Option Rat := bothX (binQ addQ (valx p.x) (valx q.x)) (binQ addQ (valx p.y) (valx q.y))
def s1Y (p q : PV) : Option Rat := bothY (binQ addQ (valx p.x) (valx q.x)) (binQ addQ (valx p.y) (valx q.y))
def s2X (p q r : PV) : Option Rat := bothX (binQ addQ (s1X p q) (valx r.x)) (binQ addQ (s1Y p q) (valx r.y))
def s2Y (p q r : PV) : Option Rat := bothY (binQ addQ (s1X p q) (valx r.x)) (binQ addQ (s1Y p q) (valx r.y))
def cenX (p q r : PV) : Option Rat := bothX (binQ mulQ (ofQ 1 3) (s2X p q r)) (binQ mulQ (ofQ 1 3) (s2Y p q r))
def cenY (p q r : PV) : Option Rat := bothY (binQ mulQ (ofQ 1 3) (s2X p q r)) (binQ mulQ (ofQ 1 3) (s2Y p q r))
theorem addO_f (x y : Option Rat) : FitO (binQ addQ x y) := FitO.bin (fun _ _ _ h => cutQ_fit h) x y
theorem s1X_f (p q : PV) : FitO (s1X p q) := bothX_fit (addO_f _ _)
theorem s1Y_f (p q : PV) : FitO (s1Y p q) := bothY_fit (addO_f _ _)
theorem s2X_f (p q r : PV) : FitO (s2X p q r) := bothX_fit (addO_f _ _)
theorem s2Y_f (p q r : PV) : FitO (s2Y p q r) := bothY_fit (addO_f _ _)
set_option maxHeartbeats 4000000 in
theorem impl_cent (p q r : PV) (A : Option Addr) (c : Nat) (w : World) (hpr : properB [p, q, r] = true) (lp : LenP p) (lq : LenP q) (lr : LenP r) (hA : RdS w A (flat [p, q, r])) (hR : Rds w (lrow [p, q, r])) :
    Calls Tryz.prog 24 #[.slice A 3 c] w (MadeP w.heap.size (ofO (cenX p q r)) (ofO (cenY p q r)) w) := by
  obtain ⟨t1, t2, t3⟩ := tri_yes hpr
  have HT := Lib.hid (fun W h h' => show Calls Tryz.prog 63 #[.slice A 3 c] W (fun e w' => e = .returned (.agg (p18 p q r)) ∧ Below W.heap.size W w') from by
    have K := tri_any [p, q, r] A c W (by simp) (fun x hx => by
      simp only [List.mem_cons, List.not_mem_nil, or_false] at hx
      rcases hx with rfl | rfl | rfl <;> assumption) h h'
    rw [t1, t2, t3] at K; exact K)
  have RR : Hid (∀ W, Below w.heap.size w W → RdS W A (flat [p, q, r]) ∧ Rds W (lrow [p, q, r])) := Lib.hid (fun W hB => ⟨hA.below hB, hR.below hB⟩)
  have ok3 : TriOk w p q r := by have k := tri_ok hR; rw [t1, t2, t3] at k; exact k
  have RT : Hid (∀ W, Below w.heap.size w W → TriOk W p q r) := Lib.hid (fun W hB => ok3.below hB)
  have HP : Hid (∀ W, TriOk W p q r → Calls Tryz.prog 74 #[.agg (p6 p), .agg (p6 q)] W (MadeP W.heap.size (ofO (s1X p q)) (ofO (s1Y p q)) W)) := Lib.hid (fun W h => by
    obtain ⟨⟨n1, n2, n3⟩, h1, h2, h3⟩ := h
    have K := plusP_r (valx p.x) (valx p.y) (valx q.x) (valx q.y) p.a p.b q.a q.b W (FitO.val _) (FitO.val _) (FitO.val _) (FitO.val _) (by rw [← n1.1, ← n1.2]; exact h1) (by rw [← n2.1, ← n2.2]; exact h2)
    rw [← n1.1, ← n1.2, ← n2.1, ← n2.2] at K; exact K)
  have HQ : Hid (∀ (a b : Ad) W, Rds W (rows (ofO (s1X p q)) a ++ rows (ofO (s1Y p q)) b) → TriOk W p q r → Calls Tryz.prog 74 #[.agg (r6 (ofO (s1X p q)) (ofO (s1Y p q)) a b), .agg (p6 r)] W (MadeP W.heap.size (ofO (s2X p q r)) (ofO (s2Y p q r)) W)) := Lib.hid (fun a b W h0 h => by
    obtain ⟨⟨n1, n2, n3⟩, h1, h2, h3⟩ := h
    have K := plusP_r (s1X p q) (s1Y p q) (valx r.x) (valx r.y) a b r.a r.b W (s1X_f _ _) (s1Y_f _ _) (FitO.val _) (FitO.val _) h0 (by rw [← n3.1, ← n3.2]; exact h3)
    rw [← n3.1, ← n3.2] at K; exact K)
  have HO := Lib.hid (fun W => show Calls Tryz.prog 82 #[.int .i64 1, .int .i64 3] W (MadeQ W.heap.size (ofO (ofQ 1 3)) W) from (impl_rof 1 3 W (by decide) (by decide)).mono fun e w' k => MadeR.toQ (x := ofO (ofQ 1 3)) k)
  have HM : Hid (∀ (a b d : Ad) W, Rds W (rows (ofO (s2X p q r)) a ++ rows (ofO (s2Y p q r)) b) → Rds W (rows (ofO (ofQ 1 3)) d) → Calls Tryz.prog 75 #[.agg (r6 (ofO (s2X p q r)) (ofO (s2Y p q r)) a b), .agg (r3 (ofO (ofQ 1 3)) d)] W (MadeP W.heap.size (ofO (cenX p q r)) (ofO (cenY p q r)) W)) := Lib.hid (fun a b d W h h' => timesP_r (s2X p q r) (s2Y p q r) (ofQ 1 3) a b d W (s2X_f _ _ _) (s2Y_f _ _ _) (ofQ_fit 1 3) h h')
  clear hA hR ok3 t1 t2 t3 hpr lp lq lr
  generalize ofO (cenX p q r) = X3 at HM ⊢
  generalize ofO (cenY p q r) = Y3 at HM ⊢
  generalize ofO (s2X p q r) = X2 at HQ HM
  generalize ofO (s2Y p q r) = Y2 at HQ HM
  generalize ofO (s1X p q) = X1 at HP HQ
  generalize ofO (s1Y p q) = Y1 at HP HQ
  generalize ofO (ofQ 1 3) = T at HO HM
  unfold MadeP at HP HQ HM
  unfold MadeQ at HO
  have P_o := heap_alloc_new w (.cells z6 31)
  have kb := ba1 w (.cells z6 31)
  have hgo : w.heap.size < (w.alloc (.cells z6 31)).heap.size := rblk_lt P_o
  go_enter Tryz.func24, Tryz.ntmps24
  go_wp2_with fail
  generalize w.alloc (.cells z6 31) = W1 at P_o kb hgo ⊢
  refine (HT.out _ (RR.out _ kb).1 (RR.out _ kb).2).mono ?_
  rintro e W3 ⟨rfl, hb⟩
  replace P_o := rblk_below P_o hb
  replace kb := bt kb hb
  clear hb hgo
  have hgo := rblk_lt P_o
  have P_n := heap_alloc_new W3 (.cells #[.bool false, .slice none 0 0, .slice none 0 0, .bool false, .slice none 0 0, .slice none 0 0, .bool false, .slice none 0 0, .slice none 0 0, .bool false, .slice none 0 0, .slice none 0 0, .bool false, .slice none 0 0, .slice none 0 0, .bool false, .slice none 0 0, .slice none 0 0] 81)
  have P_t := rowV_set P_n (p18 p q r)
  replace P_o := rowV_other (rblk_below P_o (ba1 W3 (.cells #[.bool false, .slice none 0 0, .slice none 0 0, .bool false, .slice none 0 0, .slice none 0 0, .bool false, .slice none 0 0, .slice none 0 0, .bool false, .slice none 0 0, .slice none 0 0, .bool false, .slice none 0 0, .slice none 0 0, .bool false, .slice none 0 0, .slice none 0 0] 81))) (show W3.heap.size ≠ w.heap.size by omega) (p18 p q r)
  have hgt : w.heap.size ≤ W3.heap.size := kb.size
  replace kb := below_setRow (kb.alloc kb.size (.cells #[.bool false, .slice none 0 0, .slice none 0 0, .bool false, .slice none 0 0, .slice none 0 0, .bool false, .slice none 0 0, .slice none 0 0, .bool false, .slice none 0 0, .slice none 0 0, .bool false, .slice none 0 0, .slice none 0 0, .bool false, .slice none 0 0, .slice none 0 0] 81)) hgt (p18 p q r)
  go_wp2_with (refine wpList_store_row rfl 81 (.tmp 3) (.tmp 5) rfl (W3.heap.size) (p18 p q r) rfl rfl 81 _ P_n tri_size rfl (by simp [Value.oneCell', p18, p6, r6, r3, z6]) ?_)
  clear P_n
  generalize (W3.alloc (.cells #[.bool false, .slice none 0 0, .slice none 0 0, .bool false, .slice none 0 0, .slice none 0 0, .bool false, .slice none 0 0, .slice none 0 0, .bool false, .slice none 0 0, .slice none 0 0, .bool false, .slice none 0 0, .slice none 0 0, .bool false, .slice none 0 0, .slice none 0 0] 81)).setRow W3.heap.size (p18 p q r) = W4 at P_t P_o kb ⊢
  have hne : w.heap.size ≠ W3.heap.size := by omega
  generalize W3.heap.size = gt at P_t hne
  clear hgt hgo
  have hb : Below W4.heap.size W4 W4.drew := (Below.refl _ _).drew
  replace P_o := rblk_below P_o hb
  replace kb := bt kb hb
  clear hb
  refine wp_region_held_drew (S := fun w' => w'.heap[gt]? = some (.cells (p18 p q r) 81 (0, 0))) (by kernel_rfl) (P_t) (fun hHeld => ?_)
  clear P_t
  generalize W4.drew = Wd at *
  refine tk (i := 0) (v := ?vg1_1) rfl (by kernel_rfl) (fun _ _ _ h => h) (Or.inl ⟨by rfl, ?hg1_1⟩) hHeld ?_
  case hg1_1 => (intro w hSw; (try dsimp only at hSw); go_simp; (try with_reducible rfl))
  try simp only [ps]
  refine tk (i := 1) (v := ?vg1_2) rfl (by kernel_rfl) (fun _ _ _ h => h) (Or.inl ⟨by rfl, ?hg1_2⟩) hHeld ?_
  case hg1_2 => (intro w hSw; (try dsimp only at hSw); have t0 := rblk_cell hSw 0; have t1 := rblk_cell hSw 1; have t2 := rblk_cell hSw 2; have t3 := rblk_cell hSw 3; have t4 := rblk_cell hSw 4; have t5 := rblk_cell hSw 5; have t6 := rblk_cell hSw 6; have t7 := rblk_cell hSw 7; have t8 := rblk_cell hSw 8; have t9 := rblk_cell hSw 9; have t10 := rblk_cell hSw 10; have t11 := rblk_cell hSw 11; have t12 := rblk_cell hSw 12; have t13 := rblk_cell hSw 13; have t14 := rblk_cell hSw 14; have t15 := rblk_cell hSw 15; have t16 := rblk_cell hSw 16; have t17 := rblk_cell hSw 17; go_simp; (try with_reducible rfl))
  try simp only [ps]
  refine tk (i := 2) (v := ?vg1_3) rfl (by kernel_rfl) (fun _ _ _ h => h) (Or.inl ⟨by rfl, ?hg1_3⟩) hHeld ?_
  case hg1_3 => (intro w hSw; (try dsimp only at hSw); go_simp; (try with_reducible rfl))
  try simp only [ps]
  refine tk (i := 3) (v := ?vg1_4) rfl (by kernel_rfl) (fun _ _ _ h => h) (Or.inl ⟨by rfl, ?hg1_4⟩) hHeld ?_
  case hg1_4 => (intro w hSw; (try dsimp only at hSw); have t0 := rblk_cell hSw 0; have t1 := rblk_cell hSw 1; have t2 := rblk_cell hSw 2; have t3 := rblk_cell hSw 3; have t4 := rblk_cell hSw 4; have t5 := rblk_cell hSw 5; have t6 := rblk_cell hSw 6; have t7 := rblk_cell hSw 7; have t8 := rblk_cell hSw 8; have t9 := rblk_cell hSw 9; have t10 := rblk_cell hSw 10; have t11 := rblk_cell hSw 11; have t12 := rblk_cell hSw 12; have t13 := rblk_cell hSw 13; have t14 := rblk_cell hSw 14; have t15 := rblk_cell hSw 15; have t16 := rblk_cell hSw 16; have t17 := rblk_cell hSw 17; go_simp; (try with_reducible rfl))
  try simp only [ps]
  refine tk (i := 5) (v := ?vg1_5) rfl (by kernel_rfl) (fun _ _ _ h => h) (Or.inl ⟨by rfl, ?hg1_5⟩) hHeld ?_
  case hg1_5 => (intro w hSw; (try dsimp only at hSw); go_simp; (try with_reducible rfl))
  try simp only [ps]
  refine tk (i := 6) (v := ?vg1_6) rfl (by kernel_rfl) (fun _ _ _ h => h) (Or.inl ⟨by rfl, ?hg1_6⟩) hHeld ?_
  case hg1_6 => (intro w hSw; (try dsimp only at hSw); have t0 := rblk_cell hSw 0; have t1 := rblk_cell hSw 1; have t2 := rblk_cell hSw 2; have t3 := rblk_cell hSw 3; have t4 := rblk_cell hSw 4; have t5 := rblk_cell hSw 5; have t6 := rblk_cell hSw 6; have t7 := rblk_cell hSw 7; have t8 := rblk_cell hSw 8; have t9 := rblk_cell hSw 9; have t10 := rblk_cell hSw 10; have t11 := rblk_cell hSw 11; have t12 := rblk_cell hSw 12; have t13 := rblk_cell hSw 13; have t14 := rblk_cell hSw 14; have t15 := rblk_cell hSw 15; have t16 := rblk_cell hSw 16; have t17 := rblk_cell hSw 17; go_simp; (try with_reducible rfl))
  try simp only [ps]
  refine rd1 (i := 4) (by kernel_rfl) rfl (fun K hK => ?_)
  go_simp
  (go_at_call 74; ((with_reducible refine (HP.out _ (RT.out _ kb)).mono ?_); rintro e Wr1_7 ⟨a1, b1, rfl, hc1, o1, hap1, hb⟩))
  refine hK.out _ _ (rblk_below hHeld hb) (fun hH => ?_)
  replace hHeld := hH
  clear hK K hH
  replace P_o := rblk_below P_o hb
  replace kb := bt kb hb
  clear hap1 hc1
  clear hb
  try simp only [ps]
  refine rd1 (i := 7) (by kernel_rfl) rfl (fun K hK => ?_)
  go_simp
  (go_at_call 74; ((with_reducible refine (HQ.out _ _ _ o1.rds (RT.out _ kb)).mono ?_); rintro e Wr1_8 ⟨a2, b2, rfl, hc2, o2, hap2, hb⟩))
  refine hK.out _ _ (rblk_below hHeld hb) (fun hH => ?_)
  replace hHeld := hH
  clear hK K hH
  replace P_o := rblk_below P_o hb
  replace kb := bt kb hb
  replace o1 := o1.below hb
  clear hap2 hc2
  clear hb
  try simp only [ps]
  refine rd1 (i := 8) (by kernel_rfl) rfl (fun K hK => ?_)
  go_simp
  (go_at_call 82; ((with_reducible refine (HO.out _).mono ?_); rintro e Wr1_9 ⟨d1, rfl, hx1, hy1, o3, hap3, hb⟩))
  refine hK.out _ _ (rblk_below hHeld hb) (fun hH => ?_)
  replace hHeld := hH
  clear hK K hH
  replace P_o := rblk_below P_o hb
  replace kb := bt kb hb
  replace o1 := o1.below hb
  replace o2 := o2.below hb
  clear hap3 hx1 hy1
  clear hb
  try simp only [ps]
  refine rd1 (i := 9) (by kernel_rfl) rfl (fun K hK => ?_)
  have hlo := rblk_lt P_o
  have hle := kb.size
  go_simp
  (go_at_call 75; ((with_reducible refine (HM.out _ _ _ _ o2.rds o3.rds).mono ?_); rintro e Wt ⟨a3, b3, rfl, hc3, o4, hap4, hb⟩))
  refine hK.out _ _ (rblk_below hHeld hb) (fun hH => ?_)
  replace hHeld := hH
  clear hK K hH
  replace P_o := rblk_below P_o hb
  replace kb := bt kb hb
  replace o1 := o1.below hb
  replace o2 := o2.below hb
  replace o3 := o3.below hb
  clear hb o1 o2 o3
  try simp only [ps]
  refine rd1 (i := 10) (by kernel_rfl) rfl (fun K hK => ?_)
  have t0 := rblk_cell P_o 0
  have q0 := rblk_free P_o 0
  have t1 := rblk_cell P_o 1
  have q1 := rblk_free P_o 1
  have t2 := rblk_cell P_o 2
  have q2 := rblk_free P_o 2
  have t3 := rblk_cell P_o 3
  have q3 := rblk_free P_o 3
  have t4 := rblk_cell P_o 4
  have q4 := rblk_free P_o 4
  have t5 := rblk_cell P_o 5
  have q5 := rblk_free P_o 5
  go_simp
  clear t0 q0 t1 q1 t2 q2 t3 q3 t4 q4 t5 q5
  refine hK.out _ _ (six_other' hHeld hne (.bool X3.p) (.slice a3.A X3.l.length a3.c) (.slice a3.D X3.m.length a3.d) (.bool Y3.p) (.slice b3.A Y3.l.length b3.c) (.slice b3.D Y3.m.length b3.d)) (fun hH => ?_)
  clear hK K hH hHeld
  have P_e := six_same' P_o (.bool X3.p) (.slice a3.A X3.l.length a3.c) (.slice a3.D X3.m.length a3.d) (.bool Y3.p) (.slice b3.A Y3.l.length b3.c) (.slice b3.D Y3.m.length b3.d)
  have oE := owns_end6 (B := w.heap.size) o4 (.inl hlo) hle (Nat.le_refl _) (.bool X3.p) (.slice a3.A X3.l.length a3.c) (.slice a3.D X3.m.length a3.d) (.bool Y3.p) (.slice b3.A Y3.l.length b3.c) (.slice b3.D Y3.m.length b3.d)
  have kE := below_put6 (r := w.heap.size) kb (Nat.le_refl _) (.bool X3.p) (.slice a3.A X3.l.length a3.c) (.slice a3.D X3.m.length a3.d) (.bool Y3.p) (.slice b3.A Y3.l.length b3.c) (.slice b3.D Y3.m.length b3.d)
  try simp only [ps]
  refine wpAnyH_done (by kernel_rfl) ?_ _
  have t0 := rblk_cell P_e 0
  have t1 := rblk_cell P_e 1
  have t2 := rblk_cell P_e 2
  have t3 := rblk_cell P_e 3
  have t4 := rblk_cell P_e 4
  have t5 := rblk_cell P_e 5
  have HR := Lib.hid (And.intro hc3 (And.intro oE (And.intro hap4 kE)))
  clear hc3 oE hap4 kE P_e P_o kb o4
  go_wp2
  exact bodyPost_ret (v := .agg (r6 X3 Y3 a3 b3)) (by simp [results, Tryz.results24, go_sem, t0, t1, t2, t3, t4, t5]) rfl ⟨a3, b3, rfl, HR.out.1, HR.out.2.1, HR.out.2.2.1, HR.out.2.2.2⟩
end Go.Proofs.YtppdholccpgcpaaGreat
