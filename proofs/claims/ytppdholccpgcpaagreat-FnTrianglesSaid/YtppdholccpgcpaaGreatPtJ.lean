/-
  Points of the program: 'IsValidPoint', 'SamePoint', 'PointAt', 'HalfPoint', 'AddPoints', 'ScalePoint', 'Inner'.
-/
import Derived.Test.YtppdholccpgcpaaGreatWg
import Derived.Test.YtppdholccpgcpaaGreatLawP
import Derived.Test.YtppdholccpgcpaaGreatPtI
import Derived.Test.YtppdholccpgcpaaGreatPkI
namespace Go.Proofs.YtppdholccpgcpaaGreat
set_option maxHeartbeats 1000000
open Go.ChangeShapes Go.WideShapes Go.ChangeAt Go.RowKit
set_option linter.unusedVariables false
set_option linter.unusedSimpArgs false
set_option maxRecDepth 4000
attribute [local go_sem ↓] Go.wp_at_zero Go.wp_at_succ
theorem both_no {F G : Rat → Rat → Option Rat} {x y u v : R3} (h : (okx x && okx y && (okx u && okx v)) = false) : bothX (binQ F (valx x) (valx u)) (binQ G (valx y) (valx v)) = none ∧ bothY (binQ F (valx x) (valx u)) (binQ G (valx y) (valx v)) = none := by
  have n1 : ∀ (F : Rat → Rat → Option Rat) (o : Option Rat), binQ F none o = none := fun F o => by cases o <;> rfl
  have n2 : ∀ (F : Rat → Rat → Option Rat) (o : Option Rat), binQ F o none = none := fun F o => by cases o <;> rfl
  simp only [Bool.and_eq_false_iff] at h
  rcases h with (h | h) | h | h
  · rw [valx_no h, n1]; exact both_n1 _
  · rw [valx_no h, n1]; exact both_n2 _
  · rw [valx_no h, n2]; exact both_n1 _
  · rw [valx_no h, n2]; exact both_n2 _
theorem bin_n1 (F : Rat → Rat → Option Rat) (o : Option Rat) : binQ F none o = none := by cases o <;> rfl
theorem bin_n2 (F : Rat → Rat → Option Rat) (o : Option Rat) : binQ F o none = none := by cases o <;> rfl
theorem below_put6a {B r : Nat} {w w1 : World} (h : Below B w w1) (hr : B ≤ r) (hB : B ≤ w1.heap.size) (o : Obj) (u0 u1 u2 u3 u4 u5 : Value) : Below B w (((((((w1.setCell ⟨r, 0, none⟩ u0).setCell ⟨r, 1, none⟩ u1).setCell ⟨r, 2, none⟩ u2).setCell ⟨r, 3, none⟩ u3).setCell ⟨r, 4, none⟩ u4).setCell ⟨r, 5, none⟩ u5).alloc o) := (below_put6 h hr u0 u1 u2 u3 u4 u5).alloc (by rw [size_put6]; exact hB) o
def rfi (x : Int) : R3 := ⟨zn x, zm x, nd 1⟩
theorem ofQ_fit (x y : Int) : FitO (ofQ x y) := by
  unfold ofQ makQ
  split
  · exact fun r h => lowQ_fit h
  · exact fitO_none
theorem impl_valid (x y : R3) (a b : Ad) (w : World) (hxl : x.l.length ≤ 9223372036854775807) (hxm : x.m.length ≤ 9223372036854775807) (hyl : y.l.length ≤ 9223372036854775807) (hym : y.m.length ≤ 9223372036854775807) (h : Rds w (rows x a ++ rows y b)) :
    Calls Tryz.prog 62 #[.agg (r6 x y a b)] w (fun e w' => e = .returned (.bool (okx x && okx y)) ∧ Below w.heap.size w w') := by
  have H := Lib.hid (fun W h1 h2 h3 h4 => show Calls Tryz.prog 77 #[.agg (r3 x a), .agg (r3 y b)] W (fun e w' => e = .returned (.bool (okx x && okx y)) ∧ Below W.heap.size W w') from are_rats x.p y.p x.l x.m y.l y.m a.A a.D b.A b.D x.l.length x.m.length y.l.length y.m.length a.c a.d b.c b.d W rfl rfl rfl rfl hxl hxm hyl hym h1 h2 h3 h4)
  have RR : Hid (∀ W, Below w.heap.size w W → (RdS W a.A (vi x.l) ∧ RdS W a.D (vi x.m)) ∧ RdS W b.A (vi y.l) ∧ RdS W b.D (vi y.m)) := Lib.hid (fun W hb => ⟨rows_rd ((rds_l h).below hb), rows_rd ((rds_r h).below hb)⟩)
  clear h hxl hxm hyl hym
  generalize (okx x && okx y) = r at H ⊢
  go_enter Tryz.func62, Tryz.ntmps62
  go_wp2_with fail
  have kb := ba1 w (.cells (r6 x y a b) 31)
  have P_p := heap_alloc_new w (.cells (r6 x y a b) 31)
  generalize w.alloc (.cells (r6 x y a b) 31) = W1 at kb P_p ⊢
  refine (H.out _ (RR.out _ kb).1.1 (RR.out _ kb).1.2 (RR.out _ kb).2.1 (RR.out _ kb).2.2).mono ?_
  rintro e W2 ⟨rfl, hb⟩
  replace P_p := rblk_below P_p hb
  replace kb := bt kb hb
  clear hb
  go_wp2
  go_ret
  exact ⟨rfl, kb⟩
theorem impl_pointAt (x y : Int) (w : World) (h0 : -9223372036854775808 ≤ x ∧ x ≤ 9223372036854775807) (h1 : -9223372036854775808 ≤ y ∧ y ≤ 9223372036854775807) :
    Calls Tryz.prog 16 #[.int .i64 x, .int .i64 y] w (MadeP w.heap.size (rfi x) (rfi y) w) := by
  have HX := Lib.hid (fun W => show Calls Tryz.prog 22 #[.int .i64 x] W (MadeQ W.heap.size (rfi x) W) from (impl_rfi x W h0).mono fun e w' k => MadeR.toQ (x := rfi x) k)
  have HY := Lib.hid (fun W => show Calls Tryz.prog 22 #[.int .i64 y] W (MadeQ W.heap.size (rfi y) W) from (impl_rfi y W h1).mono fun e w' k => MadeR.toQ (x := rfi y) k)
  clear h0 h1
  generalize rfi x = X at HX ⊢
  generalize rfi y = Y at HY ⊢
  go_enter Tryz.func16, Tryz.ntmps16
  go_wp2_with fail
  have kb := ba1 w (.cells z6 31)
  have P_o := heap_alloc_new w (.cells z6 31)
  generalize w.alloc (.cells z6 31) = W1 at kb P_o ⊢
  obtain ⟨rr, hrr⟩ : ∃ r, r = w.heap.size := ⟨_, rfl⟩
  rw [← hrr] at P_o ⊢
  have hrr3 : w.heap.size ≤ rr := by omega
  clear hrr
  have hlt0 := rblk_lt P_o
  have hle0 := kb.size
  refine (HX.out _).mono ?_
  rintro e W2 ⟨a1, rfl, hc1, hc2, o1, hap1, hb⟩
  replace P_o := rblk_below P_o hb
  replace kb := bt kb hb
  have hz1 := hb.size
  clear hb
  go_wp2_with fail
  refine (HY.out _).mono ?_
  rintro e W3 ⟨b1, rfl, hc3, hc4, o2, hap2, hb⟩
  replace P_o := rblk_below P_o hb
  replace o1 := o1.below hb
  replace kb := bt kb hb
  have hz2 := hb.size
  clear hb
  have c_o0 := rblk_cell P_o 0
  have c_o1 := rblk_cell P_o 1
  have c_o2 := rblk_cell P_o 2
  have c_o3 := rblk_cell P_o 3
  have c_o4 := rblk_cell P_o 4
  have c_o5 := rblk_cell P_o 5
  have f_o0 := rblk_free P_o 0
  have f_o1 := rblk_free P_o 1
  have f_o2 := rblk_free P_o 2
  have f_o3 := rblk_free P_o 3
  have f_o4 := rblk_free P_o 4
  have f_o5 := rblk_free P_o 5
  go_wp2
  exact bodyPost_ret (v := .agg (r6 X Y a1 b1)) (by simp [results, Tryz.results16, go_sem, c_o0, c_o1, c_o2, c_o3, c_o4, c_o5]) rfl ⟨a1, b1, rfl, ⟨hc1, hc2, hc3, hc4⟩, owns_end6 (Owns.app (o1.wide (Nat.le_refl _) hz2) (o2.wide hz1 (Nat.le_refl _))) (.inl hlt0) hle0 (Nat.le_refl _) _ _ _ _ _ _, Aparts.app hap1 hap2 o1 o2, below_put6 kb hrr3 _ _ _ _ _ _⟩
theorem app_plus_yes (U V : R3) (x y u v : R3) (a b c d : Ad) (w : World) (hxl : x.l.length ≤ 9223372036854775807) (hxm : x.m.length ≤ 9223372036854775807) (hyl : y.l.length ≤ 9223372036854775807) (hym : y.m.length ≤ 9223372036854775807) (hul : u.l.length ≤ 9223372036854775807) (hum : u.m.length ≤ 9223372036854775807) (hvl : v.l.length ≤ 9223372036854775807) (hvm : v.m.length ≤ 9223372036854775807) (h : Rds w (rows x a ++ rows y b)) (h' : Rds w (rows u c ++ rows v d)) (ok1 : (okx x && okx y) = true) (ok2 : (okx u && okx v) = true)
    (HM : Hid (∀ W, Rds W (rows x a ++ rows y b) → Rds W (rows u c ++ rows v d) → Calls Tryz.prog 74 #[.agg (r6 x y a b), .agg (r6 u v c d)] W (MadeP W.heap.size U V W))) :
    Calls Tryz.prog 73 #[.agg (r6 x y a b), .agg (r6 u v c d), .func (.func 74) #[.agg (r6 x y a b)] #[]] w (MadeP w.heap.size U V w) := by
  have H1 := Lib.hid (fun W h => impl_valid x y a b W hxl hxm hyl hym h)
  have H2 := Lib.hid (fun W h => impl_valid u v c d W hul hum hvl hvm h)
  have R1 : Hid (∀ W, Below w.heap.size w W → Rds W (rows x a ++ rows y b)) := Lib.hid (fun W hb => h.below hb)
  have R2 : Hid (∀ W, Below w.heap.size w W → Rds W (rows u c ++ rows v d)) := Lib.hid (fun W hb => h'.below hb)
  rw [ok1] at H1
  rw [ok2] at H2
  clear h h' ok1 ok2 hxl hxm hyl hym hul hum hvl hvm
  go_enter Tryz.func73, Tryz.ntmps73
  go_wp2_with fail
  have kb := ba3 w (.cells (r6 x y a b) 31) (.cells (r6 u v c d) 31) (.cells z6 31)
  obtain ⟨P_p, P_q, P_o⟩ := blocks3 w (.cells (r6 x y a b) 31) (.cells (r6 u v c d) 31) (.cells z6 31)
  generalize ((w.alloc (.cells (r6 x y a b) 31)).alloc (.cells (r6 u v c d) 31)).alloc (.cells z6 31) = W1 at kb P_p P_q P_o ⊢
  obtain ⟨rr, hrr⟩ : ∃ r, r = w.heap.size + 1 + 1 := ⟨_, rfl⟩
  rw [← hrr] at P_o ⊢
  have hrr3 : w.heap.size ≤ rr := by omega
  have nr_p : rr ≠ w.heap.size := by omega
  have nr_q : rr ≠ w.heap.size + 1 := by omega
  clear hrr
  refine (H1.out _ (R1.out _ kb)).mono ?_
  rintro e W2 ⟨rfl, hb⟩
  replace P_p := rblk_below P_p hb
  replace P_q := rblk_below P_q hb
  replace P_o := rblk_below P_o hb
  replace kb := bt kb hb
  clear hb
  have c_q0 := rblk_cell P_q 0
  have c_q1 := rblk_cell P_q 1
  have c_q2 := rblk_cell P_q 2
  have c_q3 := rblk_cell P_q 3
  have c_q4 := rblk_cell P_q 4
  have c_q5 := rblk_cell P_q 5
  go_wp2_with fail
  clear c_q0 c_q1 c_q2 c_q3 c_q4 c_q5
  refine (H2.out _ (R2.out _ kb)).mono ?_
  rintro e W3 ⟨rfl, hb⟩
  replace P_p := rblk_below P_p hb
  replace P_q := rblk_below P_q hb
  replace P_o := rblk_below P_o hb
  replace kb := bt kb hb
  clear hb
  have c_q0 := rblk_cell P_q 0
  have c_q1 := rblk_cell P_q 1
  have c_q2 := rblk_cell P_q 2
  have c_q3 := rblk_cell P_q 3
  have c_q4 := rblk_cell P_q 4
  have c_q5 := rblk_cell P_q 5
  go_wp2_with fail
  clear c_q0 c_q1 c_q2 c_q3 c_q4 c_q5
  have hlt0 := rblk_lt P_o
  have hle0 := kb.size
  refine (HM.out _ (R1.out _ kb) (R2.out _ kb)).mono ?_
  rintro e W4 ⟨a3, b3, rfl, hcs, o3, hap3, hb⟩
  replace P_p := rblk_below P_p hb
  replace P_q := rblk_below P_q hb
  replace P_o := rblk_below P_o hb
  replace kb := bt kb hb
  clear hb
  have c_o0 := rblk_cell P_o 0
  have c_o1 := rblk_cell P_o 1
  have c_o2 := rblk_cell P_o 2
  have c_o3 := rblk_cell P_o 3
  have c_o4 := rblk_cell P_o 4
  have c_o5 := rblk_cell P_o 5
  have f_o0 := rblk_free P_o 0
  have f_o1 := rblk_free P_o 1
  have f_o2 := rblk_free P_o 2
  have f_o3 := rblk_free P_o 3
  have f_o4 := rblk_free P_o 4
  have f_o5 := rblk_free P_o 5
  go_wp2
  exact bodyPost_ret (v := .agg (r6 U V a3 b3)) (by simp [results, Tryz.results73, go_sem, c_o0, c_o1, c_o2, c_o3, c_o4, c_o5]) rfl ⟨a3, b3, rfl, hcs, owns_end6 o3 (.inl hlt0) hle0 (Nat.le_refl _) _ _ _ _ _ _, hap3, below_put6 kb hrr3 _ _ _ _ _ _⟩
theorem app_plus_no (x y u v : R3) (a b c d : Ad) (w : World) (K : Value) (hxl : x.l.length ≤ 9223372036854775807) (hxm : x.m.length ≤ 9223372036854775807) (hyl : y.l.length ≤ 9223372036854775807) (hym : y.m.length ≤ 9223372036854775807) (hul : u.l.length ≤ 9223372036854775807) (hum : u.m.length ≤ 9223372036854775807) (hvl : v.l.length ≤ 9223372036854775807) (hvm : v.m.length ≤ 9223372036854775807) (h : Rds w (rows x a ++ rows y b)) (h' : Rds w (rows u c ++ rows v d)) (ok : (okx x && okx y && (okx u && okx v)) = false) :
    Calls Tryz.prog 73 #[.agg (r6 x y a b), .agg (r6 u v c d), K] w (MadeP w.heap.size noR noR w) := by
  have H1 := Lib.hid (fun W h => impl_valid x y a b W hxl hxm hyl hym h)
  have H2 := Lib.hid (fun W h => impl_valid u v c d W hul hum hvl hvm h)
  have R1 : Hid (∀ W, Below w.heap.size w W → Rds W (rows x a ++ rows y b)) := Lib.hid (fun W hb => h.below hb)
  have R2 : Hid (∀ W, Below w.heap.size w W → Rds W (rows u c ++ rows v d)) := Lib.hid (fun W hb => h'.below hb)
  clear h h' hxl hxm hyl hym hul hum hvl hvm
  by_cases ok1 : (okx x && okx y) = true
  · rw [ok1, Bool.true_and] at ok
    rw [ok1] at H1
    rw [ok] at H2
    clear ok ok1
    go_enter Tryz.func73, Tryz.ntmps73
    go_wp2_with fail
    have kb := ba3 w (.cells (r6 x y a b) 31) (.cells (r6 u v c d) 31) (.cells z6 31)
    obtain ⟨P_p, P_q, P_o⟩ := blocks3 w (.cells (r6 x y a b) 31) (.cells (r6 u v c d) 31) (.cells z6 31)
    generalize ((w.alloc (.cells (r6 x y a b) 31)).alloc (.cells (r6 u v c d) 31)).alloc (.cells z6 31) = W1 at kb P_p P_q P_o ⊢
    obtain ⟨rr, hrr⟩ : ∃ r, r = w.heap.size + 1 + 1 := ⟨_, rfl⟩
    rw [← hrr] at P_o ⊢
    have hrr3 : w.heap.size ≤ rr := by omega
    have nr_p : rr ≠ w.heap.size := by omega
    have nr_q : rr ≠ w.heap.size + 1 := by omega
    clear hrr
    refine (H1.out _ (R1.out _ kb)).mono ?_
    rintro e W2 ⟨rfl, hb⟩
    replace P_p := rblk_below P_p hb
    replace P_q := rblk_below P_q hb
    replace P_o := rblk_below P_o hb
    replace kb := bt kb hb
    clear hb
    have c_q0 := rblk_cell P_q 0
    have c_q1 := rblk_cell P_q 1
    have c_q2 := rblk_cell P_q 2
    have c_q3 := rblk_cell P_q 3
    have c_q4 := rblk_cell P_q 4
    have c_q5 := rblk_cell P_q 5
    go_wp2_with fail
    clear c_q0 c_q1 c_q2 c_q3 c_q4 c_q5
    refine (H2.out _ (R2.out _ kb)).mono ?_
    rintro e W3 ⟨rfl, hb⟩
    replace P_p := rblk_below P_p hb
    replace P_q := rblk_below P_q hb
    replace P_o := rblk_below P_o hb
    replace kb := bt kb hb
    clear hb
    have hlt0 := rblk_lt P_o
    have Pz := rblk_below (rblk_set (rblk_set (rblk_set (rblk_set (rblk_set (rblk_set P_o 0 (.bool false)) 1 (.slice none 0 0)) 2 (.slice none 0 0)) 3 (.bool false)) 4 (.slice none 0 0)) 5 (.slice none 0 0)) (ba1 _ (.cells z6 31))
    have z0 := rblk_cell Pz 0
    have z1 := rblk_cell Pz 1
    have z2 := rblk_cell Pz 2
    have z3 := rblk_cell Pz 3
    have z4 := rblk_cell Pz 4
    have z5 := rblk_cell Pz 5
    clear Pz
    have c_o0 := rblk_cell P_o 0
    have c_o1 := rblk_cell P_o 1
    have c_o2 := rblk_cell P_o 2
    have c_o3 := rblk_cell P_o 3
    have c_o4 := rblk_cell P_o 4
    have c_o5 := rblk_cell P_o 5
    have f_o0 := rblk_free P_o 0
    have f_o1 := rblk_free P_o 1
    have f_o2 := rblk_free P_o 2
    have f_o3 := rblk_free P_o 3
    have f_o4 := rblk_free P_o 4
    have f_o5 := rblk_free P_o 5
    go_wp2
    exact bodyPost_ret (v := .agg z6) (by simp [results, Tryz.results73, go_sem, z0, z1, z2, z3, z4, z5]) rfl (none_point _ _ _ (below_put6a kb hrr3 kb.size _ _ _ _ _ _ _))
  · have ok1' : (okx x && okx y) = false := by simpa using ok1
    rw [ok1'] at H1
    clear ok ok1 ok1'
    go_enter Tryz.func73, Tryz.ntmps73
    go_wp2_with fail
    have kb := ba3 w (.cells (r6 x y a b) 31) (.cells (r6 u v c d) 31) (.cells z6 31)
    obtain ⟨P_p, P_q, P_o⟩ := blocks3 w (.cells (r6 x y a b) 31) (.cells (r6 u v c d) 31) (.cells z6 31)
    generalize ((w.alloc (.cells (r6 x y a b) 31)).alloc (.cells (r6 u v c d) 31)).alloc (.cells z6 31) = W1 at kb P_p P_q P_o ⊢
    obtain ⟨rr, hrr⟩ : ∃ r, r = w.heap.size + 1 + 1 := ⟨_, rfl⟩
    rw [← hrr] at P_o ⊢
    have hrr3 : w.heap.size ≤ rr := by omega
    have nr_p : rr ≠ w.heap.size := by omega
    have nr_q : rr ≠ w.heap.size + 1 := by omega
    clear hrr
    refine (H1.out _ (R1.out _ kb)).mono ?_
    rintro e W2 ⟨rfl, hb⟩
    replace P_p := rblk_below P_p hb
    replace P_q := rblk_below P_q hb
    replace P_o := rblk_below P_o hb
    replace kb := bt kb hb
    clear hb
    have hlt0 := rblk_lt P_o
    have Pz := rblk_below (rblk_set (rblk_set (rblk_set (rblk_set (rblk_set (rblk_set P_o 0 (.bool false)) 1 (.slice none 0 0)) 2 (.slice none 0 0)) 3 (.bool false)) 4 (.slice none 0 0)) 5 (.slice none 0 0)) (ba1 _ (.cells z6 31))
    have z0 := rblk_cell Pz 0
    have z1 := rblk_cell Pz 1
    have z2 := rblk_cell Pz 2
    have z3 := rblk_cell Pz 3
    have z4 := rblk_cell Pz 4
    have z5 := rblk_cell Pz 5
    clear Pz
    have c_o0 := rblk_cell P_o 0
    have c_o1 := rblk_cell P_o 1
    have c_o2 := rblk_cell P_o 2
    have c_o3 := rblk_cell P_o 3
    have c_o4 := rblk_cell P_o 4
    have c_o5 := rblk_cell P_o 5
    have f_o0 := rblk_free P_o 0
    have f_o1 := rblk_free P_o 1
    have f_o2 := rblk_free P_o 2
    have f_o3 := rblk_free P_o 3
    have f_o4 := rblk_free P_o 4
    have f_o5 := rblk_free P_o 5
    go_wp2
    exact bodyPost_ret (v := .agg z6) (by simp [results, Tryz.results73, go_sem, z0, z1, z2, z3, z4, z5]) rfl (none_point _ _ _ (below_put6a kb hrr3 kb.size _ _ _ _ _ _ _))
theorem app_plus_any (x y u v : R3) (a b c d : Ad) (w : World) (hxl : x.l.length ≤ 9223372036854775807) (hxm : x.m.length ≤ 9223372036854775807) (hyl : y.l.length ≤ 9223372036854775807) (hym : y.m.length ≤ 9223372036854775807) (hul : u.l.length ≤ 9223372036854775807) (hum : u.m.length ≤ 9223372036854775807) (hvl : v.l.length ≤ 9223372036854775807) (hvm : v.m.length ≤ 9223372036854775807) (h : Rds w (rows x a ++ rows y b)) (h' : Rds w (rows u c ++ rows v d)) :
    Calls Tryz.prog 73 #[.agg (r6 x y a b), .agg (r6 u v c d), .func (.func 74) #[.agg (r6 x y a b)] #[]] w (MadeP w.heap.size (ofO (bothX (binQ addQ (valx x) (valx u)) (binQ addQ (valx y) (valx v)))) (ofO (bothY (binQ addQ (valx x) (valx u)) (binQ addQ (valx y) (valx v)))) w) := by
  by_cases ok : (okx x && okx y && (okx u && okx v)) = true
  · have ok0 := ok
    simp only [Bool.and_eq_true] at ok
    obtain ⟨⟨k1, k2⟩, k3, k4⟩ := ok
    rw [Bool.and_eq_true] at ok0
    refine app_plus_yes _ _ x y u v a b c d w hxl hxm hyl hym hul hum hvl hvm h h' ok0.1 ok0.2 (Lib.hid fun W h1 h2 => ?_)
    obtain ⟨r1, e1, rfl, f1⟩ := valx_yes k1
    obtain ⟨r2, e2, rfl, f2⟩ := valx_yes k2
    obtain ⟨r3, e3, rfl, f3⟩ := valx_yes k3
    obtain ⟨r4, e4, rfl, f4⟩ := valx_yes k4
    rw [e1, e2, e3, e4]
    exact plusP_r (some r1) (some r2) (some r3) (some r4) a b c d W (fitO_some f1) (fitO_some f2) (fitO_some f3) (fitO_some f4) h1 h2
  · have ok' : (okx x && okx y && (okx u && okx v)) = false := by simpa using ok
    rw [(both_no ok').1, (both_no ok').2]
    exact app_plus_no x y u v a b c d w _ hxl hxm hyl hym hul hum hvl hvm h h' ok'
theorem impl_addP (x y u v : R3) (a b c d : Ad) (w : World) (hxl : x.l.length ≤ 9223372036854775807) (hxm : x.m.length ≤ 9223372036854775807) (hyl : y.l.length ≤ 9223372036854775807) (hym : y.m.length ≤ 9223372036854775807) (hul : u.l.length ≤ 9223372036854775807) (hum : u.m.length ≤ 9223372036854775807) (hvl : v.l.length ≤ 9223372036854775807) (hvm : v.m.length ≤ 9223372036854775807) (h : Rds w (rows x a ++ rows y b)) (h' : Rds w (rows u c ++ rows v d)) :
    Calls Tryz.prog 17 #[.agg (r6 x y a b), .agg (r6 u v c d)] w (MadeP w.heap.size (ofO (bothX (binQ addQ (valx x) (valx u)) (binQ addQ (valx y) (valx v)))) (ofO (bothY (binQ addQ (valx x) (valx u)) (binQ addQ (valx y) (valx v)))) w) := by
  have HA := Lib.hid (fun W h h' => app_plus_any x y u v a b c d W hxl hxm hyl hym hul hum hvl hvm h h')
  have R1 : Hid (∀ W, Below w.heap.size w W → Rds W (rows x a ++ rows y b)) := Lib.hid (fun W hb => h.below hb)
  have R2 : Hid (∀ W, Below w.heap.size w W → Rds W (rows u c ++ rows v d)) := Lib.hid (fun W hb => h'.below hb)
  clear h h' hxl hxm hyl hym hul hum hvl hvm
  generalize ofO (bothX (binQ addQ (valx x) (valx u)) (binQ addQ (valx y) (valx v))) = U at HA ⊢
  generalize ofO (bothY (binQ addQ (valx x) (valx u)) (binQ addQ (valx y) (valx v))) = V at HA ⊢
  have hmf : ∀ (fn : Fn) (first cap : Array Value) (w : World), (Instr.makeFunc fn first cap).run Tryz.prog w = .ok (.func fn first cap) w := fun _ _ _ _ => rfl
  go_enter Tryz.func17, Tryz.ntmps17
  go_wp2_with fail
  have kb := ba3 w (.cells (r6 x y a b) 31) (.cells (r6 u v c d) 31) (.cells z6 31)
  obtain ⟨P_p, P_q, P_o⟩ := blocks3 w (.cells (r6 x y a b) 31) (.cells (r6 u v c d) 31) (.cells z6 31)
  generalize ((w.alloc (.cells (r6 x y a b) 31)).alloc (.cells (r6 u v c d) 31)).alloc (.cells z6 31) = W1 at kb P_p P_q P_o ⊢
  obtain ⟨rr, hrr⟩ : ∃ r, r = w.heap.size + 1 + 1 := ⟨_, rfl⟩
  rw [← hrr] at P_o ⊢
  have hrr3 : w.heap.size ≤ rr := by omega
  have nr_p : rr ≠ w.heap.size := by omega
  have nr_q : rr ≠ w.heap.size + 1 := by omega
  clear hrr
  have hlt0 := rblk_lt P_o
  have hle0 := kb.size
  refine (HA.out _ (R1.out _ kb) (R2.out _ kb)).mono ?_
  rintro e W2 ⟨a3, b3, rfl, hcs, o3, hap3, hb⟩
  replace P_p := rblk_below P_p hb
  replace P_q := rblk_below P_q hb
  replace P_o := rblk_below P_o hb
  replace kb := bt kb hb
  clear hb
  have c_o0 := rblk_cell P_o 0
  have c_o1 := rblk_cell P_o 1
  have c_o2 := rblk_cell P_o 2
  have c_o3 := rblk_cell P_o 3
  have c_o4 := rblk_cell P_o 4
  have c_o5 := rblk_cell P_o 5
  have f_o0 := rblk_free P_o 0
  have f_o1 := rblk_free P_o 1
  have f_o2 := rblk_free P_o 2
  have f_o3 := rblk_free P_o 3
  have f_o4 := rblk_free P_o 4
  have f_o5 := rblk_free P_o 5
  go_wp2
  exact bodyPost_ret (v := .agg (r6 U V a3 b3)) (by simp [results, Tryz.results17, go_sem, c_o0, c_o1, c_o2, c_o3, c_o4, c_o5]) rfl ⟨a3, b3, rfl, hcs, owns_end6 o3 (.inl hlt0) hle0 (Nat.le_refl _) _ _ _ _ _ _, hap3, below_put6 kb hrr3 _ _ _ _ _ _⟩
theorem scale_yes (U V : R3) (t x y : R3) (e a b : Ad) (w : World) (htl : t.l.length ≤ 9223372036854775807) (htm : t.m.length ≤ 9223372036854775807) (hxl : x.l.length ≤ 9223372036854775807) (hxm : x.m.length ≤ 9223372036854775807) (hyl : y.l.length ≤ 9223372036854775807) (hym : y.m.length ≤ 9223372036854775807) (h : Rds w (rows t e)) (h' : Rds w (rows x a ++ rows y b)) (ok1 : okx t = true) (ok2 : (okx x && okx y) = true)
    (HM : Hid (∀ W, Rds W (rows x a ++ rows y b) → Rds W (rows t e) → Calls Tryz.prog 75 #[.agg (r6 x y a b), .agg (r3 t e)] W (MadeP W.heap.size U V W))) :
    Calls Tryz.prog 18 #[.agg (r3 t e), .agg (r6 x y a b)] w (MadeP w.heap.size U V w) := by
  have H1 := Lib.hid (fun W (h : Rds W (rows t e)) => show Calls Tryz.prog 29 #[.agg (r3 t e)] W (fun e w' => e = .returned (.bool (okx t)) ∧ Below W.heap.size W w') from impl_rok t.p t.l t.m e.A e.D t.l.length e.c t.m.length e.d W rfl rfl htl htm (rows_rd h).1 (rows_rd h).2)
  have H2 := Lib.hid (fun W h => impl_valid x y a b W hxl hxm hyl hym h)
  have R1 : Hid (∀ W, Below w.heap.size w W → Rds W (rows t e)) := Lib.hid (fun W hb => h.below hb)
  have R2 : Hid (∀ W, Below w.heap.size w W → Rds W (rows x a ++ rows y b)) := Lib.hid (fun W hb => h'.below hb)
  rw [ok1] at H1
  rw [ok2] at H2
  clear h h' ok1 ok2 htl htm hxl hxm hyl hym
  go_enter Tryz.func18, Tryz.ntmps18
  go_wp2_with fail
  have kb := ba3 w (.cells (r3 t e) 29) (.cells (r6 x y a b) 31) (.cells z6 31)
  obtain ⟨P_r, P_p, P_o⟩ := blocks3 w (.cells (r3 t e) 29) (.cells (r6 x y a b) 31) (.cells z6 31)
  generalize ((w.alloc (.cells (r3 t e) 29)).alloc (.cells (r6 x y a b) 31)).alloc (.cells z6 31) = W1 at kb P_r P_p P_o ⊢
  obtain ⟨rr, hrr⟩ : ∃ r, r = w.heap.size + 1 + 1 := ⟨_, rfl⟩
  rw [← hrr] at P_o ⊢
  have hrr3 : w.heap.size ≤ rr := by omega
  have nr_r : rr ≠ w.heap.size := by omega
  have nr_p : rr ≠ w.heap.size + 1 := by omega
  clear hrr
  refine (H1.out _ (R1.out _ kb)).mono ?_
  rintro e W2 ⟨rfl, hb⟩
  replace P_r := rblk_below P_r hb
  replace P_p := rblk_below P_p hb
  replace P_o := rblk_below P_o hb
  replace kb := bt kb hb
  clear hb
  have c_p0 := rblk_cell P_p 0
  have c_p1 := rblk_cell P_p 1
  have c_p2 := rblk_cell P_p 2
  have c_p3 := rblk_cell P_p 3
  have c_p4 := rblk_cell P_p 4
  have c_p5 := rblk_cell P_p 5
  go_wp2_with fail
  clear c_p0 c_p1 c_p2 c_p3 c_p4 c_p5
  refine (H2.out _ (R2.out _ kb)).mono ?_
  rintro e W3 ⟨rfl, hb⟩
  replace P_r := rblk_below P_r hb
  replace P_p := rblk_below P_p hb
  replace P_o := rblk_below P_o hb
  replace kb := bt kb hb
  clear hb
  have c_r0 := rblk_cell P_r 0
  have c_r1 := rblk_cell P_r 1
  have c_r2 := rblk_cell P_r 2
  have c_p0 := rblk_cell P_p 0
  have c_p1 := rblk_cell P_p 1
  have c_p2 := rblk_cell P_p 2
  have c_p3 := rblk_cell P_p 3
  have c_p4 := rblk_cell P_p 4
  have c_p5 := rblk_cell P_p 5
  go_wp2_with fail
  clear c_r0 c_r1 c_r2 c_p0 c_p1 c_p2 c_p3 c_p4 c_p5
  have hlt0 := rblk_lt P_o
  have hle0 := kb.size
  refine (HM.out _ (R2.out _ kb) (R1.out _ kb)).mono ?_
  rintro e W4 ⟨a3, b3, rfl, hcs, o3, hap3, hb⟩
  replace P_r := rblk_below P_r hb
  replace P_p := rblk_below P_p hb
  replace P_o := rblk_below P_o hb
  replace kb := bt kb hb
  clear hb
  have c_o0 := rblk_cell P_o 0
  have c_o1 := rblk_cell P_o 1
  have c_o2 := rblk_cell P_o 2
  have c_o3 := rblk_cell P_o 3
  have c_o4 := rblk_cell P_o 4
  have c_o5 := rblk_cell P_o 5
  have f_o0 := rblk_free P_o 0
  have f_o1 := rblk_free P_o 1
  have f_o2 := rblk_free P_o 2
  have f_o3 := rblk_free P_o 3
  have f_o4 := rblk_free P_o 4
  have f_o5 := rblk_free P_o 5
  go_wp2
  exact bodyPost_ret (v := .agg (r6 U V a3 b3)) (by simp [results, Tryz.results18, go_sem, c_o0, c_o1, c_o2, c_o3, c_o4, c_o5]) rfl ⟨a3, b3, rfl, hcs, owns_end6 o3 (.inl hlt0) hle0 (Nat.le_refl _) _ _ _ _ _ _, hap3, below_put6 kb hrr3 _ _ _ _ _ _⟩
theorem scale_no (t x y : R3) (e a b : Ad) (w : World) (htl : t.l.length ≤ 9223372036854775807) (htm : t.m.length ≤ 9223372036854775807) (hxl : x.l.length ≤ 9223372036854775807) (hxm : x.m.length ≤ 9223372036854775807) (hyl : y.l.length ≤ 9223372036854775807) (hym : y.m.length ≤ 9223372036854775807) (h : Rds w (rows t e)) (h' : Rds w (rows x a ++ rows y b)) (ok : (okx t && (okx x && okx y)) = false) :
    Calls Tryz.prog 18 #[.agg (r3 t e), .agg (r6 x y a b)] w (MadeP w.heap.size noR noR w) := by
  have H1 := Lib.hid (fun W (h : Rds W (rows t e)) => show Calls Tryz.prog 29 #[.agg (r3 t e)] W (fun e w' => e = .returned (.bool (okx t)) ∧ Below W.heap.size W w') from impl_rok t.p t.l t.m e.A e.D t.l.length e.c t.m.length e.d W rfl rfl htl htm (rows_rd h).1 (rows_rd h).2)
  have H2 := Lib.hid (fun W h => impl_valid x y a b W hxl hxm hyl hym h)
  have R1 : Hid (∀ W, Below w.heap.size w W → Rds W (rows t e)) := Lib.hid (fun W hb => h.below hb)
  have R2 : Hid (∀ W, Below w.heap.size w W → Rds W (rows x a ++ rows y b)) := Lib.hid (fun W hb => h'.below hb)
  clear h h' htl htm hxl hxm hyl hym
  by_cases ok1 : okx t = true
  · rw [ok1, Bool.true_and] at ok
    rw [ok1] at H1
    rw [ok] at H2
    clear ok ok1
    go_enter Tryz.func18, Tryz.ntmps18
    go_wp2_with fail
    have kb := ba3 w (.cells (r3 t e) 29) (.cells (r6 x y a b) 31) (.cells z6 31)
    obtain ⟨P_r, P_p, P_o⟩ := blocks3 w (.cells (r3 t e) 29) (.cells (r6 x y a b) 31) (.cells z6 31)
    generalize ((w.alloc (.cells (r3 t e) 29)).alloc (.cells (r6 x y a b) 31)).alloc (.cells z6 31) = W1 at kb P_r P_p P_o ⊢
    obtain ⟨rr, hrr⟩ : ∃ r, r = w.heap.size + 1 + 1 := ⟨_, rfl⟩
    rw [← hrr] at P_o ⊢
    have hrr3 : w.heap.size ≤ rr := by omega
    have nr_r : rr ≠ w.heap.size := by omega
    have nr_p : rr ≠ w.heap.size + 1 := by omega
    clear hrr
    refine (H1.out _ (R1.out _ kb)).mono ?_
    rintro e W2 ⟨rfl, hb⟩
    replace P_r := rblk_below P_r hb
    replace P_p := rblk_below P_p hb
    replace P_o := rblk_below P_o hb
    replace kb := bt kb hb
    clear hb
    have c_p0 := rblk_cell P_p 0
    have c_p1 := rblk_cell P_p 1
    have c_p2 := rblk_cell P_p 2
    have c_p3 := rblk_cell P_p 3
    have c_p4 := rblk_cell P_p 4
    have c_p5 := rblk_cell P_p 5
    go_wp2_with fail
    clear c_p0 c_p1 c_p2 c_p3 c_p4 c_p5
    refine (H2.out _ (R2.out _ kb)).mono ?_
    rintro e W3 ⟨rfl, hb⟩
    replace P_r := rblk_below P_r hb
    replace P_p := rblk_below P_p hb
    replace P_o := rblk_below P_o hb
    replace kb := bt kb hb
    clear hb
    have c_o0 := rblk_cell P_o 0
    have c_o1 := rblk_cell P_o 1
    have c_o2 := rblk_cell P_o 2
    have c_o3 := rblk_cell P_o 3
    have c_o4 := rblk_cell P_o 4
    have c_o5 := rblk_cell P_o 5
    have f_o0 := rblk_free P_o 0
    have f_o1 := rblk_free P_o 1
    have f_o2 := rblk_free P_o 2
    have f_o3 := rblk_free P_o 3
    have f_o4 := rblk_free P_o 4
    have f_o5 := rblk_free P_o 5
    go_wp2
    exact bodyPost_ret (v := .agg z6) (by simp [results, Tryz.results18, go_sem, c_o0, c_o1, c_o2, c_o3, c_o4, c_o5]) rfl (none_point _ _ _ (below_put6 kb hrr3 _ _ _ _ _ _))
  · have ok1' : okx t = false := by simpa using ok1
    rw [ok1'] at H1
    clear ok ok1 ok1'
    go_enter Tryz.func18, Tryz.ntmps18
    go_wp2_with fail
    have kb := ba3 w (.cells (r3 t e) 29) (.cells (r6 x y a b) 31) (.cells z6 31)
    obtain ⟨P_r, P_p, P_o⟩ := blocks3 w (.cells (r3 t e) 29) (.cells (r6 x y a b) 31) (.cells z6 31)
    generalize ((w.alloc (.cells (r3 t e) 29)).alloc (.cells (r6 x y a b) 31)).alloc (.cells z6 31) = W1 at kb P_r P_p P_o ⊢
    obtain ⟨rr, hrr⟩ : ∃ r, r = w.heap.size + 1 + 1 := ⟨_, rfl⟩
    rw [← hrr] at P_o ⊢
    have hrr3 : w.heap.size ≤ rr := by omega
    have nr_r : rr ≠ w.heap.size := by omega
    have nr_p : rr ≠ w.heap.size + 1 := by omega
    clear hrr
    refine (H1.out _ (R1.out _ kb)).mono ?_
    rintro e W2 ⟨rfl, hb⟩
    replace P_r := rblk_below P_r hb
    replace P_p := rblk_below P_p hb
    replace P_o := rblk_below P_o hb
    replace kb := bt kb hb
    clear hb
    have c_o0 := rblk_cell P_o 0
    have c_o1 := rblk_cell P_o 1
    have c_o2 := rblk_cell P_o 2
    have c_o3 := rblk_cell P_o 3
    have c_o4 := rblk_cell P_o 4
    have c_o5 := rblk_cell P_o 5
    have f_o0 := rblk_free P_o 0
    have f_o1 := rblk_free P_o 1
    have f_o2 := rblk_free P_o 2
    have f_o3 := rblk_free P_o 3
    have f_o4 := rblk_free P_o 4
    have f_o5 := rblk_free P_o 5
    go_wp2
    exact bodyPost_ret (v := .agg z6) (by simp [results, Tryz.results18, go_sem, c_o0, c_o1, c_o2, c_o3, c_o4, c_o5]) rfl (none_point _ _ _ (below_put6 kb hrr3 _ _ _ _ _ _))
theorem impl_scaleP (t x y : R3) (e a b : Ad) (w : World) (htl : t.l.length ≤ 9223372036854775807) (htm : t.m.length ≤ 9223372036854775807) (hxl : x.l.length ≤ 9223372036854775807) (hxm : x.m.length ≤ 9223372036854775807) (hyl : y.l.length ≤ 9223372036854775807) (hym : y.m.length ≤ 9223372036854775807) (h : Rds w (rows t e)) (h' : Rds w (rows x a ++ rows y b)) :
    Calls Tryz.prog 18 #[.agg (r3 t e), .agg (r6 x y a b)] w (MadeP w.heap.size (ofO (bothX (binQ mulQ (valx t) (valx x)) (binQ mulQ (valx t) (valx y)))) (ofO (bothY (binQ mulQ (valx t) (valx x)) (binQ mulQ (valx t) (valx y)))) w) := by
  by_cases ok : (okx t && (okx x && okx y)) = true
  · have ok0 := ok
    simp only [Bool.and_eq_true] at ok
    obtain ⟨k1, k2, k3⟩ := ok
    rw [Bool.and_eq_true] at ok0
    refine scale_yes _ _ t x y e a b w htl htm hxl hxm hyl hym h h' k1 ok0.2 (Lib.hid fun W h1 h2 => ?_)
    obtain ⟨r1, e1, rfl, f1⟩ := valx_yes k1
    obtain ⟨r2, e2, rfl, f2⟩ := valx_yes k2
    obtain ⟨r3, e3, rfl, f3⟩ := valx_yes k3
    rw [e1, e2, e3]
    exact timesP_r (some r2) (some r3) (some r1) a b e W (fitO_some f2) (fitO_some f3) (fitO_some f1) h1 h2
  · have ok' : (okx t && okx t && (okx x && okx y)) = false := by rw [Bool.and_self]; simpa using ok
    rw [(both_no ok').1, (both_no ok').2]
    exact scale_no t x y e a b w htl htm hxl hxm hyl hym h h' (by simpa using ok)
end Go.Proofs.YtppdholccpgcpaaGreat
