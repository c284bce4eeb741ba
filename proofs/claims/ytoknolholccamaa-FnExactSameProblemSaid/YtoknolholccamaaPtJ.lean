/-
  Points of the program: 'IsValidPoint', 'SamePoint', 'PointAt', 'HalfPoint', 'AddPoints', 'ScalePoint', 'Inner'.
-/
import Derived.Test.YtoknolholccamaaPtI
import Derived.Test.YtoknolholccamaaPkI
namespace Go.Proofs.Ytoknolholccamaa
open Go.ChangeShapes Go.WideShapes Go.ChangeAt Go.RowKit
open Go.ChangeMaps (open_string shut_string)
set_option linter.unusedVariables false
set_option linter.unusedSimpArgs false
set_option maxRecDepth 4000

attribute [local go_sem ↓] Go.wp_at_zero Go.wp_at_succ

/-- Where an argument is not valid there is no answer. -/
theorem both_no {F G : Rat → Rat → Option Rat} {x y u v : R3} (h : (okx x && okx y && (okx u && okx v)) = false) : bothX (binQ F (valx x) (valx u)) (binQ G (valx y) (valx v)) = none ∧ bothY (binQ F (valx x) (valx u)) (binQ G (valx y) (valx v)) = none := by
  have n1 : ∀ (F : Rat → Rat → Option Rat) (o : Option Rat), binQ F none o = none := fun F o => by cases o <;> rfl
  have n2 : ∀ (F : Rat → Rat → Option Rat) (o : Option Rat), binQ F o none = none := fun F o => by cases o <;> rfl
  simp only [Bool.and_eq_false_iff] at h
  rcases h with (h | h) | h | h
  · rw [valx_no h, n1]; exact both_n1 _
  · rw [valx_no h, n1]; exact both_n2 _
  · rw [valx_no h, n2]; exact both_n1 _
  · rw [valx_no h, n2]; exact both_n2 _
theorem bin_n1 (F : Rat → Rat → Option Rat) (o : Option Rat) : binQ F none o = none := by cases o <;> rfl
theorem bin_n2 (F : Rat → Rat → Option Rat) (o : Option Rat) : binQ F o none = none := by cases o <;> rfl
theorem inner_no {x y u v : R3} (h : (okx x && okx y && (okx u && okx v)) = false) : binQ addQ (binQ mulQ (valx x) (valx u)) (binQ mulQ (valx y) (valx v)) = none := by
  simp only [Bool.and_eq_false_iff] at h
  rcases h with (h | h) | h | h
  · rw [valx_no h, bin_n1, bin_n1]
  · rw [valx_no h, bin_n1, bin_n2]
  · rw [valx_no h, bin_n2, bin_n1]
  · rw [valx_no h, bin_n2, bin_n2]
theorem cross_no {x y u v : R3} (h : (okx x && okx y && (okx u && okx v)) = false) : binQ subQ (binQ mulQ (valx x) (valx v)) (binQ mulQ (valx y) (valx u)) = none := by
  simp only [Bool.and_eq_false_iff] at h
  rcases h with (h | h) | h | h
  · rw [valx_no h, bin_n1, bin_n1]
  · rw [valx_no h, bin_n1, bin_n2]
  · rw [valx_no h, bin_n2, bin_n2]
  · rw [valx_no h, bin_n2, bin_n1]

theorem below_put6a {B r : Nat} {w w1 : World} (h : Below B w w1) (hr : B ≤ r) (hB : B ≤ w1.heap.size) (o : Obj) (u0 u1 u2 u3 u4 u5 : Value) : Below B w (((((((w1.setCell ⟨r, 0, none⟩ u0).setCell ⟨r, 1, none⟩ u1).setCell ⟨r, 2, none⟩ u2).setCell ⟨r, 3, none⟩ u3).setCell ⟨r, 4, none⟩ u4).setCell ⟨r, 5, none⟩ u5).alloc o) := (below_put6 h hr u0 u1 u2 u3 u4 u5).alloc (by rw [size_put6]; exact hB) o
theorem below_put3a {B r : Nat} {w w1 : World} (h : Below B w w1) (hr : B ≤ r) (hB : B ≤ w1.heap.size) (o : Obj) (u0 u1 u2 : Value) : Below B w ((((w1.setCell ⟨r, 0, none⟩ u0).setCell ⟨r, 1, none⟩ u1).setCell ⟨r, 2, none⟩ u2).alloc o) := (below_put3 h hr u0 u1 u2).alloc (by rw [size_put3]; exact hB) o
/-- A whole number's data. -/
def rfi (x : Int) : R3 := ⟨zn x, zm x, nd 1⟩
theorem rfi_short (x : Int) (h : -9223372036854775808 ≤ x ∧ x ≤ 9223372036854775807) : Short (rfi x) := by
  have := ln_word (show x.natAbs ≤ 9223372036854775808 by omega)
  refine ⟨?_, ?_⟩
  · show (zm x).length ≤ 1048576
    rw [zm_length]; omega
  · show (nd 1).length ≤ 1048576
    rw [nd_one]; decide
theorem ofQ_fit (x y : Int) : FitO (ofQ x y) := by
  unfold ofQ makQ
  split
  · exact fun r h => lowQ_fit h
  · exact fitO_none

set_option maxHeartbeats 1000000 in
theorem impl_sameP (x y u v : R3) (a b c d : Ad) (w : World) (hxs : Short x) (hys : Short y) (hus : Short u) (hvs : Short v) (hpc : Pin c) (hpd : Pin d) (h : Rds w (rows x a ++ rows y b)) (h' : Rds w (rows u c ++ rows v d)) :
    Calls Try.prog 29 #[.agg #[.bool x.p, .slice a.A x.l.length a.c, .slice a.D x.m.length a.d, .bool y.p, .slice b.A y.l.length b.c, .slice b.D y.m.length b.d], .agg #[.bool u.p, .slice c.A u.l.length c.c, .slice c.D u.m.length c.d, .bool v.p, .slice d.A v.l.length d.c, .slice d.D v.m.length d.d]] w (fun e w' => e = .returned (.bool (sameR x u && sameR y v)) ∧ Below w.heap.size w w') := by
  have HX := Lib.hid (fun W (h1 : Rds W (rows x a)) (h2 : Rds W (rows u c)) => show Calls Try.prog 17 #[.agg #[.bool x.p, .slice a.A x.l.length a.c, .slice a.D x.m.length a.d], .agg #[.bool u.p, .slice c.A u.l.length c.c, .slice c.D u.m.length c.d]] W (fun e w' => e = .returned (.bool (sameR x u)) ∧ Below W.heap.size W w') from impl_req x.p u.p x.l x.m u.l u.m a.A a.D c.A c.D x.l.length x.m.length u.l.length u.m.length a.c a.d c.c c.d W rfl rfl rfl rfl (by have := hxs.1; omega) (by have := hxs.2; omega) (by have := hus.1; omega) (by have := hus.2; omega) (.inr hpc.1) (.inr hpc.2) (rows_rd h1).1 (rows_rd h1).2 (rows_rd h2).1 (rows_rd h2).2)
  have HY := Lib.hid (fun W (h1 : Rds W (rows y b)) (h2 : Rds W (rows v d)) => show Calls Try.prog 17 #[.agg #[.bool y.p, .slice b.A y.l.length b.c, .slice b.D y.m.length b.d], .agg #[.bool v.p, .slice d.A v.l.length d.c, .slice d.D v.m.length d.d]] W (fun e w' => e = .returned (.bool (sameR y v)) ∧ Below W.heap.size W w') from impl_req y.p v.p y.l y.m v.l v.m b.A b.D d.A d.D y.l.length y.m.length v.l.length v.m.length b.c b.d d.c d.d W rfl rfl rfl rfl (by have := hys.1; omega) (by have := hys.2; omega) (by have := hvs.1; omega) (by have := hvs.2; omega) (.inr hpd.1) (.inr hpd.2) (rows_rd h1).1 (rows_rd h1).2 (rows_rd h2).1 (rows_rd h2).2)
  have RR : Hid (∀ W, Below w.heap.size w W → Rds W (rows x a) ∧ Rds W (rows y b) ∧ Rds W (rows u c) ∧ Rds W (rows v d)) := Lib.hid (fun W hb => ⟨(rds_l h).below hb, (rds_r h).below hb, (rds_l h').below hb, (rds_r h').below hb⟩)
  clear h h' hxs hys hus hvs
  clear hpc hpd
  generalize sameR x u = r1 at HX ⊢
  generalize sameR y v = r2 at HY ⊢
  cases r1 with
  | false =>
    go_enter Try.func29, Try.ntmps29
    go_wp2_with fail
    have kb := ba2 w (.cells #[.bool x.p, .slice a.A x.l.length a.c, .slice a.D x.m.length a.d, .bool y.p, .slice b.A y.l.length b.c, .slice b.D y.m.length b.d] 60) (.cells #[.bool u.p, .slice c.A u.l.length c.c, .slice c.D u.m.length c.d, .bool v.p, .slice d.A v.l.length d.c, .slice d.D v.m.length d.d] 60)
    obtain ⟨P_p, P_q⟩ := blocks2 w (.cells #[.bool x.p, .slice a.A x.l.length a.c, .slice a.D x.m.length a.d, .bool y.p, .slice b.A y.l.length b.c, .slice b.D y.m.length b.d] 60) (.cells #[.bool u.p, .slice c.A u.l.length c.c, .slice c.D u.m.length c.d, .bool v.p, .slice d.A v.l.length d.c, .slice d.D v.m.length d.d] 60)
    generalize (w.alloc (.cells #[.bool x.p, .slice a.A x.l.length a.c, .slice a.D x.m.length a.d, .bool y.p, .slice b.A y.l.length b.c, .slice b.D y.m.length b.d] 60)).alloc (.cells #[.bool u.p, .slice c.A u.l.length c.c, .slice c.D u.m.length c.d, .bool v.p, .slice d.A v.l.length d.c, .slice d.D v.m.length d.d] 60) = W1 at kb P_p P_q ⊢
    refine (HX.out _ (RR.out _ kb).1 (RR.out _ kb).2.2.1).mono ?_
    rintro e W2 ⟨rfl, hb⟩
    replace P_p := rblk_below P_p hb
    replace P_q := rblk_below P_q hb
    replace kb := bt kb hb
    clear hb
    go_wp2
    go_ret
    exact ⟨rfl, kb⟩
  | true =>
    cases r2 with
    | false =>
      go_enter Try.func29, Try.ntmps29
      go_wp2_with fail
      have kb := ba2 w (.cells #[.bool x.p, .slice a.A x.l.length a.c, .slice a.D x.m.length a.d, .bool y.p, .slice b.A y.l.length b.c, .slice b.D y.m.length b.d] 60) (.cells #[.bool u.p, .slice c.A u.l.length c.c, .slice c.D u.m.length c.d, .bool v.p, .slice d.A v.l.length d.c, .slice d.D v.m.length d.d] 60)
      obtain ⟨P_p, P_q⟩ := blocks2 w (.cells #[.bool x.p, .slice a.A x.l.length a.c, .slice a.D x.m.length a.d, .bool y.p, .slice b.A y.l.length b.c, .slice b.D y.m.length b.d] 60) (.cells #[.bool u.p, .slice c.A u.l.length c.c, .slice c.D u.m.length c.d, .bool v.p, .slice d.A v.l.length d.c, .slice d.D v.m.length d.d] 60)
      generalize (w.alloc (.cells #[.bool x.p, .slice a.A x.l.length a.c, .slice a.D x.m.length a.d, .bool y.p, .slice b.A y.l.length b.c, .slice b.D y.m.length b.d] 60)).alloc (.cells #[.bool u.p, .slice c.A u.l.length c.c, .slice c.D u.m.length c.d, .bool v.p, .slice d.A v.l.length d.c, .slice d.D v.m.length d.d] 60) = W1 at kb P_p P_q ⊢
      refine (HX.out _ (RR.out _ kb).1 (RR.out _ kb).2.2.1).mono ?_
      rintro e W2 ⟨rfl, hb⟩
      replace P_p := rblk_below P_p hb
      replace P_q := rblk_below P_q hb
      replace kb := bt kb hb
      clear hb
      have c_p0 : W2.cell? ⟨w.heap.size, 0, none⟩ = some (.bool x.p) := rblk_cell P_p 0
      have c_p1 : W2.cell? ⟨w.heap.size, 1, none⟩ = some (.slice a.A x.l.length a.c) := rblk_cell P_p 1
      have c_p2 : W2.cell? ⟨w.heap.size, 2, none⟩ = some (.slice a.D x.m.length a.d) := rblk_cell P_p 2
      have c_p3 : W2.cell? ⟨w.heap.size, 3, none⟩ = some (.bool y.p) := rblk_cell P_p 3
      have c_p4 : W2.cell? ⟨w.heap.size, 4, none⟩ = some (.slice b.A y.l.length b.c) := rblk_cell P_p 4
      have c_p5 : W2.cell? ⟨w.heap.size, 5, none⟩ = some (.slice b.D y.m.length b.d) := rblk_cell P_p 5
      have c_q0 : W2.cell? ⟨w.heap.size + 1, 0, none⟩ = some (.bool u.p) := rblk_cell P_q 0
      have c_q1 : W2.cell? ⟨w.heap.size + 1, 1, none⟩ = some (.slice c.A u.l.length c.c) := rblk_cell P_q 1
      have c_q2 : W2.cell? ⟨w.heap.size + 1, 2, none⟩ = some (.slice c.D u.m.length c.d) := rblk_cell P_q 2
      have c_q3 : W2.cell? ⟨w.heap.size + 1, 3, none⟩ = some (.bool v.p) := rblk_cell P_q 3
      have c_q4 : W2.cell? ⟨w.heap.size + 1, 4, none⟩ = some (.slice d.A v.l.length d.c) := rblk_cell P_q 4
      have c_q5 : W2.cell? ⟨w.heap.size + 1, 5, none⟩ = some (.slice d.D v.m.length d.d) := rblk_cell P_q 5
      go_wp2_with fail
      clear c_p0 c_p1 c_p2 c_p3 c_p4 c_p5 c_q0 c_q1 c_q2 c_q3 c_q4 c_q5
      refine (HY.out _ (RR.out _ kb).2.1 (RR.out _ kb).2.2.2).mono ?_
      rintro e W3 ⟨rfl, hb⟩
      replace P_p := rblk_below P_p hb
      replace P_q := rblk_below P_q hb
      replace kb := bt kb hb
      clear hb
      go_wp2
      go_ret
      exact ⟨rfl, kb⟩
    | true =>
      go_enter Try.func29, Try.ntmps29
      go_wp2_with fail
      have kb := ba2 w (.cells #[.bool x.p, .slice a.A x.l.length a.c, .slice a.D x.m.length a.d, .bool y.p, .slice b.A y.l.length b.c, .slice b.D y.m.length b.d] 60) (.cells #[.bool u.p, .slice c.A u.l.length c.c, .slice c.D u.m.length c.d, .bool v.p, .slice d.A v.l.length d.c, .slice d.D v.m.length d.d] 60)
      obtain ⟨P_p, P_q⟩ := blocks2 w (.cells #[.bool x.p, .slice a.A x.l.length a.c, .slice a.D x.m.length a.d, .bool y.p, .slice b.A y.l.length b.c, .slice b.D y.m.length b.d] 60) (.cells #[.bool u.p, .slice c.A u.l.length c.c, .slice c.D u.m.length c.d, .bool v.p, .slice d.A v.l.length d.c, .slice d.D v.m.length d.d] 60)
      generalize (w.alloc (.cells #[.bool x.p, .slice a.A x.l.length a.c, .slice a.D x.m.length a.d, .bool y.p, .slice b.A y.l.length b.c, .slice b.D y.m.length b.d] 60)).alloc (.cells #[.bool u.p, .slice c.A u.l.length c.c, .slice c.D u.m.length c.d, .bool v.p, .slice d.A v.l.length d.c, .slice d.D v.m.length d.d] 60) = W1 at kb P_p P_q ⊢
      refine (HX.out _ (RR.out _ kb).1 (RR.out _ kb).2.2.1).mono ?_
      rintro e W2 ⟨rfl, hb⟩
      replace P_p := rblk_below P_p hb
      replace P_q := rblk_below P_q hb
      replace kb := bt kb hb
      clear hb
      have c_p0 : W2.cell? ⟨w.heap.size, 0, none⟩ = some (.bool x.p) := rblk_cell P_p 0
      have c_p1 : W2.cell? ⟨w.heap.size, 1, none⟩ = some (.slice a.A x.l.length a.c) := rblk_cell P_p 1
      have c_p2 : W2.cell? ⟨w.heap.size, 2, none⟩ = some (.slice a.D x.m.length a.d) := rblk_cell P_p 2
      have c_p3 : W2.cell? ⟨w.heap.size, 3, none⟩ = some (.bool y.p) := rblk_cell P_p 3
      have c_p4 : W2.cell? ⟨w.heap.size, 4, none⟩ = some (.slice b.A y.l.length b.c) := rblk_cell P_p 4
      have c_p5 : W2.cell? ⟨w.heap.size, 5, none⟩ = some (.slice b.D y.m.length b.d) := rblk_cell P_p 5
      have c_q0 : W2.cell? ⟨w.heap.size + 1, 0, none⟩ = some (.bool u.p) := rblk_cell P_q 0
      have c_q1 : W2.cell? ⟨w.heap.size + 1, 1, none⟩ = some (.slice c.A u.l.length c.c) := rblk_cell P_q 1
      have c_q2 : W2.cell? ⟨w.heap.size + 1, 2, none⟩ = some (.slice c.D u.m.length c.d) := rblk_cell P_q 2
      have c_q3 : W2.cell? ⟨w.heap.size + 1, 3, none⟩ = some (.bool v.p) := rblk_cell P_q 3
      have c_q4 : W2.cell? ⟨w.heap.size + 1, 4, none⟩ = some (.slice d.A v.l.length d.c) := rblk_cell P_q 4
      have c_q5 : W2.cell? ⟨w.heap.size + 1, 5, none⟩ = some (.slice d.D v.m.length d.d) := rblk_cell P_q 5
      go_wp2_with fail
      clear c_p0 c_p1 c_p2 c_p3 c_p4 c_p5 c_q0 c_q1 c_q2 c_q3 c_q4 c_q5
      refine (HY.out _ (RR.out _ kb).2.1 (RR.out _ kb).2.2.2).mono ?_
      rintro e W3 ⟨rfl, hb⟩
      replace P_p := rblk_below P_p hb
      replace P_q := rblk_below P_q hb
      replace kb := bt kb hb
      clear hb
      go_wp2
      go_ret
      exact ⟨rfl, kb⟩

end Go.Proofs.Ytoknolholccamaa
