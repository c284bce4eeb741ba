/-
  Points of the model.
-/
import Derived.Test.YtoknolholccamaaPtJ
import Derived.Test.YtoknolholccamaaPkE
import Derived.Test.YtoknolholccamaaPkH
namespace Go.Proofs.Ytoknolholccamaa
open Go.ChangeShapes Go.WideShapes Go.ChangeAt Go.RowKit
open Go.ChangeMaps (open_string shut_string)
set_option linter.unusedVariables false
set_option linter.unusedSimpArgs false
set_option maxRecDepth 4000

attribute [local go_sem ↓] Go.wp_at_zero Go.wp_at_succ

set_option maxHeartbeats 1000000 in
theorem spec_sameP (x y u v : R3) (a b c d : Ad) (w : World) (hxs : Short x) (hys : Short y) (hus : Short u) (hvs : Short v) (h : Rds w (rows x a ++ rows y b)) (h' : Rds w (rows u c ++ rows v d)) :
    Calls Try.prog 23 #[.agg #[.bool x.p, .slice a.A x.l.length a.c, .slice a.D x.m.length a.d, .bool y.p, .slice b.A y.l.length b.c, .slice b.D y.m.length b.d], .agg #[.bool u.p, .slice c.A u.l.length c.c, .slice c.D u.m.length c.d, .bool v.p, .slice d.A v.l.length d.c, .slice d.D v.m.length d.d]] w (fun e w' => e = .returned (.bool (sameR x u && sameR y v)) ∧ Below w.heap.size w w') := by
  have HX := Lib.hid (fun W (h1 : Rds W (rows x a)) (h2 : Rds W (rows u c)) => show Calls Try.prog 24 #[.agg #[.bool x.p, .slice a.A x.l.length a.c, .slice a.D x.m.length a.d], .agg #[.bool u.p, .slice c.A u.l.length c.c, .slice c.D u.m.length c.d]] W (fun e w' => e = .returned (.bool (sameR x u)) ∧ Below W.heap.size W w') from spec_req x.p u.p x.l x.m u.l u.m a.A a.D c.A c.D x.l.length x.m.length u.l.length u.m.length a.c a.d c.c c.d W rfl rfl rfl rfl (by have := hxs.1; omega) (by have := hxs.2; omega) (by have := hus.1; omega) (by have := hus.2; omega) (rows_rd h1).1 (rows_rd h1).2 (rows_rd h2).1 (rows_rd h2).2)
  have HY := Lib.hid (fun W (h1 : Rds W (rows y b)) (h2 : Rds W (rows v d)) => show Calls Try.prog 24 #[.agg #[.bool y.p, .slice b.A y.l.length b.c, .slice b.D y.m.length b.d], .agg #[.bool v.p, .slice d.A v.l.length d.c, .slice d.D v.m.length d.d]] W (fun e w' => e = .returned (.bool (sameR y v)) ∧ Below W.heap.size W w') from spec_req y.p v.p y.l y.m v.l v.m b.A b.D d.A d.D y.l.length y.m.length v.l.length v.m.length b.c b.d d.c d.d W rfl rfl rfl rfl (by have := hys.1; omega) (by have := hys.2; omega) (by have := hvs.1; omega) (by have := hvs.2; omega) (rows_rd h1).1 (rows_rd h1).2 (rows_rd h2).1 (rows_rd h2).2)
  have RR : Hid (∀ W, Below w.heap.size w W → Rds W (rows x a) ∧ Rds W (rows y b) ∧ Rds W (rows u c) ∧ Rds W (rows v d)) := Lib.hid (fun W hb => ⟨(rds_l h).below hb, (rds_r h).below hb, (rds_l h').below hb, (rds_r h').below hb⟩)
  clear h h' hxs hys hus hvs
  generalize sameR x u = r1 at HX ⊢
  generalize sameR y v = r2 at HY ⊢
  cases r1 with
  | false =>
    go_enter Try.func23, Try.ntmps23
    go_wp2_with fail
    have kb := ba2 w (.cells #[.bool x.p, .slice a.A x.l.length a.c, .slice a.D x.m.length a.d, .bool y.p, .slice b.A y.l.length b.c, .slice b.D y.m.length b.d] 60) (.cells #[.bool u.p, .slice c.A u.l.length c.c, .slice c.D u.m.length c.d, .bool v.p, .slice d.A v.l.length d.c, .slice d.D v.m.length d.d] 60)
    obtain ⟨P_p, P_q⟩ := blocks2 w (.cells #[.bool x.p, .slice a.A x.l.length a.c, .slice a.D x.m.length a.d, .bool y.p, .slice b.A y.l.length b.c, .slice b.D y.m.length b.d] 60) (.cells #[.bool u.p, .slice c.A u.l.length c.c, .slice c.D u.m.length c.d, .bool v.p, .slice d.A v.l.length d.c, .slice d.D v.m.length d.d] 60)
    generalize (w.alloc (.cells #[.bool x.p, .slice a.A x.l.length a.c, .slice a.D x.m.length a.d, .bool y.p, .slice b.A y.l.length b.c, .slice b.D y.m.length b.d] 60)).alloc (.cells #[.bool u.p, .slice c.A u.l.length c.c, .slice c.D u.m.length c.d, .bool v.p, .slice d.A v.l.length d.c, .slice d.D v.m.length d.d] 60) = W1 at kb P_p P_q ⊢
    refine (HX.out _ (RR.out _ kb).1 (RR.out _ kb).2.2.1).mono ?_
    rintro e W2 ⟨rfl, hb⟩
    replace P_p := rblk_below P_p hb
    replace P_q := rblk_below P_q hb
    replace kb := bt kb hb
    clear hb
    go_wp2
    go_ret
    exact ⟨rfl, kb⟩
  | true =>
    cases r2 with
    | false =>
      go_enter Try.func23, Try.ntmps23
      go_wp2_with fail
      have kb := ba2 w (.cells #[.bool x.p, .slice a.A x.l.length a.c, .slice a.D x.m.length a.d, .bool y.p, .slice b.A y.l.length b.c, .slice b.D y.m.length b.d] 60) (.cells #[.bool u.p, .slice c.A u.l.length c.c, .slice c.D u.m.length c.d, .bool v.p, .slice d.A v.l.length d.c, .slice d.D v.m.length d.d] 60)
      obtain ⟨P_p, P_q⟩ := blocks2 w (.cells #[.bool x.p, .slice a.A x.l.length a.c, .slice a.D x.m.length a.d, .bool y.p, .slice b.A y.l.length b.c, .slice b.D y.m.length b.d] 60) (.cells #[.bool u.p, .slice c.A u.l.length c.c, .slice c.D u.m.length c.d, .bool v.p, .slice d.A v.l.length d.c, .slice d.D v.m.length d.d] 60)
      generalize (w.alloc (.cells #[.bool x.p, .slice a.A x.l.length a.c, .slice a.D x.m.length a.d, .bool y.p, .slice b.A y.l.length b.c, .slice b.D y.m.length b.d] 60)).alloc (.cells #[.bool u.p, .slice c.A u.l.length c.c, .slice c.D u.m.length c.d, .bool v.p, .slice d.A v.l.length d.c, .slice d.D v.m.length d.d] 60) = W1 at kb P_p P_q ⊢
      refine (HX.out _ (RR.out _ kb).1 (RR.out _ kb).2.2.1).mono ?_
      rintro e W2 ⟨rfl, hb⟩
      replace P_p := rblk_below P_p hb
      replace P_q := rblk_below P_q hb
      replace kb := bt kb hb
      clear hb
      have c_p0 : W2.cell? ⟨w.heap.size, 0, none⟩ = some (.bool x.p) := rblk_cell P_p 0
      have c_p1 : W2.cell? ⟨w.heap.size, 1, none⟩ = some (.slice a.A x.l.length a.c) := rblk_cell P_p 1
      have c_p2 : W2.cell? ⟨w.heap.size, 2, none⟩ = some (.slice a.D x.m.length a.d) := rblk_cell P_p 2
      have c_p3 : W2.cell? ⟨w.heap.size, 3, none⟩ = some (.bool y.p) := rblk_cell P_p 3
      have c_p4 : W2.cell? ⟨w.heap.size, 4, none⟩ = some (.slice b.A y.l.length b.c) := rblk_cell P_p 4
      have c_p5 : W2.cell? ⟨w.heap.size, 5, none⟩ = some (.slice b.D y.m.length b.d) := rblk_cell P_p 5
      have c_q0 : W2.cell? ⟨w.heap.size + 1, 0, none⟩ = some (.bool u.p) := rblk_cell P_q 0
      have c_q1 : W2.cell? ⟨w.heap.size + 1, 1, none⟩ = some (.slice c.A u.l.length c.c) := rblk_cell P_q 1
      have c_q2 : W2.cell? ⟨w.heap.size + 1, 2, none⟩ = some (.slice c.D u.m.length c.d) := rblk_cell P_q 2
      have c_q3 : W2.cell? ⟨w.heap.size + 1, 3, none⟩ = some (.bool v.p) := rblk_cell P_q 3
      have c_q4 : W2.cell? ⟨w.heap.size + 1, 4, none⟩ = some (.slice d.A v.l.length d.c) := rblk_cell P_q 4
      have c_q5 : W2.cell? ⟨w.heap.size + 1, 5, none⟩ = some (.slice d.D v.m.length d.d) := rblk_cell P_q 5
      go_wp2_with fail
      clear c_p0 c_p1 c_p2 c_p3 c_p4 c_p5 c_q0 c_q1 c_q2 c_q3 c_q4 c_q5
      refine (HY.out _ (RR.out _ kb).2.1 (RR.out _ kb).2.2.2).mono ?_
      rintro e W3 ⟨rfl, hb⟩
      replace P_p := rblk_below P_p hb
      replace P_q := rblk_below P_q hb
      replace kb := bt kb hb
      clear hb
      go_wp2
      go_ret
      exact ⟨rfl, kb⟩
    | true =>
      go_enter Try.func23, Try.ntmps23
      go_wp2_with fail
      have kb := ba2 w (.cells #[.bool x.p, .slice a.A x.l.length a.c, .slice a.D x.m.length a.d, .bool y.p, .slice b.A y.l.length b.c, .slice b.D y.m.length b.d] 60) (.cells #[.bool u.p, .slice c.A u.l.length c.c, .slice c.D u.m.length c.d, .bool v.p, .slice d.A v.l.length d.c, .slice d.D v.m.length d.d] 60)
      obtain ⟨P_p, P_q⟩ := blocks2 w (.cells #[.bool x.p, .slice a.A x.l.length a.c, .slice a.D x.m.length a.d, .bool y.p, .slice b.A y.l.length b.c, .slice b.D y.m.length b.d] 60) (.cells #[.bool u.p, .slice c.A u.l.length c.c, .slice c.D u.m.length c.d, .bool v.p, .slice d.A v.l.length d.c, .slice d.D v.m.length d.d] 60)
      generalize (w.alloc (.cells #[.bool x.p, .slice a.A x.l.length a.c, .slice a.D x.m.length a.d, .bool y.p, .slice b.A y.l.length b.c, .slice b.D y.m.length b.d] 60)).alloc (.cells #[.bool u.p, .slice c.A u.l.length c.c, .slice c.D u.m.length c.d, .bool v.p, .slice d.A v.l.length d.c, .slice d.D v.m.length d.d] 60) = W1 at kb P_p P_q ⊢
      refine (HX.out _ (RR.out _ kb).1 (RR.out _ kb).2.2.1).mono ?_
      rintro e W2 ⟨rfl, hb⟩
      replace P_p := rblk_below P_p hb
      replace P_q := rblk_below P_q hb
      replace kb := bt kb hb
      clear hb
      have c_p0 : W2.cell? ⟨w.heap.size, 0, none⟩ = some (.bool x.p) := rblk_cell P_p 0
      have c_p1 : W2.cell? ⟨w.heap.size, 1, none⟩ = some (.slice a.A x.l.length a.c) := rblk_cell P_p 1
      have c_p2 : W2.cell? ⟨w.heap.size, 2, none⟩ = some (.slice a.D x.m.length a.d) := rblk_cell P_p 2
      have c_p3 : W2.cell? ⟨w.heap.size, 3, none⟩ = some (.bool y.p) := rblk_cell P_p 3
      have c_p4 : W2.cell? ⟨w.heap.size, 4, none⟩ = some (.slice b.A y.l.length b.c) := rblk_cell P_p 4
      have c_p5 : W2.cell? ⟨w.heap.size, 5, none⟩ = some (.slice b.D y.m.length b.d) := rblk_cell P_p 5
      have c_q0 : W2.cell? ⟨w.heap.size + 1, 0, none⟩ = some (.bool u.p) := rblk_cell P_q 0
      have c_q1 : W2.cell? ⟨w.heap.size + 1, 1, none⟩ = some (.slice c.A u.l.length c.c) := rblk_cell P_q 1
      have c_q2 : W2.cell? ⟨w.heap.size + 1, 2, none⟩ = some (.slice c.D u.m.length c.d) := rblk_cell P_q 2
      have c_q3 : W2.cell? ⟨w.heap.size + 1, 3, none⟩ = some (.bool v.p) := rblk_cell P_q 3
      have c_q4 : W2.cell? ⟨w.heap.size + 1, 4, none⟩ = some (.slice d.A v.l.length d.c) := rblk_cell P_q 4
      have c_q5 : W2.cell? ⟨w.heap.size + 1, 5, none⟩ = some (.slice d.D v.m.length d.d) := rblk_cell P_q 5
      go_wp2_with fail
      clear c_p0 c_p1 c_p2 c_p3 c_p4 c_p5 c_q0 c_q1 c_q2 c_q3 c_q4 c_q5
      refine (HY.out _ (RR.out _ kb).2.1 (RR.out _ kb).2.2.2).mono ?_
      rintro e W3 ⟨rfl, hb⟩
      replace P_p := rblk_below P_p hb
      replace P_q := rblk_below P_q hb
      replace kb := bt kb hb
      clear hb
      go_wp2
      go_ret
      exact ⟨rfl, kb⟩

end Go.Proofs.Ytoknolholccamaa
