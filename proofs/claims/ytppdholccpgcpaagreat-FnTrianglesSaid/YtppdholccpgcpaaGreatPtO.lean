/-
  SamePoint where the second point's rows begin at a block's first cell, or are empty.
-/
import Derived.Test.YtppdholccpgcpaaGreatLawP
import Derived.Test.YtppdholccpgcpaaGreatPtJ
namespace Go.Proofs.YtppdholccpgcpaaGreat
open Go.ChangeShapes Go.WideShapes Go.ChangeAt Go.RowKit
set_option linter.unusedVariables false
set_option linter.unusedSimpArgs false
set_option maxRecDepth 4000
attribute [local go_sem ↓] Go.wp_at_zero Go.wp_at_succ
def AdrOk (x : R3) (c : Ad) : Prop := (x.l.length = 0 ∨ ∃ g, c.A = some ⟨g, 0, none⟩) ∧ (x.m.length = 0 ∨ ∃ g, c.D = some ⟨g, 0, none⟩)
set_option maxHeartbeats 1000000 in
theorem impl_sameO (x y u v : R3) (a b c d : Ad) (w : World) (hxs : Short x) (hys : Short y) (hus : Short u) (hvs : Short v) (hpc : AdrOk x c) (hpd : AdrOk y d) (h : Rds w (rows x a ++ rows y b)) (h' : Rds w (rows u c ++ rows v d)) :
    Calls Tryz.prog 19 #[.agg (r6 x y a b), .agg (r6 u v c d)] w (fun e w' => e = .returned (.bool (sameR x u && sameR y v)) ∧ Below w.heap.size w w') := by
  have HX := Lib.hid (fun W (h1 : Rds W (rows x a)) (h2 : Rds W (rows u c)) => show Calls Tryz.prog 20 #[.agg (r3 x a), .agg (r3 u c)] W (fun e w' => e = .returned (.bool (sameR x u)) ∧ Below W.heap.size W w') from impl_req x.p u.p x.l x.m u.l u.m a.A a.D c.A c.D x.l.length x.m.length u.l.length u.m.length a.c a.d c.c c.d W rfl rfl rfl rfl (by have := hxs.1; omega) (by have := hxs.2; omega) (by have := hus.1; omega) (by have := hus.2; omega) hpc.1 hpc.2 (rows_rd h1).1 (rows_rd h1).2 (rows_rd h2).1 (rows_rd h2).2)
  have HY := Lib.hid (fun W (h1 : Rds W (rows y b)) (h2 : Rds W (rows v d)) => show Calls Tryz.prog 20 #[.agg (r3 y b), .agg (r3 v d)] W (fun e w' => e = .returned (.bool (sameR y v)) ∧ Below W.heap.size W w') from impl_req y.p v.p y.l y.m v.l v.m b.A b.D d.A d.D y.l.length y.m.length v.l.length v.m.length b.c b.d d.c d.d W rfl rfl rfl rfl (by have := hys.1; omega) (by have := hys.2; omega) (by have := hvs.1; omega) (by have := hvs.2; omega) hpd.1 hpd.2 (rows_rd h1).1 (rows_rd h1).2 (rows_rd h2).1 (rows_rd h2).2)
  have RR : Hid (∀ W, Below w.heap.size w W → Rds W (rows x a) ∧ Rds W (rows y b) ∧ Rds W (rows u c) ∧ Rds W (rows v d)) := Lib.hid (fun W hb => ⟨(rds_l h).below hb, (rds_r h).below hb, (rds_l h').below hb, (rds_r h').below hb⟩)
  clear h h' hxs hys hus hvs
  clear hpc hpd
  generalize sameR x u = r1 at HX ⊢
  generalize sameR y v = r2 at HY ⊢
  cases r1 with
  | false =>
    go_enter Tryz.func19, Tryz.ntmps19
    go_wp2_with fail
    have kb := ba2 w (.cells (r6 x y a b) 31) (.cells (r6 u v c d) 31)
    obtain ⟨P_p, P_q⟩ := blocks2 w (.cells (r6 x y a b) 31) (.cells (r6 u v c d) 31)
    generalize (w.alloc (.cells (r6 x y a b) 31)).alloc (.cells (r6 u v c d) 31) = W1 at kb P_p P_q ⊢
    refine (HX.out _ (RR.out _ kb).1 (RR.out _ kb).2.2.1).mono ?_
    rintro e W2 ⟨rfl, hb⟩
    replace P_p := rblk_below P_p hb
    replace P_q := rblk_below P_q hb
    replace kb := bt kb hb
    clear hb
    go_wp2
    go_ret
    exact ⟨rfl, kb⟩
  | true =>
    cases r2 with
    | false =>
      go_enter Tryz.func19, Tryz.ntmps19
      go_wp2_with fail
      have kb := ba2 w (.cells (r6 x y a b) 31) (.cells (r6 u v c d) 31)
      obtain ⟨P_p, P_q⟩ := blocks2 w (.cells (r6 x y a b) 31) (.cells (r6 u v c d) 31)
      generalize (w.alloc (.cells (r6 x y a b) 31)).alloc (.cells (r6 u v c d) 31) = W1 at kb P_p P_q ⊢
      refine (HX.out _ (RR.out _ kb).1 (RR.out _ kb).2.2.1).mono ?_
      rintro e W2 ⟨rfl, hb⟩
      replace P_p := rblk_below P_p hb
      replace P_q := rblk_below P_q hb
      replace kb := bt kb hb
      clear hb
      have c_p0 := rblk_cell P_p 0
      have c_p1 := rblk_cell P_p 1
      have c_p2 := rblk_cell P_p 2
      have c_p3 := rblk_cell P_p 3
      have c_p4 := rblk_cell P_p 4
      have c_p5 := rblk_cell P_p 5
      have c_q0 := rblk_cell P_q 0
      have c_q1 := rblk_cell P_q 1
      have c_q2 := rblk_cell P_q 2
      have c_q3 := rblk_cell P_q 3
      have c_q4 := rblk_cell P_q 4
      have c_q5 := rblk_cell P_q 5
      go_wp2_with fail
      clear c_p0 c_p1 c_p2 c_p3 c_p4 c_p5 c_q0 c_q1 c_q2 c_q3 c_q4 c_q5
      refine (HY.out _ (RR.out _ kb).2.1 (RR.out _ kb).2.2.2).mono ?_
      rintro e W3 ⟨rfl, hb⟩
      replace P_p := rblk_below P_p hb
      replace P_q := rblk_below P_q hb
      replace kb := bt kb hb
      clear hb
      go_wp2
      go_ret
      exact ⟨rfl, kb⟩
    | true =>
      go_enter Tryz.func19, Tryz.ntmps19
      go_wp2_with fail
      have kb := ba2 w (.cells (r6 x y a b) 31) (.cells (r6 u v c d) 31)
      obtain ⟨P_p, P_q⟩ := blocks2 w (.cells (r6 x y a b) 31) (.cells (r6 u v c d) 31)
      generalize (w.alloc (.cells (r6 x y a b) 31)).alloc (.cells (r6 u v c d) 31) = W1 at kb P_p P_q ⊢
      refine (HX.out _ (RR.out _ kb).1 (RR.out _ kb).2.2.1).mono ?_
      rintro e W2 ⟨rfl, hb⟩
      replace P_p := rblk_below P_p hb
      replace P_q := rblk_below P_q hb
      replace kb := bt kb hb
      clear hb
      have c_p0 := rblk_cell P_p 0
      have c_p1 := rblk_cell P_p 1
      have c_p2 := rblk_cell P_p 2
      have c_p3 := rblk_cell P_p 3
      have c_p4 := rblk_cell P_p 4
      have c_p5 := rblk_cell P_p 5
      have c_q0 := rblk_cell P_q 0
      have c_q1 := rblk_cell P_q 1
      have c_q2 := rblk_cell P_q 2
      have c_q3 := rblk_cell P_q 3
      have c_q4 := rblk_cell P_q 4
      have c_q5 := rblk_cell P_q 5
      go_wp2_with fail
      clear c_p0 c_p1 c_p2 c_p3 c_p4 c_p5 c_q0 c_q1 c_q2 c_q3 c_q4 c_q5
      refine (HY.out _ (RR.out _ kb).2.1 (RR.out _ kb).2.2.2).mono ?_
      rintro e W3 ⟨rfl, hb⟩
      replace P_p := rblk_below P_p hb
      replace P_q := rblk_below P_q hb
      replace kb := bt kb hb
      clear hb
      go_wp2
      go_ret
      exact ⟨rfl, kb⟩
end Go.Proofs.YtppdholccpgcpaaGreat
