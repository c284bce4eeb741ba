/-
  What the harness' functions do over points.
-/
import Derived.Test.YtoknolholccamaaR3
namespace Go.Proofs.Ytoknolholccamaa
open Go.ChangeShapes Go.WideShapes Go.ChangeAt Go.RowKit
open Go.ChangeMaps (open_string shut_string)
set_option linter.unusedVariables false
set_option linter.unusedSimpArgs false
set_option maxRecDepth 4000

theorem puts_owns {lo hi g i : Nat} {w : World} {rs : List (Option Addr × List Value)} (h : Owns lo hi w rs) (hg : g < lo) (v : Value) : Owns lo hi (w.setCell ⟨g, i, none⟩ v) rs := h.put (.inl hg) v

set_option maxHeartbeats 1000000 in
theorem toPt_p (x y : R3) (a b : Ad) (w : World) (hx : Short x) (hy : Short y) (h : Rds w (rows x a ++ rows y b)) :
    Calls Try.prog 39 #[.agg #[.bool x.p, .slice a.A x.l.length a.c, .slice a.D x.m.length a.d, .bool y.p, .slice b.A y.l.length b.c, .slice b.D y.m.length b.d]] w (MadePp w.heap.size x y w) := by
  have TX := Lib.hid (fun W h => toRat_p x a W hx h)
  have TY := Lib.hid (fun W h => toRat_p y b W hy h)
  have RR : Hid (∀ W, Below w.heap.size w W → Rds W (rows x a) ∧ Rds W (rows y b)) := Lib.hid (fun W hb => ⟨(rds_l h).below hb, (rds_r h).below hb⟩)
  clear h hx hy
  unfold MadeQp at TX TY
  go_enter Try.func39, Try.ntmps39
  go_wp2_with fail
  have kb := ba3 w (.cells #[.bool x.p, .slice a.A x.l.length a.c, .slice a.D x.m.length a.d, .bool y.p, .slice b.A y.l.length b.c, .slice b.D y.m.length b.d] 73) (.cells #[.bool false, .slice none 0 0, .slice none 0 0, .bool false, .slice none 0 0, .slice none 0 0] 60) (.cells #[.bool false, .slice none 0 0, .slice none 0 0, .bool false, .slice none 0 0, .slice none 0 0] 60)
  obtain ⟨P_a, P_r, P_o⟩ := blocks3 w (.cells #[.bool x.p, .slice a.A x.l.length a.c, .slice a.D x.m.length a.d, .bool y.p, .slice b.A y.l.length b.c, .slice b.D y.m.length b.d] 73) (.cells #[.bool false, .slice none 0 0, .slice none 0 0, .bool false, .slice none 0 0, .slice none 0 0] 60) (.cells #[.bool false, .slice none 0 0, .slice none 0 0, .bool false, .slice none 0 0, .slice none 0 0] 60)
  generalize ((w.alloc (.cells #[.bool x.p, .slice a.A x.l.length a.c, .slice a.D x.m.length a.d, .bool y.p, .slice b.A y.l.length b.c, .slice b.D y.m.length b.d] 73)).alloc (.cells #[.bool false, .slice none 0 0, .slice none 0 0, .bool false, .slice none 0 0, .slice none 0 0] 60)).alloc (.cells #[.bool false, .slice none 0 0, .slice none 0 0, .bool false, .slice none 0 0, .slice none 0 0] 60) = W1 at kb P_a P_r P_o ⊢
  have hszS := rblk_lt P_o
  refine (TX.out _ (RR.out _ kb).1).mono ?_
  rintro e W2 ⟨a', pin1, rfl, hc1, hc2, o1, hap1, hb⟩
  replace P_a := rblk_below P_a hb
  replace P_r := rblk_below P_r hb
  replace P_o := rblk_below P_o hb
  replace kb := bt kb hb
  have hszA := hb.size
  have hltO := rblk_lt P_o
  clear hb
  have c_o0 : W2.cell? ⟨w.heap.size + 1 + 1, 0, none⟩ = some (.bool false) := rblk_cell P_o 0
  have c_o1 : W2.cell? ⟨w.heap.size + 1 + 1, 1, none⟩ = some (.slice none 0 0) := rblk_cell P_o 1
  have c_o2 : W2.cell? ⟨w.heap.size + 1 + 1, 2, none⟩ = some (.slice none 0 0) := rblk_cell P_o 2
  have c_o3 : W2.cell? ⟨w.heap.size + 1 + 1, 3, none⟩ = some (.bool false) := rblk_cell P_o 3
  have c_o4 : W2.cell? ⟨w.heap.size + 1 + 1, 4, none⟩ = some (.slice none 0 0) := rblk_cell P_o 4
  have c_o5 : W2.cell? ⟨w.heap.size + 1 + 1, 5, none⟩ = some (.slice none 0 0) := rblk_cell P_o 5
  have c_a0 : W2.cell? ⟨w.heap.size, 0, none⟩ = some (.bool x.p) := rblk_cell P_a 0
  have c_a1 : W2.cell? ⟨w.heap.size, 1, none⟩ = some (.slice a.A x.l.length a.c) := rblk_cell P_a 1
  have c_a2 : W2.cell? ⟨w.heap.size, 2, none⟩ = some (.slice a.D x.m.length a.d) := rblk_cell P_a 2
  have c_a3 : W2.cell? ⟨w.heap.size, 3, none⟩ = some (.bool y.p) := rblk_cell P_a 3
  have c_a4 : W2.cell? ⟨w.heap.size, 4, none⟩ = some (.slice b.A y.l.length b.c) := rblk_cell P_a 4
  have c_a5 : W2.cell? ⟨w.heap.size, 5, none⟩ = some (.slice b.D y.m.length b.d) := rblk_cell P_a 5
  have f_o0 := rblk_free P_o 0
  have f_o1 := rblk_free P_o 1
  have f_o2 := rblk_free P_o 2
  have f_o3 := rblk_free P_o 3
  have f_o4 := rblk_free P_o 4
  have f_o5 := rblk_free P_o 5
  go_wp2_with fail
  clear c_o0 c_o1 c_o2 c_o3 c_o4 c_o5 c_a0 c_a1 c_a2 c_a3 c_a4 c_a5 f_o0 f_o1 f_o2 f_o3 f_o4 f_o5
  replace P_a := rblk_other (rblk_other (rblk_other P_a 0 (.bool x.p) (show w.heap.size + 1 + 1 ≠ w.heap.size by omega)) 1 (.slice a'.A x.l.length a'.c) (show w.heap.size + 1 + 1 ≠ w.heap.size by omega)) 2 (.slice a'.D x.m.length a'.d) (show w.heap.size + 1 + 1 ≠ w.heap.size by omega)
  replace P_r := rblk_other (rblk_other (rblk_other P_r 0 (.bool x.p) (show w.heap.size + 1 + 1 ≠ w.heap.size + 1 by omega)) 1 (.slice a'.A x.l.length a'.c) (show w.heap.size + 1 + 1 ≠ w.heap.size + 1 by omega)) 2 (.slice a'.D x.m.length a'.d) (show w.heap.size + 1 + 1 ≠ w.heap.size + 1 by omega)
  replace P_o := rblk_set (rblk_set (rblk_set P_o 0 (.bool x.p)) 1 (.slice a'.A x.l.length a'.c)) 2 (.slice a'.D x.m.length a'.d)
  replace o1 := ((o1.put (b := w.heap.size + 1 + 1) (o := 0) (by omega) (.bool x.p)).put (b := w.heap.size + 1 + 1) (o := 1) (by omega) (.slice a'.A x.l.length a'.c)).put (b := w.heap.size + 1 + 1) (o := 2) (by omega) (.slice a'.D x.m.length a'.d)
  replace kb := below_put (o := 2) (below_put (o := 1) (below_put (o := 0) kb (show w.heap.size ≤ w.heap.size + 1 + 1 by omega) (.bool x.p)) (show w.heap.size ≤ w.heap.size + 1 + 1 by omega) (.slice a'.A x.l.length a'.c)) (show w.heap.size ≤ w.heap.size + 1 + 1 by omega) (.slice a'.D x.m.length a'.d)
  have hszW3 : W2.heap.size = (((W2.setCell ⟨w.heap.size + 1 + 1, 0, none⟩ (.bool x.p)).setCell ⟨w.heap.size + 1 + 1, 1, none⟩ (.slice a'.A x.l.length a'.c)).setCell ⟨w.heap.size + 1 + 1, 2, none⟩ (.slice a'.D x.m.length a'.d)).heap.size := by simp only [put_size]
  generalize ((W2.setCell ⟨w.heap.size + 1 + 1, 0, none⟩ (.bool x.p)).setCell ⟨w.heap.size + 1 + 1, 1, none⟩ (.slice a'.A x.l.length a'.c)).setCell ⟨w.heap.size + 1 + 1, 2, none⟩ (.slice a'.D x.m.length a'.d) = W3 at kb hszW3 P_a P_r P_o o1 ⊢
  refine (TY.out _ (RR.out _ kb).2).mono ?_
  rintro e W4 ⟨b', pin2, rfl, hc3, hc4, o2, hap2, hb⟩
  replace P_a := rblk_below P_a hb
  replace P_r := rblk_below P_r hb
  replace P_o := rblk_below P_o hb
  replace o1 := o1.below hb
  replace kb := bt kb hb
  have hszB := hb.size
  clear hb
  have c_o0 : W4.cell? ⟨w.heap.size + 1 + 1, 0, none⟩ = some (.bool x.p) := rblk_cell P_o 0
  have c_o1 : W4.cell? ⟨w.heap.size + 1 + 1, 1, none⟩ = some (.slice a'.A x.l.length a'.c) := rblk_cell P_o 1
  have c_o2 : W4.cell? ⟨w.heap.size + 1 + 1, 2, none⟩ = some (.slice a'.D x.m.length a'.d) := rblk_cell P_o 2
  have c_o3 : W4.cell? ⟨w.heap.size + 1 + 1, 3, none⟩ = some (.bool false) := rblk_cell P_o 3
  have c_o4 : W4.cell? ⟨w.heap.size + 1 + 1, 4, none⟩ = some (.slice none 0 0) := rblk_cell P_o 4
  have c_o5 : W4.cell? ⟨w.heap.size + 1 + 1, 5, none⟩ = some (.slice none 0 0) := rblk_cell P_o 5
  have c_r0 : W4.cell? ⟨w.heap.size + 1, 0, none⟩ = some (.bool false) := rblk_cell P_r 0
  have c_r1 : W4.cell? ⟨w.heap.size + 1, 1, none⟩ = some (.slice none 0 0) := rblk_cell P_r 1
  have c_r2 : W4.cell? ⟨w.heap.size + 1, 2, none⟩ = some (.slice none 0 0) := rblk_cell P_r 2
  have c_r3 : W4.cell? ⟨w.heap.size + 1, 3, none⟩ = some (.bool false) := rblk_cell P_r 3
  have c_r4 : W4.cell? ⟨w.heap.size + 1, 4, none⟩ = some (.slice none 0 0) := rblk_cell P_r 4
  have c_r5 : W4.cell? ⟨w.heap.size + 1, 5, none⟩ = some (.slice none 0 0) := rblk_cell P_r 5
  have f_o0 := rblk_free P_o 0
  have f_o1 := rblk_free P_o 1
  have f_o2 := rblk_free P_o 2
  have f_o3 := rblk_free P_o 3
  have f_o4 := rblk_free P_o 4
  have f_o5 := rblk_free P_o 5
  have f_r0 := rblk_free P_r 0
  have f_r1 := rblk_free P_r 1
  have f_r2 := rblk_free P_r 2
  have f_r3 := rblk_free P_r 3
  have f_r4 := rblk_free P_r 4
  have f_r5 := rblk_free P_r 5
  go_wp2
  exact bodyPost_ret (v := .agg #[.bool x.p, .slice a'.A x.l.length a'.c, .slice a'.D x.m.length a'.d, .bool y.p, .slice b'.A y.l.length b'.c, .slice b'.D y.m.length b'.d]) (by simp [results, Try.results39, go_sem, c_r0, c_r1, c_r2, c_r3, c_r4, c_r5]) rfl ⟨a', b', ⟨pin1, pin2⟩, rfl, ⟨hc1, hc2, hc3, hc4⟩, Owns.app (Owns.wide (((((((((o1.put (by omega) _).put (by omega) _).put (by omega) _).put (by omega) _).put (by omega) _).put (by omega) _).put (by omega) _).put (by omega) _).put (by omega) _) (by omega) (by simp only [put_size]; omega)) (Owns.wide (((((((((o2.put (by omega) _).put (by omega) _).put (by omega) _).put (by omega) _).put (by omega) _).put (by omega) _).put (by omega) _).put (by omega) _).put (by omega) _) (by omega) (by simp only [put_size]; omega)), Aparts.app hap1 hap2 (o1.wide (Nat.le_refl _) (Nat.le_of_eq hszW3)) o2, (below_put (below_put (below_put (below_put (below_put (below_put (below_put (below_put (below_put kb (by omega) _) (by omega) _) (by omega) _) (by omega) _) (by omega) _) (by omega) _) (by omega) _) (by omega) _) (by omega) _)⟩

theorem toPt_r (x y : R3) (a b : Ad) (w : World) (hx : Short x) (hy : Short y) (h : Rds w (rows x a ++ rows y b)) :
    Calls Try.prog 39 #[.agg #[.bool x.p, .slice a.A x.l.length a.c, .slice a.D x.m.length a.d, .bool y.p, .slice b.A y.l.length b.c, .slice b.D y.m.length b.d]] w (MadeP w.heap.size x y w) :=
  (toPt_p x y a b w hx hy h).mono fun e w' ⟨a', b', _, h⟩ => ⟨a', b', h⟩

/-- Equal data. -/
def sameR (x u : R3) : Bool := decide (x.p = u.p) && decide (x.l = u.l) && decide (x.m = u.m)
theorem sameR_refl (x : R3) : sameR x x = true := by unfold sameR; simp
set_option maxHeartbeats 1000000 in
theorem eqPt_r (x y u v : R3) (a b c d : Ad) (w : World) (hx : Short x) (hy : Short y) (hu : Short u) (hv : Short v) (h : Rds w (rows x a ++ rows y b)) (h' : Rds w (rows u c ++ rows v d)) :
    Calls Try.prog 43 #[.agg #[.bool x.p, .slice a.A x.l.length a.c, .slice a.D x.m.length a.d, .bool y.p, .slice b.A y.l.length b.c, .slice b.D y.m.length b.d], .agg #[.bool u.p, .slice c.A u.l.length c.c, .slice c.D u.m.length c.d, .bool v.p, .slice d.A v.l.length d.c, .slice d.D v.m.length d.d]] w (fun e w' => e = .returned (.bool (sameR x u && sameR y v)) ∧ Below w.heap.size w w') := by
  have EX := Lib.hid (fun W h h' => eqRat_r x u a c W hx hu h h')
  have EY := Lib.hid (fun W h h' => eqRat_r y v b d W hy hv h h')
  have RR : Hid (∀ W, Below w.heap.size w W → Rds W (rows x a) ∧ Rds W (rows y b) ∧ Rds W (rows u c) ∧ Rds W (rows v d)) := Lib.hid (fun W hb => ⟨(rds_l h).below hb, (rds_r h).below hb, (rds_l h').below hb, (rds_r h').below hb⟩)
  clear h h' hx hy hu hv
  unfold sameR
  generalize (decide (x.p = u.p) && decide (x.l = u.l) && decide (x.m = u.m)) = r1 at EX ⊢
  generalize (decide (y.p = v.p) && decide (y.l = v.l) && decide (y.m = v.m)) = r2 at EY ⊢
  cases r1 with
  | false =>
      go_enter Try.func43, Try.ntmps43
      go_wp2_with fail
      have kb := ba2 w (.cells #[.bool x.p, .slice a.A x.l.length a.c, .slice a.D x.m.length a.d, .bool y.p, .slice b.A y.l.length b.c, .slice b.D y.m.length b.d] 60) (.cells #[.bool u.p, .slice c.A u.l.length c.c, .slice c.D u.m.length c.d, .bool v.p, .slice d.A v.l.length d.c, .slice d.D v.m.length d.d] 60)
      obtain ⟨P_a, P_b⟩ := blocks2 w (.cells #[.bool x.p, .slice a.A x.l.length a.c, .slice a.D x.m.length a.d, .bool y.p, .slice b.A y.l.length b.c, .slice b.D y.m.length b.d] 60) (.cells #[.bool u.p, .slice c.A u.l.length c.c, .slice c.D u.m.length c.d, .bool v.p, .slice d.A v.l.length d.c, .slice d.D v.m.length d.d] 60)
      generalize (w.alloc (.cells #[.bool x.p, .slice a.A x.l.length a.c, .slice a.D x.m.length a.d, .bool y.p, .slice b.A y.l.length b.c, .slice b.D y.m.length b.d] 60)).alloc (.cells #[.bool u.p, .slice c.A u.l.length c.c, .slice c.D u.m.length c.d, .bool v.p, .slice d.A v.l.length d.c, .slice d.D v.m.length d.d] 60) = W1 at kb P_a P_b ⊢
      refine (EX.out _ (RR.out _ kb).1 (RR.out _ kb).2.2.1).mono ?_
      rintro e W2 ⟨rfl, hb⟩
      replace P_a := rblk_below P_a hb
      replace P_b := rblk_below P_b hb
      replace kb := bt kb hb
      clear hb
      go_wp2
      go_ret
      exact ⟨rfl, kb⟩
  | true =>
    cases r2 with
    | false =>
      go_enter Try.func43, Try.ntmps43
      go_wp2_with fail
      have kb := ba2 w (.cells #[.bool x.p, .slice a.A x.l.length a.c, .slice a.D x.m.length a.d, .bool y.p, .slice b.A y.l.length b.c, .slice b.D y.m.length b.d] 60) (.cells #[.bool u.p, .slice c.A u.l.length c.c, .slice c.D u.m.length c.d, .bool v.p, .slice d.A v.l.length d.c, .slice d.D v.m.length d.d] 60)
      obtain ⟨P_a, P_b⟩ := blocks2 w (.cells #[.bool x.p, .slice a.A x.l.length a.c, .slice a.D x.m.length a.d, .bool y.p, .slice b.A y.l.length b.c, .slice b.D y.m.length b.d] 60) (.cells #[.bool u.p, .slice c.A u.l.length c.c, .slice c.D u.m.length c.d, .bool v.p, .slice d.A v.l.length d.c, .slice d.D v.m.length d.d] 60)
      generalize (w.alloc (.cells #[.bool x.p, .slice a.A x.l.length a.c, .slice a.D x.m.length a.d, .bool y.p, .slice b.A y.l.length b.c, .slice b.D y.m.length b.d] 60)).alloc (.cells #[.bool u.p, .slice c.A u.l.length c.c, .slice c.D u.m.length c.d, .bool v.p, .slice d.A v.l.length d.c, .slice d.D v.m.length d.d] 60) = W1 at kb P_a P_b ⊢
      refine (EX.out _ (RR.out _ kb).1 (RR.out _ kb).2.2.1).mono ?_
      rintro e W2 ⟨rfl, hb⟩
      replace P_a := rblk_below P_a hb
      replace P_b := rblk_below P_b hb
      replace kb := bt kb hb
      clear hb
      have c_a0 : W2.cell? ⟨w.heap.size, 0, none⟩ = some (.bool x.p) := rblk_cell P_a 0
      have c_a1 : W2.cell? ⟨w.heap.size, 1, none⟩ = some (.slice a.A x.l.length a.c) := rblk_cell P_a 1
      have c_a2 : W2.cell? ⟨w.heap.size, 2, none⟩ = some (.slice a.D x.m.length a.d) := rblk_cell P_a 2
      have c_a3 : W2.cell? ⟨w.heap.size, 3, none⟩ = some (.bool y.p) := rblk_cell P_a 3
      have c_a4 : W2.cell? ⟨w.heap.size, 4, none⟩ = some (.slice b.A y.l.length b.c) := rblk_cell P_a 4
      have c_a5 : W2.cell? ⟨w.heap.size, 5, none⟩ = some (.slice b.D y.m.length b.d) := rblk_cell P_a 5
      have c_b0 : W2.cell? ⟨w.heap.size + 1, 0, none⟩ = some (.bool u.p) := rblk_cell P_b 0
      have c_b1 : W2.cell? ⟨w.heap.size + 1, 1, none⟩ = some (.slice c.A u.l.length c.c) := rblk_cell P_b 1
      have c_b2 : W2.cell? ⟨w.heap.size + 1, 2, none⟩ = some (.slice c.D u.m.length c.d) := rblk_cell P_b 2
      have c_b3 : W2.cell? ⟨w.heap.size + 1, 3, none⟩ = some (.bool v.p) := rblk_cell P_b 3
      have c_b4 : W2.cell? ⟨w.heap.size + 1, 4, none⟩ = some (.slice d.A v.l.length d.c) := rblk_cell P_b 4
      have c_b5 : W2.cell? ⟨w.heap.size + 1, 5, none⟩ = some (.slice d.D v.m.length d.d) := rblk_cell P_b 5
      go_wp2_with fail
      clear c_a0 c_a1 c_a2 c_a3 c_a4 c_a5 c_b0 c_b1 c_b2 c_b3 c_b4 c_b5
      refine (EY.out _ (RR.out _ kb).2.1 (RR.out _ kb).2.2.2).mono ?_
      rintro e W3 ⟨rfl, hb⟩
      replace P_a := rblk_below P_a hb
      replace P_b := rblk_below P_b hb
      replace kb := bt kb hb
      clear hb
      go_wp2
      go_ret
      exact ⟨rfl, kb⟩
    | true =>
      go_enter Try.func43, Try.ntmps43
      go_wp2_with fail
      have kb := ba2 w (.cells #[.bool x.p, .slice a.A x.l.length a.c, .slice a.D x.m.length a.d, .bool y.p, .slice b.A y.l.length b.c, .slice b.D y.m.length b.d] 60) (.cells #[.bool u.p, .slice c.A u.l.length c.c, .slice c.D u.m.length c.d, .bool v.p, .slice d.A v.l.length d.c, .slice d.D v.m.length d.d] 60)
      obtain ⟨P_a, P_b⟩ := blocks2 w (.cells #[.bool x.p, .slice a.A x.l.length a.c, .slice a.D x.m.length a.d, .bool y.p, .slice b.A y.l.length b.c, .slice b.D y.m.length b.d] 60) (.cells #[.bool u.p, .slice c.A u.l.length c.c, .slice c.D u.m.length c.d, .bool v.p, .slice d.A v.l.length d.c, .slice d.D v.m.length d.d] 60)
      generalize (w.alloc (.cells #[.bool x.p, .slice a.A x.l.length a.c, .slice a.D x.m.length a.d, .bool y.p, .slice b.A y.l.length b.c, .slice b.D y.m.length b.d] 60)).alloc (.cells #[.bool u.p, .slice c.A u.l.length c.c, .slice c.D u.m.length c.d, .bool v.p, .slice d.A v.l.length d.c, .slice d.D v.m.length d.d] 60) = W1 at kb P_a P_b ⊢
      refine (EX.out _ (RR.out _ kb).1 (RR.out _ kb).2.2.1).mono ?_
      rintro e W2 ⟨rfl, hb⟩
      replace P_a := rblk_below P_a hb
      replace P_b := rblk_below P_b hb
      replace kb := bt kb hb
      clear hb
      have c_a0 : W2.cell? ⟨w.heap.size, 0, none⟩ = some (.bool x.p) := rblk_cell P_a 0
      have c_a1 : W2.cell? ⟨w.heap.size, 1, none⟩ = some (.slice a.A x.l.length a.c) := rblk_cell P_a 1
      have c_a2 : W2.cell? ⟨w.heap.size, 2, none⟩ = some (.slice a.D x.m.length a.d) := rblk_cell P_a 2
      have c_a3 : W2.cell? ⟨w.heap.size, 3, none⟩ = some (.bool y.p) := rblk_cell P_a 3
      have c_a4 : W2.cell? ⟨w.heap.size, 4, none⟩ = some (.slice b.A y.l.length b.c) := rblk_cell P_a 4
      have c_a5 : W2.cell? ⟨w.heap.size, 5, none⟩ = some (.slice b.D y.m.length b.d) := rblk_cell P_a 5
      have c_b0 : W2.cell? ⟨w.heap.size + 1, 0, none⟩ = some (.bool u.p) := rblk_cell P_b 0
      have c_b1 : W2.cell? ⟨w.heap.size + 1, 1, none⟩ = some (.slice c.A u.l.length c.c) := rblk_cell P_b 1
      have c_b2 : W2.cell? ⟨w.heap.size + 1, 2, none⟩ = some (.slice c.D u.m.length c.d) := rblk_cell P_b 2
      have c_b3 : W2.cell? ⟨w.heap.size + 1, 3, none⟩ = some (.bool v.p) := rblk_cell P_b 3
      have c_b4 : W2.cell? ⟨w.heap.size + 1, 4, none⟩ = some (.slice d.A v.l.length d.c) := rblk_cell P_b 4
      have c_b5 : W2.cell? ⟨w.heap.size + 1, 5, none⟩ = some (.slice d.D v.m.length d.d) := rblk_cell P_b 5
      go_wp2_with fail
      clear c_a0 c_a1 c_a2 c_a3 c_a4 c_a5 c_b0 c_b1 c_b2 c_b3 c_b4 c_b5
      refine (EY.out _ (RR.out _ kb).2.1 (RR.out _ kb).2.2.2).mono ?_
      rintro e W3 ⟨rfl, hb⟩
      replace P_a := rblk_below P_a hb
      replace P_b := rblk_below P_b hb
      replace kb := bt kb hb
      clear hb
      go_wp2
      go_ret
      exact ⟨rfl, kb⟩

theorem eqPt_t (x y : R3) (a b c d : Ad) (w : World) (hx : Short x) (hy : Short y) (h : Rds w (rows x a ++ rows y b)) (h' : Rds w (rows x c ++ rows y d)) :
    Calls Try.prog 43 #[.agg #[.bool x.p, .slice a.A x.l.length a.c, .slice a.D x.m.length a.d, .bool y.p, .slice b.A y.l.length b.c, .slice b.D y.m.length b.d], .agg #[.bool x.p, .slice c.A x.l.length c.c, .slice c.D x.m.length c.d, .bool y.p, .slice d.A y.l.length d.c, .slice d.D y.m.length d.d]] w (fun e w' => e = .returned (.bool true) ∧ Below w.heap.size w w') :=
  (eqPt_r x y x y a b c d w hx hy hx hy h h').mono fun e w' ⟨he, hb⟩ => ⟨by rw [he, sameR_refl, sameR_refl]; rfl, hb⟩

/-- Rows apart from a fraction's two. -/
theorem owns_grown2 {lo hi : Nat} {w w' : World} {rs : List (Option Addr × List Value)} {x : R3} {a : Ad} (h : Owns lo hi w rs) (hap : Aparts (rows x a ++ rs)) (hg : Grown2 w w' (rowOf x.l.length a.A) (rowOf x.m.length a.D)) : Owns lo hi w' rs := fun r hr => by
  have h1 := (List.pairwise_append.1 hap).2.2 (a.A, vi x.l) (by unfold rows; simp) r hr
  have h2 := (List.pairwise_append.1 hap).2.2 (a.D, vi x.m) (by unfold rows; simp) r hr
  rw [vi_length] at h1 h2
  exact ⟨(h r hr).1.grown2 h1.symm h2.symm hg, (h r hr).2⟩
theorem Aparts.swap {rs ss : List (Option Addr × List Value)} (h : Aparts (rs ++ ss)) : Aparts (ss ++ rs) :=
  List.pairwise_append.2 ⟨(List.pairwise_append.1 h).2.1, (List.pairwise_append.1 h).1, fun r hr s hs => ((List.pairwise_append.1 h).2.2 s hs r hr).symm⟩
theorem Aparts.l {rs ss : List (Option Addr × List Value)} (h : Aparts (rs ++ ss)) : Aparts rs := (List.pairwise_append.1 h).1
theorem Aparts.r {rs ss : List (Option Addr × List Value)} (h : Aparts (rs ++ ss)) : Aparts ss := (List.pairwise_append.1 h).2.1
theorem turn_rows {lo hi : Nat} {w w0 w' : World} {x : R3} {a : Ad} (h : Owns lo hi w0 (rows x a)) (hg : Grown2 w w' (rowOf x.l.length a.A) (rowOf x.m.length a.D)) : Turn lo hi w w' := by
  have i1 := h.hr
  have i2 := h.tl.hr
  rw [vi_length] at i1 i2
  exact Turn.of_grown2 hg i1 i2
theorem mk_apart {k : Int} {x : R3} {a : Ad} {rs : List (Option Addr × List Value)} (h : Aparts (rows x a ++ rs)) : Aparts (rows (mkR k x) a ++ rs) := by
  unfold rows mkR Aparts at *
  simp only [List.cons_append, List.nil_append, List.pairwise_cons, vi_length, marks_length] at h ⊢
  exact ⟨fun s hs => by rcases List.mem_cons.1 hs with e | e; (subst e; have := h.1 _ (List.mem_cons_self ..); simpa [vi_length, marks_length] using this); exact h.1 s (List.mem_cons_of_mem _ e), h.2⟩

set_option maxHeartbeats 1000000 in
theorem szPt_y (x y : R3) (a b : Ad) (left : Int) (w : World) (h0 : 0 ≤ left) (h1 : left ≤ 1048576) (h : szx x + szx y ≤ left) :
    Calls Try.prog 35 #[.agg #[.bool x.p, .slice a.A x.l.length a.c, .slice a.D x.m.length a.d, .bool y.p, .slice b.A y.l.length b.c, .slice b.D y.m.length b.d], .int .i64 left] w (fun e w' => e = .returned (.int .i64 (left - (szx x + szx y))) ∧ Below w.heap.size w w') := by
  have hp1 := szx_pos x
  have hp2 := szx_pos y
  have SX := Lib.hid (fun W => szRat_y x a left W h0 h1 (by omega))
  have SY := Lib.hid (fun W => szRat_y y b (left - szx x) W (by omega) (by omega) (by omega))
  rw [show left - (szx x + szx y) = left - szx x - szx y by omega]
  have hz1 : ¬ left - szx x < 0 := by omega
  have hz2 : ¬ left - szx x - szx y < 0 := by omega
  generalize left - szx x - szx y = l2 at *
  generalize left - szx x = l1 at *
  clear h h0 h1 hp1 hp2
  go_enter Try.func35, Try.ntmps35
  go_wp2_with fail
  have kb := ba1 w (.cells #[.bool x.p, .slice a.A x.l.length a.c, .slice a.D x.m.length a.d, .bool y.p, .slice b.A y.l.length b.c, .slice b.D y.m.length b.d] 73)
  have P_a := heap_alloc_new w (.cells #[.bool x.p, .slice a.A x.l.length a.c, .slice a.D x.m.length a.d, .bool y.p, .slice b.A y.l.length b.c, .slice b.D y.m.length b.d] 73)
  generalize w.alloc (.cells #[.bool x.p, .slice a.A x.l.length a.c, .slice a.D x.m.length a.d, .bool y.p, .slice b.A y.l.length b.c, .slice b.D y.m.length b.d] 73) = W1 at kb P_a ⊢
  refine (SX.out _).mono ?_
  rintro e W2 ⟨rfl, hb⟩
  replace P_a := rblk_below P_a hb
  replace kb := bt kb hb
  clear hb
  have c_a0 : W2.cell? ⟨w.heap.size, 0, none⟩ = some (.bool x.p) := rblk_cell P_a 0
  have c_a1 : W2.cell? ⟨w.heap.size, 1, none⟩ = some (.slice a.A x.l.length a.c) := rblk_cell P_a 1
  have c_a2 : W2.cell? ⟨w.heap.size, 2, none⟩ = some (.slice a.D x.m.length a.d) := rblk_cell P_a 2
  have c_a3 : W2.cell? ⟨w.heap.size, 3, none⟩ = some (.bool y.p) := rblk_cell P_a 3
  have c_a4 : W2.cell? ⟨w.heap.size, 4, none⟩ = some (.slice b.A y.l.length b.c) := rblk_cell P_a 4
  have c_a5 : W2.cell? ⟨w.heap.size, 5, none⟩ = some (.slice b.D y.m.length b.d) := rblk_cell P_a 5
  go_wp2_with fail
  clear c_a0 c_a1 c_a2 c_a3 c_a4 c_a5
  refine (SY.out _).mono ?_
  rintro e W3 ⟨rfl, hb⟩
  replace P_a := rblk_below P_a hb
  replace kb := bt kb hb
  clear hb
  go_wp2
  go_ret
  exact ⟨rfl, kb⟩

set_option maxHeartbeats 1000000 in
theorem szPt_n (x y : R3) (a b : Ad) (left : Int) (w : World) (hxl : x.l.length ≤ 9223372036854775807) (hxm : x.m.length ≤ 9223372036854775807) (hyl : y.l.length ≤ 9223372036854775807) (hym : y.m.length ≤ 9223372036854775807) (h0 : 0 ≤ left) (h1 : left ≤ 1048576) (h : ¬ szx x + szx y ≤ left) :
    Calls Try.prog 35 #[.agg #[.bool x.p, .slice a.A x.l.length a.c, .slice a.D x.m.length a.d, .bool y.p, .slice b.A y.l.length b.c, .slice b.D y.m.length b.d], .int .i64 left] w (fun e w' => e = .returned (.int .i64 (-1)) ∧ Below w.heap.size w w') := by
  have hp1 := szx_pos x
  have hp2 := szx_pos y
  by_cases hx : szx x ≤ left
  · have SX := Lib.hid (fun W => szRat_y x a left W h0 h1 hx)
    have SY := Lib.hid (fun W => szRat_n y b (left - szx x) W hyl hym (by omega) (by omega) (by omega))
    have hz1 : ¬ left - szx x < 0 := by omega
    generalize left - szx x = l1 at *
    clear h h0 h1 hp1 hp2 hx hxl hxm hyl hym
    go_enter Try.func35, Try.ntmps35
    go_wp2_with fail
    have kb := ba1 w (.cells #[.bool x.p, .slice a.A x.l.length a.c, .slice a.D x.m.length a.d, .bool y.p, .slice b.A y.l.length b.c, .slice b.D y.m.length b.d] 73)
    have P_a := heap_alloc_new w (.cells #[.bool x.p, .slice a.A x.l.length a.c, .slice a.D x.m.length a.d, .bool y.p, .slice b.A y.l.length b.c, .slice b.D y.m.length b.d] 73)
    generalize w.alloc (.cells #[.bool x.p, .slice a.A x.l.length a.c, .slice a.D x.m.length a.d, .bool y.p, .slice b.A y.l.length b.c, .slice b.D y.m.length b.d] 73) = W1 at kb P_a ⊢
    refine (SX.out _).mono ?_
    rintro e W2 ⟨rfl, hb⟩
    replace P_a := rblk_below P_a hb
    replace kb := bt kb hb
    clear hb
    have c_a0 : W2.cell? ⟨w.heap.size, 0, none⟩ = some (.bool x.p) := rblk_cell P_a 0
    have c_a1 : W2.cell? ⟨w.heap.size, 1, none⟩ = some (.slice a.A x.l.length a.c) := rblk_cell P_a 1
    have c_a2 : W2.cell? ⟨w.heap.size, 2, none⟩ = some (.slice a.D x.m.length a.d) := rblk_cell P_a 2
    have c_a3 : W2.cell? ⟨w.heap.size, 3, none⟩ = some (.bool y.p) := rblk_cell P_a 3
    have c_a4 : W2.cell? ⟨w.heap.size, 4, none⟩ = some (.slice b.A y.l.length b.c) := rblk_cell P_a 4
    have c_a5 : W2.cell? ⟨w.heap.size, 5, none⟩ = some (.slice b.D y.m.length b.d) := rblk_cell P_a 5
    go_wp2_with fail
    clear c_a0 c_a1 c_a2 c_a3 c_a4 c_a5
    refine (SY.out _).mono ?_
    rintro e W3 ⟨rfl, hb⟩
    replace P_a := rblk_below P_a hb
    replace kb := bt kb hb
    clear hb
    go_wp2
    go_ret
    exact ⟨rfl, kb⟩
  · have SX := Lib.hid (fun W => szRat_n x a left W hxl hxm h0 h1 hx)
    clear h h0 h1 hp1 hp2 hx hxl hxm hyl hym
    go_enter Try.func35, Try.ntmps35
    go_wp2_with fail
    have kb := ba1 w (.cells #[.bool x.p, .slice a.A x.l.length a.c, .slice a.D x.m.length a.d, .bool y.p, .slice b.A y.l.length b.c, .slice b.D y.m.length b.d] 73)
    have P_a := heap_alloc_new w (.cells #[.bool x.p, .slice a.A x.l.length a.c, .slice a.D x.m.length a.d, .bool y.p, .slice b.A y.l.length b.c, .slice b.D y.m.length b.d] 73)
    generalize w.alloc (.cells #[.bool x.p, .slice a.A x.l.length a.c, .slice a.D x.m.length a.d, .bool y.p, .slice b.A y.l.length b.c, .slice b.D y.m.length b.d] 73) = W1 at kb P_a ⊢
    refine (SX.out _).mono ?_
    rintro e W2 ⟨rfl, hb⟩
    replace P_a := rblk_below P_a hb
    replace kb := bt kb hb
    clear hb
    go_wp2
    go_ret
    exact ⟨rfl, kb⟩
end Go.Proofs.Ytoknolholccamaa
