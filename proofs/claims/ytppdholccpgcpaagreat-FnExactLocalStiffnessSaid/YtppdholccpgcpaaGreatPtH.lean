/-
  What the harness' functions do over points.
-/
import Derived.Test.YtppdholccpgcpaaGreatWg
import Derived.Test.YtppdholccpgcpaaGreatWr
import Derived.Test.YtppdholccpgcpaaGreatR3
namespace Go.Proofs.YtppdholccpgcpaaGreat
set_option maxHeartbeats 1000000
open Go.ChangeShapes Go.WideShapes Go.ChangeAt Go.RowKit
set_option linter.unusedVariables false
set_option linter.unusedSimpArgs false
set_option maxRecDepth 4000
theorem toPt_p (x y : R3) (a b : Ad) (w : World) (hx : Short x) (hy : Short y) (h : Rds w (rows x a ++ rows y b)) :
    Calls Tryz.prog 104 #[.agg (r6 x y a b)] w (MadePp w.heap.size x y w) := by
  have TX := Lib.hid (fun W h => toRat_p x a W hx h)
  have TY := Lib.hid (fun W h => toRat_p y b W hy h)
  have RR : Hid (∀ W, Below w.heap.size w W → Rds W (rows x a) ∧ Rds W (rows y b)) := Lib.hid (fun W hb => ⟨(rds_l h).below hb, (rds_r h).below hb⟩)
  clear h hx hy
  unfold MadeQp at TX TY
  go_enter Tryz.func104, Tryz.ntmps104
  go_wp2_with fail
  have kb := ba3 w (.cells (r6 x y a b) 118) (.cells z6 31) (.cells z6 31)
  obtain ⟨P_a, P_r, P_o⟩ := blocks3 w (.cells (r6 x y a b) 118) (.cells z6 31) (.cells z6 31)
  generalize ((w.alloc (.cells (r6 x y a b) 118)).alloc (.cells z6 31)).alloc (.cells z6 31) = W1 at kb P_a P_r P_o ⊢
  have hszS := rblk_lt P_o
  refine (TX.out _ (RR.out _ kb).1).mono ?_
  rintro e W2 ⟨a', pin1, rfl, hc1, hc2, o1, hap1, hb⟩
  replace P_a := rblk_below P_a hb
  replace P_r := rblk_below P_r hb
  replace P_o := rblk_below P_o hb
  replace kb := bt kb hb
  have hszA := hb.size
  have hltO := rblk_lt P_o
  clear hb
  have c_o0 := rblk_cell P_o 0
  have c_o1 := rblk_cell P_o 1
  have c_o2 := rblk_cell P_o 2
  have c_o3 := rblk_cell P_o 3
  have c_o4 := rblk_cell P_o 4
  have c_o5 := rblk_cell P_o 5
  have c_a0 := rblk_cell P_a 0
  have c_a1 := rblk_cell P_a 1
  have c_a2 := rblk_cell P_a 2
  have c_a3 := rblk_cell P_a 3
  have c_a4 := rblk_cell P_a 4
  have c_a5 := rblk_cell P_a 5
  have f_o0 := rblk_free P_o 0
  have f_o1 := rblk_free P_o 1
  have f_o2 := rblk_free P_o 2
  have f_o3 := rblk_free P_o 3
  have f_o4 := rblk_free P_o 4
  have f_o5 := rblk_free P_o 5
  go_wp2_with fail
  clear c_o0 c_o1 c_o2 c_o3 c_o4 c_o5 c_a0 c_a1 c_a2 c_a3 c_a4 c_a5 f_o0 f_o1 f_o2 f_o3 f_o4 f_o5
  replace P_a := rblk_other (rblk_other (rblk_other P_a 0 (.bool x.p) (show w.heap.size + 1 + 1 ≠ w.heap.size by omega)) 1 (.slice a'.A x.l.length a'.c) (show w.heap.size + 1 + 1 ≠ w.heap.size by omega)) 2 (.slice a'.D x.m.length a'.d) (show w.heap.size + 1 + 1 ≠ w.heap.size by omega)
  replace P_r := rblk_other (rblk_other (rblk_other P_r 0 (.bool x.p) (show w.heap.size + 1 + 1 ≠ w.heap.size + 1 by omega)) 1 (.slice a'.A x.l.length a'.c) (show w.heap.size + 1 + 1 ≠ w.heap.size + 1 by omega)) 2 (.slice a'.D x.m.length a'.d) (show w.heap.size + 1 + 1 ≠ w.heap.size + 1 by omega)
  replace P_o := rblk_set (rblk_set (rblk_set P_o 0 (.bool x.p)) 1 (.slice a'.A x.l.length a'.c)) 2 (.slice a'.D x.m.length a'.d)
  replace o1 := ((o1.put (b := w.heap.size + 1 + 1) (o := 0) (by omega) (.bool x.p)).put (b := w.heap.size + 1 + 1) (o := 1) (by omega) (.slice a'.A x.l.length a'.c)).put (b := w.heap.size + 1 + 1) (o := 2) (by omega) (.slice a'.D x.m.length a'.d)
  replace kb := below_put (o := 2) (below_put (o := 1) (below_put (o := 0) kb (show w.heap.size ≤ w.heap.size + 1 + 1 by omega) (.bool x.p)) (show w.heap.size ≤ w.heap.size + 1 + 1 by omega) (.slice a'.A x.l.length a'.c)) (show w.heap.size ≤ w.heap.size + 1 + 1 by omega) (.slice a'.D x.m.length a'.d)
  have hszW3 : W2.heap.size = (((W2.setCell ⟨w.heap.size + 1 + 1, 0, none⟩ (.bool x.p)).setCell ⟨w.heap.size + 1 + 1, 1, none⟩ (.slice a'.A x.l.length a'.c)).setCell ⟨w.heap.size + 1 + 1, 2, none⟩ (.slice a'.D x.m.length a'.d)).heap.size := by simp only [put_size]
  generalize ((W2.setCell ⟨w.heap.size + 1 + 1, 0, none⟩ (.bool x.p)).setCell ⟨w.heap.size + 1 + 1, 1, none⟩ (.slice a'.A x.l.length a'.c)).setCell ⟨w.heap.size + 1 + 1, 2, none⟩ (.slice a'.D x.m.length a'.d) = W3 at kb hszW3 P_a P_r P_o o1 ⊢
  refine (TY.out _ (RR.out _ kb).2).mono ?_
  rintro e W4 ⟨b', pin2, rfl, hc3, hc4, o2, hap2, hb⟩
  replace P_a := rblk_below P_a hb
  replace P_r := rblk_below P_r hb
  replace P_o := rblk_below P_o hb
  replace o1 := o1.below hb
  replace kb := bt kb hb
  have hszB := hb.size
  clear hb
  have c_o0 := rblk_cell P_o 0
  have c_o1 := rblk_cell P_o 1
  have c_o2 := rblk_cell P_o 2
  have c_o3 := rblk_cell P_o 3
  have c_o4 := rblk_cell P_o 4
  have c_o5 := rblk_cell P_o 5
  have c_r0 := rblk_cell P_r 0
  have c_r1 := rblk_cell P_r 1
  have c_r2 := rblk_cell P_r 2
  have c_r3 := rblk_cell P_r 3
  have c_r4 := rblk_cell P_r 4
  have c_r5 := rblk_cell P_r 5
  have f_o0 := rblk_free P_o 0
  have f_o1 := rblk_free P_o 1
  have f_o2 := rblk_free P_o 2
  have f_o3 := rblk_free P_o 3
  have f_o4 := rblk_free P_o 4
  have f_o5 := rblk_free P_o 5
  have f_r0 := rblk_free P_r 0
  have f_r1 := rblk_free P_r 1
  have f_r2 := rblk_free P_r 2
  have f_r3 := rblk_free P_r 3
  have f_r4 := rblk_free P_r 4
  have f_r5 := rblk_free P_r 5
  go_wp2
  exact bodyPost_ret (v := .agg (r6 x y a' b')) (by simp [results, Tryz.results104, go_sem, c_r0, c_r1, c_r2, c_r3, c_r4, c_r5]) rfl ⟨a', b', ⟨pin1, pin2⟩, rfl, ⟨hc1, hc2, hc3, hc4⟩, Owns.app (Owns.wide (((((((((o1.put (by omega) _).put (by omega) _).put (by omega) _).put (by omega) _).put (by omega) _).put (by omega) _).put (by omega) _).put (by omega) _).put (by omega) _) (by omega) (by simp only [put_size]; omega)) (Owns.wide (((((((((o2.put (by omega) _).put (by omega) _).put (by omega) _).put (by omega) _).put (by omega) _).put (by omega) _).put (by omega) _).put (by omega) _).put (by omega) _) (by omega) (by simp only [put_size]; omega)), Aparts.app hap1 hap2 (o1.wide (Nat.le_refl _) (Nat.le_of_eq hszW3)) o2, (below_put (below_put (below_put (below_put (below_put (below_put (below_put (below_put (below_put kb (by omega) _) (by omega) _) (by omega) _) (by omega) _) (by omega) _) (by omega) _) (by omega) _) (by omega) _) (by omega) _)⟩
def sameR (x u : R3) : Bool := decide (x.p = u.p) && decide (x.l = u.l) && decide (x.m = u.m)
theorem sameR_refl (x : R3) : sameR x x = true := by unfold sameR; simp
theorem eqPt_r (x y u v : R3) (a b c d : Ad) (w : World) (hx : Short x) (hy : Short y) (hu : Short u) (hv : Short v) (h : Rds w (rows x a ++ rows y b)) (h' : Rds w (rows u c ++ rows v d)) :
    Calls Tryz.prog 45 #[.agg (r6 x y a b), .agg (r6 u v c d)] w (fun e w' => e = .returned (.bool (sameR x u && sameR y v)) ∧ Below w.heap.size w w') := by
  have EX := Lib.hid (fun W h h' => eqRat_r x u a c W hx hu h h')
  have EY := Lib.hid (fun W h h' => eqRat_r y v b d W hy hv h h')
  have RR : Hid (∀ W, Below w.heap.size w W → Rds W (rows x a) ∧ Rds W (rows y b) ∧ Rds W (rows u c) ∧ Rds W (rows v d)) := Lib.hid (fun W hb => ⟨(rds_l h).below hb, (rds_r h).below hb, (rds_l h').below hb, (rds_r h').below hb⟩)
  clear h h' hx hy hu hv
  unfold sameR
  generalize (decide (x.p = u.p) && decide (x.l = u.l) && decide (x.m = u.m)) = r1 at EX ⊢
  generalize (decide (y.p = v.p) && decide (y.l = v.l) && decide (y.m = v.m)) = r2 at EY ⊢
  cases r1 with
  | false =>
      go_enter Tryz.func45, Tryz.ntmps45
      go_wp2_with fail
      have kb := ba2 w (.cells (r6 x y a b) 31) (.cells (r6 u v c d) 31)
      obtain ⟨P_a, P_b⟩ := blocks2 w (.cells (r6 x y a b) 31) (.cells (r6 u v c d) 31)
      generalize (w.alloc (.cells (r6 x y a b) 31)).alloc (.cells (r6 u v c d) 31) = W1 at kb P_a P_b ⊢
      refine (EX.out _ (RR.out _ kb).1 (RR.out _ kb).2.2.1).mono ?_
      rintro e W2 ⟨rfl, hb⟩
      replace P_a := rblk_below P_a hb
      replace P_b := rblk_below P_b hb
      replace kb := bt kb hb
      clear hb
      go_wp2
      go_ret
      exact ⟨rfl, kb⟩
  | true =>
    cases r2 with
    | false =>
      go_enter Tryz.func45, Tryz.ntmps45
      go_wp2_with fail
      have kb := ba2 w (.cells (r6 x y a b) 31) (.cells (r6 u v c d) 31)
      obtain ⟨P_a, P_b⟩ := blocks2 w (.cells (r6 x y a b) 31) (.cells (r6 u v c d) 31)
      generalize (w.alloc (.cells (r6 x y a b) 31)).alloc (.cells (r6 u v c d) 31) = W1 at kb P_a P_b ⊢
      refine (EX.out _ (RR.out _ kb).1 (RR.out _ kb).2.2.1).mono ?_
      rintro e W2 ⟨rfl, hb⟩
      replace P_a := rblk_below P_a hb
      replace P_b := rblk_below P_b hb
      replace kb := bt kb hb
      clear hb
      have c_a0 := rblk_cell P_a 0
      have c_a1 := rblk_cell P_a 1
      have c_a2 := rblk_cell P_a 2
      have c_a3 := rblk_cell P_a 3
      have c_a4 := rblk_cell P_a 4
      have c_a5 := rblk_cell P_a 5
      have c_b0 := rblk_cell P_b 0
      have c_b1 := rblk_cell P_b 1
      have c_b2 := rblk_cell P_b 2
      have c_b3 := rblk_cell P_b 3
      have c_b4 := rblk_cell P_b 4
      have c_b5 := rblk_cell P_b 5
      go_wp2_with fail
      clear c_a0 c_a1 c_a2 c_a3 c_a4 c_a5 c_b0 c_b1 c_b2 c_b3 c_b4 c_b5
      refine (EY.out _ (RR.out _ kb).2.1 (RR.out _ kb).2.2.2).mono ?_
      rintro e W3 ⟨rfl, hb⟩
      replace P_a := rblk_below P_a hb
      replace P_b := rblk_below P_b hb
      replace kb := bt kb hb
      clear hb
      go_wp2
      go_ret
      exact ⟨rfl, kb⟩
    | true =>
      go_enter Tryz.func45, Tryz.ntmps45
      go_wp2_with fail
      have kb := ba2 w (.cells (r6 x y a b) 31) (.cells (r6 u v c d) 31)
      obtain ⟨P_a, P_b⟩ := blocks2 w (.cells (r6 x y a b) 31) (.cells (r6 u v c d) 31)
      generalize (w.alloc (.cells (r6 x y a b) 31)).alloc (.cells (r6 u v c d) 31) = W1 at kb P_a P_b ⊢
      refine (EX.out _ (RR.out _ kb).1 (RR.out _ kb).2.2.1).mono ?_
      rintro e W2 ⟨rfl, hb⟩
      replace P_a := rblk_below P_a hb
      replace P_b := rblk_below P_b hb
      replace kb := bt kb hb
      clear hb
      have c_a0 := rblk_cell P_a 0
      have c_a1 := rblk_cell P_a 1
      have c_a2 := rblk_cell P_a 2
      have c_a3 := rblk_cell P_a 3
      have c_a4 := rblk_cell P_a 4
      have c_a5 := rblk_cell P_a 5
      have c_b0 := rblk_cell P_b 0
      have c_b1 := rblk_cell P_b 1
      have c_b2 := rblk_cell P_b 2
      have c_b3 := rblk_cell P_b 3
      have c_b4 := rblk_cell P_b 4
      have c_b5 := rblk_cell P_b 5
      go_wp2_with fail
      clear c_a0 c_a1 c_a2 c_a3 c_a4 c_a5 c_b0 c_b1 c_b2 c_b3 c_b4 c_b5
      refine (EY.out _ (RR.out _ kb).2.1 (RR.out _ kb).2.2.2).mono ?_
      rintro e W3 ⟨rfl, hb⟩
      replace P_a := rblk_below P_a hb
      replace P_b := rblk_below P_b hb
      replace kb := bt kb hb
      clear hb
      go_wp2
      go_ret
      exact ⟨rfl, kb⟩
theorem eqPt_t (x y : R3) (a b c d : Ad) (w : World) (hx : Short x) (hy : Short y) (h : Rds w (rows x a ++ rows y b)) (h' : Rds w (rows x c ++ rows y d)) :
    Calls Tryz.prog 45 #[.agg (r6 x y a b), .agg (r6 x y c d)] w (fun e w' => e = .returned (.bool true) ∧ Below w.heap.size w w') :=
  (eqPt_r x y x y a b c d w hx hy hx hy h h').mono fun e w' ⟨he, hb⟩ => ⟨by rw [he, sameR_refl, sameR_refl]; rfl, hb⟩
theorem Aparts.l {rs ss : List (Option Addr × List Value)} (h : Aparts (rs ++ ss)) : Aparts rs := (List.pairwise_append.1 h).1
theorem szPt_y (x y : R3) (a b : Ad) (left : Int) (w : World) (h0 : 0 ≤ left) (h1 : left ≤ 1048576) (h : szx x + szx y ≤ left) :
    Calls Tryz.prog 98 #[.agg (r6 x y a b), .int .i64 left] w (fun e w' => e = .returned (.int .i64 (left - (szx x + szx y))) ∧ Below w.heap.size w w') := by
  have hp1 := szx_pos x
  have hp2 := szx_pos y
  have SX := Lib.hid (fun W => szRat_y x a left W h0 h1 (by omega))
  have SY := Lib.hid (fun W => szRat_y y b (left - szx x) W (by omega) (by omega) (by omega))
  rw [show left - (szx x + szx y) = left - szx x - szx y by omega]
  have hz1 : ¬ left - szx x < 0 := by omega
  have hz2 : ¬ left - szx x - szx y < 0 := by omega
  generalize left - szx x - szx y = l2 at *
  generalize left - szx x = l1 at *
  clear h h0 h1 hp1 hp2
  go_enter Tryz.func98, Tryz.ntmps98
  go_wp2_with fail
  have kb := ba1 w (.cells (r6 x y a b) 118)
  have P_a := heap_alloc_new w (.cells (r6 x y a b) 118)
  generalize w.alloc (.cells (r6 x y a b) 118) = W1 at kb P_a ⊢
  refine (SX.out _).mono ?_
  rintro e W2 ⟨rfl, hb⟩
  replace P_a := rblk_below P_a hb
  replace kb := bt kb hb
  clear hb
  have c_a0 := rblk_cell P_a 0
  have c_a1 := rblk_cell P_a 1
  have c_a2 := rblk_cell P_a 2
  have c_a3 := rblk_cell P_a 3
  have c_a4 := rblk_cell P_a 4
  have c_a5 := rblk_cell P_a 5
  go_wp2_with fail
  clear c_a0 c_a1 c_a2 c_a3 c_a4 c_a5
  refine (SY.out _).mono ?_
  rintro e W3 ⟨rfl, hb⟩
  replace P_a := rblk_below P_a hb
  replace kb := bt kb hb
  clear hb
  go_wp2
  go_ret
  exact ⟨rfl, kb⟩
theorem szPt_n (x y : R3) (a b : Ad) (left : Int) (w : World) (hxl : x.l.length ≤ 9223372036854775807) (hxm : x.m.length ≤ 9223372036854775807) (hyl : y.l.length ≤ 9223372036854775807) (hym : y.m.length ≤ 9223372036854775807) (h0 : 0 ≤ left) (h1 : left ≤ 1048576) (h : ¬ szx x + szx y ≤ left) :
    Calls Tryz.prog 98 #[.agg (r6 x y a b), .int .i64 left] w (fun e w' => e = .returned (.int .i64 (-1)) ∧ Below w.heap.size w w') := by
  have hp1 := szx_pos x
  have hp2 := szx_pos y
  by_cases hx : szx x ≤ left
  · have SX := Lib.hid (fun W => szRat_y x a left W h0 h1 hx)
    have SY := Lib.hid (fun W => szRat_n y b (left - szx x) W hyl hym (by omega) (by omega) (by omega))
    have hz1 : ¬ left - szx x < 0 := by omega
    generalize left - szx x = l1 at *
    clear h h0 h1 hp1 hp2 hx hxl hxm hyl hym
    go_enter Tryz.func98, Tryz.ntmps98
    go_wp2_with fail
    have kb := ba1 w (.cells (r6 x y a b) 118)
    have P_a := heap_alloc_new w (.cells (r6 x y a b) 118)
    generalize w.alloc (.cells (r6 x y a b) 118) = W1 at kb P_a ⊢
    refine (SX.out _).mono ?_
    rintro e W2 ⟨rfl, hb⟩
    replace P_a := rblk_below P_a hb
    replace kb := bt kb hb
    clear hb
    have c_a0 := rblk_cell P_a 0
    have c_a1 := rblk_cell P_a 1
    have c_a2 := rblk_cell P_a 2
    have c_a3 := rblk_cell P_a 3
    have c_a4 := rblk_cell P_a 4
    have c_a5 := rblk_cell P_a 5
    go_wp2_with fail
    clear c_a0 c_a1 c_a2 c_a3 c_a4 c_a5
    refine (SY.out _).mono ?_
    rintro e W3 ⟨rfl, hb⟩
    replace P_a := rblk_below P_a hb
    replace kb := bt kb hb
    clear hb
    go_wp2
    go_ret
    exact ⟨rfl, kb⟩
  · have SX := Lib.hid (fun W => szRat_n x a left W hxl hxm h0 h1 hx)
    clear h h0 h1 hp1 hp2 hx hxl hxm hyl hym
    go_enter Tryz.func98, Tryz.ntmps98
    go_wp2_with fail
    have kb := ba1 w (.cells (r6 x y a b) 118)
    have P_a := heap_alloc_new w (.cells (r6 x y a b) 118)
    generalize w.alloc (.cells (r6 x y a b) 118) = W1 at kb P_a ⊢
    refine (SX.out _).mono ?_
    rintro e W2 ⟨rfl, hb⟩
    replace P_a := rblk_below P_a hb
    replace kb := bt kb hb
    clear hb
    go_wp2
    go_ret
    exact ⟨rfl, kb⟩
end Go.Proofs.YtppdholccpgcpaaGreat
