/-
  What the harness' functions do over points.
-/
import Derived.Test.YtjcbaiphkchehaaR3
namespace Go.Proofs.Ytjcbaiphkchehaa
open Go.ChangeShapes Go.WideShapes Go.ChangeAt Go.RowKit
open Go.ChangeMaps (open_string shut_string)
set_option linter.unusedVariables false
set_option linter.unusedSimpArgs false
set_option maxRecDepth 4000

theorem puts_owns {lo hi g i : Nat} {w : World} {rs : List (Option Addr × List Value)} (h : Owns lo hi w rs) (hg : g < lo) (v : Value) : Owns lo hi (w.setCell ⟨g, i, none⟩ v) rs := h.put (.inl hg) v

/-- Equal data. -/
def sameR (x u : R3) : Bool := decide (x.p = u.p) && decide (x.l = u.l) && decide (x.m = u.m)
theorem sameR_refl (x : R3) : sameR x x = true := by unfold sameR; simp
set_option maxHeartbeats 1000000 in
theorem eqPt_r (x y u v : R3) (a b c d : Ad) (w : World) (hx : Short x) (hy : Short y) (hu : Short u) (hv : Short v) (h : Rds w (rows x a ++ rows y b)) (h' : Rds w (rows u c ++ rows v d)) :
    Calls Try.prog 28 #[.agg #[.bool x.p, .slice a.A x.l.length a.c, .slice a.D x.m.length a.d, .bool y.p, .slice b.A y.l.length b.c, .slice b.D y.m.length b.d], .agg #[.bool u.p, .slice c.A u.l.length c.c, .slice c.D u.m.length c.d, .bool v.p, .slice d.A v.l.length d.c, .slice d.D v.m.length d.d]] w (fun e w' => e = .returned (.bool (sameR x u && sameR y v)) ∧ Below w.heap.size w w') := by
  have EX := Lib.hid (fun W h h' => eqRat_r x u a c W hx hu h h')
  have EY := Lib.hid (fun W h h' => eqRat_r y v b d W hy hv h h')
  have RR : Hid (∀ W, Below w.heap.size w W → Rds W (rows x a) ∧ Rds W (rows y b) ∧ Rds W (rows u c) ∧ Rds W (rows v d)) := Lib.hid (fun W hb => ⟨(rds_l h).below hb, (rds_r h).below hb, (rds_l h').below hb, (rds_r h').below hb⟩)
  clear h h' hx hy hu hv
  unfold sameR
  generalize (decide (x.p = u.p) && decide (x.l = u.l) && decide (x.m = u.m)) = r1 at EX ⊢
  generalize (decide (y.p = v.p) && decide (y.l = v.l) && decide (y.m = v.m)) = r2 at EY ⊢
  cases r1 with
  | false =>
      go_enter Try.func28, Try.ntmps28
      go_wp2_with fail
      have kb := ba2 w (.cells #[.bool x.p, .slice a.A x.l.length a.c, .slice a.D x.m.length a.d, .bool y.p, .slice b.A y.l.length b.c, .slice b.D y.m.length b.d] 39) (.cells #[.bool u.p, .slice c.A u.l.length c.c, .slice c.D u.m.length c.d, .bool v.p, .slice d.A v.l.length d.c, .slice d.D v.m.length d.d] 39)
      obtain ⟨P_a, P_b⟩ := blocks2 w (.cells #[.bool x.p, .slice a.A x.l.length a.c, .slice a.D x.m.length a.d, .bool y.p, .slice b.A y.l.length b.c, .slice b.D y.m.length b.d] 39) (.cells #[.bool u.p, .slice c.A u.l.length c.c, .slice c.D u.m.length c.d, .bool v.p, .slice d.A v.l.length d.c, .slice d.D v.m.length d.d] 39)
      generalize (w.alloc (.cells #[.bool x.p, .slice a.A x.l.length a.c, .slice a.D x.m.length a.d, .bool y.p, .slice b.A y.l.length b.c, .slice b.D y.m.length b.d] 39)).alloc (.cells #[.bool u.p, .slice c.A u.l.length c.c, .slice c.D u.m.length c.d, .bool v.p, .slice d.A v.l.length d.c, .slice d.D v.m.length d.d] 39) = W1 at kb P_a P_b ⊢
      refine (EX.out _ (RR.out _ kb).1 (RR.out _ kb).2.2.1).mono ?_
      rintro e W2 ⟨rfl, hb⟩
      replace P_a := rblk_below P_a hb
      replace P_b := rblk_below P_b hb
      replace kb := bt kb hb
      clear hb
      go_wp2
      go_ret
      exact ⟨rfl, kb⟩
  | true =>
    cases r2 with
    | false =>
      go_enter Try.func28, Try.ntmps28
      go_wp2_with fail
      have kb := ba2 w (.cells #[.bool x.p, .slice a.A x.l.length a.c, .slice a.D x.m.length a.d, .bool y.p, .slice b.A y.l.length b.c, .slice b.D y.m.length b.d] 39) (.cells #[.bool u.p, .slice c.A u.l.length c.c, .slice c.D u.m.length c.d, .bool v.p, .slice d.A v.l.length d.c, .slice d.D v.m.length d.d] 39)
      obtain ⟨P_a, P_b⟩ := blocks2 w (.cells #[.bool x.p, .slice a.A x.l.length a.c, .slice a.D x.m.length a.d, .bool y.p, .slice b.A y.l.length b.c, .slice b.D y.m.length b.d] 39) (.cells #[.bool u.p, .slice c.A u.l.length c.c, .slice c.D u.m.length c.d, .bool v.p, .slice d.A v.l.length d.c, .slice d.D v.m.length d.d] 39)
      generalize (w.alloc (.cells #[.bool x.p, .slice a.A x.l.length a.c, .slice a.D x.m.length a.d, .bool y.p, .slice b.A y.l.length b.c, .slice b.D y.m.length b.d] 39)).alloc (.cells #[.bool u.p, .slice c.A u.l.length c.c, .slice c.D u.m.length c.d, .bool v.p, .slice d.A v.l.length d.c, .slice d.D v.m.length d.d] 39) = W1 at kb P_a P_b ⊢
      refine (EX.out _ (RR.out _ kb).1 (RR.out _ kb).2.2.1).mono ?_
      rintro e W2 ⟨rfl, hb⟩
      replace P_a := rblk_below P_a hb
      replace P_b := rblk_below P_b hb
      replace kb := bt kb hb
      clear hb
      have c_a0 : W2.cell? ⟨w.heap.size, 0, none⟩ = some (.bool x.p) := rblk_cell P_a 0
      have c_a1 : W2.cell? ⟨w.heap.size, 1, none⟩ = some (.slice a.A x.l.length a.c) := rblk_cell P_a 1
      have c_a2 : W2.cell? ⟨w.heap.size, 2, none⟩ = some (.slice a.D x.m.length a.d) := rblk_cell P_a 2
      have c_a3 : W2.cell? ⟨w.heap.size, 3, none⟩ = some (.bool y.p) := rblk_cell P_a 3
      have c_a4 : W2.cell? ⟨w.heap.size, 4, none⟩ = some (.slice b.A y.l.length b.c) := rblk_cell P_a 4
      have c_a5 : W2.cell? ⟨w.heap.size, 5, none⟩ = some (.slice b.D y.m.length b.d) := rblk_cell P_a 5
      have c_b0 : W2.cell? ⟨w.heap.size + 1, 0, none⟩ = some (.bool u.p) := rblk_cell P_b 0
      have c_b1 : W2.cell? ⟨w.heap.size + 1, 1, none⟩ = some (.slice c.A u.l.length c.c) := rblk_cell P_b 1
      have c_b2 : W2.cell? ⟨w.heap.size + 1, 2, none⟩ = some (.slice c.D u.m.length c.d) := rblk_cell P_b 2
      have c_b3 : W2.cell? ⟨w.heap.size + 1, 3, none⟩ = some (.bool v.p) := rblk_cell P_b 3
      have c_b4 : W2.cell? ⟨w.heap.size + 1, 4, none⟩ = some (.slice d.A v.l.length d.c) := rblk_cell P_b 4
      have c_b5 : W2.cell? ⟨w.heap.size + 1, 5, none⟩ = some (.slice d.D v.m.length d.d) := rblk_cell P_b 5
      go_wp2_with fail
      clear c_a0 c_a1 c_a2 c_a3 c_a4 c_a5 c_b0 c_b1 c_b2 c_b3 c_b4 c_b5
      refine (EY.out _ (RR.out _ kb).2.1 (RR.out _ kb).2.2.2).mono ?_
      rintro e W3 ⟨rfl, hb⟩
      replace P_a := rblk_below P_a hb
      replace P_b := rblk_below P_b hb
      replace kb := bt kb hb
      clear hb
      go_wp2
      go_ret
      exact ⟨rfl, kb⟩
    | true =>
      go_enter Try.func28, Try.ntmps28
      go_wp2_with fail
      have kb := ba2 w (.cells #[.bool x.p, .slice a.A x.l.length a.c, .slice a.D x.m.length a.d, .bool y.p, .slice b.A y.l.length b.c, .slice b.D y.m.length b.d] 39) (.cells #[.bool u.p, .slice c.A u.l.length c.c, .slice c.D u.m.length c.d, .bool v.p, .slice d.A v.l.length d.c, .slice d.D v.m.length d.d] 39)
      obtain ⟨P_a, P_b⟩ := blocks2 w (.cells #[.bool x.p, .slice a.A x.l.length a.c, .slice a.D x.m.length a.d, .bool y.p, .slice b.A y.l.length b.c, .slice b.D y.m.length b.d] 39) (.cells #[.bool u.p, .slice c.A u.l.length c.c, .slice c.D u.m.length c.d, .bool v.p, .slice d.A v.l.length d.c, .slice d.D v.m.length d.d] 39)
      generalize (w.alloc (.cells #[.bool x.p, .slice a.A x.l.length a.c, .slice a.D x.m.length a.d, .bool y.p, .slice b.A y.l.length b.c, .slice b.D y.m.length b.d] 39)).alloc (.cells #[.bool u.p, .slice c.A u.l.length c.c, .slice c.D u.m.length c.d, .bool v.p, .slice d.A v.l.length d.c, .slice d.D v.m.length d.d] 39) = W1 at kb P_a P_b ⊢
      refine (EX.out _ (RR.out _ kb).1 (RR.out _ kb).2.2.1).mono ?_
      rintro e W2 ⟨rfl, hb⟩
      replace P_a := rblk_below P_a hb
      replace P_b := rblk_below P_b hb
      replace kb := bt kb hb
      clear hb
      have c_a0 : W2.cell? ⟨w.heap.size, 0, none⟩ = some (.bool x.p) := rblk_cell P_a 0
      have c_a1 : W2.cell? ⟨w.heap.size, 1, none⟩ = some (.slice a.A x.l.length a.c) := rblk_cell P_a 1
      have c_a2 : W2.cell? ⟨w.heap.size, 2, none⟩ = some (.slice a.D x.m.length a.d) := rblk_cell P_a 2
      have c_a3 : W2.cell? ⟨w.heap.size, 3, none⟩ = some (.bool y.p) := rblk_cell P_a 3
      have c_a4 : W2.cell? ⟨w.heap.size, 4, none⟩ = some (.slice b.A y.l.length b.c) := rblk_cell P_a 4
      have c_a5 : W2.cell? ⟨w.heap.size, 5, none⟩ = some (.slice b.D y.m.length b.d) := rblk_cell P_a 5
      have c_b0 : W2.cell? ⟨w.heap.size + 1, 0, none⟩ = some (.bool u.p) := rblk_cell P_b 0
      have c_b1 : W2.cell? ⟨w.heap.size + 1, 1, none⟩ = some (.slice c.A u.l.length c.c) := rblk_cell P_b 1
      have c_b2 : W2.cell? ⟨w.heap.size + 1, 2, none⟩ = some (.slice c.D u.m.length c.d) := rblk_cell P_b 2
      have c_b3 : W2.cell? ⟨w.heap.size + 1, 3, none⟩ = some (.bool v.p) := rblk_cell P_b 3
      have c_b4 : W2.cell? ⟨w.heap.size + 1, 4, none⟩ = some (.slice d.A v.l.length d.c) := rblk_cell P_b 4
      have c_b5 : W2.cell? ⟨w.heap.size + 1, 5, none⟩ = some (.slice d.D v.m.length d.d) := rblk_cell P_b 5
      go_wp2_with fail
      clear c_a0 c_a1 c_a2 c_a3 c_a4 c_a5 c_b0 c_b1 c_b2 c_b3 c_b4 c_b5
      refine (EY.out _ (RR.out _ kb).2.1 (RR.out _ kb).2.2.2).mono ?_
      rintro e W3 ⟨rfl, hb⟩
      replace P_a := rblk_below P_a hb
      replace P_b := rblk_below P_b hb
      replace kb := bt kb hb
      clear hb
      go_wp2
      go_ret
      exact ⟨rfl, kb⟩

theorem eqPt_t (x y : R3) (a b c d : Ad) (w : World) (hx : Short x) (hy : Short y) (h : Rds w (rows x a ++ rows y b)) (h' : Rds w (rows x c ++ rows y d)) :
    Calls Try.prog 28 #[.agg #[.bool x.p, .slice a.A x.l.length a.c, .slice a.D x.m.length a.d, .bool y.p, .slice b.A y.l.length b.c, .slice b.D y.m.length b.d], .agg #[.bool x.p, .slice c.A x.l.length c.c, .slice c.D x.m.length c.d, .bool y.p, .slice d.A y.l.length d.c, .slice d.D y.m.length d.d]] w (fun e w' => e = .returned (.bool true) ∧ Below w.heap.size w w') :=
  (eqPt_r x y x y a b c d w hx hy hx hy h h').mono fun e w' ⟨he, hb⟩ => ⟨by rw [he, sameR_refl, sameR_refl]; rfl, hb⟩

/-- Rows apart from a fraction's two. -/
theorem owns_grown2 {lo hi : Nat} {w w' : World} {rs : List (Option Addr × List Value)} {x : R3} {a : Ad} (h : Owns lo hi w rs) (hap : Aparts (rows x a ++ rs)) (hg : Grown2 w w' (rowOf x.l.length a.A) (rowOf x.m.length a.D)) : Owns lo hi w' rs := fun r hr => by
  have h1 := (List.pairwise_append.1 hap).2.2 (a.A, vi x.l) (by unfold rows; simp) r hr
  have h2 := (List.pairwise_append.1 hap).2.2 (a.D, vi x.m) (by unfold rows; simp) r hr
  rw [vi_length] at h1 h2
  exact ⟨(h r hr).1.grown2 h1.symm h2.symm hg, (h r hr).2⟩
theorem Aparts.swap {rs ss : List (Option Addr × List Value)} (h : Aparts (rs ++ ss)) : Aparts (ss ++ rs) :=
  List.pairwise_append.2 ⟨(List.pairwise_append.1 h).2.1, (List.pairwise_append.1 h).1, fun r hr s hs => ((List.pairwise_append.1 h).2.2 s hs r hr).symm⟩
theorem Aparts.l {rs ss : List (Option Addr × List Value)} (h : Aparts (rs ++ ss)) : Aparts rs := (List.pairwise_append.1 h).1
theorem Aparts.r {rs ss : List (Option Addr × List Value)} (h : Aparts (rs ++ ss)) : Aparts ss := (List.pairwise_append.1 h).2.1
theorem turn_rows {lo hi : Nat} {w w0 w' : World} {x : R3} {a : Ad} (h : Owns lo hi w0 (rows x a)) (hg : Grown2 w w' (rowOf x.l.length a.A) (rowOf x.m.length a.D)) : Turn lo hi w w' := by
  have i1 := h.hr
  have i2 := h.tl.hr
  rw [vi_length] at i1 i2
  exact Turn.of_grown2 hg i1 i2
theorem mk_apart {k : Int} {x : R3} {a : Ad} {rs : List (Option Addr × List Value)} (h : Aparts (rows x a ++ rs)) : Aparts (rows (mkR k x) a ++ rs) := by
  unfold rows mkR Aparts at *
  simp only [List.cons_append, List.nil_append, List.pairwise_cons, vi_length, marks_length] at h ⊢
  exact ⟨fun s hs => by rcases List.mem_cons.1 hs with e | e; (subst e; have := h.1 _ (List.mem_cons_self ..); simpa [vi_length, marks_length] using this); exact h.1 s (List.mem_cons_of_mem _ e), h.2⟩

end Go.Proofs.Ytjcbaiphkchehaa
