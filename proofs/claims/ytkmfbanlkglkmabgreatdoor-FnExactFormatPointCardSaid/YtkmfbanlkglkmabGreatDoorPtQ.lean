/-
  Fractions of the program that may be none: 'times', 'plus', 'minus', in the bundled words.
-/
import Derived.Test.YtkmfbanlkglkmabGreatDoorR3
import Derived.Test.YtkmfbanlkglkmabGreatDoorDkF
namespace Go.Proofs.YtkmfbanlkglkmabGreatDoor
open Go.ChangeShapes Go.WideShapes Go.ChangeAt Go.RowKit
open Go.ChangeMaps (open_string shut_string)
set_option linter.unusedVariables false
set_option linter.unusedSimpArgs false
set_option maxRecDepth 4000

attribute [local go_sem ↓] Go.wp_at_zero Go.wp_at_succ

set_option maxHeartbeats 1000000 in
theorem times_n1 (pr ps : Bool) (A D A' D' : Option Addr) (n n' k' c d c' d' : Nat) (w : World) :
    Calls Tryz.prog 66 #[.agg #[.bool pr, .slice A n c, .slice D 0 d], .agg #[.bool ps, .slice A' n' c', .slice D' k' d']] w (MadeR w.heap.size false [] [] w) := by
  have EN := Lib.hid (fun W => exists_any pr A D n 0 c d W (by omega))
  rw [show decide (0 < 0) = false from rfl] at EN
  go_enter Tryz.func66, Tryz.ntmps66
  go_wp2_with fail
  have kb := ba3 w (.cells #[.bool pr, .slice A n c, .slice D 0 d] 33) (.cells #[.bool ps, .slice A' n' c', .slice D' k' d'] 33) (.cells #[.bool false, .slice none 0 0, .slice none 0 0] 33)
  obtain ⟨P_r, P_s, P_o⟩ := blocks3 w (.cells #[.bool pr, .slice A n c, .slice D 0 d] 33) (.cells #[.bool ps, .slice A' n' c', .slice D' k' d'] 33) (.cells #[.bool false, .slice none 0 0, .slice none 0 0] 33)
  generalize ((w.alloc (.cells #[.bool pr, .slice A n c, .slice D 0 d] 33)).alloc (.cells #[.bool ps, .slice A' n' c', .slice D' k' d'] 33)).alloc (.cells #[.bool false, .slice none 0 0, .slice none 0 0] 33) = W1 at kb P_r P_s P_o ⊢
  obtain ⟨rr, hrr⟩ : ∃ r, r = w.heap.size + 1 + 1 := ⟨_, rfl⟩
  rw [← hrr] at P_o ⊢
  have hrr3 : w.heap.size ≤ rr := by omega
  have nr_r : rr ≠ w.heap.size := by omega
  have nr_s : rr ≠ w.heap.size + 1 := by omega
  clear hrr
  refine (EN.out _).mono ?_
  rintro e W2 ⟨rfl, hb⟩
  replace P_r := rblk_below P_r hb
  replace P_s := rblk_below P_s hb
  replace P_o := rblk_below P_o hb
  replace kb := bt kb hb
  clear hb
  have c_r0 : W2.cell? ⟨w.heap.size, 0, none⟩ = some (.bool pr) := rblk_cell P_r 0
  have c_r1 : W2.cell? ⟨w.heap.size, 1, none⟩ = some (.slice A n c) := rblk_cell P_r 1
  have c_r2 : W2.cell? ⟨w.heap.size, 2, none⟩ = some (.slice D 0 d) := rblk_cell P_r 2
  have c_s0 : W2.cell? ⟨w.heap.size + 1, 0, none⟩ = some (.bool ps) := rblk_cell P_s 0
  have c_s1 : W2.cell? ⟨w.heap.size + 1, 1, none⟩ = some (.slice A' n' c') := rblk_cell P_s 1
  have c_s2 : W2.cell? ⟨w.heap.size + 1, 2, none⟩ = some (.slice D' k' d') := rblk_cell P_s 2
  have c_o0 : W2.cell? ⟨rr, 0, none⟩ = some (.bool false) := rblk_cell P_o 0
  have c_o1 : W2.cell? ⟨rr, 1, none⟩ = some (.slice none 0 0) := rblk_cell P_o 1
  have c_o2 : W2.cell? ⟨rr, 2, none⟩ = some (.slice none 0 0) := rblk_cell P_o 2
  have f_o0 := rblk_free P_o 0
  have f_o1 := rblk_free P_o 1
  have f_o2 := rblk_free P_o 2
  go_wp2
  exact bodyPost_ret (v := .agg #[.bool false, .slice none 0 0, .slice none 0 0]) (by simp [results, Tryz.results66, go_sem, c_o0, c_o1, c_o2]) rfl ⟨none, 0, none, 0, rfl, Nat.le_refl _, Nat.le_refl _, .inl rfl, .inl rfl, (fun a h => by simp [rowOf] at h), below_put3 kb hrr3 _ _ _⟩

set_option maxHeartbeats 1000000 in
theorem plus_n1 (pr ps : Bool) (A D A' D' : Option Addr) (n n' k' c d c' d' : Nat) (w : World) :
    Calls Tryz.prog 62 #[.agg #[.bool pr, .slice A n c, .slice D 0 d], .agg #[.bool ps, .slice A' n' c', .slice D' k' d']] w (MadeR w.heap.size false [] [] w) := by
  have EN := Lib.hid (fun W => exists_any pr A D n 0 c d W (by omega))
  rw [show decide (0 < 0) = false from rfl] at EN
  go_enter Tryz.func62, Tryz.ntmps62
  go_wp2_with fail
  have kb := ba3 w (.cells #[.bool pr, .slice A n c, .slice D 0 d] 33) (.cells #[.bool ps, .slice A' n' c', .slice D' k' d'] 33) (.cells #[.bool false, .slice none 0 0, .slice none 0 0] 33)
  obtain ⟨P_r, P_s, P_o⟩ := blocks3 w (.cells #[.bool pr, .slice A n c, .slice D 0 d] 33) (.cells #[.bool ps, .slice A' n' c', .slice D' k' d'] 33) (.cells #[.bool false, .slice none 0 0, .slice none 0 0] 33)
  generalize ((w.alloc (.cells #[.bool pr, .slice A n c, .slice D 0 d] 33)).alloc (.cells #[.bool ps, .slice A' n' c', .slice D' k' d'] 33)).alloc (.cells #[.bool false, .slice none 0 0, .slice none 0 0] 33) = W1 at kb P_r P_s P_o ⊢
  obtain ⟨rr, hrr⟩ : ∃ r, r = w.heap.size + 1 + 1 := ⟨_, rfl⟩
  rw [← hrr] at P_o ⊢
  have hrr3 : w.heap.size ≤ rr := by omega
  have nr_r : rr ≠ w.heap.size := by omega
  have nr_s : rr ≠ w.heap.size + 1 := by omega
  clear hrr
  refine (EN.out _).mono ?_
  rintro e W2 ⟨rfl, hb⟩
  replace P_r := rblk_below P_r hb
  replace P_s := rblk_below P_s hb
  replace P_o := rblk_below P_o hb
  replace kb := bt kb hb
  clear hb
  have c_r0 : W2.cell? ⟨w.heap.size, 0, none⟩ = some (.bool pr) := rblk_cell P_r 0
  have c_r1 : W2.cell? ⟨w.heap.size, 1, none⟩ = some (.slice A n c) := rblk_cell P_r 1
  have c_r2 : W2.cell? ⟨w.heap.size, 2, none⟩ = some (.slice D 0 d) := rblk_cell P_r 2
  have c_s0 : W2.cell? ⟨w.heap.size + 1, 0, none⟩ = some (.bool ps) := rblk_cell P_s 0
  have c_s1 : W2.cell? ⟨w.heap.size + 1, 1, none⟩ = some (.slice A' n' c') := rblk_cell P_s 1
  have c_s2 : W2.cell? ⟨w.heap.size + 1, 2, none⟩ = some (.slice D' k' d') := rblk_cell P_s 2
  have c_o0 : W2.cell? ⟨rr, 0, none⟩ = some (.bool false) := rblk_cell P_o 0
  have c_o1 : W2.cell? ⟨rr, 1, none⟩ = some (.slice none 0 0) := rblk_cell P_o 1
  have c_o2 : W2.cell? ⟨rr, 2, none⟩ = some (.slice none 0 0) := rblk_cell P_o 2
  have f_o0 := rblk_free P_o 0
  have f_o1 := rblk_free P_o 1
  have f_o2 := rblk_free P_o 2
  go_wp2
  exact bodyPost_ret (v := .agg #[.bool false, .slice none 0 0, .slice none 0 0]) (by simp [results, Tryz.results62, go_sem, c_o0, c_o1, c_o2]) rfl ⟨none, 0, none, 0, rfl, Nat.le_refl _, Nat.le_refl _, .inl rfl, .inl rfl, (fun a h => by simp [rowOf] at h), below_put3 kb hrr3 _ _ _⟩

set_option maxHeartbeats 1000000 in
theorem plus_n2 (pr ps : Bool) (A D A' D' : Option Addr) (n k n' c d c' d' : Nat) (w : World) (hk : 0 < k ∧ k ≤ 24) :
    Calls Tryz.prog 62 #[.agg #[.bool pr, .slice A n c, .slice D k d], .agg #[.bool ps, .slice A' n' c', .slice D' 0 d']] w (MadeR w.heap.size false [] [] w) := by
  have EX := Lib.hid (fun (p : Bool) (A D : Option Addr) (n k c d : Nat) W (h : Hid (0 < k ∧ k ≤ 24)) => show Calls Tryz.prog 110 #[.agg #[.bool p, .slice A n c, .slice D k d]] W (fun e w' => e = .returned (.bool true) ∧ Below W.heap.size W w') from by have := exists_any p A D n k c d W (by have := h.out; omega); rwa [decide_eq_true h.out.1] at this)
  have EN := Lib.hid (fun W => exists_any ps A' D' n' 0 c' d' W (by omega))
  rw [show decide (0 < 0) = false from rfl] at EN
  have hk0 := Lib.hid hk
  clear hk
  go_enter Tryz.func62, Tryz.ntmps62
  go_wp2_with fail
  have kb := ba3 w (.cells #[.bool pr, .slice A n c, .slice D k d] 33) (.cells #[.bool ps, .slice A' n' c', .slice D' 0 d'] 33) (.cells #[.bool false, .slice none 0 0, .slice none 0 0] 33)
  obtain ⟨P_r, P_s, P_o⟩ := blocks3 w (.cells #[.bool pr, .slice A n c, .slice D k d] 33) (.cells #[.bool ps, .slice A' n' c', .slice D' 0 d'] 33) (.cells #[.bool false, .slice none 0 0, .slice none 0 0] 33)
  generalize ((w.alloc (.cells #[.bool pr, .slice A n c, .slice D k d] 33)).alloc (.cells #[.bool ps, .slice A' n' c', .slice D' 0 d'] 33)).alloc (.cells #[.bool false, .slice none 0 0, .slice none 0 0] 33) = W1 at kb P_r P_s P_o ⊢
  obtain ⟨rr, hrr⟩ : ∃ r, r = w.heap.size + 1 + 1 := ⟨_, rfl⟩
  rw [← hrr] at P_o ⊢
  have hrr3 : w.heap.size ≤ rr := by omega
  have nr_r : rr ≠ w.heap.size := by omega
  have nr_s : rr ≠ w.heap.size + 1 := by omega
  clear hrr
  refine (EX.out _ _ _ _ _ _ _ _ hk0).mono ?_
  rintro e W2 ⟨rfl, hb⟩
  replace P_r := rblk_below P_r hb
  replace P_s := rblk_below P_s hb
  replace P_o := rblk_below P_o hb
  replace kb := bt kb hb
  clear hb
  have c_r0 : W2.cell? ⟨w.heap.size, 0, none⟩ = some (.bool pr) := rblk_cell P_r 0
  have c_r1 : W2.cell? ⟨w.heap.size, 1, none⟩ = some (.slice A n c) := rblk_cell P_r 1
  have c_r2 : W2.cell? ⟨w.heap.size, 2, none⟩ = some (.slice D k d) := rblk_cell P_r 2
  have c_s0 : W2.cell? ⟨w.heap.size + 1, 0, none⟩ = some (.bool ps) := rblk_cell P_s 0
  have c_s1 : W2.cell? ⟨w.heap.size + 1, 1, none⟩ = some (.slice A' n' c') := rblk_cell P_s 1
  have c_s2 : W2.cell? ⟨w.heap.size + 1, 2, none⟩ = some (.slice D' 0 d') := rblk_cell P_s 2
  go_wp2_with fail
  clear c_r0 c_r1 c_r2 c_s0 c_s1 c_s2
  refine (EN.out _).mono ?_
  rintro e W3 ⟨rfl, hb⟩
  replace P_r := rblk_below P_r hb
  replace P_s := rblk_below P_s hb
  replace P_o := rblk_below P_o hb
  replace kb := bt kb hb
  clear hb
  have c_r0 : W3.cell? ⟨w.heap.size, 0, none⟩ = some (.bool pr) := rblk_cell P_r 0
  have c_r1 : W3.cell? ⟨w.heap.size, 1, none⟩ = some (.slice A n c) := rblk_cell P_r 1
  have c_r2 : W3.cell? ⟨w.heap.size, 2, none⟩ = some (.slice D k d) := rblk_cell P_r 2
  have c_s0 : W3.cell? ⟨w.heap.size + 1, 0, none⟩ = some (.bool ps) := rblk_cell P_s 0
  have c_s1 : W3.cell? ⟨w.heap.size + 1, 1, none⟩ = some (.slice A' n' c') := rblk_cell P_s 1
  have c_s2 : W3.cell? ⟨w.heap.size + 1, 2, none⟩ = some (.slice D' 0 d') := rblk_cell P_s 2
  have c_o0 : W3.cell? ⟨rr, 0, none⟩ = some (.bool false) := rblk_cell P_o 0
  have c_o1 : W3.cell? ⟨rr, 1, none⟩ = some (.slice none 0 0) := rblk_cell P_o 1
  have c_o2 : W3.cell? ⟨rr, 2, none⟩ = some (.slice none 0 0) := rblk_cell P_o 2
  have f_o0 := rblk_free P_o 0
  have f_o1 := rblk_free P_o 1
  have f_o2 := rblk_free P_o 2
  go_wp2
  exact bodyPost_ret (v := .agg #[.bool false, .slice none 0 0, .slice none 0 0]) (by simp [results, Tryz.results62, go_sem, c_o0, c_o1, c_o2]) rfl ⟨none, 0, none, 0, rfl, Nat.le_refl _, Nat.le_refl _, .inl rfl, .inl rfl, (fun a h => by simp [rowOf] at h), below_put3 kb hrr3 _ _ _⟩

theorem times_r (x y : Option Rat) (a b : Ad) (w : World) (hx : FitO x) (hy : FitO y) (h : Rds w (rows (ofO x) a)) (h' : Rds w (rows (ofO y) b)) :
    Calls Tryz.prog 66 #[.agg #[.bool (ofO x).p, .slice a.A (ofO x).l.length a.c, .slice a.D (ofO x).m.length a.d], .agg #[.bool (ofO y).p, .slice b.A (ofO y).l.length b.c, .slice b.D (ofO y).m.length b.d]] w (MadeQ w.heap.size (ofO (binQ mulQ x y)) w) := by
  cases x with
  | none => exact (times_n1 _ _ a.A a.D b.A b.D _ _ _ a.c a.d b.c b.d w).mono fun e w' k => MadeR.toQ (x := noR) k
  | some r =>
    have hr := hx r rfl
    cases y with
    | none =>
      have h2 := hr.2
      exact (times_none _ _ a.A a.D b.A b.D _ (nd r.den).length _ a.c a.d b.c b.d w ⟨by rw [nd_length, ln_pos r.den_pos]; omega, by rw [nd_length]; omega⟩).mono fun e w' k => MadeR.toQ (x := noR) k
    | some s => exact (times_q r s a.A a.D b.A b.D _ _ _ _ a.c a.d b.c b.d w hr (hy s rfl) (nd_length _).symm (nd_length _).symm (nd_length _).symm (nd_length _).symm (rows_rd h).1 (rows_rd h).2 (rows_rd h').1 (rows_rd h').2).mono fun e w' k => MadeR.toQ (x := ofO (mulQ r s)) k

theorem plus_r (x y : Option Rat) (a b : Ad) (w : World) (hx : FitO x) (hy : FitO y) (h : Rds w (rows (ofO x) a)) (h' : Rds w (rows (ofO y) b)) :
    Calls Tryz.prog 62 #[.agg #[.bool (ofO x).p, .slice a.A (ofO x).l.length a.c, .slice a.D (ofO x).m.length a.d], .agg #[.bool (ofO y).p, .slice b.A (ofO y).l.length b.c, .slice b.D (ofO y).m.length b.d]] w (MadeQ w.heap.size (ofO (binQ addQ x y)) w) := by
  cases x with
  | none => exact (plus_n1 _ _ a.A a.D b.A b.D _ _ _ a.c a.d b.c b.d w).mono fun e w' k => MadeR.toQ (x := noR) k
  | some r =>
    have hr := hx r rfl
    cases y with
    | none =>
      have h2 := hr.2
      exact (plus_n2 _ _ a.A a.D b.A b.D _ (nd r.den).length _ a.c a.d b.c b.d w ⟨by rw [nd_length, ln_pos r.den_pos]; omega, by rw [nd_length]; omega⟩).mono fun e w' k => MadeR.toQ (x := noR) k
    | some s => exact (plus_q r s a.A a.D b.A b.D _ _ _ _ a.c a.d b.c b.d w hr (hy s rfl) (nd_length _).symm (nd_length _).symm (nd_length _).symm (nd_length _).symm (rows_rd h).1 (rows_rd h).2 (rows_rd h').1 (rows_rd h').2).mono fun e w' k => MadeR.toQ (x := ofO (addQ r s)) k

/-- Block r holds six cells that may be written. -/
def Box6 (w : World) (r : Nat) : Prop := ∃ a b c d e f T, w.heap[r]? = some (.cells #[a, b, c, d, e, f] T (0, 0))
/-- Of what W0 holds only block r, of six cells, may have turned. -/
def Keep6 (W0 w : World) (r : Nat) : Prop := Box6 w r ∧ W0.grownBy w (some r)
theorem Keep6.start {W0 : World} {r : Nat} {a b c d e f : Value} {T : TypeId} (h : W0.heap[r]? = some (.cells #[a, b, c, d, e, f] T (0, 0))) : Keep6 W0 W0 r := ⟨⟨a, b, c, d, e, f, T, h⟩, grown_refl _ _⟩
theorem Keep6.drew {W0 w : World} {r : Nat} (h : Keep6 W0 w r) : Keep6 W0 w.drew r := ⟨h.1, ⟨h.2.os, h.2.tape, h.2.output, h.2.size, h.2.block⟩⟩
theorem Keep6.below {W0 w w' : World} {r : Nat} (h : Keep6 W0 w r) (hb : Below w.heap.size w w') : Keep6 W0 w' r := by
  obtain ⟨⟨a, b, c, d, e, f, T, k⟩, g⟩ := h
  exact ⟨⟨a, b, c, d, e, f, T, rblk_below k hb⟩, grown_below g hb⟩
theorem Keep6.put6 {W0 w : World} {r : Nat} (h : Keep6 W0 w r) (u0 u1 u2 u3 u4 u5 : Value) : Keep6 W0 ((((((w.setCell ⟨r, 0, none⟩ u0).setCell ⟨r, 1, none⟩ u1).setCell ⟨r, 2, none⟩ u2).setCell ⟨r, 3, none⟩ u3).setCell ⟨r, 4, none⟩ u4).setCell ⟨r, 5, none⟩ u5) r := by
  obtain ⟨⟨a, b, c, d, e, f, T, k⟩, g⟩ := h
  exact ⟨⟨u0, u1, u2, u3, u4, u5, T, rblk_set (rblk_set (rblk_set (rblk_set (rblk_set (rblk_set k 0 u0) 1 u1) 2 u2) 3 u3) 4 u4) 5 u5⟩, grown_setCell (grown_setCell (grown_setCell (grown_setCell (grown_setCell (grown_setCell g 0 u0) 1 u1) 2 u2) 3 u3) 4 u4) 5 u5⟩
theorem Keep6.block {W0 w : World} {r g : Nat} {o : Obj} (h : Keep6 W0 w r) (P : W0.heap[g]? = some o) (hne : r ≠ g) : w.heap[g]? = some o :=
  (h.2.block g (rblk_lt P) (fun e => hne (by injection e with e; exact e.symm))).trans P
theorem Keep6.base {w0 W0 w : World} {r : Nat} (h : Keep6 W0 w r) (kb : Below w0.heap.size w0 W0) (hr : w0.heap.size ≤ r) : Below w0.heap.size w0 w :=
  kb.trans (below_of_grown h.2 kb.size (fun g e => by injection e with e; omega))
theorem Keep6.lt {W0 w : World} {r : Nat} (h : Keep6 W0 w r) : r < w.heap.size := by
  obtain ⟨⟨a, b, c, d, e, f, T, k⟩, _⟩ := h
  exact rblk_lt k
theorem Keep6.size {W0 w : World} {r : Nat} (h : Keep6 W0 w r) : W0.heap.size ≤ w.heap.size := h.2.size
theorem Keep6.cells {W0 w : World} {r : Nat} (h : Keep6 W0 w r) : ∃ u0 u1 u2 u3 u4 u5, w.cell? ⟨r, 0, none⟩ = some u0 ∧ w.cell? ⟨r, 1, none⟩ = some u1 ∧ w.cell? ⟨r, 2, none⟩ = some u2 ∧ w.cell? ⟨r, 3, none⟩ = some u3 ∧ w.cell? ⟨r, 4, none⟩ = some u4 ∧ w.cell? ⟨r, 5, none⟩ = some u5 ∧ w.frozen? ⟨r, 0, none⟩ = false ∧ w.frozen? ⟨r, 1, none⟩ = false ∧ w.frozen? ⟨r, 2, none⟩ = false ∧ w.frozen? ⟨r, 3, none⟩ = false ∧ w.frozen? ⟨r, 4, none⟩ = false ∧ w.frozen? ⟨r, 5, none⟩ = false := by
  obtain ⟨⟨a, b, c, d, e, f, T, k⟩, _⟩ := h
  exact ⟨a, b, c, d, e, f, rblk_cell k 0, rblk_cell k 1, rblk_cell k 2, rblk_cell k 3, rblk_cell k 4, rblk_cell k 5, rblk_free k 0, rblk_free k 1, rblk_free k 2, rblk_free k 3, rblk_free k 4, rblk_free k 5⟩
theorem owns_put3 {lo hi r : Nat} {w : World} {rs : List (Option Addr × List Value)} (h : Owns lo hi w rs) (hr : r < lo ∨ hi ≤ r) (u0 u1 u2 : Value) : Owns lo hi (((w.setCell ⟨r, 0, none⟩ u0).setCell ⟨r, 1, none⟩ u1).setCell ⟨r, 2, none⟩ u2) rs :=
  ((h.put hr u0).put hr u1).put hr u2
theorem owns_put6 {lo hi r : Nat} {w : World} {rs : List (Option Addr × List Value)} (h : Owns lo hi w rs) (hr : r < lo ∨ hi ≤ r) (u0 u1 u2 u3 u4 u5 : Value) : Owns lo hi ((((((w.setCell ⟨r, 0, none⟩ u0).setCell ⟨r, 1, none⟩ u1).setCell ⟨r, 2, none⟩ u2).setCell ⟨r, 3, none⟩ u3).setCell ⟨r, 4, none⟩ u4).setCell ⟨r, 5, none⟩ u5) rs :=
  (((((h.put hr u0).put hr u1).put hr u2).put hr u3).put hr u4).put hr u5
theorem below_put6 {B r : Nat} {w w1 : World} (h : Below B w w1) (hr : B ≤ r) (u0 u1 u2 u3 u4 u5 : Value) : Below B w ((((((w1.setCell ⟨r, 0, none⟩ u0).setCell ⟨r, 1, none⟩ u1).setCell ⟨r, 2, none⟩ u2).setCell ⟨r, 3, none⟩ u3).setCell ⟨r, 4, none⟩ u4).setCell ⟨r, 5, none⟩ u5) := below_put (below_put (below_put (below_put (below_put (below_put h hr u0) hr u1) hr u2) hr u3) hr u4) hr u5
theorem size_put6 (w : World) (r : Nat) (u0 u1 u2 u3 u4 u5 : Value) : ((((((w.setCell ⟨r, 0, none⟩ u0).setCell ⟨r, 1, none⟩ u1).setCell ⟨r, 2, none⟩ u2).setCell ⟨r, 3, none⟩ u3).setCell ⟨r, 4, none⟩ u4).setCell ⟨r, 5, none⟩ u5).heap.size = w.heap.size := by simp only [put_size]
theorem size_put3 (w : World) (r : Nat) (u0 u1 u2 : Value) : (((w.setCell ⟨r, 0, none⟩ u0).setCell ⟨r, 1, none⟩ u1).setCell ⟨r, 2, none⟩ u2).heap.size = w.heap.size := by simp only [put_size]
/-- A point's rows behind the store of the result. -/
theorem owns_end6 {lo hi B r : Nat} {w : World} {rs : List (Option Addr × List Value)} (h : Owns lo hi w rs) (hr : r < lo ∨ hi ≤ r) (hB : B ≤ lo) (hh : hi ≤ w.heap.size) (u0 u1 u2 u3 u4 u5 : Value) : Owns B ((((((w.setCell ⟨r, 0, none⟩ u0).setCell ⟨r, 1, none⟩ u1).setCell ⟨r, 2, none⟩ u2).setCell ⟨r, 3, none⟩ u3).setCell ⟨r, 4, none⟩ u4).setCell ⟨r, 5, none⟩ u5).heap.size ((((((w.setCell ⟨r, 0, none⟩ u0).setCell ⟨r, 1, none⟩ u1).setCell ⟨r, 2, none⟩ u2).setCell ⟨r, 3, none⟩ u3).setCell ⟨r, 4, none⟩ u4).setCell ⟨r, 5, none⟩ u5) rs :=
  (owns_put6 h hr u0 u1 u2 u3 u4 u5).wide hB (by rw [size_put6]; exact hh)
theorem owns_end3 {lo hi B r : Nat} {w : World} {rs : List (Option Addr × List Value)} (h : Owns lo hi w rs) (hr : r < lo ∨ hi ≤ r) (hB : B ≤ lo) (hh : hi ≤ w.heap.size) (u0 u1 u2 : Value) : Owns B (((w.setCell ⟨r, 0, none⟩ u0).setCell ⟨r, 1, none⟩ u1).setCell ⟨r, 2, none⟩ u2).heap.size (((w.setCell ⟨r, 0, none⟩ u0).setCell ⟨r, 1, none⟩ u1).setCell ⟨r, 2, none⟩ u2) rs :=
  (owns_put3 h hr u0 u1 u2).wide hB (by rw [size_put3]; exact hh)
theorem noRows (lo hi : Nat) (w : World) (a b : Ad) : Owns lo hi w (rows noR a ++ rows noR b) := fun r hr => by
  have : r.2 = [] := by
    simp only [rows, noR, List.cons_append, List.nil_append, List.mem_cons, List.not_mem_nil, or_false] at hr
    rcases hr with rfl | rfl | rfl | rfl <;> rfl
  exact ⟨.inl this, fun g hg => by rw [this] at hg; simp [rowOf] at hg⟩
theorem noApart (a b : Ad) : Aparts (rows noR a ++ rows noR b) := by
  have H : ∀ (A D : Option Addr) (m : Nat), Apart (vi ([] : List Int)).length A m D := fun A D m g hg => by simp [vi, rowOf] at hg
  unfold Aparts rows noR
  simp only [List.cons_append, List.nil_append, List.pairwise_cons, List.mem_cons, List.not_mem_nil, or_false]
  exact ⟨fun s _ => H _ _ _, fun s _ => H _ _ _, fun s _ => H _ _ _, fun s hs => absurd hs (by simp), List.Pairwise.nil⟩
end Go.Proofs.YtkmfbanlkglkmabGreatDoor
