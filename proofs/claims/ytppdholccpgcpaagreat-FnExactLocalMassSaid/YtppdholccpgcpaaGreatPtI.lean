/-
  Points of the program: its methods.
-/
import Derived.Test.YtppdholccpgcpaaGreatPtQ
import Derived.Test.YtppdholccpgcpaaGreatPtH
namespace Go.Proofs.YtppdholccpgcpaaGreat
open Go.ChangeShapes Go.WideShapes Go.ChangeAt Go.RowKit
open Go.ChangeMaps (open_string shut_string)
set_option linter.unusedVariables false
set_option linter.unusedSimpArgs false
set_option maxRecDepth 4000
attribute [local go_sem ↓] Go.wp_at_zero Go.wp_at_succ
def bothX (x y : Option Rat) : Option Rat := if y.isSome then x else none
def bothY (x y : Option Rat) : Option Rat := if x.isSome then y else none
theorem bothX_fit {x y : Option Rat} (h : FitO x) : FitO (bothX x y) := by unfold bothX; split; exact h; exact fitO_none
theorem bothY_fit {x y : Option Rat} (h : FitO y) : FitO (bothY x y) := by unfold bothY; split; exact h; exact fitO_none
theorem both_n1 (y : Option Rat) : bothX none y = none ∧ bothY none y = none := ⟨by cases y <;> rfl, rfl⟩
theorem both_n2 (x : Option Rat) : bothX x none = none ∧ bothY x none = none := ⟨rfl, by cases x <;> rfl⟩
theorem mulQ_fit {r s t : Rat} (h : mulQ r s = some t) : Fit t := cutQ_fit h
theorem subQ_fit {r s t : Rat} (h : subQ r s = some t) : Fit t := cutQ_fit h
theorem mulO_fit (x y : Option Rat) : FitO (binQ mulQ x y) := FitO.bin (fun _ _ _ => mulQ_fit) x y
theorem subO_fit (x y : Option Rat) : FitO (binQ subQ x y) := FitO.bin (fun _ _ _ => subQ_fit) x y
theorem none_point (B : Nat) (w w' : World) (h : Below w.heap.size w w') : MadeP B noR noR w (.returned (.agg #[.bool false, .slice none 0 0, .slice none 0 0, .bool false, .slice none 0 0, .slice none 0 0])) w' :=
  ⟨⟨none, 0, none, 0⟩, ⟨none, 0, none, 0⟩, rfl, ⟨Nat.le_refl _, Nat.le_refl _, Nat.le_refl _, Nat.le_refl _⟩, noRows _ _ _ _ _, noApart _ _, h⟩
theorem none_rat (B : Nat) (w w' : World) (h : Below w.heap.size w w') : MadeQ B noR w (.returned (.agg #[.bool false, .slice none 0 0, .slice none 0 0])) w' :=
  ⟨⟨none, 0, none, 0⟩, rfl, Nat.le_refl _, Nat.le_refl _, owns_l (noRows _ _ _ _ ⟨none, 0, none, 0⟩), (noApart _ ⟨none, 0, none, 0⟩).l, h⟩
theorem owns_old6 {lo hi r hi' : Nat} {w : World} {rs : List (Option Addr × List Value)} (h : Owns lo hi w rs) (hr : hi ≤ r) {u0 u1 u2 u3 u4 u5 : Value} (hz : hi' ≤ ((((((w.setCell ⟨r, 0, none⟩ u0).setCell ⟨r, 1, none⟩ u1).setCell ⟨r, 2, none⟩ u2).setCell ⟨r, 3, none⟩ u3).setCell ⟨r, 4, none⟩ u4).setCell ⟨r, 5, none⟩ u5).heap.size) (hh : hi ≤ hi' := by assumption) :
    Owns lo ((((((w.setCell ⟨r, 0, none⟩ u0).setCell ⟨r, 1, none⟩ u1).setCell ⟨r, 2, none⟩ u2).setCell ⟨r, 3, none⟩ u3).setCell ⟨r, 4, none⟩ u4).setCell ⟨r, 5, none⟩ u5).heap.size ((((((w.setCell ⟨r, 0, none⟩ u0).setCell ⟨r, 1, none⟩ u1).setCell ⟨r, 2, none⟩ u2).setCell ⟨r, 3, none⟩ u3).setCell ⟨r, 4, none⟩ u4).setCell ⟨r, 5, none⟩ u5) rs :=
  (owns_put6 h (.inr hr) u0 u1 u2 u3 u4 u5).wide (Nat.le_refl _) (Nat.le_trans hh hz)
set_option maxHeartbeats 1000000 in
theorem pointOf_yes (lo hi : Nat) (x' y' : R3) (a b : Ad) (w : World) (hx1 : 0 < x'.m.length) (hx2 : x'.m.length ≤ 24) (hy1 : 0 < y'.m.length) (hy2 : y'.m.length ≤ 24) (hhi : hi ≤ w.heap.size) (hcs : x'.l.length ≤ a.c ∧ x'.m.length ≤ a.d ∧ y'.l.length ≤ b.c ∧ y'.m.length ≤ b.d) (h0 : Owns lo hi w (rows x' a ++ rows y' b)) (hap : Aparts (rows x' a ++ rows y' b)) :
    Calls Tryz.prog 139 #[.agg #[.bool x'.p, .slice a.A x'.l.length a.c, .slice a.D x'.m.length a.d], .agg #[.bool y'.p, .slice b.A y'.l.length b.c, .slice b.D y'.m.length b.d]] w (MadeP lo x' y' w) := by
  have EX := Lib.hid (fun W => show Calls Tryz.prog 66 #[.agg #[.bool x'.p, .slice a.A x'.l.length a.c, .slice a.D x'.m.length a.d]] W (fun e w' => e = .returned (.bool true) ∧ Below W.heap.size W w') from by have := exists_any x'.p a.A a.D x'.l.length x'.m.length a.c a.d W (by omega); rwa [decide_eq_true hx1] at this)
  have EY := Lib.hid (fun W => show Calls Tryz.prog 66 #[.agg #[.bool y'.p, .slice b.A y'.l.length b.c, .slice b.D y'.m.length b.d]] W (fun e w' => e = .returned (.bool true) ∧ Below W.heap.size W w') from by have := exists_any y'.p b.A b.D y'.l.length y'.m.length b.c b.d W (by omega); rwa [decide_eq_true hy1] at this)
  have h : Hid (∀ W, Below w.heap.size w W → Owns lo hi W (rows x' a ++ rows y' b)) := Lib.hid (fun W hb => h0.below hb)
  have hhj := hhi
  clear hx1 hx2 hy1 hy2 h0
  go_enter Tryz.func139, Tryz.ntmps139
  go_wp2_with fail
  have kb := ba3 w (.cells #[.bool x'.p, .slice a.A x'.l.length a.c, .slice a.D x'.m.length a.d] 29) (.cells #[.bool y'.p, .slice b.A y'.l.length b.c, .slice b.D y'.m.length b.d] 29) (.cells #[.bool false, .slice none 0 0, .slice none 0 0, .bool false, .slice none 0 0, .slice none 0 0] 31)
  obtain ⟨P_x, P_y, P_o⟩ := blocks3 w (.cells #[.bool x'.p, .slice a.A x'.l.length a.c, .slice a.D x'.m.length a.d] 29) (.cells #[.bool y'.p, .slice b.A y'.l.length b.c, .slice b.D y'.m.length b.d] 29) (.cells #[.bool false, .slice none 0 0, .slice none 0 0, .bool false, .slice none 0 0, .slice none 0 0] 31)
  generalize ((w.alloc (.cells #[.bool x'.p, .slice a.A x'.l.length a.c, .slice a.D x'.m.length a.d] 29)).alloc (.cells #[.bool y'.p, .slice b.A y'.l.length b.c, .slice b.D y'.m.length b.d] 29)).alloc (.cells #[.bool false, .slice none 0 0, .slice none 0 0, .bool false, .slice none 0 0, .slice none 0 0] 31) = W1 at kb P_x P_y P_o ⊢
  obtain ⟨rr, hrr⟩ : ∃ r, r = w.heap.size + 1 + 1 := ⟨_, rfl⟩
  rw [← hrr] at P_o ⊢
  have hrr3 : w.heap.size ≤ rr := by omega
  have hrr4 : hi ≤ rr := by omega
  clear hhi
  have nr_x : rr ≠ w.heap.size := by omega
  have nr_y : rr ≠ w.heap.size + 1 := by omega
  clear hrr
  refine (EX.out _).mono ?_
  rintro e W2 ⟨rfl, hb⟩
  replace P_x := rblk_below P_x hb
  replace P_y := rblk_below P_y hb
  replace P_o := rblk_below P_o hb
  replace kb := bt kb hb
  clear hb
  have c_x0 : W2.cell? ⟨w.heap.size, 0, none⟩ = some (.bool x'.p) := rblk_cell P_x 0
  have c_x1 : W2.cell? ⟨w.heap.size, 1, none⟩ = some (.slice a.A x'.l.length a.c) := rblk_cell P_x 1
  have c_x2 : W2.cell? ⟨w.heap.size, 2, none⟩ = some (.slice a.D x'.m.length a.d) := rblk_cell P_x 2
  have c_y0 : W2.cell? ⟨w.heap.size + 1, 0, none⟩ = some (.bool y'.p) := rblk_cell P_y 0
  have c_y1 : W2.cell? ⟨w.heap.size + 1, 1, none⟩ = some (.slice b.A y'.l.length b.c) := rblk_cell P_y 1
  have c_y2 : W2.cell? ⟨w.heap.size + 1, 2, none⟩ = some (.slice b.D y'.m.length b.d) := rblk_cell P_y 2
  go_wp2_with fail
  clear c_x0 c_x1 c_x2 c_y0 c_y1 c_y2
  refine (EY.out _).mono ?_
  rintro e W3 ⟨rfl, hb⟩
  replace P_x := rblk_below P_x hb
  replace P_y := rblk_below P_y hb
  replace P_o := rblk_below P_o hb
  replace kb := bt kb hb
  clear hb
  have c_x0 : W3.cell? ⟨w.heap.size, 0, none⟩ = some (.bool x'.p) := rblk_cell P_x 0
  have c_x1 : W3.cell? ⟨w.heap.size, 1, none⟩ = some (.slice a.A x'.l.length a.c) := rblk_cell P_x 1
  have c_x2 : W3.cell? ⟨w.heap.size, 2, none⟩ = some (.slice a.D x'.m.length a.d) := rblk_cell P_x 2
  have c_y0 : W3.cell? ⟨w.heap.size + 1, 0, none⟩ = some (.bool y'.p) := rblk_cell P_y 0
  have c_y1 : W3.cell? ⟨w.heap.size + 1, 1, none⟩ = some (.slice b.A y'.l.length b.c) := rblk_cell P_y 1
  have c_y2 : W3.cell? ⟨w.heap.size + 1, 2, none⟩ = some (.slice b.D y'.m.length b.d) := rblk_cell P_y 2
  have c_o0 : W3.cell? ⟨rr, 0, none⟩ = some (.bool false) := rblk_cell P_o 0
  have c_o1 : W3.cell? ⟨rr, 1, none⟩ = some (.slice none 0 0) := rblk_cell P_o 1
  have c_o2 : W3.cell? ⟨rr, 2, none⟩ = some (.slice none 0 0) := rblk_cell P_o 2
  have c_o3 : W3.cell? ⟨rr, 3, none⟩ = some (.bool false) := rblk_cell P_o 3
  have c_o4 : W3.cell? ⟨rr, 4, none⟩ = some (.slice none 0 0) := rblk_cell P_o 4
  have c_o5 : W3.cell? ⟨rr, 5, none⟩ = some (.slice none 0 0) := rblk_cell P_o 5
  have f_o0 := rblk_free P_o 0
  have f_o1 := rblk_free P_o 1
  have f_o2 := rblk_free P_o 2
  have f_o3 := rblk_free P_o 3
  have f_o4 := rblk_free P_o 4
  have f_o5 := rblk_free P_o 5
  go_wp2
  exact bodyPost_ret (v := .agg #[.bool x'.p, .slice a.A x'.l.length a.c, .slice a.D x'.m.length a.d, .bool y'.p, .slice b.A y'.l.length b.c, .slice b.D y'.m.length b.d]) (by simp [results, Tryz.results139, go_sem, c_o0, c_o1, c_o2, c_o3, c_o4, c_o5]) rfl ⟨a, b, rfl, hcs, owns_old6 (h.out _ kb) hrr4 (below_put6 kb hrr3 _ _ _ _ _ _).size, hap, below_put6 kb hrr3 _ _ _ _ _ _⟩
set_option maxHeartbeats 1000000 in
theorem pointOf_n1 (lo : Nat) (x' y' : R3) (a b : Ad) (w : World) (hx1 : x'.m.length = 0) :
    Calls Tryz.prog 139 #[.agg #[.bool x'.p, .slice a.A x'.l.length a.c, .slice a.D x'.m.length a.d], .agg #[.bool y'.p, .slice b.A y'.l.length b.c, .slice b.D y'.m.length b.d]] w (MadeP lo noR noR w) := by
  have EX := Lib.hid (fun W => show Calls Tryz.prog 66 #[.agg #[.bool x'.p, .slice a.A x'.l.length a.c, .slice a.D x'.m.length a.d]] W (fun e w' => e = .returned (.bool false) ∧ Below W.heap.size W w') from by have := exists_any x'.p a.A a.D x'.l.length x'.m.length a.c a.d W (by omega); rwa [hx1, show decide (0 < 0) = false from rfl, ← hx1] at this)
  clear hx1
  go_enter Tryz.func139, Tryz.ntmps139
  go_wp2_with fail
  have kb := ba3 w (.cells #[.bool x'.p, .slice a.A x'.l.length a.c, .slice a.D x'.m.length a.d] 29) (.cells #[.bool y'.p, .slice b.A y'.l.length b.c, .slice b.D y'.m.length b.d] 29) (.cells #[.bool false, .slice none 0 0, .slice none 0 0, .bool false, .slice none 0 0, .slice none 0 0] 31)
  obtain ⟨P_x, P_y, P_o⟩ := blocks3 w (.cells #[.bool x'.p, .slice a.A x'.l.length a.c, .slice a.D x'.m.length a.d] 29) (.cells #[.bool y'.p, .slice b.A y'.l.length b.c, .slice b.D y'.m.length b.d] 29) (.cells #[.bool false, .slice none 0 0, .slice none 0 0, .bool false, .slice none 0 0, .slice none 0 0] 31)
  generalize ((w.alloc (.cells #[.bool x'.p, .slice a.A x'.l.length a.c, .slice a.D x'.m.length a.d] 29)).alloc (.cells #[.bool y'.p, .slice b.A y'.l.length b.c, .slice b.D y'.m.length b.d] 29)).alloc (.cells #[.bool false, .slice none 0 0, .slice none 0 0, .bool false, .slice none 0 0, .slice none 0 0] 31) = W1 at kb P_x P_y P_o ⊢
  obtain ⟨rr, hrr⟩ : ∃ r, r = w.heap.size + 1 + 1 := ⟨_, rfl⟩
  rw [← hrr] at P_o ⊢
  have hrr3 : w.heap.size ≤ rr := by omega
  have nr_x : rr ≠ w.heap.size := by omega
  have nr_y : rr ≠ w.heap.size + 1 := by omega
  clear hrr
  refine (EX.out _).mono ?_
  rintro e W2 ⟨rfl, hb⟩
  replace P_x := rblk_below P_x hb
  replace P_y := rblk_below P_y hb
  replace P_o := rblk_below P_o hb
  replace kb := bt kb hb
  clear hb
  have c_o0 : W2.cell? ⟨rr, 0, none⟩ = some (.bool false) := rblk_cell P_o 0
  have c_o1 : W2.cell? ⟨rr, 1, none⟩ = some (.slice none 0 0) := rblk_cell P_o 1
  have c_o2 : W2.cell? ⟨rr, 2, none⟩ = some (.slice none 0 0) := rblk_cell P_o 2
  have c_o3 : W2.cell? ⟨rr, 3, none⟩ = some (.bool false) := rblk_cell P_o 3
  have c_o4 : W2.cell? ⟨rr, 4, none⟩ = some (.slice none 0 0) := rblk_cell P_o 4
  have c_o5 : W2.cell? ⟨rr, 5, none⟩ = some (.slice none 0 0) := rblk_cell P_o 5
  have f_o0 := rblk_free P_o 0
  have f_o1 := rblk_free P_o 1
  have f_o2 := rblk_free P_o 2
  have f_o3 := rblk_free P_o 3
  have f_o4 := rblk_free P_o 4
  have f_o5 := rblk_free P_o 5
  go_wp2
  exact bodyPost_ret (v := .agg #[.bool false, .slice none 0 0, .slice none 0 0, .bool false, .slice none 0 0, .slice none 0 0]) (by simp [results, Tryz.results139, go_sem, c_o0, c_o1, c_o2, c_o3, c_o4, c_o5]) rfl (none_point _ _ _ (below_put6 kb hrr3 _ _ _ _ _ _))
set_option maxHeartbeats 1000000 in
theorem pointOf_n2 (lo : Nat) (x' y' : R3) (a b : Ad) (w : World) (hx1 : 0 < x'.m.length) (hx2 : x'.m.length ≤ 24) (hy1 : y'.m.length = 0) :
    Calls Tryz.prog 139 #[.agg #[.bool x'.p, .slice a.A x'.l.length a.c, .slice a.D x'.m.length a.d], .agg #[.bool y'.p, .slice b.A y'.l.length b.c, .slice b.D y'.m.length b.d]] w (MadeP lo noR noR w) := by
  have EX := Lib.hid (fun W => show Calls Tryz.prog 66 #[.agg #[.bool x'.p, .slice a.A x'.l.length a.c, .slice a.D x'.m.length a.d]] W (fun e w' => e = .returned (.bool true) ∧ Below W.heap.size W w') from by have := exists_any x'.p a.A a.D x'.l.length x'.m.length a.c a.d W (by omega); rwa [decide_eq_true hx1] at this)
  have EY := Lib.hid (fun W => show Calls Tryz.prog 66 #[.agg #[.bool y'.p, .slice b.A y'.l.length b.c, .slice b.D y'.m.length b.d]] W (fun e w' => e = .returned (.bool false) ∧ Below W.heap.size W w') from by have := exists_any y'.p b.A b.D y'.l.length y'.m.length b.c b.d W (by omega); rwa [hy1, show decide (0 < 0) = false from rfl, ← hy1] at this)
  clear hx1 hx2 hy1
  go_enter Tryz.func139, Tryz.ntmps139
  go_wp2_with fail
  have kb := ba3 w (.cells #[.bool x'.p, .slice a.A x'.l.length a.c, .slice a.D x'.m.length a.d] 29) (.cells #[.bool y'.p, .slice b.A y'.l.length b.c, .slice b.D y'.m.length b.d] 29) (.cells #[.bool false, .slice none 0 0, .slice none 0 0, .bool false, .slice none 0 0, .slice none 0 0] 31)
  obtain ⟨P_x, P_y, P_o⟩ := blocks3 w (.cells #[.bool x'.p, .slice a.A x'.l.length a.c, .slice a.D x'.m.length a.d] 29) (.cells #[.bool y'.p, .slice b.A y'.l.length b.c, .slice b.D y'.m.length b.d] 29) (.cells #[.bool false, .slice none 0 0, .slice none 0 0, .bool false, .slice none 0 0, .slice none 0 0] 31)
  generalize ((w.alloc (.cells #[.bool x'.p, .slice a.A x'.l.length a.c, .slice a.D x'.m.length a.d] 29)).alloc (.cells #[.bool y'.p, .slice b.A y'.l.length b.c, .slice b.D y'.m.length b.d] 29)).alloc (.cells #[.bool false, .slice none 0 0, .slice none 0 0, .bool false, .slice none 0 0, .slice none 0 0] 31) = W1 at kb P_x P_y P_o ⊢
  obtain ⟨rr, hrr⟩ : ∃ r, r = w.heap.size + 1 + 1 := ⟨_, rfl⟩
  rw [← hrr] at P_o ⊢
  have hrr3 : w.heap.size ≤ rr := by omega
  have nr_x : rr ≠ w.heap.size := by omega
  have nr_y : rr ≠ w.heap.size + 1 := by omega
  clear hrr
  refine (EX.out _).mono ?_
  rintro e W2 ⟨rfl, hb⟩
  replace P_x := rblk_below P_x hb
  replace P_y := rblk_below P_y hb
  replace P_o := rblk_below P_o hb
  replace kb := bt kb hb
  clear hb
  have c_x0 : W2.cell? ⟨w.heap.size, 0, none⟩ = some (.bool x'.p) := rblk_cell P_x 0
  have c_x1 : W2.cell? ⟨w.heap.size, 1, none⟩ = some (.slice a.A x'.l.length a.c) := rblk_cell P_x 1
  have c_x2 : W2.cell? ⟨w.heap.size, 2, none⟩ = some (.slice a.D x'.m.length a.d) := rblk_cell P_x 2
  have c_y0 : W2.cell? ⟨w.heap.size + 1, 0, none⟩ = some (.bool y'.p) := rblk_cell P_y 0
  have c_y1 : W2.cell? ⟨w.heap.size + 1, 1, none⟩ = some (.slice b.A y'.l.length b.c) := rblk_cell P_y 1
  have c_y2 : W2.cell? ⟨w.heap.size + 1, 2, none⟩ = some (.slice b.D y'.m.length b.d) := rblk_cell P_y 2
  go_wp2_with fail
  clear c_x0 c_x1 c_x2 c_y0 c_y1 c_y2
  refine (EY.out _).mono ?_
  rintro e W3 ⟨rfl, hb⟩
  replace P_x := rblk_below P_x hb
  replace P_y := rblk_below P_y hb
  replace P_o := rblk_below P_o hb
  replace kb := bt kb hb
  clear hb
  have c_o0 : W3.cell? ⟨rr, 0, none⟩ = some (.bool false) := rblk_cell P_o 0
  have c_o1 : W3.cell? ⟨rr, 1, none⟩ = some (.slice none 0 0) := rblk_cell P_o 1
  have c_o2 : W3.cell? ⟨rr, 2, none⟩ = some (.slice none 0 0) := rblk_cell P_o 2
  have c_o3 : W3.cell? ⟨rr, 3, none⟩ = some (.bool false) := rblk_cell P_o 3
  have c_o4 : W3.cell? ⟨rr, 4, none⟩ = some (.slice none 0 0) := rblk_cell P_o 4
  have c_o5 : W3.cell? ⟨rr, 5, none⟩ = some (.slice none 0 0) := rblk_cell P_o 5
  have f_o0 := rblk_free P_o 0
  have f_o1 := rblk_free P_o 1
  have f_o2 := rblk_free P_o 2
  have f_o3 := rblk_free P_o 3
  have f_o4 := rblk_free P_o 4
  have f_o5 := rblk_free P_o 5
  go_wp2
  exact bodyPost_ret (v := .agg #[.bool false, .slice none 0 0, .slice none 0 0, .bool false, .slice none 0 0, .slice none 0 0]) (by simp [results, Tryz.results139, go_sem, c_o0, c_o1, c_o2, c_o3, c_o4, c_o5]) rfl (none_point _ _ _ (below_put6 kb hrr3 _ _ _ _ _ _))
theorem pointOf_any (lo hi : Nat) (x y : Option Rat) (a b : Ad) (w : World) (hx : FitO x) (hy : FitO y) (hhi : hi ≤ w.heap.size) (hcs : (ofO x).l.length ≤ a.c ∧ (ofO x).m.length ≤ a.d ∧ (ofO y).l.length ≤ b.c ∧ (ofO y).m.length ≤ b.d) (h0 : Owns lo hi w (rows (ofO x) a ++ rows (ofO y) b)) (hap : Aparts (rows (ofO x) a ++ rows (ofO y) b)) :
    Calls Tryz.prog 139 #[.agg #[.bool (ofO x).p, .slice a.A (ofO x).l.length a.c, .slice a.D (ofO x).m.length a.d], .agg #[.bool (ofO y).p, .slice b.A (ofO y).l.length b.c, .slice b.D (ofO y).m.length b.d]] w (MadeP lo (ofO (bothX x y)) (ofO (bothY x y)) w) := by
  cases x with
  | none => rw [(both_n1 y).1, (both_n1 y).2]; exact pointOf_n1 lo noR (ofO y) a b w rfl
  | some r =>
    have lr := (FitO.len hx).2
    have pr : 0 < (ofO (some r)).m.length := by show 0 < (nd r.den).length; rw [nd_length, ln_pos r.den_pos]; omega
    cases y with
    | none => rw [(both_n2 (some r)).1, (both_n2 (some r)).2]; exact pointOf_n2 lo (ofO (some r)) noR a b w pr lr rfl
    | some s =>
      have ls := (FitO.len hy).2
      have ps : 0 < (ofO (some s)).m.length := by show 0 < (nd s.den).length; rw [nd_length, ln_pos s.den_pos]; omega
      exact pointOf_yes lo hi (ofO (some r)) (ofO (some s)) a b w pr lr ps ls hhi hcs h0 hap
end Go.Proofs.YtppdholccpgcpaaGreat
