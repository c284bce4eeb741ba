/-
  Fractions of the program that may be none: 'times', 'plus', 'minus', in the bundled words.
-/
import Derived.Test.YtennekieiioilaaGreatPtE
import Derived.Test.YtennekieiioilaaGreatPkF
namespace Go.Proofs.YtennekieiioilaaGreat
open Go.ChangeShapes Go.WideShapes Go.ChangeAt Go.RowKit
open Go.ChangeMaps (open_string shut_string)
set_option linter.unusedVariables false
set_option linter.unusedSimpArgs false
set_option maxRecDepth 4000

attribute [local go_sem ↓] Go.wp_at_zero Go.wp_at_succ

set_option maxHeartbeats 1000000 in
theorem times_n1 (pr ps : Bool) (A D A' D' : Option Addr) (n n' k' c d c' d' : Nat) (w : World) :
    Calls Tryz.prog 72 #[.agg #[.bool pr, .slice A n c, .slice D 0 d], .agg #[.bool ps, .slice A' n' c', .slice D' k' d']] w (MadeR w.heap.size false [] [] w) := by
  have EN := Lib.hid (fun W => exists_any pr A D n 0 c d W (by omega))
  rw [show decide (0 < 0) = false from rfl] at EN
  go_enter Tryz.func72, Tryz.ntmps72
  go_wp2_with fail
  have kb := ba3 w (.cells #[.bool pr, .slice A n c, .slice D 0 d] 30) (.cells #[.bool ps, .slice A' n' c', .slice D' k' d'] 30) (.cells #[.bool false, .slice none 0 0, .slice none 0 0] 30)
  obtain ⟨P_r, P_s, P_o⟩ := blocks3 w (.cells #[.bool pr, .slice A n c, .slice D 0 d] 30) (.cells #[.bool ps, .slice A' n' c', .slice D' k' d'] 30) (.cells #[.bool false, .slice none 0 0, .slice none 0 0] 30)
  generalize ((w.alloc (.cells #[.bool pr, .slice A n c, .slice D 0 d] 30)).alloc (.cells #[.bool ps, .slice A' n' c', .slice D' k' d'] 30)).alloc (.cells #[.bool false, .slice none 0 0, .slice none 0 0] 30) = W1 at kb P_r P_s P_o ⊢
  obtain ⟨rr, hrr⟩ : ∃ r, r = w.heap.size + 1 + 1 := ⟨_, rfl⟩
  rw [← hrr] at P_o ⊢
  have hrr3 : w.heap.size ≤ rr := by omega
  have nr_r : rr ≠ w.heap.size := by omega
  have nr_s : rr ≠ w.heap.size + 1 := by omega
  clear hrr
  refine (EN.out _).mono ?_
  rintro e W2 ⟨rfl, hb⟩
  replace P_r := rblk_below P_r hb
  replace P_s := rblk_below P_s hb
  replace P_o := rblk_below P_o hb
  replace kb := bt kb hb
  clear hb
  have c_r0 : W2.cell? ⟨w.heap.size, 0, none⟩ = some (.bool pr) := rblk_cell P_r 0
  have c_r1 : W2.cell? ⟨w.heap.size, 1, none⟩ = some (.slice A n c) := rblk_cell P_r 1
  have c_r2 : W2.cell? ⟨w.heap.size, 2, none⟩ = some (.slice D 0 d) := rblk_cell P_r 2
  have c_s0 : W2.cell? ⟨w.heap.size + 1, 0, none⟩ = some (.bool ps) := rblk_cell P_s 0
  have c_s1 : W2.cell? ⟨w.heap.size + 1, 1, none⟩ = some (.slice A' n' c') := rblk_cell P_s 1
  have c_s2 : W2.cell? ⟨w.heap.size + 1, 2, none⟩ = some (.slice D' k' d') := rblk_cell P_s 2
  have c_o0 : W2.cell? ⟨rr, 0, none⟩ = some (.bool false) := rblk_cell P_o 0
  have c_o1 : W2.cell? ⟨rr, 1, none⟩ = some (.slice none 0 0) := rblk_cell P_o 1
  have c_o2 : W2.cell? ⟨rr, 2, none⟩ = some (.slice none 0 0) := rblk_cell P_o 2
  have f_o0 := rblk_free P_o 0
  have f_o1 := rblk_free P_o 1
  have f_o2 := rblk_free P_o 2
  go_wp2
  exact bodyPost_ret (v := .agg #[.bool false, .slice none 0 0, .slice none 0 0]) (by simp [results, Tryz.results72, go_sem, c_o0, c_o1, c_o2]) rfl ⟨none, 0, none, 0, rfl, Nat.le_refl _, Nat.le_refl _, .inl rfl, .inl rfl, (fun a h => by simp [rowOf] at h), below_put3 kb hrr3 _ _ _⟩

set_option maxHeartbeats 1000000 in
theorem plus_n1 (pr ps : Bool) (A D A' D' : Option Addr) (n n' k' c d c' d' : Nat) (w : World) :
    Calls Tryz.prog 71 #[.agg #[.bool pr, .slice A n c, .slice D 0 d], .agg #[.bool ps, .slice A' n' c', .slice D' k' d']] w (MadeR w.heap.size false [] [] w) := by
  have EN := Lib.hid (fun W => exists_any pr A D n 0 c d W (by omega))
  rw [show decide (0 < 0) = false from rfl] at EN
  go_enter Tryz.func71, Tryz.ntmps71
  go_wp2_with fail
  have kb := ba3 w (.cells #[.bool pr, .slice A n c, .slice D 0 d] 30) (.cells #[.bool ps, .slice A' n' c', .slice D' k' d'] 30) (.cells #[.bool false, .slice none 0 0, .slice none 0 0] 30)
  obtain ⟨P_r, P_s, P_o⟩ := blocks3 w (.cells #[.bool pr, .slice A n c, .slice D 0 d] 30) (.cells #[.bool ps, .slice A' n' c', .slice D' k' d'] 30) (.cells #[.bool false, .slice none 0 0, .slice none 0 0] 30)
  generalize ((w.alloc (.cells #[.bool pr, .slice A n c, .slice D 0 d] 30)).alloc (.cells #[.bool ps, .slice A' n' c', .slice D' k' d'] 30)).alloc (.cells #[.bool false, .slice none 0 0, .slice none 0 0] 30) = W1 at kb P_r P_s P_o ⊢
  obtain ⟨rr, hrr⟩ : ∃ r, r = w.heap.size + 1 + 1 := ⟨_, rfl⟩
  rw [← hrr] at P_o ⊢
  have hrr3 : w.heap.size ≤ rr := by omega
  have nr_r : rr ≠ w.heap.size := by omega
  have nr_s : rr ≠ w.heap.size + 1 := by omega
  clear hrr
  refine (EN.out _).mono ?_
  rintro e W2 ⟨rfl, hb⟩
  replace P_r := rblk_below P_r hb
  replace P_s := rblk_below P_s hb
  replace P_o := rblk_below P_o hb
  replace kb := bt kb hb
  clear hb
  have c_r0 : W2.cell? ⟨w.heap.size, 0, none⟩ = some (.bool pr) := rblk_cell P_r 0
  have c_r1 : W2.cell? ⟨w.heap.size, 1, none⟩ = some (.slice A n c) := rblk_cell P_r 1
  have c_r2 : W2.cell? ⟨w.heap.size, 2, none⟩ = some (.slice D 0 d) := rblk_cell P_r 2
  have c_s0 : W2.cell? ⟨w.heap.size + 1, 0, none⟩ = some (.bool ps) := rblk_cell P_s 0
  have c_s1 : W2.cell? ⟨w.heap.size + 1, 1, none⟩ = some (.slice A' n' c') := rblk_cell P_s 1
  have c_s2 : W2.cell? ⟨w.heap.size + 1, 2, none⟩ = some (.slice D' k' d') := rblk_cell P_s 2
  have c_o0 : W2.cell? ⟨rr, 0, none⟩ = some (.bool false) := rblk_cell P_o 0
  have c_o1 : W2.cell? ⟨rr, 1, none⟩ = some (.slice none 0 0) := rblk_cell P_o 1
  have c_o2 : W2.cell? ⟨rr, 2, none⟩ = some (.slice none 0 0) := rblk_cell P_o 2
  have f_o0 := rblk_free P_o 0
  have f_o1 := rblk_free P_o 1
  have f_o2 := rblk_free P_o 2
  go_wp2
  exact bodyPost_ret (v := .agg #[.bool false, .slice none 0 0, .slice none 0 0]) (by simp [results, Tryz.results71, go_sem, c_o0, c_o1, c_o2]) rfl ⟨none, 0, none, 0, rfl, Nat.le_refl _, Nat.le_refl _, .inl rfl, .inl rfl, (fun a h => by simp [rowOf] at h), below_put3 kb hrr3 _ _ _⟩

set_option maxHeartbeats 1000000 in
theorem plus_n2 (pr ps : Bool) (A D A' D' : Option Addr) (n k n' c d c' d' : Nat) (w : World) (hk : 0 < k ∧ k ≤ 24) :
    Calls Tryz.prog 71 #[.agg #[.bool pr, .slice A n c, .slice D k d], .agg #[.bool ps, .slice A' n' c', .slice D' 0 d']] w (MadeR w.heap.size false [] [] w) := by
  have EX := Lib.hid (fun (p : Bool) (A D : Option Addr) (n k c d : Nat) W (h : Hid (0 < k ∧ k ≤ 24)) => show Calls Tryz.prog 89 #[.agg #[.bool p, .slice A n c, .slice D k d]] W (fun e w' => e = .returned (.bool true) ∧ Below W.heap.size W w') from by have := exists_any p A D n k c d W (by have := h.out; omega); rwa [decide_eq_true h.out.1] at this)
  have EN := Lib.hid (fun W => exists_any ps A' D' n' 0 c' d' W (by omega))
  rw [show decide (0 < 0) = false from rfl] at EN
  have hk0 := Lib.hid hk
  clear hk
  go_enter Tryz.func71, Tryz.ntmps71
  go_wp2_with fail
  have kb := ba3 w (.cells #[.bool pr, .slice A n c, .slice D k d] 30) (.cells #[.bool ps, .slice A' n' c', .slice D' 0 d'] 30) (.cells #[.bool false, .slice none 0 0, .slice none 0 0] 30)
  obtain ⟨P_r, P_s, P_o⟩ := blocks3 w (.cells #[.bool pr, .slice A n c, .slice D k d] 30) (.cells #[.bool ps, .slice A' n' c', .slice D' 0 d'] 30) (.cells #[.bool false, .slice none 0 0, .slice none 0 0] 30)
  generalize ((w.alloc (.cells #[.bool pr, .slice A n c, .slice D k d] 30)).alloc (.cells #[.bool ps, .slice A' n' c', .slice D' 0 d'] 30)).alloc (.cells #[.bool false, .slice none 0 0, .slice none 0 0] 30) = W1 at kb P_r P_s P_o ⊢
  obtain ⟨rr, hrr⟩ : ∃ r, r = w.heap.size + 1 + 1 := ⟨_, rfl⟩
  rw [← hrr] at P_o ⊢
  have hrr3 : w.heap.size ≤ rr := by omega
  have nr_r : rr ≠ w.heap.size := by omega
  have nr_s : rr ≠ w.heap.size + 1 := by omega
  clear hrr
  refine (EX.out _ _ _ _ _ _ _ _ hk0).mono ?_
  rintro e W2 ⟨rfl, hb⟩
  replace P_r := rblk_below P_r hb
  replace P_s := rblk_below P_s hb
  replace P_o := rblk_below P_o hb
  replace kb := bt kb hb
  clear hb
  have c_r0 : W2.cell? ⟨w.heap.size, 0, none⟩ = some (.bool pr) := rblk_cell P_r 0
  have c_r1 : W2.cell? ⟨w.heap.size, 1, none⟩ = some (.slice A n c) := rblk_cell P_r 1
  have c_r2 : W2.cell? ⟨w.heap.size, 2, none⟩ = some (.slice D k d) := rblk_cell P_r 2
  have c_s0 : W2.cell? ⟨w.heap.size + 1, 0, none⟩ = some (.bool ps) := rblk_cell P_s 0
  have c_s1 : W2.cell? ⟨w.heap.size + 1, 1, none⟩ = some (.slice A' n' c') := rblk_cell P_s 1
  have c_s2 : W2.cell? ⟨w.heap.size + 1, 2, none⟩ = some (.slice D' 0 d') := rblk_cell P_s 2
  go_wp2_with fail
  clear c_r0 c_r1 c_r2 c_s0 c_s1 c_s2
  refine (EN.out _).mono ?_
  rintro e W3 ⟨rfl, hb⟩
  replace P_r := rblk_below P_r hb
  replace P_s := rblk_below P_s hb
  replace P_o := rblk_below P_o hb
  replace kb := bt kb hb
  clear hb
  have c_r0 : W3.cell? ⟨w.heap.size, 0, none⟩ = some (.bool pr) := rblk_cell P_r 0
  have c_r1 : W3.cell? ⟨w.heap.size, 1, none⟩ = some (.slice A n c) := rblk_cell P_r 1
  have c_r2 : W3.cell? ⟨w.heap.size, 2, none⟩ = some (.slice D k d) := rblk_cell P_r 2
  have c_s0 : W3.cell? ⟨w.heap.size + 1, 0, none⟩ = some (.bool ps) := rblk_cell P_s 0
  have c_s1 : W3.cell? ⟨w.heap.size + 1, 1, none⟩ = some (.slice A' n' c') := rblk_cell P_s 1
  have c_s2 : W3.cell? ⟨w.heap.size + 1, 2, none⟩ = some (.slice D' 0 d') := rblk_cell P_s 2
  have c_o0 : W3.cell? ⟨rr, 0, none⟩ = some (.bool false) := rblk_cell P_o 0
  have c_o1 : W3.cell? ⟨rr, 1, none⟩ = some (.slice none 0 0) := rblk_cell P_o 1
  have c_o2 : W3.cell? ⟨rr, 2, none⟩ = some (.slice none 0 0) := rblk_cell P_o 2
  have f_o0 := rblk_free P_o 0
  have f_o1 := rblk_free P_o 1
  have f_o2 := rblk_free P_o 2
  go_wp2
  exact bodyPost_ret (v := .agg #[.bool false, .slice none 0 0, .slice none 0 0]) (by simp [results, Tryz.results71, go_sem, c_o0, c_o1, c_o2]) rfl ⟨none, 0, none, 0, rfl, Nat.le_refl _, Nat.le_refl _, .inl rfl, .inl rfl, (fun a h => by simp [rowOf] at h), below_put3 kb hrr3 _ _ _⟩

theorem times_r (x y : Option Rat) (a b : Ad) (w : World) (hx : FitO x) (hy : FitO y) (h : Rds w (rows (ofO x) a)) (h' : Rds w (rows (ofO y) b)) :
    Calls Tryz.prog 72 #[.agg #[.bool (ofO x).p, .slice a.A (ofO x).l.length a.c, .slice a.D (ofO x).m.length a.d], .agg #[.bool (ofO y).p, .slice b.A (ofO y).l.length b.c, .slice b.D (ofO y).m.length b.d]] w (MadeQ w.heap.size (ofO (binQ mulQ x y)) w) := by
  cases x with
  | none => exact (times_n1 _ _ a.A a.D b.A b.D _ _ _ a.c a.d b.c b.d w).mono fun e w' k => MadeR.toQ (x := noR) k
  | some r =>
    have hr := hx r rfl
    cases y with
    | none =>
      have h2 := hr.2
      exact (times_none _ _ a.A a.D b.A b.D _ (nd r.den).length _ a.c a.d b.c b.d w ⟨by rw [nd_length, ln_pos r.den_pos]; omega, by rw [nd_length]; omega⟩).mono fun e w' k => MadeR.toQ (x := noR) k
    | some s => exact (times_q r s a.A a.D b.A b.D _ _ _ _ a.c a.d b.c b.d w hr (hy s rfl) (nd_length _).symm (nd_length _).symm (nd_length _).symm (nd_length _).symm (rows_rd h).1 (rows_rd h).2 (rows_rd h').1 (rows_rd h').2).mono fun e w' k => MadeR.toQ (x := ofO (mulQ r s)) k

theorem plus_r (x y : Option Rat) (a b : Ad) (w : World) (hx : FitO x) (hy : FitO y) (h : Rds w (rows (ofO x) a)) (h' : Rds w (rows (ofO y) b)) :
    Calls Tryz.prog 71 #[.agg #[.bool (ofO x).p, .slice a.A (ofO x).l.length a.c, .slice a.D (ofO x).m.length a.d], .agg #[.bool (ofO y).p, .slice b.A (ofO y).l.length b.c, .slice b.D (ofO y).m.length b.d]] w (MadeQ w.heap.size (ofO (binQ addQ x y)) w) := by
  cases x with
  | none => exact (plus_n1 _ _ a.A a.D b.A b.D _ _ _ a.c a.d b.c b.d w).mono fun e w' k => MadeR.toQ (x := noR) k
  | some r =>
    have hr := hx r rfl
    cases y with
    | none =>
      have h2 := hr.2
      exact (plus_n2 _ _ a.A a.D b.A b.D _ (nd r.den).length _ a.c a.d b.c b.d w ⟨by rw [nd_length, ln_pos r.den_pos]; omega, by rw [nd_length]; omega⟩).mono fun e w' k => MadeR.toQ (x := noR) k
    | some s => exact (plus_q r s a.A a.D b.A b.D _ _ _ _ a.c a.d b.c b.d w hr (hy s rfl) (nd_length _).symm (nd_length _).symm (nd_length _).symm (nd_length _).symm (rows_rd h).1 (rows_rd h).2 (rows_rd h').1 (rows_rd h').2).mono fun e w' k => MadeR.toQ (x := ofO (addQ r s)) k
end Go.Proofs.YtennekieiioilaaGreat
