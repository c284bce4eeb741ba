/-
  Points of the program: its methods.
-/
import Derived.Test.YtppdholccpgcpaaGreatWg
import Derived.Test.YtppdholccpgcpaaGreatLawP
import Derived.Test.YtppdholccpgcpaaGreatPtQ
import Derived.Test.YtppdholccpgcpaaGreatPtH
namespace Go.Proofs.YtppdholccpgcpaaGreat
set_option maxHeartbeats 1000000
open Go.ChangeShapes Go.WideShapes Go.ChangeAt Go.RowKit
set_option linter.unusedVariables false
set_option linter.unusedSimpArgs false
set_option maxRecDepth 4000
attribute [local go_sem ↓] Go.wp_at_zero Go.wp_at_succ
def bothX (x y : Option Rat) : Option Rat := if y.isSome then x else none
def bothY (x y : Option Rat) : Option Rat := if x.isSome then y else none
theorem bothX_fit {x y : Option Rat} (h : FitO x) : FitO (bothX x y) := by unfold bothX; split; exact h; exact fitO_none
theorem bothY_fit {x y : Option Rat} (h : FitO y) : FitO (bothY x y) := by unfold bothY; split; exact h; exact fitO_none
theorem both_n1 (y : Option Rat) : bothX none y = none ∧ bothY none y = none := ⟨by cases y <;> rfl, rfl⟩
theorem both_n2 (x : Option Rat) : bothX x none = none ∧ bothY x none = none := ⟨rfl, by cases x <;> rfl⟩
theorem addQ_fit {r s t : Rat} (h : addQ r s = some t) : Fit t := cutQ_fit h
theorem mulQ_fit {r s t : Rat} (h : mulQ r s = some t) : Fit t := cutQ_fit h
theorem subQ_fit {r s t : Rat} (h : subQ r s = some t) : Fit t := cutQ_fit h
theorem addO_fit (x y : Option Rat) : FitO (binQ addQ x y) := FitO.bin (fun _ _ _ => addQ_fit) x y
theorem mulO_fit (x y : Option Rat) : FitO (binQ mulQ x y) := FitO.bin (fun _ _ _ => mulQ_fit) x y
theorem subO_fit (x y : Option Rat) : FitO (binQ subQ x y) := FitO.bin (fun _ _ _ => subQ_fit) x y
theorem none_point (B : Nat) (w w' : World) (h : Below w.heap.size w w') : MadeP B noR noR w (.returned (.agg z6)) w' :=
  ⟨⟨none, 0, none, 0⟩, ⟨none, 0, none, 0⟩, rfl, ⟨Nat.le_refl _, Nat.le_refl _, Nat.le_refl _, Nat.le_refl _⟩, noRows _ _ _ _ _, noApart _ _, h⟩
theorem none_rat (B : Nat) (w w' : World) (h : Below w.heap.size w w') : MadeQ B noR w (.returned (.agg z3)) w' :=
  ⟨⟨none, 0, none, 0⟩, rfl, Nat.le_refl _, Nat.le_refl _, owns_l (noRows _ _ _ _ ⟨none, 0, none, 0⟩), (noApart _ ⟨none, 0, none, 0⟩).l, h⟩
theorem owns_old6 {lo hi r hi' : Nat} {w : World} {rs : List (Option Addr × List Value)} (h : Owns lo hi w rs) (hr : hi ≤ r) {u0 u1 u2 u3 u4 u5 : Value} (hz : hi' ≤ ((((((w.setCell ⟨r, 0, none⟩ u0).setCell ⟨r, 1, none⟩ u1).setCell ⟨r, 2, none⟩ u2).setCell ⟨r, 3, none⟩ u3).setCell ⟨r, 4, none⟩ u4).setCell ⟨r, 5, none⟩ u5).heap.size) (hh : hi ≤ hi' := by assumption) :
    Owns lo ((((((w.setCell ⟨r, 0, none⟩ u0).setCell ⟨r, 1, none⟩ u1).setCell ⟨r, 2, none⟩ u2).setCell ⟨r, 3, none⟩ u3).setCell ⟨r, 4, none⟩ u4).setCell ⟨r, 5, none⟩ u5).heap.size ((((((w.setCell ⟨r, 0, none⟩ u0).setCell ⟨r, 1, none⟩ u1).setCell ⟨r, 2, none⟩ u2).setCell ⟨r, 3, none⟩ u3).setCell ⟨r, 4, none⟩ u4).setCell ⟨r, 5, none⟩ u5) rs :=
  (owns_put6 h (.inr hr) u0 u1 u2 u3 u4 u5).wide (Nat.le_refl _) (Nat.le_trans hh hz)
theorem pointOf_yes (lo hi : Nat) (x' y' : R3) (a b : Ad) (w : World) (hx1 : 0 < x'.m.length) (hx2 : x'.m.length ≤ 24) (hy1 : 0 < y'.m.length) (hy2 : y'.m.length ≤ 24) (hhi : hi ≤ w.heap.size) (hcs : x'.l.length ≤ a.c ∧ x'.m.length ≤ a.d ∧ y'.l.length ≤ b.c ∧ y'.m.length ≤ b.d) (h0 : Owns lo hi w (rows x' a ++ rows y' b)) (hap : Aparts (rows x' a ++ rows y' b)) :
    Calls Tryz.prog 139 #[.agg (r3 x' a), .agg (r3 y' b)] w (MadeP lo x' y' w) := by
  have EX := Lib.hid (fun W => show Calls Tryz.prog 66 #[.agg (r3 x' a)] W (fun e w' => e = .returned (.bool true) ∧ Below W.heap.size W w') from by have := exists_any x'.p a.A a.D x'.l.length x'.m.length a.c a.d W (by omega); rwa [decide_eq_true hx1] at this)
  have EY := Lib.hid (fun W => show Calls Tryz.prog 66 #[.agg (r3 y' b)] W (fun e w' => e = .returned (.bool true) ∧ Below W.heap.size W w') from by have := exists_any y'.p b.A b.D y'.l.length y'.m.length b.c b.d W (by omega); rwa [decide_eq_true hy1] at this)
  have h : Hid (∀ W, Below w.heap.size w W → Owns lo hi W (rows x' a ++ rows y' b)) := Lib.hid (fun W hb => h0.below hb)
  have hhj := hhi
  clear hx1 hx2 hy1 hy2 h0
  go_enter Tryz.func139, Tryz.ntmps139
  go_wp2_with fail
  have kb := ba3 w (.cells (r3 x' a) 29) (.cells (r3 y' b) 29) (.cells z6 31)
  obtain ⟨P_x, P_y, P_o⟩ := blocks3 w (.cells (r3 x' a) 29) (.cells (r3 y' b) 29) (.cells z6 31)
  generalize ((w.alloc (.cells (r3 x' a) 29)).alloc (.cells (r3 y' b) 29)).alloc (.cells z6 31) = W1 at kb P_x P_y P_o ⊢
  obtain ⟨rr, hrr⟩ : ∃ r, r = w.heap.size + 1 + 1 := ⟨_, rfl⟩
  rw [← hrr] at P_o ⊢
  have hrr3 : w.heap.size ≤ rr := by omega
  have hrr4 : hi ≤ rr := by omega
  clear hhi
  have nr_x : rr ≠ w.heap.size := by omega
  have nr_y : rr ≠ w.heap.size + 1 := by omega
  clear hrr
  refine (EX.out _).mono ?_
  rintro e W2 ⟨rfl, hb⟩
  replace P_x := rblk_below P_x hb
  replace P_y := rblk_below P_y hb
  replace P_o := rblk_below P_o hb
  replace kb := bt kb hb
  clear hb
  have c_x0 := rblk_cell P_x 0
  have c_x1 := rblk_cell P_x 1
  have c_x2 := rblk_cell P_x 2
  have c_y0 := rblk_cell P_y 0
  have c_y1 := rblk_cell P_y 1
  have c_y2 := rblk_cell P_y 2
  go_wp2_with fail
  clear c_x0 c_x1 c_x2 c_y0 c_y1 c_y2
  refine (EY.out _).mono ?_
  rintro e W3 ⟨rfl, hb⟩
  replace P_x := rblk_below P_x hb
  replace P_y := rblk_below P_y hb
  replace P_o := rblk_below P_o hb
  replace kb := bt kb hb
  clear hb
  have c_x0 := rblk_cell P_x 0
  have c_x1 := rblk_cell P_x 1
  have c_x2 := rblk_cell P_x 2
  have c_y0 := rblk_cell P_y 0
  have c_y1 := rblk_cell P_y 1
  have c_y2 := rblk_cell P_y 2
  have c_o0 := rblk_cell P_o 0
  have c_o1 := rblk_cell P_o 1
  have c_o2 := rblk_cell P_o 2
  have c_o3 := rblk_cell P_o 3
  have c_o4 := rblk_cell P_o 4
  have c_o5 := rblk_cell P_o 5
  have f_o0 := rblk_free P_o 0
  have f_o1 := rblk_free P_o 1
  have f_o2 := rblk_free P_o 2
  have f_o3 := rblk_free P_o 3
  have f_o4 := rblk_free P_o 4
  have f_o5 := rblk_free P_o 5
  go_wp2
  exact bodyPost_ret (v := .agg (r6 x' y' a b)) (by simp [results, Tryz.results139, go_sem, c_o0, c_o1, c_o2, c_o3, c_o4, c_o5]) rfl ⟨a, b, rfl, hcs, owns_old6 (h.out _ kb) hrr4 (below_put6 kb hrr3 _ _ _ _ _ _).size, hap, below_put6 kb hrr3 _ _ _ _ _ _⟩
theorem pointOf_n1 (lo : Nat) (x' y' : R3) (a b : Ad) (w : World) (hx1 : x'.m.length = 0) :
    Calls Tryz.prog 139 #[.agg (r3 x' a), .agg (r3 y' b)] w (MadeP lo noR noR w) := by
  have EX := Lib.hid (fun W => show Calls Tryz.prog 66 #[.agg (r3 x' a)] W (fun e w' => e = .returned (.bool false) ∧ Below W.heap.size W w') from by have := exists_any x'.p a.A a.D x'.l.length x'.m.length a.c a.d W (by omega); rwa [hx1, show decide (0 < 0) = false from rfl, ← hx1] at this)
  clear hx1
  go_enter Tryz.func139, Tryz.ntmps139
  go_wp2_with fail
  have kb := ba3 w (.cells (r3 x' a) 29) (.cells (r3 y' b) 29) (.cells z6 31)
  obtain ⟨P_x, P_y, P_o⟩ := blocks3 w (.cells (r3 x' a) 29) (.cells (r3 y' b) 29) (.cells z6 31)
  generalize ((w.alloc (.cells (r3 x' a) 29)).alloc (.cells (r3 y' b) 29)).alloc (.cells z6 31) = W1 at kb P_x P_y P_o ⊢
  obtain ⟨rr, hrr⟩ : ∃ r, r = w.heap.size + 1 + 1 := ⟨_, rfl⟩
  rw [← hrr] at P_o ⊢
  have hrr3 : w.heap.size ≤ rr := by omega
  have nr_x : rr ≠ w.heap.size := by omega
  have nr_y : rr ≠ w.heap.size + 1 := by omega
  clear hrr
  refine (EX.out _).mono ?_
  rintro e W2 ⟨rfl, hb⟩
  replace P_x := rblk_below P_x hb
  replace P_y := rblk_below P_y hb
  replace P_o := rblk_below P_o hb
  replace kb := bt kb hb
  clear hb
  have c_o0 := rblk_cell P_o 0
  have c_o1 := rblk_cell P_o 1
  have c_o2 := rblk_cell P_o 2
  have c_o3 := rblk_cell P_o 3
  have c_o4 := rblk_cell P_o 4
  have c_o5 := rblk_cell P_o 5
  have f_o0 := rblk_free P_o 0
  have f_o1 := rblk_free P_o 1
  have f_o2 := rblk_free P_o 2
  have f_o3 := rblk_free P_o 3
  have f_o4 := rblk_free P_o 4
  have f_o5 := rblk_free P_o 5
  go_wp2
  exact bodyPost_ret (v := .agg z6) (by simp [results, Tryz.results139, go_sem, c_o0, c_o1, c_o2, c_o3, c_o4, c_o5]) rfl (none_point _ _ _ (below_put6 kb hrr3 _ _ _ _ _ _))
theorem pointOf_n2 (lo : Nat) (x' y' : R3) (a b : Ad) (w : World) (hx1 : 0 < x'.m.length) (hx2 : x'.m.length ≤ 24) (hy1 : y'.m.length = 0) :
    Calls Tryz.prog 139 #[.agg (r3 x' a), .agg (r3 y' b)] w (MadeP lo noR noR w) := by
  have EX := Lib.hid (fun W => show Calls Tryz.prog 66 #[.agg (r3 x' a)] W (fun e w' => e = .returned (.bool true) ∧ Below W.heap.size W w') from by have := exists_any x'.p a.A a.D x'.l.length x'.m.length a.c a.d W (by omega); rwa [decide_eq_true hx1] at this)
  have EY := Lib.hid (fun W => show Calls Tryz.prog 66 #[.agg (r3 y' b)] W (fun e w' => e = .returned (.bool false) ∧ Below W.heap.size W w') from by have := exists_any y'.p b.A b.D y'.l.length y'.m.length b.c b.d W (by omega); rwa [hy1, show decide (0 < 0) = false from rfl, ← hy1] at this)
  clear hx1 hx2 hy1
  go_enter Tryz.func139, Tryz.ntmps139
  go_wp2_with fail
  have kb := ba3 w (.cells (r3 x' a) 29) (.cells (r3 y' b) 29) (.cells z6 31)
  obtain ⟨P_x, P_y, P_o⟩ := blocks3 w (.cells (r3 x' a) 29) (.cells (r3 y' b) 29) (.cells z6 31)
  generalize ((w.alloc (.cells (r3 x' a) 29)).alloc (.cells (r3 y' b) 29)).alloc (.cells z6 31) = W1 at kb P_x P_y P_o ⊢
  obtain ⟨rr, hrr⟩ : ∃ r, r = w.heap.size + 1 + 1 := ⟨_, rfl⟩
  rw [← hrr] at P_o ⊢
  have hrr3 : w.heap.size ≤ rr := by omega
  have nr_x : rr ≠ w.heap.size := by omega
  have nr_y : rr ≠ w.heap.size + 1 := by omega
  clear hrr
  refine (EX.out _).mono ?_
  rintro e W2 ⟨rfl, hb⟩
  replace P_x := rblk_below P_x hb
  replace P_y := rblk_below P_y hb
  replace P_o := rblk_below P_o hb
  replace kb := bt kb hb
  clear hb
  have c_x0 := rblk_cell P_x 0
  have c_x1 := rblk_cell P_x 1
  have c_x2 := rblk_cell P_x 2
  have c_y0 := rblk_cell P_y 0
  have c_y1 := rblk_cell P_y 1
  have c_y2 := rblk_cell P_y 2
  go_wp2_with fail
  clear c_x0 c_x1 c_x2 c_y0 c_y1 c_y2
  refine (EY.out _).mono ?_
  rintro e W3 ⟨rfl, hb⟩
  replace P_x := rblk_below P_x hb
  replace P_y := rblk_below P_y hb
  replace P_o := rblk_below P_o hb
  replace kb := bt kb hb
  clear hb
  have c_o0 := rblk_cell P_o 0
  have c_o1 := rblk_cell P_o 1
  have c_o2 := rblk_cell P_o 2
  have c_o3 := rblk_cell P_o 3
  have c_o4 := rblk_cell P_o 4
  have c_o5 := rblk_cell P_o 5
  have f_o0 := rblk_free P_o 0
  have f_o1 := rblk_free P_o 1
  have f_o2 := rblk_free P_o 2
  have f_o3 := rblk_free P_o 3
  have f_o4 := rblk_free P_o 4
  have f_o5 := rblk_free P_o 5
  go_wp2
  exact bodyPost_ret (v := .agg z6) (by simp [results, Tryz.results139, go_sem, c_o0, c_o1, c_o2, c_o3, c_o4, c_o5]) rfl (none_point _ _ _ (below_put6 kb hrr3 _ _ _ _ _ _))
theorem pointOf_any (lo hi : Nat) (x y : Option Rat) (a b : Ad) (w : World) (hx : FitO x) (hy : FitO y) (hhi : hi ≤ w.heap.size) (hcs : (ofO x).l.length ≤ a.c ∧ (ofO x).m.length ≤ a.d ∧ (ofO y).l.length ≤ b.c ∧ (ofO y).m.length ≤ b.d) (h0 : Owns lo hi w (rows (ofO x) a ++ rows (ofO y) b)) (hap : Aparts (rows (ofO x) a ++ rows (ofO y) b)) :
    Calls Tryz.prog 139 #[.agg (r3 (ofO x) a), .agg (r3 (ofO y) b)] w (MadeP lo (ofO (bothX x y)) (ofO (bothY x y)) w) := by
  cases x with
  | none => rw [(both_n1 y).1, (both_n1 y).2]; exact pointOf_n1 lo noR (ofO y) a b w rfl
  | some r =>
    have lr := (FitO.len hx).2
    have pr : 0 < (ofO (some r)).m.length := by show 0 < (nd r.den).length; rw [nd_length, ln_pos r.den_pos]; omega
    cases y with
    | none => rw [(both_n2 (some r)).1, (both_n2 (some r)).2]; exact pointOf_n2 lo (ofO (some r)) noR a b w pr lr rfl
    | some s =>
      have ls := (FitO.len hy).2
      have ps : 0 < (ofO (some s)).m.length := by show 0 < (nd s.den).length; rw [nd_length, ln_pos s.den_pos]; omega
      exact pointOf_yes lo hi (ofO (some r)) (ofO (some s)) a b w pr lr ps ls hhi hcs h0 hap
theorem plusP_r (px py qx qy : Option Rat) (pa pb qa qb : Ad) (w : World) (fpx : FitO px) (fpy : FitO py) (fqx : FitO qx) (fqy : FitO qy)
    (hp : Rds w (rows (ofO px) pa ++ rows (ofO py) pb)) (hq : Rds w (rows (ofO qx) qa ++ rows (ofO qy) qb)) :
    Calls Tryz.prog 74 #[.agg (r6 (ofO px) (ofO py) pa pb), .agg (r6 (ofO qx) (ofO qy) qa qb)] w (MadeP w.heap.size (ofO (bothX (binQ addQ px qx) (binQ addQ py qy))) (ofO (bothY (binQ addQ px qx) (binQ addQ py qy))) w) := by
  have HX := Lib.hid (fun W h h' => plus_r px qx pa qa W fpx fqx h h')
  have HY := Lib.hid (fun W h h' => plus_r py qy pb qb W fpy fqy h h')
  have HP := Lib.hid (fun lo hi a b W hh hc hO hA => pointOf_any lo hi (binQ addQ px qx) (binQ addQ py qy) a b W (addO_fit _ _) (addO_fit _ _) hh hc hO hA)
  have RR : Hid (∀ W, Below w.heap.size w W → Rds W (rows (ofO px) pa) ∧ Rds W (rows (ofO py) pb) ∧ Rds W (rows (ofO qx) qa) ∧ Rds W (rows (ofO qy) qb)) := Lib.hid (fun W hb => ⟨(rds_l hp).below hb, (rds_r hp).below hb, (rds_l hq).below hb, (rds_r hq).below hb⟩)
  clear fpx fpy fqx fqy hp hq
  generalize ofO (bothX (binQ addQ px qx) (binQ addQ py qy)) = U at HP ⊢
  generalize ofO (bothY (binQ addQ px qx) (binQ addQ py qy)) = V at HP ⊢
  generalize ofO (binQ addQ px qx) = x1 at HX HP
  generalize ofO (binQ addQ py qy) = y1 at HY HP
  generalize ofO px = pX at *
  generalize ofO py = pY at *
  generalize ofO qx = qX at *
  generalize ofO qy = qY at *
  go_enter Tryz.func74, Tryz.ntmps74
  go_wp2_with fail
  have kb := ba3 w (.cells (r6 pX pY pa pb) 31) (.cells (r6 qX qY qa qb) 31) (.cells z6 31)
  obtain ⟨P_p, P_q, P_o⟩ := blocks3 w (.cells (r6 pX pY pa pb) 31) (.cells (r6 qX qY qa qb) 31) (.cells z6 31)
  generalize ((w.alloc (.cells (r6 pX pY pa pb) 31)).alloc (.cells (r6 qX qY qa qb) 31)).alloc (.cells z6 31) = W1 at kb P_p P_q P_o ⊢
  obtain ⟨rr, hrr⟩ : ∃ r, r = w.heap.size + 1 + 1 := ⟨_, rfl⟩
  rw [← hrr] at P_o ⊢
  have hrr3 : w.heap.size ≤ rr := by omega
  have nr_p : rr ≠ w.heap.size := by omega
  have nr_q : rr ≠ w.heap.size + 1 := by omega
  clear hrr
  have hlt0 := rblk_lt P_o
  have hle0 := kb.size
  have SB : Hid (∀ w', Keep6 W1 w' rr → (w'.cell? ⟨w.heap.size, 0, none⟩ = some (.bool pX.p) ∧ w'.cell? ⟨w.heap.size, 1, none⟩ = some (.slice pa.A pX.l.length pa.c) ∧ w'.cell? ⟨w.heap.size, 2, none⟩ = some (.slice pa.D pX.m.length pa.d) ∧ w'.cell? ⟨w.heap.size, 3, none⟩ = some (.bool pY.p) ∧ w'.cell? ⟨w.heap.size, 4, none⟩ = some (.slice pb.A pY.l.length pb.c) ∧ w'.cell? ⟨w.heap.size, 5, none⟩ = some (.slice pb.D pY.m.length pb.d) ∧ w'.cell? ⟨w.heap.size + 1, 0, none⟩ = some (.bool qX.p) ∧ w'.cell? ⟨w.heap.size + 1, 1, none⟩ = some (.slice qa.A qX.l.length qa.c) ∧ w'.cell? ⟨w.heap.size + 1, 2, none⟩ = some (.slice qa.D qX.m.length qa.d) ∧ w'.cell? ⟨w.heap.size + 1, 3, none⟩ = some (.bool qY.p) ∧ w'.cell? ⟨w.heap.size + 1, 4, none⟩ = some (.slice qb.A qY.l.length qb.c) ∧ w'.cell? ⟨w.heap.size + 1, 5, none⟩ = some (.slice qb.D qY.m.length qb.d) ∧ Keep6 W1 w' rr)) := Lib.hid (fun w' hK => ⟨rblk_cell (hK.block P_p nr_p) 0, rblk_cell (hK.block P_p nr_p) 1, rblk_cell (hK.block P_p nr_p) 2, rblk_cell (hK.block P_p nr_p) 3, rblk_cell (hK.block P_p nr_p) 4, rblk_cell (hK.block P_p nr_p) 5, rblk_cell (hK.block P_q nr_q) 0, rblk_cell (hK.block P_q nr_q) 1, rblk_cell (hK.block P_q nr_q) 2, rblk_cell (hK.block P_q nr_q) 3, rblk_cell (hK.block P_q nr_q) 4, rblk_cell (hK.block P_q nr_q) 5, hK⟩)
  have KW := Lib.hid kb
  have KST := Keep6.start P_o
  clear kb
  go_region_held3 (fun w' => w'.cell? ⟨w.heap.size, 0, none⟩ = some (.bool pX.p) ∧ w'.cell? ⟨w.heap.size, 1, none⟩ = some (.slice pa.A pX.l.length pa.c) ∧ w'.cell? ⟨w.heap.size, 2, none⟩ = some (.slice pa.D pX.m.length pa.d) ∧ w'.cell? ⟨w.heap.size, 3, none⟩ = some (.bool pY.p) ∧ w'.cell? ⟨w.heap.size, 4, none⟩ = some (.slice pb.A pY.l.length pb.c) ∧ w'.cell? ⟨w.heap.size, 5, none⟩ = some (.slice pb.D pY.m.length pb.d) ∧ w'.cell? ⟨w.heap.size + 1, 0, none⟩ = some (.bool qX.p) ∧ w'.cell? ⟨w.heap.size + 1, 1, none⟩ = some (.slice qa.A qX.l.length qa.c) ∧ w'.cell? ⟨w.heap.size + 1, 2, none⟩ = some (.slice qa.D qX.m.length qa.d) ∧ w'.cell? ⟨w.heap.size + 1, 3, none⟩ = some (.bool qY.p) ∧ w'.cell? ⟨w.heap.size + 1, 4, none⟩ = some (.slice qb.A qY.l.length qb.c) ∧ w'.cell? ⟨w.heap.size + 1, 5, none⟩ = some (.slice qb.D qY.m.length qb.d) ∧ Keep6 W1 w' rr)
    (first | (with_reducible exact SB.out _ KST.drew) | (with_reducible exact SB.out _ KST) | (go_split_ands; with_reducible refine SB.out _ ?_; with_reducible refine Keep6.put6 ?_ _ _ _ _ _ _; with_reducible assumption) | (with_reducible exact SB.out _ (KST.below (ba1 _ _))) | (with_reducible exact SB.out _ (KST.drew.below (ba1 _ _))) | (go_split_ands; with_reducible exact SB.out _ (Keep6.below (by assumption : Keep6 W1 _ rr) hb)) | (go_split_ands; with_reducible exact SB.out _ (Keep6.below (by assumption : Keep6 W1 _ rr) (ba1 _ _))))
    (first | (go_at_call 78; go_split_ands; ((with_reducible refine (HX.out _ (RR.out _ (Keep6.base (by assumption : Keep6 W1 _ rr) KW.out hrr3)).1 (RR.out _ (Keep6.base (by assumption : Keep6 W1 _ rr) KW.out hrr3)).2.2.1).mono ?_); rintro e Wn1_0 ⟨a1, rfl, hc1, hc2, o1, hap1, hb⟩; have hz1 := hb.size)) | (go_at_call 78; go_split_ands; ((with_reducible refine (HY.out _ (RR.out _ (Keep6.base (by assumption : Keep6 W1 _ rr) KW.out hrr3)).2.1 (RR.out _ (Keep6.base (by assumption : Keep6 W1 _ rr) KW.out hrr3)).2.2.2).mono ?_); rintro e Wn1_1 ⟨b1, rfl, hc3, hc4, o2, hap2, hb⟩; have hz2 := hb.size; (first | replace o1 := o1.below hb | replace o1 := (Owns.drew o1).below hb | replace o1 := (o1.below (ba1 _ _)).below hb | replace o1 := (Owns.drew (o1.below (ba1 _ _))).below hb))) | (go_at_call 139; go_split_ands; ((with_reducible refine (HP.out _ _ _ _ _ (Nat.le_refl _) ⟨hc1, hc2, hc3, hc4⟩ (Owns.app (o1.wide (Nat.le_refl _) hz2) (o2.wide hz1 (Nat.le_refl _))) (Aparts.app hap1 hap2 o1 o2)).mono ?_); rintro e Wn1_2 ⟨a3, b3, rfl, hcs, o3, hap3, hb⟩; have KL := Keep6.below (by assumption : Keep6 W1 _ rr) hb; obtain ⟨u0, u1, u2, u3, u4, u5, t0, t1, t2, t3, t4, t5, t6, t7, t8, t9, t10, t11⟩ := KL.cells)))
  all_goals
    have hfin := (‹_ ∧ _ ∧ _ ∧ _ ∧ _ ∧ _ ∧ _ ∧ _ ∧ _ ∧ _ ∧ _ ∧ _ ∧ Keep6 W1 _ rr›).2.2.2.2.2.2.2.2.2.2.2.2
    go_wp2
    exact bodyPost_ret (v := .agg (r6 U V a3 b3)) (by simp [results, Tryz.results74, go_sem, t0, t1, t2, t3, t4, t5]) rfl ⟨a3, b3, rfl, hcs, owns_end6 o3 (.inl hlt0) hle0 (Nat.le_refl _) _ _ _ _ _ _, hap3, hfin.base KW.out hrr3⟩
theorem timesP_r (px py rx : Option Rat) (pa pb ra : Ad) (w : World) (fpx : FitO px) (fpy : FitO py) (frx : FitO rx)
    (hp : Rds w (rows (ofO px) pa ++ rows (ofO py) pb)) (hr : Rds w (rows (ofO rx) ra)) :
    Calls Tryz.prog 75 #[.agg (r6 (ofO px) (ofO py) pa pb), .agg (r3 (ofO rx) ra)] w (MadeP w.heap.size (ofO (bothX (binQ mulQ rx px) (binQ mulQ rx py))) (ofO (bothY (binQ mulQ rx px) (binQ mulQ rx py))) w) := by
  have HX := Lib.hid (fun W h h' => times_r rx px ra pa W frx fpx h h')
  have HY := Lib.hid (fun W h h' => times_r rx py ra pb W frx fpy h h')
  have HP := Lib.hid (fun lo hi a b W hh hc hO hA => pointOf_any lo hi (binQ mulQ rx px) (binQ mulQ rx py) a b W (mulO_fit _ _) (mulO_fit _ _) hh hc hO hA)
  have RR : Hid (∀ W, Below w.heap.size w W → Rds W (rows (ofO px) pa) ∧ Rds W (rows (ofO py) pb) ∧ Rds W (rows (ofO rx) ra)) := Lib.hid (fun W hb => ⟨(rds_l hp).below hb, (rds_r hp).below hb, hr.below hb⟩)
  clear fpx fpy frx hp hr
  generalize ofO (bothX (binQ mulQ rx px) (binQ mulQ rx py)) = U at HP ⊢
  generalize ofO (bothY (binQ mulQ rx px) (binQ mulQ rx py)) = V at HP ⊢
  generalize ofO (binQ mulQ rx px) = x1 at HX HP
  generalize ofO (binQ mulQ rx py) = y1 at HY HP
  generalize ofO px = pX at *
  generalize ofO py = pY at *
  generalize ofO rx = rX at *
  go_enter Tryz.func75, Tryz.ntmps75
  go_wp2_with fail
  have kb := ba3 w (.cells (r6 pX pY pa pb) 31) (.cells (r3 rX ra) 29) (.cells z6 31)
  obtain ⟨P_p, P_r, P_o⟩ := blocks3 w (.cells (r6 pX pY pa pb) 31) (.cells (r3 rX ra) 29) (.cells z6 31)
  generalize ((w.alloc (.cells (r6 pX pY pa pb) 31)).alloc (.cells (r3 rX ra) 29)).alloc (.cells z6 31) = W1 at kb P_p P_r P_o ⊢
  obtain ⟨rr, hrr⟩ : ∃ r, r = w.heap.size + 1 + 1 := ⟨_, rfl⟩
  rw [← hrr] at P_o ⊢
  have hrr3 : w.heap.size ≤ rr := by omega
  have nr_p : rr ≠ w.heap.size := by omega
  have nr_r : rr ≠ w.heap.size + 1 := by omega
  clear hrr
  have hlt0 := rblk_lt P_o
  have hle0 := kb.size
  have SB : Hid (∀ w', Keep6 W1 w' rr → (w'.cell? ⟨w.heap.size, 0, none⟩ = some (.bool pX.p) ∧ w'.cell? ⟨w.heap.size, 1, none⟩ = some (.slice pa.A pX.l.length pa.c) ∧ w'.cell? ⟨w.heap.size, 2, none⟩ = some (.slice pa.D pX.m.length pa.d) ∧ w'.cell? ⟨w.heap.size, 3, none⟩ = some (.bool pY.p) ∧ w'.cell? ⟨w.heap.size, 4, none⟩ = some (.slice pb.A pY.l.length pb.c) ∧ w'.cell? ⟨w.heap.size, 5, none⟩ = some (.slice pb.D pY.m.length pb.d) ∧ w'.cell? ⟨w.heap.size + 1, 0, none⟩ = some (.bool rX.p) ∧ w'.cell? ⟨w.heap.size + 1, 1, none⟩ = some (.slice ra.A rX.l.length ra.c) ∧ w'.cell? ⟨w.heap.size + 1, 2, none⟩ = some (.slice ra.D rX.m.length ra.d) ∧ Keep6 W1 w' rr)) := Lib.hid (fun w' hK => ⟨rblk_cell (hK.block P_p nr_p) 0, rblk_cell (hK.block P_p nr_p) 1, rblk_cell (hK.block P_p nr_p) 2, rblk_cell (hK.block P_p nr_p) 3, rblk_cell (hK.block P_p nr_p) 4, rblk_cell (hK.block P_p nr_p) 5, rblk_cell (hK.block P_r nr_r) 0, rblk_cell (hK.block P_r nr_r) 1, rblk_cell (hK.block P_r nr_r) 2, hK⟩)
  have KW := Lib.hid kb
  have KST := Keep6.start P_o
  clear kb
  go_region_held3 (fun w' => w'.cell? ⟨w.heap.size, 0, none⟩ = some (.bool pX.p) ∧ w'.cell? ⟨w.heap.size, 1, none⟩ = some (.slice pa.A pX.l.length pa.c) ∧ w'.cell? ⟨w.heap.size, 2, none⟩ = some (.slice pa.D pX.m.length pa.d) ∧ w'.cell? ⟨w.heap.size, 3, none⟩ = some (.bool pY.p) ∧ w'.cell? ⟨w.heap.size, 4, none⟩ = some (.slice pb.A pY.l.length pb.c) ∧ w'.cell? ⟨w.heap.size, 5, none⟩ = some (.slice pb.D pY.m.length pb.d) ∧ w'.cell? ⟨w.heap.size + 1, 0, none⟩ = some (.bool rX.p) ∧ w'.cell? ⟨w.heap.size + 1, 1, none⟩ = some (.slice ra.A rX.l.length ra.c) ∧ w'.cell? ⟨w.heap.size + 1, 2, none⟩ = some (.slice ra.D rX.m.length ra.d) ∧ Keep6 W1 w' rr)
    (first | (with_reducible exact SB.out _ KST.drew) | (with_reducible exact SB.out _ KST) | (go_split_ands; with_reducible refine SB.out _ ?_; with_reducible refine Keep6.put6 ?_ _ _ _ _ _ _; with_reducible assumption) | (with_reducible exact SB.out _ (KST.below (ba1 _ _))) | (with_reducible exact SB.out _ (KST.drew.below (ba1 _ _))) | (go_split_ands; with_reducible exact SB.out _ (Keep6.below (by assumption : Keep6 W1 _ rr) hb)) | (go_split_ands; with_reducible exact SB.out _ (Keep6.below (by assumption : Keep6 W1 _ rr) (ba1 _ _))))
    (first | (go_at_call 140; go_split_ands; ((with_reducible refine (HX.out _ (RR.out _ (Keep6.base (by assumption : Keep6 W1 _ rr) KW.out hrr3)).2.2 (RR.out _ (Keep6.base (by assumption : Keep6 W1 _ rr) KW.out hrr3)).1).mono ?_); rintro e Wn1_0 ⟨a1, rfl, hc1, hc2, o1, hap1, hb⟩; have hz1 := hb.size)) | (go_at_call 140; go_split_ands; ((with_reducible refine (HY.out _ (RR.out _ (Keep6.base (by assumption : Keep6 W1 _ rr) KW.out hrr3)).2.2 (RR.out _ (Keep6.base (by assumption : Keep6 W1 _ rr) KW.out hrr3)).2.1).mono ?_); rintro e Wn1_1 ⟨b1, rfl, hc3, hc4, o2, hap2, hb⟩; have hz2 := hb.size; (first | replace o1 := o1.below hb | replace o1 := (Owns.drew o1).below hb | replace o1 := (o1.below (ba1 _ _)).below hb | replace o1 := (Owns.drew (o1.below (ba1 _ _))).below hb))) | (go_at_call 139; go_split_ands; ((with_reducible refine (HP.out _ _ _ _ _ (Nat.le_refl _) ⟨hc1, hc2, hc3, hc4⟩ (Owns.app (o1.wide (Nat.le_refl _) hz2) (o2.wide hz1 (Nat.le_refl _))) (Aparts.app hap1 hap2 o1 o2)).mono ?_); rintro e Wn1_2 ⟨a3, b3, rfl, hcs, o3, hap3, hb⟩; have KL := Keep6.below (by assumption : Keep6 W1 _ rr) hb; obtain ⟨u0, u1, u2, u3, u4, u5, t0, t1, t2, t3, t4, t5, t6, t7, t8, t9, t10, t11⟩ := KL.cells)))
  all_goals
    have hfin := (‹_ ∧ _ ∧ _ ∧ _ ∧ _ ∧ _ ∧ _ ∧ _ ∧ _ ∧ Keep6 W1 _ rr›).2.2.2.2.2.2.2.2.2
    go_wp2
    exact bodyPost_ret (v := .agg (r6 U V a3 b3)) (by simp [results, Tryz.results75, go_sem, t0, t1, t2, t3, t4, t5]) rfl ⟨a3, b3, rfl, hcs, owns_end6 o3 (.inl hlt0) hle0 (Nat.le_refl _) _ _ _ _ _ _, hap3, hfin.base KW.out hrr3⟩
end Go.Proofs.YtppdholccpgcpaaGreat
