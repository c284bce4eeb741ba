/-
  Is a point an end of a triangle's side? Then it has no area beside it.
-/
import Derived.Test.YtaohiacpdljacaaGreatTriC
import Derived.Test.YtaohiacpdljacaaGreatTriS
import Derived.Test.YtaohiacpdljacaaGreatSameA
namespace Go.Proofs.YtaohiacpdljacaaGreat
set_option maxHeartbeats 2000000
open Go.ChangeShapes Go.WideShapes Go.ChangeAt Go.RowKit
set_option linter.unusedVariables false
set_option linter.unusedSimpArgs false
set_option maxRecDepth 4000
attribute [local go_sem ↓] Go.wp_at_zero Go.wp_at_succ
/-- The same point, by the data. -/
def sameB (u a : PV) : Bool := sameR u.x a.x && sameR u.y a.y
theorem sameR_val {x u : R3} (h : sameR x u = true) : valx x = valx u := by
  unfold sameR at h
  simp only [Bool.and_eq_true, decide_eq_true_eq] at h
  unfold valx
  rw [h.1.1, h.1.2, h.2]
theorem sameV (u a : PV) (w : World) (hu : NiceP u) (ha : NiceP a) (h : Rds w (prow u)) (h' : Rds w (prow a)) :
    Calls Tryz.prog 172 #[.agg #[.bool u.x.p, .slice u.a.A u.x.l.length u.a.c, .slice u.a.D u.x.m.length u.a.d, .bool u.y.p, .slice u.b.A u.y.l.length u.b.c, .slice u.b.D u.y.m.length u.b.d], .agg #[.bool a.x.p, .slice a.a.A a.x.l.length a.a.c, .slice a.a.D a.x.m.length a.a.d, .bool a.y.p, .slice a.b.A a.y.l.length a.b.c, .slice a.b.D a.y.m.length a.b.d]] w (fun e w' => e = .returned (.bool (sameB u a)) ∧ Below w.heap.size w w') := by
  have s1 := len_nice hu.1
  have s2 := len_nice hu.2
  have s3 := len_nice ha.1
  have s4 := len_nice ha.2
  exact impl_sameA u.x u.y a.x a.y u.a u.b a.a a.b w ⟨by omega, by omega⟩ ⟨by omega, by omega⟩ ⟨by omega, by omega⟩ ⟨by omega, by omega⟩ h h'
/-- Zero, or none. -/
def Zo (o : Option Rat) : Prop := o = none ∨ o = some 0
theorem cut0 : cutQ 0 = some 0 := cutQ_in (by constructor <;> first | decide | (show ln _ ≤ _; decide +kernel))
theorem zo_sub_self (o : Option Rat) : Zo (binQ subQ o o) := by
  cases o with
  | none => exact .inl rfl
  | some r => right; show cutQ (r - r) = some 0; rw [show r - r = 0 by grind]; exact cut0
theorem zo_sub {o q : Option Rat} (h : Zo o) (h' : Zo q) : Zo (binQ subQ o q) := by
  rcases h with rfl | rfl <;> rcases h' with rfl | rfl
  · exact .inl rfl
  · exact .inl rfl
  · exact .inl rfl
  · exact zo_sub_self _
theorem zo_mul {o q : Option Rat} (h : Zo q) : Zo (binQ mulQ o q) := by
  cases o with
  | none => exact .inl (by cases q <;> rfl)
  | some r =>
    rcases h with rfl | rfl
    · exact .inl rfl
    · right; show cutQ (r * 0) = some 0; rw [show r * 0 = 0 by grind]; exact cut0
theorem mul_comm_o (o q : Option Rat) : binQ mulQ o q = binQ mulQ q o := by
  cases o <;> cases q <;> try rfl
  case some.some r s => show cutQ (r * s) = cutQ (s * r); rw [show r * s = s * r by grind]
theorem zo_bothX {x y : Option Rat} (h : Zo x) : Zo (bothX x y) := by unfold bothX; split; exact h; exact .inl rfl
theorem zo_bothY {x y : Option Rat} (h : Zo y) : Zo (bothY x y) := by unfold bothY; split; exact h; exact .inl rfl
theorem zo_sgn {o : Option Rat} (h : Zo o) : ¬ 0 < sgnO o := by rcases h with rfl | rfl <;> decide
theorem end_area {a b u : PV} (h : (sameB u a || sameB u b) = true) : ¬ 0 < sgnO (aV a b u) := by
  rw [Bool.or_eq_true] at h
  refine zo_sgn ?_
  unfold aV areaO
  rcases h with h | h
  · unfold sameB at h
    rw [Bool.and_eq_true] at h
    rw [sameR_val h.1, sameR_val h.2]
    refine zo_sub (zo_mul (zo_bothY (zo_sub_self _))) (zo_mul (zo_bothX (zo_sub_self _)))
  · unfold sameB at h
    rw [Bool.and_eq_true] at h
    rw [sameR_val h.1, sameR_val h.2, mul_comm_o]
    exact zo_sub_self _
theorem isEnd_0 (p q r u : PV) (w : World) (h : TriOk w p q r) (hu : NiceP u) (hr : Rds w (prow u)) :
    Calls Tryz.prog 152 #[.agg #[.bool p.x.p, .slice p.a.A p.x.l.length p.a.c, .slice p.a.D p.x.m.length p.a.d, .bool p.y.p, .slice p.b.A p.y.l.length p.b.c, .slice p.b.D p.y.m.length p.b.d, .bool q.x.p, .slice q.a.A q.x.l.length q.a.c, .slice q.a.D q.x.m.length q.a.d, .bool q.y.p, .slice q.b.A q.y.l.length q.b.c, .slice q.b.D q.y.m.length q.b.d, .bool r.x.p, .slice r.a.A r.x.l.length r.a.c, .slice r.a.D r.x.m.length r.a.d, .bool r.y.p, .slice r.b.A r.y.l.length r.b.c, .slice r.b.D r.y.m.length r.b.d], .int .i64 0, .agg #[.bool u.x.p, .slice u.a.A u.x.l.length u.a.c, .slice u.a.D u.x.m.length u.a.d, .bool u.y.p, .slice u.b.A u.y.l.length u.b.c, .slice u.b.D u.y.m.length u.b.d]] w (fun e w' => e = .returned (.bool (sameB u p || sameB u q)) ∧ Below w.heap.size w w') := by
  have H1 : Hid (∀ W, Below w.heap.size w W → Calls Tryz.prog 172 #[.agg #[.bool u.x.p, .slice u.a.A u.x.l.length u.a.c, .slice u.a.D u.x.m.length u.a.d, .bool u.y.p, .slice u.b.A u.y.l.length u.b.c, .slice u.b.D u.y.m.length u.b.d], .agg #[.bool p.x.p, .slice p.a.A p.x.l.length p.a.c, .slice p.a.D p.x.m.length p.a.d, .bool p.y.p, .slice p.b.A p.y.l.length p.b.c, .slice p.b.D p.y.m.length p.b.d]] W (fun e w' => e = .returned (.bool (sameB u p)) ∧ Below W.heap.size W w')) := Lib.hid (fun W hB => sameV u p W hu (h.1.1) (hr.below hB) (h.2.1.below hB))
  have H2 : Hid (∀ W, Below w.heap.size w W → Calls Tryz.prog 172 #[.agg #[.bool u.x.p, .slice u.a.A u.x.l.length u.a.c, .slice u.a.D u.x.m.length u.a.d, .bool u.y.p, .slice u.b.A u.y.l.length u.b.c, .slice u.b.D u.y.m.length u.b.d], .agg #[.bool q.x.p, .slice q.a.A q.x.l.length q.a.c, .slice q.a.D q.x.m.length q.a.d, .bool q.y.p, .slice q.b.A q.y.l.length q.b.c, .slice q.b.D q.y.m.length q.b.d]] W (fun e w' => e = .returned (.bool (sameB u q)) ∧ Below W.heap.size W w')) := Lib.hid (fun W hB => sameV u q W hu (h.1.2.1) (hr.below hB) (h.2.2.1.below hB))
  have HC := Lib.hid (fun W => corner_1 p q r W)
  clear h hu hr
  generalize sameB u p = b1 at H1 ⊢
  generalize sameB u q = b2 at H2 ⊢
  obtain ⟨P_t, P_u⟩ := blocks2 w (.cells #[.bool p.x.p, .slice p.a.A p.x.l.length p.a.c, .slice p.a.D p.x.m.length p.a.d, .bool p.y.p, .slice p.b.A p.y.l.length p.b.c, .slice p.b.D p.y.m.length p.b.d, .bool q.x.p, .slice q.a.A q.x.l.length q.a.c, .slice q.a.D q.x.m.length q.a.d, .bool q.y.p, .slice q.b.A q.y.l.length q.b.c, .slice q.b.D q.y.m.length q.b.d, .bool r.x.p, .slice r.a.A r.x.l.length r.a.c, .slice r.a.D r.x.m.length r.a.d, .bool r.y.p, .slice r.b.A r.y.l.length r.b.c, .slice r.b.D r.y.m.length r.b.d] 53) (.cells #[.bool u.x.p, .slice u.a.A u.x.l.length u.a.c, .slice u.a.D u.x.m.length u.a.d, .bool u.y.p, .slice u.b.A u.y.l.length u.b.c, .slice u.b.D u.y.m.length u.b.d] 31)
  have kb := ba2 w (.cells #[.bool p.x.p, .slice p.a.A p.x.l.length p.a.c, .slice p.a.D p.x.m.length p.a.d, .bool p.y.p, .slice p.b.A p.y.l.length p.b.c, .slice p.b.D p.y.m.length p.b.d, .bool q.x.p, .slice q.a.A q.x.l.length q.a.c, .slice q.a.D q.x.m.length q.a.d, .bool q.y.p, .slice q.b.A q.y.l.length q.b.c, .slice q.b.D q.y.m.length q.b.d, .bool r.x.p, .slice r.a.A r.x.l.length r.a.c, .slice r.a.D r.x.m.length r.a.d, .bool r.y.p, .slice r.b.A r.y.l.length r.b.c, .slice r.b.D r.y.m.length r.b.d] 53) (.cells #[.bool u.x.p, .slice u.a.A u.x.l.length u.a.c, .slice u.a.D u.x.m.length u.a.d, .bool u.y.p, .slice u.b.A u.y.l.length u.b.c, .slice u.b.D u.y.m.length u.b.d] 31)
  go_enter Tryz.func152, Tryz.ntmps152
  go_wp2_with fail
  generalize (w.alloc (.cells #[.bool p.x.p, .slice p.a.A p.x.l.length p.a.c, .slice p.a.D p.x.m.length p.a.d, .bool p.y.p, .slice p.b.A p.y.l.length p.b.c, .slice p.b.D p.y.m.length p.b.d, .bool q.x.p, .slice q.a.A q.x.l.length q.a.c, .slice q.a.D q.x.m.length q.a.d, .bool q.y.p, .slice q.b.A q.y.l.length q.b.c, .slice q.b.D q.y.m.length q.b.d, .bool r.x.p, .slice r.a.A r.x.l.length r.a.c, .slice r.a.D r.x.m.length r.a.d, .bool r.y.p, .slice r.b.A r.y.l.length r.b.c, .slice r.b.D r.y.m.length r.b.d] 53)).alloc (.cells #[.bool u.x.p, .slice u.a.A u.x.l.length u.a.c, .slice u.a.D u.x.m.length u.a.d, .bool u.y.p, .slice u.b.A u.y.l.length u.b.c, .slice u.b.D u.y.m.length u.b.d] 31) = W1 at P_t P_u kb ⊢
  have hi1 : IntKind.i64.wrap (0 + 1) = 1 := by decide
  cases b1 with
  | true =>
    refine wp_region_held_drew (S := fun w' => w'.heap[w.heap.size]? = some (.cells #[.bool p.x.p, .slice p.a.A p.x.l.length p.a.c, .slice p.a.D p.x.m.length p.a.d, .bool p.y.p, .slice p.b.A p.y.l.length p.b.c, .slice p.b.D p.y.m.length p.b.d, .bool q.x.p, .slice q.a.A q.x.l.length q.a.c, .slice q.a.D q.x.m.length q.a.d, .bool q.y.p, .slice q.b.A q.y.l.length q.b.c, .slice q.b.D q.y.m.length q.b.d, .bool r.x.p, .slice r.a.A r.x.l.length r.a.c, .slice r.a.D r.x.m.length r.a.d, .bool r.y.p, .slice r.b.A r.y.l.length r.b.c, .slice r.b.D r.y.m.length r.b.d] 53 (0, 0)) ∧ w'.heap[w.heap.size + 1]? = some (.cells #[.bool u.x.p, .slice u.a.A u.x.l.length u.a.c, .slice u.a.D u.x.m.length u.a.d, .bool u.y.p, .slice u.b.A u.y.l.length u.b.c, .slice u.b.D u.y.m.length u.b.d] 31 (0, 0)) ∧ Below w.heap.size w w') (by kernel_rfl) ⟨P_t, P_u, kb.drew⟩ (fun hHeld => ?_)
    clear P_t P_u kb
    refine tk (i := 0) (v := ?vg1_1) rfl (by kernel_rfl) (fun _ _ _ h => h) (Or.inl ⟨by rfl, ?hg1_1⟩) hHeld ?_
    case hg1_1 => (intro w hSw; (try dsimp only at hSw); have z0 := rblk_cell hSw.2.1 0; have z1 := rblk_cell hSw.2.1 1; have z2 := rblk_cell hSw.2.1 2; have z3 := rblk_cell hSw.2.1 3; have z4 := rblk_cell hSw.2.1 4; have z5 := rblk_cell hSw.2.1 5; clear hSw; go_simp; (try with_reducible rfl))
    try simp only [ps]
    refine tk (i := 1) (v := ?vg1_2) rfl (by kernel_rfl) (fun _ _ _ h => h) (Or.inl ⟨by rfl, ?hg1_2⟩) hHeld ?_
    case hg1_2 => (intro w hSw; (try dsimp only at hSw); clear hSw; go_simp; (try with_reducible rfl))
    try simp only [ps]
    refine tk (i := 2) (v := ?vg1_3) rfl (by kernel_rfl) (fun _ _ _ h => h) (Or.inl ⟨by rfl, ?hg1_3⟩) hHeld ?_
    case hg1_3 => (intro w hSw; (try dsimp only at hSw); clear hSw; go_simp; (try with_reducible rfl))
    try simp only [ps]
    refine tk (i := 3) (v := ?vg1_4) rfl (by kernel_rfl) (fun _ _ _ h => h) (Or.inl ⟨by rfl, ?hg1_4⟩) hHeld ?_
    case hg1_4 => (intro w hSw; (try dsimp only at hSw); have z0 := rblk_cell hSw.1 0; have z1 := rblk_cell hSw.1 1; have z2 := rblk_cell hSw.1 2; have z3 := rblk_cell hSw.1 3; have z4 := rblk_cell hSw.1 4; have z5 := rblk_cell hSw.1 5; clear hSw; go_simp; (try with_reducible rfl))
    try simp only [ps]
    refine rd1 (i := 4) (by kernel_rfl) rfl (fun K hK => ?_)
    go_simp
    (go_at_call 172; ((with_reducible refine (H1.out _ hHeld.2.2).mono ?_); rintro e Wr1_5 ⟨rfl, hb⟩))
    refine hK.out _ _ ⟨rblk_below hHeld.1 hb, rblk_below hHeld.2.1 hb, bt hHeld.2.2 hb⟩ (fun hH => ?_)
    replace hHeld := hH
    clear hK K hH
    clear hb
    try simp only [ps]
    refine tk (i := 5) (v := ?vg1_6) rfl (by kernel_rfl) (fun _ _ _ h => h) (Or.inl ⟨by rfl, ?hg1_6⟩) hHeld ?_
    case hg1_6 => (intro w hSw; (try dsimp only at hSw); clear hSw; go_simp; (try with_reducible rfl))
    try simp only [ps]
    refine tk (i := 6) (v := undef) rfl (by kernel_rfl) (fun _ _ _ h => h) (Or.inr ⟨by rfl, rfl⟩) hHeld ?_
    try simp only [ps]
    refine tk (i := 7) (v := undef) rfl (by kernel_rfl) (fun _ _ _ h => h) (Or.inr ⟨by rfl, rfl⟩) hHeld ?_
    try simp only [ps]
    refine tk (i := 8) (v := undef) rfl (by kernel_rfl) (fun _ _ _ h => h) (Or.inr ⟨by rfl, rfl⟩) hHeld ?_
    try simp only [ps]
    refine tk (i := 9) (v := undef) rfl (by kernel_rfl) (fun _ _ _ h => h) (Or.inr ⟨by rfl, rfl⟩) hHeld ?_
    try simp only [ps]
    refine tk (i := 10) (v := undef) rfl (by kernel_rfl) (fun _ _ _ h => h) (Or.inr ⟨by rfl, rfl⟩) hHeld ?_
    try simp only [ps]
    refine tk (i := 11) (v := undef) rfl (by kernel_rfl) (fun _ _ _ h => h) (Or.inr ⟨by rfl, rfl⟩) hHeld ?_
    try simp only [ps]
    refine tk (i := 12) (v := ?vg1_13) rfl (by kernel_rfl) (fun _ _ _ h => h) (Or.inl ⟨by rfl, ?hg1_13⟩) hHeld ?_
    case hg1_13 => (intro w hSw; (try dsimp only at hSw); clear hSw; go_simp; (try with_reducible rfl))
    try simp only [ps]
    refine tk (i := 13) (v := ?vg1_14) rfl (by kernel_rfl) (fun _ _ _ h => h) (Or.inl ⟨by rfl, ?hg1_14⟩) hHeld ?_
    case hg1_14 => (intro w hSw; (try dsimp only at hSw); clear hSw; go_simp; (try with_reducible rfl))
    try simp only [ps]
    refine wpAnyH_done (by kernel_rfl) ?_ _
    have kz := hHeld.2.2
    clear hHeld
    go_wp2
    go_ret
    exact ⟨by first | rfl | simp, kz⟩
  | false =>
    refine wp_region_held_drew (S := fun w' => w'.heap[w.heap.size]? = some (.cells #[.bool p.x.p, .slice p.a.A p.x.l.length p.a.c, .slice p.a.D p.x.m.length p.a.d, .bool p.y.p, .slice p.b.A p.y.l.length p.b.c, .slice p.b.D p.y.m.length p.b.d, .bool q.x.p, .slice q.a.A q.x.l.length q.a.c, .slice q.a.D q.x.m.length q.a.d, .bool q.y.p, .slice q.b.A q.y.l.length q.b.c, .slice q.b.D q.y.m.length q.b.d, .bool r.x.p, .slice r.a.A r.x.l.length r.a.c, .slice r.a.D r.x.m.length r.a.d, .bool r.y.p, .slice r.b.A r.y.l.length r.b.c, .slice r.b.D r.y.m.length r.b.d] 53 (0, 0)) ∧ w'.heap[w.heap.size + 1]? = some (.cells #[.bool u.x.p, .slice u.a.A u.x.l.length u.a.c, .slice u.a.D u.x.m.length u.a.d, .bool u.y.p, .slice u.b.A u.y.l.length u.b.c, .slice u.b.D u.y.m.length u.b.d] 31 (0, 0)) ∧ Below w.heap.size w w') (by kernel_rfl) ⟨P_t, P_u, kb.drew⟩ (fun hHeld => ?_)
    clear P_t P_u kb
    refine tk (i := 0) (v := ?vg2_1) rfl (by kernel_rfl) (fun _ _ _ h => h) (Or.inl ⟨by rfl, ?hg2_1⟩) hHeld ?_
    case hg2_1 => (intro w hSw; (try dsimp only at hSw); have z0 := rblk_cell hSw.2.1 0; have z1 := rblk_cell hSw.2.1 1; have z2 := rblk_cell hSw.2.1 2; have z3 := rblk_cell hSw.2.1 3; have z4 := rblk_cell hSw.2.1 4; have z5 := rblk_cell hSw.2.1 5; clear hSw; go_simp; (try with_reducible rfl))
    try simp only [ps]
    refine tk (i := 1) (v := ?vg2_2) rfl (by kernel_rfl) (fun _ _ _ h => h) (Or.inl ⟨by rfl, ?hg2_2⟩) hHeld ?_
    case hg2_2 => (intro w hSw; (try dsimp only at hSw); clear hSw; go_simp; (try with_reducible rfl))
    try simp only [ps]
    refine tk (i := 2) (v := ?vg2_3) rfl (by kernel_rfl) (fun _ _ _ h => h) (Or.inl ⟨by rfl, ?hg2_3⟩) hHeld ?_
    case hg2_3 => (intro w hSw; (try dsimp only at hSw); clear hSw; go_simp; (try with_reducible rfl))
    try simp only [ps]
    refine tk (i := 3) (v := ?vg2_4) rfl (by kernel_rfl) (fun _ _ _ h => h) (Or.inl ⟨by rfl, ?hg2_4⟩) hHeld ?_
    case hg2_4 => (intro w hSw; (try dsimp only at hSw); have z0 := rblk_cell hSw.1 0; have z1 := rblk_cell hSw.1 1; have z2 := rblk_cell hSw.1 2; have z3 := rblk_cell hSw.1 3; have z4 := rblk_cell hSw.1 4; have z5 := rblk_cell hSw.1 5; clear hSw; go_simp; (try with_reducible rfl))
    try simp only [ps]
    refine rd1 (i := 4) (by kernel_rfl) rfl (fun K hK => ?_)
    go_simp
    (go_at_call 172; ((with_reducible refine (H1.out _ hHeld.2.2).mono ?_); rintro e Wr2_5 ⟨rfl, hb⟩))
    refine hK.out _ _ ⟨rblk_below hHeld.1 hb, rblk_below hHeld.2.1 hb, bt hHeld.2.2 hb⟩ (fun hH => ?_)
    replace hHeld := hH
    clear hK K hH
    clear hb
    try simp only [ps]
    refine tk (i := 5) (v := ?vg2_6) rfl (by kernel_rfl) (fun _ _ _ h => h) (Or.inl ⟨by rfl, ?hg2_6⟩) hHeld ?_
    case hg2_6 => (intro w hSw; (try dsimp only at hSw); clear hSw; go_simp; (try with_reducible rfl))
    try simp only [ps]
    refine tk (i := 6) (v := ?vg2_7) rfl (by kernel_rfl) (fun _ _ _ h => h) (Or.inl ⟨by rfl, ?hg2_7⟩) hHeld ?_
    case hg2_7 => (intro w hSw; (try dsimp only at hSw); have z0 := rblk_cell hSw.2.1 0; have z1 := rblk_cell hSw.2.1 1; have z2 := rblk_cell hSw.2.1 2; have z3 := rblk_cell hSw.2.1 3; have z4 := rblk_cell hSw.2.1 4; have z5 := rblk_cell hSw.2.1 5; clear hSw; go_simp; (try with_reducible rfl))
    try simp only [ps]
    refine tk (i := 7) (v := .agg #[.bool p.x.p, .slice p.a.A p.x.l.length p.a.c, .slice p.a.D p.x.m.length p.a.d, .bool p.y.p, .slice p.b.A p.y.l.length p.b.c, .slice p.b.D p.y.m.length p.b.d, .bool q.x.p, .slice q.a.A q.x.l.length q.a.c, .slice q.a.D q.x.m.length q.a.d, .bool q.y.p, .slice q.b.A q.y.l.length q.b.c, .slice q.b.D q.y.m.length q.b.d, .bool r.x.p, .slice r.a.A r.x.l.length r.a.c, .slice r.a.D r.x.m.length r.a.d, .bool r.y.p, .slice r.b.A r.y.l.length r.b.c, .slice r.b.D r.y.m.length r.b.d]) rfl (by kernel_rfl) (fun _ _ _ h => h) (yieldsIf_load_mid (by rfl) 53 (.tmp 3) rfl w.heap.size 0 rfl [.bool p.x.p, .slice p.a.A p.x.l.length p.a.c, .slice p.a.D p.x.m.length p.a.d, .bool p.y.p, .slice p.b.A p.y.l.length p.b.c, .slice p.b.D p.y.m.length p.b.d, .bool q.x.p, .slice q.a.A q.x.l.length q.a.c, .slice q.a.D q.x.m.length q.a.d, .bool q.y.p, .slice q.b.A q.y.l.length q.b.c, .slice q.b.D q.y.m.length q.b.d, .bool r.x.p, .slice r.a.A r.x.l.length r.a.c, .slice r.a.D r.x.m.length r.a.d, .bool r.y.p, .slice r.b.A r.y.l.length r.b.c, .slice r.b.D r.y.m.length r.b.d] _ (fun w hSw => range_row hSw.1) Tryz.underlying53 rfl tri_size) hHeld ?_
    try simp only [ps]
    refine tk (i := 8) (v := ?vg2_9) rfl (by kernel_rfl) (fun _ _ _ h => h) (Or.inl ⟨by rfl, ?hg2_9⟩) hHeld ?_
    case hg2_9 => (intro w hSw; (try dsimp only at hSw); clear hSw; go_simp; (try with_reducible rfl))
    try simp only [ps]
    refine tk (i := 9) (v := .int .i64 1) rfl (by kernel_rfl) (fun _ _ _ h => h) (Or.inl ⟨by rfl, ?hg2_10⟩) hHeld ?_
    case hg2_10 => (intro w hSw; (try dsimp only at hSw); clear hSw; go_simp; (try rfl))
    try simp only [ps]
    refine rd1 (i := 10) (by kernel_rfl) rfl (fun K hK => ?_)
    go_simp
    (go_at_call 108; ((with_reducible refine (HC.out _).mono ?_); rintro e Wr2_11 ⟨rfl, hb⟩))
    refine hK.out _ _ ⟨rblk_below hHeld.1 hb, rblk_below hHeld.2.1 hb, bt hHeld.2.2 hb⟩ (fun hH => ?_)
    replace hHeld := hH
    clear hK K hH
    clear hb
    try simp only [ps]
    refine rd1 (i := 11) (by kernel_rfl) rfl (fun K hK => ?_)
    go_simp
    (go_at_call 172; ((with_reducible refine (H2.out _ hHeld.2.2).mono ?_); rintro e Wr2_12 ⟨rfl, hb⟩))
    refine hK.out _ _ ⟨rblk_below hHeld.1 hb, rblk_below hHeld.2.1 hb, bt hHeld.2.2 hb⟩ (fun hH => ?_)
    replace hHeld := hH
    clear hK K hH
    clear hb
    try simp only [ps]
    refine tk (i := 12) (v := ?vg2_13) rfl (by kernel_rfl) (fun _ _ _ h => h) (Or.inl ⟨by rfl, ?hg2_13⟩) hHeld ?_
    case hg2_13 => (intro w hSw; (try dsimp only at hSw); clear hSw; go_simp; (try with_reducible rfl))
    try simp only [ps]
    refine tk (i := 13) (v := ?vg2_14) rfl (by kernel_rfl) (fun _ _ _ h => h) (Or.inl ⟨by rfl, ?hg2_14⟩) hHeld ?_
    case hg2_14 => (intro w hSw; (try dsimp only at hSw); clear hSw; go_simp; (try with_reducible rfl))
    try simp only [ps]
    refine wpAnyH_done (by kernel_rfl) ?_ _
    have kz := hHeld.2.2
    clear hHeld
    go_wp2
    go_ret
    exact ⟨by first | rfl | simp, kz⟩
theorem isEnd_1 (p q r u : PV) (w : World) (h : TriOk w p q r) (hu : NiceP u) (hr : Rds w (prow u)) :
    Calls Tryz.prog 152 #[.agg #[.bool p.x.p, .slice p.a.A p.x.l.length p.a.c, .slice p.a.D p.x.m.length p.a.d, .bool p.y.p, .slice p.b.A p.y.l.length p.b.c, .slice p.b.D p.y.m.length p.b.d, .bool q.x.p, .slice q.a.A q.x.l.length q.a.c, .slice q.a.D q.x.m.length q.a.d, .bool q.y.p, .slice q.b.A q.y.l.length q.b.c, .slice q.b.D q.y.m.length q.b.d, .bool r.x.p, .slice r.a.A r.x.l.length r.a.c, .slice r.a.D r.x.m.length r.a.d, .bool r.y.p, .slice r.b.A r.y.l.length r.b.c, .slice r.b.D r.y.m.length r.b.d], .int .i64 1, .agg #[.bool u.x.p, .slice u.a.A u.x.l.length u.a.c, .slice u.a.D u.x.m.length u.a.d, .bool u.y.p, .slice u.b.A u.y.l.length u.b.c, .slice u.b.D u.y.m.length u.b.d]] w (fun e w' => e = .returned (.bool (sameB u q || sameB u r)) ∧ Below w.heap.size w w') := by
  have H1 : Hid (∀ W, Below w.heap.size w W → Calls Tryz.prog 172 #[.agg #[.bool u.x.p, .slice u.a.A u.x.l.length u.a.c, .slice u.a.D u.x.m.length u.a.d, .bool u.y.p, .slice u.b.A u.y.l.length u.b.c, .slice u.b.D u.y.m.length u.b.d], .agg #[.bool q.x.p, .slice q.a.A q.x.l.length q.a.c, .slice q.a.D q.x.m.length q.a.d, .bool q.y.p, .slice q.b.A q.y.l.length q.b.c, .slice q.b.D q.y.m.length q.b.d]] W (fun e w' => e = .returned (.bool (sameB u q)) ∧ Below W.heap.size W w')) := Lib.hid (fun W hB => sameV u q W hu (h.1.2.1) (hr.below hB) (h.2.2.1.below hB))
  have H2 : Hid (∀ W, Below w.heap.size w W → Calls Tryz.prog 172 #[.agg #[.bool u.x.p, .slice u.a.A u.x.l.length u.a.c, .slice u.a.D u.x.m.length u.a.d, .bool u.y.p, .slice u.b.A u.y.l.length u.b.c, .slice u.b.D u.y.m.length u.b.d], .agg #[.bool r.x.p, .slice r.a.A r.x.l.length r.a.c, .slice r.a.D r.x.m.length r.a.d, .bool r.y.p, .slice r.b.A r.y.l.length r.b.c, .slice r.b.D r.y.m.length r.b.d]] W (fun e w' => e = .returned (.bool (sameB u r)) ∧ Below W.heap.size W w')) := Lib.hid (fun W hB => sameV u r W hu (h.1.2.2) (hr.below hB) (h.2.2.2.below hB))
  have HC := Lib.hid (fun W => corner_2 p q r W)
  clear h hu hr
  generalize sameB u q = b1 at H1 ⊢
  generalize sameB u r = b2 at H2 ⊢
  obtain ⟨P_t, P_u⟩ := blocks2 w (.cells #[.bool p.x.p, .slice p.a.A p.x.l.length p.a.c, .slice p.a.D p.x.m.length p.a.d, .bool p.y.p, .slice p.b.A p.y.l.length p.b.c, .slice p.b.D p.y.m.length p.b.d, .bool q.x.p, .slice q.a.A q.x.l.length q.a.c, .slice q.a.D q.x.m.length q.a.d, .bool q.y.p, .slice q.b.A q.y.l.length q.b.c, .slice q.b.D q.y.m.length q.b.d, .bool r.x.p, .slice r.a.A r.x.l.length r.a.c, .slice r.a.D r.x.m.length r.a.d, .bool r.y.p, .slice r.b.A r.y.l.length r.b.c, .slice r.b.D r.y.m.length r.b.d] 53) (.cells #[.bool u.x.p, .slice u.a.A u.x.l.length u.a.c, .slice u.a.D u.x.m.length u.a.d, .bool u.y.p, .slice u.b.A u.y.l.length u.b.c, .slice u.b.D u.y.m.length u.b.d] 31)
  have kb := ba2 w (.cells #[.bool p.x.p, .slice p.a.A p.x.l.length p.a.c, .slice p.a.D p.x.m.length p.a.d, .bool p.y.p, .slice p.b.A p.y.l.length p.b.c, .slice p.b.D p.y.m.length p.b.d, .bool q.x.p, .slice q.a.A q.x.l.length q.a.c, .slice q.a.D q.x.m.length q.a.d, .bool q.y.p, .slice q.b.A q.y.l.length q.b.c, .slice q.b.D q.y.m.length q.b.d, .bool r.x.p, .slice r.a.A r.x.l.length r.a.c, .slice r.a.D r.x.m.length r.a.d, .bool r.y.p, .slice r.b.A r.y.l.length r.b.c, .slice r.b.D r.y.m.length r.b.d] 53) (.cells #[.bool u.x.p, .slice u.a.A u.x.l.length u.a.c, .slice u.a.D u.x.m.length u.a.d, .bool u.y.p, .slice u.b.A u.y.l.length u.b.c, .slice u.b.D u.y.m.length u.b.d] 31)
  go_enter Tryz.func152, Tryz.ntmps152
  go_wp2_with fail
  generalize (w.alloc (.cells #[.bool p.x.p, .slice p.a.A p.x.l.length p.a.c, .slice p.a.D p.x.m.length p.a.d, .bool p.y.p, .slice p.b.A p.y.l.length p.b.c, .slice p.b.D p.y.m.length p.b.d, .bool q.x.p, .slice q.a.A q.x.l.length q.a.c, .slice q.a.D q.x.m.length q.a.d, .bool q.y.p, .slice q.b.A q.y.l.length q.b.c, .slice q.b.D q.y.m.length q.b.d, .bool r.x.p, .slice r.a.A r.x.l.length r.a.c, .slice r.a.D r.x.m.length r.a.d, .bool r.y.p, .slice r.b.A r.y.l.length r.b.c, .slice r.b.D r.y.m.length r.b.d] 53)).alloc (.cells #[.bool u.x.p, .slice u.a.A u.x.l.length u.a.c, .slice u.a.D u.x.m.length u.a.d, .bool u.y.p, .slice u.b.A u.y.l.length u.b.c, .slice u.b.D u.y.m.length u.b.d] 31) = W1 at P_t P_u kb ⊢
  have hi1 : IntKind.i64.wrap (1 + 1) = 2 := by decide
  cases b1 with
  | true =>
    refine wp_region_held_drew (S := fun w' => w'.heap[w.heap.size]? = some (.cells #[.bool p.x.p, .slice p.a.A p.x.l.length p.a.c, .slice p.a.D p.x.m.length p.a.d, .bool p.y.p, .slice p.b.A p.y.l.length p.b.c, .slice p.b.D p.y.m.length p.b.d, .bool q.x.p, .slice q.a.A q.x.l.length q.a.c, .slice q.a.D q.x.m.length q.a.d, .bool q.y.p, .slice q.b.A q.y.l.length q.b.c, .slice q.b.D q.y.m.length q.b.d, .bool r.x.p, .slice r.a.A r.x.l.length r.a.c, .slice r.a.D r.x.m.length r.a.d, .bool r.y.p, .slice r.b.A r.y.l.length r.b.c, .slice r.b.D r.y.m.length r.b.d] 53 (0, 0)) ∧ w'.heap[w.heap.size + 1]? = some (.cells #[.bool u.x.p, .slice u.a.A u.x.l.length u.a.c, .slice u.a.D u.x.m.length u.a.d, .bool u.y.p, .slice u.b.A u.y.l.length u.b.c, .slice u.b.D u.y.m.length u.b.d] 31 (0, 0)) ∧ Below w.heap.size w w') (by kernel_rfl) ⟨P_t, P_u, kb.drew⟩ (fun hHeld => ?_)
    clear P_t P_u kb
    refine tk (i := 0) (v := ?vg3_1) rfl (by kernel_rfl) (fun _ _ _ h => h) (Or.inl ⟨by rfl, ?hg3_1⟩) hHeld ?_
    case hg3_1 => (intro w hSw; (try dsimp only at hSw); have z0 := rblk_cell hSw.2.1 0; have z1 := rblk_cell hSw.2.1 1; have z2 := rblk_cell hSw.2.1 2; have z3 := rblk_cell hSw.2.1 3; have z4 := rblk_cell hSw.2.1 4; have z5 := rblk_cell hSw.2.1 5; clear hSw; go_simp; (try with_reducible rfl))
    try simp only [ps]
    refine tk (i := 1) (v := ?vg3_2) rfl (by kernel_rfl) (fun _ _ _ h => h) (Or.inl ⟨by rfl, ?hg3_2⟩) hHeld ?_
    case hg3_2 => (intro w hSw; (try dsimp only at hSw); clear hSw; go_simp; (try with_reducible rfl))
    try simp only [ps]
    refine tk (i := 2) (v := ?vg3_3) rfl (by kernel_rfl) (fun _ _ _ h => h) (Or.inl ⟨by rfl, ?hg3_3⟩) hHeld ?_
    case hg3_3 => (intro w hSw; (try dsimp only at hSw); clear hSw; go_simp; (try with_reducible rfl))
    try simp only [ps]
    refine tk (i := 3) (v := ?vg3_4) rfl (by kernel_rfl) (fun _ _ _ h => h) (Or.inl ⟨by rfl, ?hg3_4⟩) hHeld ?_
    case hg3_4 => (intro w hSw; (try dsimp only at hSw); have z0 := rblk_cell hSw.1 6; have z1 := rblk_cell hSw.1 7; have z2 := rblk_cell hSw.1 8; have z3 := rblk_cell hSw.1 9; have z4 := rblk_cell hSw.1 10; have z5 := rblk_cell hSw.1 11; clear hSw; go_simp; (try with_reducible rfl))
    try simp only [ps]
    refine rd1 (i := 4) (by kernel_rfl) rfl (fun K hK => ?_)
    go_simp
    (go_at_call 172; ((with_reducible refine (H1.out _ hHeld.2.2).mono ?_); rintro e Wr3_5 ⟨rfl, hb⟩))
    refine hK.out _ _ ⟨rblk_below hHeld.1 hb, rblk_below hHeld.2.1 hb, bt hHeld.2.2 hb⟩ (fun hH => ?_)
    replace hHeld := hH
    clear hK K hH
    clear hb
    try simp only [ps]
    refine tk (i := 5) (v := ?vg3_6) rfl (by kernel_rfl) (fun _ _ _ h => h) (Or.inl ⟨by rfl, ?hg3_6⟩) hHeld ?_
    case hg3_6 => (intro w hSw; (try dsimp only at hSw); clear hSw; go_simp; (try with_reducible rfl))
    try simp only [ps]
    refine tk (i := 6) (v := undef) rfl (by kernel_rfl) (fun _ _ _ h => h) (Or.inr ⟨by rfl, rfl⟩) hHeld ?_
    try simp only [ps]
    refine tk (i := 7) (v := undef) rfl (by kernel_rfl) (fun _ _ _ h => h) (Or.inr ⟨by rfl, rfl⟩) hHeld ?_
    try simp only [ps]
    refine tk (i := 8) (v := undef) rfl (by kernel_rfl) (fun _ _ _ h => h) (Or.inr ⟨by rfl, rfl⟩) hHeld ?_
    try simp only [ps]
    refine tk (i := 9) (v := undef) rfl (by kernel_rfl) (fun _ _ _ h => h) (Or.inr ⟨by rfl, rfl⟩) hHeld ?_
    try simp only [ps]
    refine tk (i := 10) (v := undef) rfl (by kernel_rfl) (fun _ _ _ h => h) (Or.inr ⟨by rfl, rfl⟩) hHeld ?_
    try simp only [ps]
    refine tk (i := 11) (v := undef) rfl (by kernel_rfl) (fun _ _ _ h => h) (Or.inr ⟨by rfl, rfl⟩) hHeld ?_
    try simp only [ps]
    refine tk (i := 12) (v := ?vg3_13) rfl (by kernel_rfl) (fun _ _ _ h => h) (Or.inl ⟨by rfl, ?hg3_13⟩) hHeld ?_
    case hg3_13 => (intro w hSw; (try dsimp only at hSw); clear hSw; go_simp; (try with_reducible rfl))
    try simp only [ps]
    refine tk (i := 13) (v := ?vg3_14) rfl (by kernel_rfl) (fun _ _ _ h => h) (Or.inl ⟨by rfl, ?hg3_14⟩) hHeld ?_
    case hg3_14 => (intro w hSw; (try dsimp only at hSw); clear hSw; go_simp; (try with_reducible rfl))
    try simp only [ps]
    refine wpAnyH_done (by kernel_rfl) ?_ _
    have kz := hHeld.2.2
    clear hHeld
    go_wp2
    go_ret
    exact ⟨by first | rfl | simp, kz⟩
  | false =>
    refine wp_region_held_drew (S := fun w' => w'.heap[w.heap.size]? = some (.cells #[.bool p.x.p, .slice p.a.A p.x.l.length p.a.c, .slice p.a.D p.x.m.length p.a.d, .bool p.y.p, .slice p.b.A p.y.l.length p.b.c, .slice p.b.D p.y.m.length p.b.d, .bool q.x.p, .slice q.a.A q.x.l.length q.a.c, .slice q.a.D q.x.m.length q.a.d, .bool q.y.p, .slice q.b.A q.y.l.length q.b.c, .slice q.b.D q.y.m.length q.b.d, .bool r.x.p, .slice r.a.A r.x.l.length r.a.c, .slice r.a.D r.x.m.length r.a.d, .bool r.y.p, .slice r.b.A r.y.l.length r.b.c, .slice r.b.D r.y.m.length r.b.d] 53 (0, 0)) ∧ w'.heap[w.heap.size + 1]? = some (.cells #[.bool u.x.p, .slice u.a.A u.x.l.length u.a.c, .slice u.a.D u.x.m.length u.a.d, .bool u.y.p, .slice u.b.A u.y.l.length u.b.c, .slice u.b.D u.y.m.length u.b.d] 31 (0, 0)) ∧ Below w.heap.size w w') (by kernel_rfl) ⟨P_t, P_u, kb.drew⟩ (fun hHeld => ?_)
    clear P_t P_u kb
    refine tk (i := 0) (v := ?vg4_1) rfl (by kernel_rfl) (fun _ _ _ h => h) (Or.inl ⟨by rfl, ?hg4_1⟩) hHeld ?_
    case hg4_1 => (intro w hSw; (try dsimp only at hSw); have z0 := rblk_cell hSw.2.1 0; have z1 := rblk_cell hSw.2.1 1; have z2 := rblk_cell hSw.2.1 2; have z3 := rblk_cell hSw.2.1 3; have z4 := rblk_cell hSw.2.1 4; have z5 := rblk_cell hSw.2.1 5; clear hSw; go_simp; (try with_reducible rfl))
    try simp only [ps]
    refine tk (i := 1) (v := ?vg4_2) rfl (by kernel_rfl) (fun _ _ _ h => h) (Or.inl ⟨by rfl, ?hg4_2⟩) hHeld ?_
    case hg4_2 => (intro w hSw; (try dsimp only at hSw); clear hSw; go_simp; (try with_reducible rfl))
    try simp only [ps]
    refine tk (i := 2) (v := ?vg4_3) rfl (by kernel_rfl) (fun _ _ _ h => h) (Or.inl ⟨by rfl, ?hg4_3⟩) hHeld ?_
    case hg4_3 => (intro w hSw; (try dsimp only at hSw); clear hSw; go_simp; (try with_reducible rfl))
    try simp only [ps]
    refine tk (i := 3) (v := ?vg4_4) rfl (by kernel_rfl) (fun _ _ _ h => h) (Or.inl ⟨by rfl, ?hg4_4⟩) hHeld ?_
    case hg4_4 => (intro w hSw; (try dsimp only at hSw); have z0 := rblk_cell hSw.1 6; have z1 := rblk_cell hSw.1 7; have z2 := rblk_cell hSw.1 8; have z3 := rblk_cell hSw.1 9; have z4 := rblk_cell hSw.1 10; have z5 := rblk_cell hSw.1 11; clear hSw; go_simp; (try with_reducible rfl))
    try simp only [ps]
    refine rd1 (i := 4) (by kernel_rfl) rfl (fun K hK => ?_)
    go_simp
    (go_at_call 172; ((with_reducible refine (H1.out _ hHeld.2.2).mono ?_); rintro e Wr4_5 ⟨rfl, hb⟩))
    refine hK.out _ _ ⟨rblk_below hHeld.1 hb, rblk_below hHeld.2.1 hb, bt hHeld.2.2 hb⟩ (fun hH => ?_)
    replace hHeld := hH
    clear hK K hH
    clear hb
    try simp only [ps]
    refine tk (i := 5) (v := ?vg4_6) rfl (by kernel_rfl) (fun _ _ _ h => h) (Or.inl ⟨by rfl, ?hg4_6⟩) hHeld ?_
    case hg4_6 => (intro w hSw; (try dsimp only at hSw); clear hSw; go_simp; (try with_reducible rfl))
    try simp only [ps]
    refine tk (i := 6) (v := ?vg4_7) rfl (by kernel_rfl) (fun _ _ _ h => h) (Or.inl ⟨by rfl, ?hg4_7⟩) hHeld ?_
    case hg4_7 => (intro w hSw; (try dsimp only at hSw); have z0 := rblk_cell hSw.2.1 0; have z1 := rblk_cell hSw.2.1 1; have z2 := rblk_cell hSw.2.1 2; have z3 := rblk_cell hSw.2.1 3; have z4 := rblk_cell hSw.2.1 4; have z5 := rblk_cell hSw.2.1 5; clear hSw; go_simp; (try with_reducible rfl))
    try simp only [ps]
    refine tk (i := 7) (v := .agg #[.bool p.x.p, .slice p.a.A p.x.l.length p.a.c, .slice p.a.D p.x.m.length p.a.d, .bool p.y.p, .slice p.b.A p.y.l.length p.b.c, .slice p.b.D p.y.m.length p.b.d, .bool q.x.p, .slice q.a.A q.x.l.length q.a.c, .slice q.a.D q.x.m.length q.a.d, .bool q.y.p, .slice q.b.A q.y.l.length q.b.c, .slice q.b.D q.y.m.length q.b.d, .bool r.x.p, .slice r.a.A r.x.l.length r.a.c, .slice r.a.D r.x.m.length r.a.d, .bool r.y.p, .slice r.b.A r.y.l.length r.b.c, .slice r.b.D r.y.m.length r.b.d]) rfl (by kernel_rfl) (fun _ _ _ h => h) (yieldsIf_load_mid (by rfl) 53 (.tmp 3) rfl w.heap.size 0 rfl [.bool p.x.p, .slice p.a.A p.x.l.length p.a.c, .slice p.a.D p.x.m.length p.a.d, .bool p.y.p, .slice p.b.A p.y.l.length p.b.c, .slice p.b.D p.y.m.length p.b.d, .bool q.x.p, .slice q.a.A q.x.l.length q.a.c, .slice q.a.D q.x.m.length q.a.d, .bool q.y.p, .slice q.b.A q.y.l.length q.b.c, .slice q.b.D q.y.m.length q.b.d, .bool r.x.p, .slice r.a.A r.x.l.length r.a.c, .slice r.a.D r.x.m.length r.a.d, .bool r.y.p, .slice r.b.A r.y.l.length r.b.c, .slice r.b.D r.y.m.length r.b.d] _ (fun w hSw => range_row hSw.1) Tryz.underlying53 rfl tri_size) hHeld ?_
    try simp only [ps]
    refine tk (i := 8) (v := ?vg4_9) rfl (by kernel_rfl) (fun _ _ _ h => h) (Or.inl ⟨by rfl, ?hg4_9⟩) hHeld ?_
    case hg4_9 => (intro w hSw; (try dsimp only at hSw); clear hSw; go_simp; (try with_reducible rfl))
    try simp only [ps]
    refine tk (i := 9) (v := .int .i64 2) rfl (by kernel_rfl) (fun _ _ _ h => h) (Or.inl ⟨by rfl, ?hg4_10⟩) hHeld ?_
    case hg4_10 => (intro w hSw; (try dsimp only at hSw); clear hSw; go_simp; (try rfl))
    try simp only [ps]
    refine rd1 (i := 10) (by kernel_rfl) rfl (fun K hK => ?_)
    go_simp
    (go_at_call 108; ((with_reducible refine (HC.out _).mono ?_); rintro e Wr4_11 ⟨rfl, hb⟩))
    refine hK.out _ _ ⟨rblk_below hHeld.1 hb, rblk_below hHeld.2.1 hb, bt hHeld.2.2 hb⟩ (fun hH => ?_)
    replace hHeld := hH
    clear hK K hH
    clear hb
    try simp only [ps]
    refine rd1 (i := 11) (by kernel_rfl) rfl (fun K hK => ?_)
    go_simp
    (go_at_call 172; ((with_reducible refine (H2.out _ hHeld.2.2).mono ?_); rintro e Wr4_12 ⟨rfl, hb⟩))
    refine hK.out _ _ ⟨rblk_below hHeld.1 hb, rblk_below hHeld.2.1 hb, bt hHeld.2.2 hb⟩ (fun hH => ?_)
    replace hHeld := hH
    clear hK K hH
    clear hb
    try simp only [ps]
    refine tk (i := 12) (v := ?vg4_13) rfl (by kernel_rfl) (fun _ _ _ h => h) (Or.inl ⟨by rfl, ?hg4_13⟩) hHeld ?_
    case hg4_13 => (intro w hSw; (try dsimp only at hSw); clear hSw; go_simp; (try with_reducible rfl))
    try simp only [ps]
    refine tk (i := 13) (v := ?vg4_14) rfl (by kernel_rfl) (fun _ _ _ h => h) (Or.inl ⟨by rfl, ?hg4_14⟩) hHeld ?_
    case hg4_14 => (intro w hSw; (try dsimp only at hSw); clear hSw; go_simp; (try with_reducible rfl))
    try simp only [ps]
    refine wpAnyH_done (by kernel_rfl) ?_ _
    have kz := hHeld.2.2
    clear hHeld
    go_wp2
    go_ret
    exact ⟨by first | rfl | simp, kz⟩
theorem isEnd_2 (p q r u : PV) (w : World) (h : TriOk w p q r) (hu : NiceP u) (hr : Rds w (prow u)) :
    Calls Tryz.prog 152 #[.agg #[.bool p.x.p, .slice p.a.A p.x.l.length p.a.c, .slice p.a.D p.x.m.length p.a.d, .bool p.y.p, .slice p.b.A p.y.l.length p.b.c, .slice p.b.D p.y.m.length p.b.d, .bool q.x.p, .slice q.a.A q.x.l.length q.a.c, .slice q.a.D q.x.m.length q.a.d, .bool q.y.p, .slice q.b.A q.y.l.length q.b.c, .slice q.b.D q.y.m.length q.b.d, .bool r.x.p, .slice r.a.A r.x.l.length r.a.c, .slice r.a.D r.x.m.length r.a.d, .bool r.y.p, .slice r.b.A r.y.l.length r.b.c, .slice r.b.D r.y.m.length r.b.d], .int .i64 2, .agg #[.bool u.x.p, .slice u.a.A u.x.l.length u.a.c, .slice u.a.D u.x.m.length u.a.d, .bool u.y.p, .slice u.b.A u.y.l.length u.b.c, .slice u.b.D u.y.m.length u.b.d]] w (fun e w' => e = .returned (.bool (sameB u r || sameB u p)) ∧ Below w.heap.size w w') := by
  have H1 : Hid (∀ W, Below w.heap.size w W → Calls Tryz.prog 172 #[.agg #[.bool u.x.p, .slice u.a.A u.x.l.length u.a.c, .slice u.a.D u.x.m.length u.a.d, .bool u.y.p, .slice u.b.A u.y.l.length u.b.c, .slice u.b.D u.y.m.length u.b.d], .agg #[.bool r.x.p, .slice r.a.A r.x.l.length r.a.c, .slice r.a.D r.x.m.length r.a.d, .bool r.y.p, .slice r.b.A r.y.l.length r.b.c, .slice r.b.D r.y.m.length r.b.d]] W (fun e w' => e = .returned (.bool (sameB u r)) ∧ Below W.heap.size W w')) := Lib.hid (fun W hB => sameV u r W hu (h.1.2.2) (hr.below hB) (h.2.2.2.below hB))
  have H2 : Hid (∀ W, Below w.heap.size w W → Calls Tryz.prog 172 #[.agg #[.bool u.x.p, .slice u.a.A u.x.l.length u.a.c, .slice u.a.D u.x.m.length u.a.d, .bool u.y.p, .slice u.b.A u.y.l.length u.b.c, .slice u.b.D u.y.m.length u.b.d], .agg #[.bool p.x.p, .slice p.a.A p.x.l.length p.a.c, .slice p.a.D p.x.m.length p.a.d, .bool p.y.p, .slice p.b.A p.y.l.length p.b.c, .slice p.b.D p.y.m.length p.b.d]] W (fun e w' => e = .returned (.bool (sameB u p)) ∧ Below W.heap.size W w')) := Lib.hid (fun W hB => sameV u p W hu (h.1.1) (hr.below hB) (h.2.1.below hB))
  have HC := Lib.hid (fun W => corner_3 p q r W)
  clear h hu hr
  generalize sameB u r = b1 at H1 ⊢
  generalize sameB u p = b2 at H2 ⊢
  obtain ⟨P_t, P_u⟩ := blocks2 w (.cells #[.bool p.x.p, .slice p.a.A p.x.l.length p.a.c, .slice p.a.D p.x.m.length p.a.d, .bool p.y.p, .slice p.b.A p.y.l.length p.b.c, .slice p.b.D p.y.m.length p.b.d, .bool q.x.p, .slice q.a.A q.x.l.length q.a.c, .slice q.a.D q.x.m.length q.a.d, .bool q.y.p, .slice q.b.A q.y.l.length q.b.c, .slice q.b.D q.y.m.length q.b.d, .bool r.x.p, .slice r.a.A r.x.l.length r.a.c, .slice r.a.D r.x.m.length r.a.d, .bool r.y.p, .slice r.b.A r.y.l.length r.b.c, .slice r.b.D r.y.m.length r.b.d] 53) (.cells #[.bool u.x.p, .slice u.a.A u.x.l.length u.a.c, .slice u.a.D u.x.m.length u.a.d, .bool u.y.p, .slice u.b.A u.y.l.length u.b.c, .slice u.b.D u.y.m.length u.b.d] 31)
  have kb := ba2 w (.cells #[.bool p.x.p, .slice p.a.A p.x.l.length p.a.c, .slice p.a.D p.x.m.length p.a.d, .bool p.y.p, .slice p.b.A p.y.l.length p.b.c, .slice p.b.D p.y.m.length p.b.d, .bool q.x.p, .slice q.a.A q.x.l.length q.a.c, .slice q.a.D q.x.m.length q.a.d, .bool q.y.p, .slice q.b.A q.y.l.length q.b.c, .slice q.b.D q.y.m.length q.b.d, .bool r.x.p, .slice r.a.A r.x.l.length r.a.c, .slice r.a.D r.x.m.length r.a.d, .bool r.y.p, .slice r.b.A r.y.l.length r.b.c, .slice r.b.D r.y.m.length r.b.d] 53) (.cells #[.bool u.x.p, .slice u.a.A u.x.l.length u.a.c, .slice u.a.D u.x.m.length u.a.d, .bool u.y.p, .slice u.b.A u.y.l.length u.b.c, .slice u.b.D u.y.m.length u.b.d] 31)
  go_enter Tryz.func152, Tryz.ntmps152
  go_wp2_with fail
  generalize (w.alloc (.cells #[.bool p.x.p, .slice p.a.A p.x.l.length p.a.c, .slice p.a.D p.x.m.length p.a.d, .bool p.y.p, .slice p.b.A p.y.l.length p.b.c, .slice p.b.D p.y.m.length p.b.d, .bool q.x.p, .slice q.a.A q.x.l.length q.a.c, .slice q.a.D q.x.m.length q.a.d, .bool q.y.p, .slice q.b.A q.y.l.length q.b.c, .slice q.b.D q.y.m.length q.b.d, .bool r.x.p, .slice r.a.A r.x.l.length r.a.c, .slice r.a.D r.x.m.length r.a.d, .bool r.y.p, .slice r.b.A r.y.l.length r.b.c, .slice r.b.D r.y.m.length r.b.d] 53)).alloc (.cells #[.bool u.x.p, .slice u.a.A u.x.l.length u.a.c, .slice u.a.D u.x.m.length u.a.d, .bool u.y.p, .slice u.b.A u.y.l.length u.b.c, .slice u.b.D u.y.m.length u.b.d] 31) = W1 at P_t P_u kb ⊢
  have hi1 : IntKind.i64.wrap (2 + 1) = 3 := by decide
  cases b1 with
  | true =>
    refine wp_region_held_drew (S := fun w' => w'.heap[w.heap.size]? = some (.cells #[.bool p.x.p, .slice p.a.A p.x.l.length p.a.c, .slice p.a.D p.x.m.length p.a.d, .bool p.y.p, .slice p.b.A p.y.l.length p.b.c, .slice p.b.D p.y.m.length p.b.d, .bool q.x.p, .slice q.a.A q.x.l.length q.a.c, .slice q.a.D q.x.m.length q.a.d, .bool q.y.p, .slice q.b.A q.y.l.length q.b.c, .slice q.b.D q.y.m.length q.b.d, .bool r.x.p, .slice r.a.A r.x.l.length r.a.c, .slice r.a.D r.x.m.length r.a.d, .bool r.y.p, .slice r.b.A r.y.l.length r.b.c, .slice r.b.D r.y.m.length r.b.d] 53 (0, 0)) ∧ w'.heap[w.heap.size + 1]? = some (.cells #[.bool u.x.p, .slice u.a.A u.x.l.length u.a.c, .slice u.a.D u.x.m.length u.a.d, .bool u.y.p, .slice u.b.A u.y.l.length u.b.c, .slice u.b.D u.y.m.length u.b.d] 31 (0, 0)) ∧ Below w.heap.size w w') (by kernel_rfl) ⟨P_t, P_u, kb.drew⟩ (fun hHeld => ?_)
    clear P_t P_u kb
    refine tk (i := 0) (v := ?vg5_1) rfl (by kernel_rfl) (fun _ _ _ h => h) (Or.inl ⟨by rfl, ?hg5_1⟩) hHeld ?_
    case hg5_1 => (intro w hSw; (try dsimp only at hSw); have z0 := rblk_cell hSw.2.1 0; have z1 := rblk_cell hSw.2.1 1; have z2 := rblk_cell hSw.2.1 2; have z3 := rblk_cell hSw.2.1 3; have z4 := rblk_cell hSw.2.1 4; have z5 := rblk_cell hSw.2.1 5; clear hSw; go_simp; (try with_reducible rfl))
    try simp only [ps]
    refine tk (i := 1) (v := ?vg5_2) rfl (by kernel_rfl) (fun _ _ _ h => h) (Or.inl ⟨by rfl, ?hg5_2⟩) hHeld ?_
    case hg5_2 => (intro w hSw; (try dsimp only at hSw); clear hSw; go_simp; (try with_reducible rfl))
    try simp only [ps]
    refine tk (i := 2) (v := ?vg5_3) rfl (by kernel_rfl) (fun _ _ _ h => h) (Or.inl ⟨by rfl, ?hg5_3⟩) hHeld ?_
    case hg5_3 => (intro w hSw; (try dsimp only at hSw); clear hSw; go_simp; (try with_reducible rfl))
    try simp only [ps]
    refine tk (i := 3) (v := ?vg5_4) rfl (by kernel_rfl) (fun _ _ _ h => h) (Or.inl ⟨by rfl, ?hg5_4⟩) hHeld ?_
    case hg5_4 => (intro w hSw; (try dsimp only at hSw); have z0 := rblk_cell hSw.1 12; have z1 := rblk_cell hSw.1 13; have z2 := rblk_cell hSw.1 14; have z3 := rblk_cell hSw.1 15; have z4 := rblk_cell hSw.1 16; have z5 := rblk_cell hSw.1 17; clear hSw; go_simp; (try with_reducible rfl))
    try simp only [ps]
    refine rd1 (i := 4) (by kernel_rfl) rfl (fun K hK => ?_)
    go_simp
    (go_at_call 172; ((with_reducible refine (H1.out _ hHeld.2.2).mono ?_); rintro e Wr5_5 ⟨rfl, hb⟩))
    refine hK.out _ _ ⟨rblk_below hHeld.1 hb, rblk_below hHeld.2.1 hb, bt hHeld.2.2 hb⟩ (fun hH => ?_)
    replace hHeld := hH
    clear hK K hH
    clear hb
    try simp only [ps]
    refine tk (i := 5) (v := ?vg5_6) rfl (by kernel_rfl) (fun _ _ _ h => h) (Or.inl ⟨by rfl, ?hg5_6⟩) hHeld ?_
    case hg5_6 => (intro w hSw; (try dsimp only at hSw); clear hSw; go_simp; (try with_reducible rfl))
    try simp only [ps]
    refine tk (i := 6) (v := undef) rfl (by kernel_rfl) (fun _ _ _ h => h) (Or.inr ⟨by rfl, rfl⟩) hHeld ?_
    try simp only [ps]
    refine tk (i := 7) (v := undef) rfl (by kernel_rfl) (fun _ _ _ h => h) (Or.inr ⟨by rfl, rfl⟩) hHeld ?_
    try simp only [ps]
    refine tk (i := 8) (v := undef) rfl (by kernel_rfl) (fun _ _ _ h => h) (Or.inr ⟨by rfl, rfl⟩) hHeld ?_
    try simp only [ps]
    refine tk (i := 9) (v := undef) rfl (by kernel_rfl) (fun _ _ _ h => h) (Or.inr ⟨by rfl, rfl⟩) hHeld ?_
    try simp only [ps]
    refine tk (i := 10) (v := undef) rfl (by kernel_rfl) (fun _ _ _ h => h) (Or.inr ⟨by rfl, rfl⟩) hHeld ?_
    try simp only [ps]
    refine tk (i := 11) (v := undef) rfl (by kernel_rfl) (fun _ _ _ h => h) (Or.inr ⟨by rfl, rfl⟩) hHeld ?_
    try simp only [ps]
    refine tk (i := 12) (v := ?vg5_13) rfl (by kernel_rfl) (fun _ _ _ h => h) (Or.inl ⟨by rfl, ?hg5_13⟩) hHeld ?_
    case hg5_13 => (intro w hSw; (try dsimp only at hSw); clear hSw; go_simp; (try with_reducible rfl))
    try simp only [ps]
    refine tk (i := 13) (v := ?vg5_14) rfl (by kernel_rfl) (fun _ _ _ h => h) (Or.inl ⟨by rfl, ?hg5_14⟩) hHeld ?_
    case hg5_14 => (intro w hSw; (try dsimp only at hSw); clear hSw; go_simp; (try with_reducible rfl))
    try simp only [ps]
    refine wpAnyH_done (by kernel_rfl) ?_ _
    have kz := hHeld.2.2
    clear hHeld
    go_wp2
    go_ret
    exact ⟨by first | rfl | simp, kz⟩
  | false =>
    refine wp_region_held_drew (S := fun w' => w'.heap[w.heap.size]? = some (.cells #[.bool p.x.p, .slice p.a.A p.x.l.length p.a.c, .slice p.a.D p.x.m.length p.a.d, .bool p.y.p, .slice p.b.A p.y.l.length p.b.c, .slice p.b.D p.y.m.length p.b.d, .bool q.x.p, .slice q.a.A q.x.l.length q.a.c, .slice q.a.D q.x.m.length q.a.d, .bool q.y.p, .slice q.b.A q.y.l.length q.b.c, .slice q.b.D q.y.m.length q.b.d, .bool r.x.p, .slice r.a.A r.x.l.length r.a.c, .slice r.a.D r.x.m.length r.a.d, .bool r.y.p, .slice r.b.A r.y.l.length r.b.c, .slice r.b.D r.y.m.length r.b.d] 53 (0, 0)) ∧ w'.heap[w.heap.size + 1]? = some (.cells #[.bool u.x.p, .slice u.a.A u.x.l.length u.a.c, .slice u.a.D u.x.m.length u.a.d, .bool u.y.p, .slice u.b.A u.y.l.length u.b.c, .slice u.b.D u.y.m.length u.b.d] 31 (0, 0)) ∧ Below w.heap.size w w') (by kernel_rfl) ⟨P_t, P_u, kb.drew⟩ (fun hHeld => ?_)
    clear P_t P_u kb
    refine tk (i := 0) (v := ?vg6_1) rfl (by kernel_rfl) (fun _ _ _ h => h) (Or.inl ⟨by rfl, ?hg6_1⟩) hHeld ?_
    case hg6_1 => (intro w hSw; (try dsimp only at hSw); have z0 := rblk_cell hSw.2.1 0; have z1 := rblk_cell hSw.2.1 1; have z2 := rblk_cell hSw.2.1 2; have z3 := rblk_cell hSw.2.1 3; have z4 := rblk_cell hSw.2.1 4; have z5 := rblk_cell hSw.2.1 5; clear hSw; go_simp; (try with_reducible rfl))
    try simp only [ps]
    refine tk (i := 1) (v := ?vg6_2) rfl (by kernel_rfl) (fun _ _ _ h => h) (Or.inl ⟨by rfl, ?hg6_2⟩) hHeld ?_
    case hg6_2 => (intro w hSw; (try dsimp only at hSw); clear hSw; go_simp; (try with_reducible rfl))
    try simp only [ps]
    refine tk (i := 2) (v := ?vg6_3) rfl (by kernel_rfl) (fun _ _ _ h => h) (Or.inl ⟨by rfl, ?hg6_3⟩) hHeld ?_
    case hg6_3 => (intro w hSw; (try dsimp only at hSw); clear hSw; go_simp; (try with_reducible rfl))
    try simp only [ps]
    refine tk (i := 3) (v := ?vg6_4) rfl (by kernel_rfl) (fun _ _ _ h => h) (Or.inl ⟨by rfl, ?hg6_4⟩) hHeld ?_
    case hg6_4 => (intro w hSw; (try dsimp only at hSw); have z0 := rblk_cell hSw.1 12; have z1 := rblk_cell hSw.1 13; have z2 := rblk_cell hSw.1 14; have z3 := rblk_cell hSw.1 15; have z4 := rblk_cell hSw.1 16; have z5 := rblk_cell hSw.1 17; clear hSw; go_simp; (try with_reducible rfl))
    try simp only [ps]
    refine rd1 (i := 4) (by kernel_rfl) rfl (fun K hK => ?_)
    go_simp
    (go_at_call 172; ((with_reducible refine (H1.out _ hHeld.2.2).mono ?_); rintro e Wr6_5 ⟨rfl, hb⟩))
    refine hK.out _ _ ⟨rblk_below hHeld.1 hb, rblk_below hHeld.2.1 hb, bt hHeld.2.2 hb⟩ (fun hH => ?_)
    replace hHeld := hH
    clear hK K hH
    clear hb
    try simp only [ps]
    refine tk (i := 5) (v := ?vg6_6) rfl (by kernel_rfl) (fun _ _ _ h => h) (Or.inl ⟨by rfl, ?hg6_6⟩) hHeld ?_
    case hg6_6 => (intro w hSw; (try dsimp only at hSw); clear hSw; go_simp; (try with_reducible rfl))
    try simp only [ps]
    refine tk (i := 6) (v := ?vg6_7) rfl (by kernel_rfl) (fun _ _ _ h => h) (Or.inl ⟨by rfl, ?hg6_7⟩) hHeld ?_
    case hg6_7 => (intro w hSw; (try dsimp only at hSw); have z0 := rblk_cell hSw.2.1 0; have z1 := rblk_cell hSw.2.1 1; have z2 := rblk_cell hSw.2.1 2; have z3 := rblk_cell hSw.2.1 3; have z4 := rblk_cell hSw.2.1 4; have z5 := rblk_cell hSw.2.1 5; clear hSw; go_simp; (try with_reducible rfl))
    try simp only [ps]
    refine tk (i := 7) (v := .agg #[.bool p.x.p, .slice p.a.A p.x.l.length p.a.c, .slice p.a.D p.x.m.length p.a.d, .bool p.y.p, .slice p.b.A p.y.l.length p.b.c, .slice p.b.D p.y.m.length p.b.d, .bool q.x.p, .slice q.a.A q.x.l.length q.a.c, .slice q.a.D q.x.m.length q.a.d, .bool q.y.p, .slice q.b.A q.y.l.length q.b.c, .slice q.b.D q.y.m.length q.b.d, .bool r.x.p, .slice r.a.A r.x.l.length r.a.c, .slice r.a.D r.x.m.length r.a.d, .bool r.y.p, .slice r.b.A r.y.l.length r.b.c, .slice r.b.D r.y.m.length r.b.d]) rfl (by kernel_rfl) (fun _ _ _ h => h) (yieldsIf_load_mid (by rfl) 53 (.tmp 3) rfl w.heap.size 0 rfl [.bool p.x.p, .slice p.a.A p.x.l.length p.a.c, .slice p.a.D p.x.m.length p.a.d, .bool p.y.p, .slice p.b.A p.y.l.length p.b.c, .slice p.b.D p.y.m.length p.b.d, .bool q.x.p, .slice q.a.A q.x.l.length q.a.c, .slice q.a.D q.x.m.length q.a.d, .bool q.y.p, .slice q.b.A q.y.l.length q.b.c, .slice q.b.D q.y.m.length q.b.d, .bool r.x.p, .slice r.a.A r.x.l.length r.a.c, .slice r.a.D r.x.m.length r.a.d, .bool r.y.p, .slice r.b.A r.y.l.length r.b.c, .slice r.b.D r.y.m.length r.b.d] _ (fun w hSw => range_row hSw.1) Tryz.underlying53 rfl tri_size) hHeld ?_
    try simp only [ps]
    refine tk (i := 8) (v := ?vg6_9) rfl (by kernel_rfl) (fun _ _ _ h => h) (Or.inl ⟨by rfl, ?hg6_9⟩) hHeld ?_
    case hg6_9 => (intro w hSw; (try dsimp only at hSw); clear hSw; go_simp; (try with_reducible rfl))
    try simp only [ps]
    refine tk (i := 9) (v := .int .i64 3) rfl (by kernel_rfl) (fun _ _ _ h => h) (Or.inl ⟨by rfl, ?hg6_10⟩) hHeld ?_
    case hg6_10 => (intro w hSw; (try dsimp only at hSw); clear hSw; go_simp; (try rfl))
    try simp only [ps]
    refine rd1 (i := 10) (by kernel_rfl) rfl (fun K hK => ?_)
    go_simp
    (go_at_call 108; ((with_reducible refine (HC.out _).mono ?_); rintro e Wr6_11 ⟨rfl, hb⟩))
    refine hK.out _ _ ⟨rblk_below hHeld.1 hb, rblk_below hHeld.2.1 hb, bt hHeld.2.2 hb⟩ (fun hH => ?_)
    replace hHeld := hH
    clear hK K hH
    clear hb
    try simp only [ps]
    refine rd1 (i := 11) (by kernel_rfl) rfl (fun K hK => ?_)
    go_simp
    (go_at_call 172; ((with_reducible refine (H2.out _ hHeld.2.2).mono ?_); rintro e Wr6_12 ⟨rfl, hb⟩))
    refine hK.out _ _ ⟨rblk_below hHeld.1 hb, rblk_below hHeld.2.1 hb, bt hHeld.2.2 hb⟩ (fun hH => ?_)
    replace hHeld := hH
    clear hK K hH
    clear hb
    try simp only [ps]
    refine tk (i := 12) (v := ?vg6_13) rfl (by kernel_rfl) (fun _ _ _ h => h) (Or.inl ⟨by rfl, ?hg6_13⟩) hHeld ?_
    case hg6_13 => (intro w hSw; (try dsimp only at hSw); clear hSw; go_simp; (try with_reducible rfl))
    try simp only [ps]
    refine tk (i := 13) (v := ?vg6_14) rfl (by kernel_rfl) (fun _ _ _ h => h) (Or.inl ⟨by rfl, ?hg6_14⟩) hHeld ?_
    case hg6_14 => (intro w hSw; (try dsimp only at hSw); clear hSw; go_simp; (try with_reducible rfl))
    try simp only [ps]
    refine wpAnyH_done (by kernel_rfl) ?_ _
    have kz := hHeld.2.2
    clear hHeld
    go_wp2
    go_ret
    exact ⟨by first | rfl | simp, kz⟩
end Go.Proofs.YtaohiacpdljacaaGreat
