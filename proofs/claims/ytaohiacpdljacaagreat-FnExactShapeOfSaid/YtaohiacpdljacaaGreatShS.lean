/-
  The model's ShapeOf.
-/
import Derived.Test.YtaohiacpdljacaaGreatShC
import Derived.Test.YtaohiacpdljacaaGreatTriS
namespace Go.Proofs.YtaohiacpdljacaaGreat
open Go.ChangeShapes Go.WideShapes Go.ChangeAt Go.RowKit
open Go.ChangeMaps (open_string shut_string)
set_option linter.unusedVariables false
set_option linter.unusedSimpArgs false
set_option maxRecDepth 4000

attribute [local go_sem ↓] Go.wp_at_zero Go.wp_at_succ
/-- None of the rows lies in block g. -/
def OffB (g : Nat) (rs : List (Option Addr × List Value)) : Prop := ∀ r, r ∈ rs → rowOf r.2.length r.1 ≠ some g
theorem offB_owns {lo hi g : Nat} {w : World} {rs : List (Option Addr × List Value)} (h : Owns lo hi w rs) (hg : g < lo) : OffB g rs := fun r hr e => by
  have := (h r hr).2 g e
  omega
theorem keep_rds {W0 W : World} {rr : Nat} {rs : List (Option Addr × List Value)} (hK : Keep3 W0 W rr) (h : Rds W0 rs) (ho : OffB rr rs) : Rds W rs := fun r hr => by
  rcases h r hr with h1 | ⟨b, off, ha, hs, hc⟩
  · exact .inl h1
  · by_cases h0 : r.2.length = 0
    · exact .inl (List.eq_nil_of_length_eq_zero h0)
    have hb : b ≠ rr := fun e => ho r hr (by unfold rowOf; rw [if_neg h0, ha, e]; rfl)
    have hk : W.heap[b]? = W0.heap[b]? := hK.2.block b hs (fun e => hb (by injection e))
    refine .inr ⟨b, off, ha, Nat.lt_of_lt_of_le hs hK.2.size, fun j hj => ?_⟩
    rw [World.cell?_of_block (w := W0) (a := ⟨b, off + j, none⟩) hk]; exact hc j hj
theorem sqO_pos {a b : PV} {t : Rat} (h : sqO a b = some t) : 0 ≤ t := by
  have sq : ∀ x : Rat, 0 ≤ x * x := fun x => by
    rcases Rat.le_total (a := 0) (b := x) with h | h
    · exact Rat.mul_nonneg h h
    · have h' : 0 ≤ -x := by have := Rat.neg_le_neg h; simpa using this
      have := Rat.mul_nonneg h' h'
      rwa [Rat.neg_mul, Rat.mul_neg, Rat.neg_neg] at this
  unfold sqO at h
  cases hx : dX a b with
  | none => rw [hx] at h; cases h
  | some x =>
    cases hy : dY a b with
    | none => rw [hx, hy] at h; have e : binQ mulQ (none : Option Rat) none = none := rfl; rw [e, bin_n2] at h; cases h
    | some y =>
      rw [hx, hy] at h
      have h' : binQ addQ (cutQ (x * x)) (cutQ (y * y)) = some t := h
      unfold cutQ at h'
      split at h'
      · split at h'
        · have h2 : cutQ (x * x + y * y) = some t := h'
          unfold cutQ at h2
          split at h2
          · injection h2 with h2
            rw [← h2]
            exact Rat.add_nonneg (sq x) (sq y)
          · cases h2
        · rw [bin_n2] at h'; cases h'
      · rw [bin_n1] at h'; cases h'
theorem max_zero {a b : PV} : binQ maxQ (some 0) (sqO a b) = sqO a b := by
  cases h : sqO a b with
  | none => rfl
  | some t =>
    have hp := sqO_pos h
    show maxQ 0 t = some t
    unfold maxQ
    have hn : ¬ t < 0 := fun h2 => absurd hp (Rat.not_le.2 h2)
    have hc : ¬ 0 < cmpQ 0 t := by
      unfold cmpQ
      split
      · omega
      · first | omega | (rw [if_neg hn]; omega)
    rw [if_neg hc]
theorem max_self (x : Option Rat) : binQ maxQ x x = x := by
  cases x with
  | none => rfl
  | some t =>
    show maxQ t t = some t
    unfold maxQ
    split <;> rfl
def lon1 (p q : PV) : Option Rat := binQ maxQ (sqO p q) (sqO p q)
def lon2 (p q r : PV) : Option Rat := binQ maxQ (lon1 p q) (sqO q r)
def lon3 (p q r : PV) : Option Rat := binQ maxQ (lon2 p q r) (sqO r p)
theorem lon_eq (p q r : PV) : lon3 p q r = long3 p q r := by
  unfold lon3 lon2 lon1 long3 long2 long1
  rw [max_zero, max_self]
theorem shape_no {L : List PV} (h : properB L = false) : shapeO L = none := by
  unfold shapeO
  rw [aT_no h, bin_n1]
theorem shape_yes {p q r : PV} (h : properB [p, q, r] = true) : shapeO [p, q, r] = binQ quoQ (aV p q r) (lon3 p q r) := by
  obtain ⟨e1, e2, e3⟩ := tri_yes h
  unfold shapeO
  rw [aT_yes h, e1, e2, e3, lon_eq]
theorem spec_subV (b a : PV) (w : World) (lb : LenP b) (la : LenP a) (kb : CapP b) (ka : CapP a) (hb : Rds w (prow b)) (ha : Rds w (prow a)) :
    Calls Tryz.prog 43 #[.agg #[.bool b.x.p, .slice b.a.A b.x.l.length b.a.c, .slice b.a.D b.x.m.length b.a.d, .bool b.y.p, .slice b.b.A b.y.l.length b.b.c, .slice b.b.D b.y.m.length b.b.d], .agg #[.bool a.x.p, .slice a.a.A a.x.l.length a.a.c, .slice a.a.D a.x.m.length a.a.d, .bool a.y.p, .slice a.b.A a.y.l.length a.b.c, .slice a.b.D a.y.m.length a.b.d]] w (MadeP w.heap.size (ofO (dX a b)) (ofO (dY a b)) w) :=
  spec_subP b.x b.y a.x a.y b.a b.b a.a a.b w lb.1.1 lb.1.2 lb.2.1 lb.2.2 la.1.1 la.1.2 la.2.1 la.2.2 ⟨kb.1, kb.2.1⟩ kb.2.2 ⟨ka.1, ka.2.1⟩ ka.2.2 hb ha
theorem spec_sqV (a b : PV) (c d : Ad) (w : World) (h : Rds w (rows (ofO (dX a b)) c ++ rows (ofO (dY a b)) d)) :
    Calls Tryz.prog 44 #[.agg #[.bool (ofO (dX a b)).p, .slice c.A (ofO (dX a b)).l.length c.c, .slice c.D (ofO (dX a b)).m.length c.d, .bool (ofO (dY a b)).p, .slice d.A (ofO (dY a b)).l.length d.c, .slice d.D (ofO (dY a b)).m.length d.d], .agg #[.bool (ofO (dX a b)).p, .slice c.A (ofO (dX a b)).l.length c.c, .slice c.D (ofO (dX a b)).m.length c.d, .bool (ofO (dY a b)).p, .slice d.A (ofO (dY a b)).l.length d.c, .slice d.D (ofO (dY a b)).m.length d.d]] w (MadeQ w.heap.size (ofO (sqO a b)) w) := by
  have h1 := (dX_fit a b).len
  have h2 := (dY_fit a b).len
  have k := spec_innerP (ofO (dX a b)) (ofO (dY a b)) (ofO (dX a b)) (ofO (dY a b)) c d c d w (by omega) (by omega) (by omega) (by omega) (by omega) (by omega) (by omega) (by omega) h h
  rw [valx_ofO (dX_fit a b), valx_ofO (dY_fit a b)] at k
  exact k
set_option maxHeartbeats 4000000 in
theorem spec_shapeOf (L : List PV) (A : Option Addr) (c : Nat) (w : World) (hn : L.length ≤ 9223372036854775807) (hL : ∀ p, p ∈ L → LenP p) (hC : ∀ p, p ∈ L → CapP p) (hA : RdS w A (flat L)) (hR : Rds w (lrow L)) :
    Calls Tryz.prog 17 #[.slice A L.length c] w (MadeQ w.heap.size (ofO (shapeO L)) w) := by
  have HP := Lib.hid (fun W h h' => spec_proper L A c W hn hL hC h h')
  have RP : Hid (∀ W, Below w.heap.size w W → RdS W A (flat L) ∧ Rds W (lrow L)) := Lib.hid (fun W hB => ⟨hA.below hB, hR.below hB⟩)
  cases hp : properB L with
  | false =>
    rw [hp] at HP
    rw [shape_no hp]
    generalize L.length = n at HP ⊢
    clear hA hR hL hC hn hp
    go_enter Tryz.func17, Tryz.ntmps17
    go_wp2_with fail
    have kb := ba1 w (.cells #[.bool false, .slice none 0 0, .slice none 0 0] 29)
    have P_o := heap_alloc_new w (.cells #[.bool false, .slice none 0 0, .slice none 0 0] 29)
    generalize w.alloc (.cells #[.bool false, .slice none 0 0, .slice none 0 0] 29) = W1 at kb P_o ⊢
    refine (HP.out _ (RP.out _ kb).1 (RP.out _ kb).2).mono ?_
    rintro e W2 ⟨rfl, hb⟩
    replace P_o := rblk_below P_o hb
    replace kb := bt kb hb
    clear hb
    have c_o0 : W2.cell? ⟨w.heap.size, 0, none⟩ = some (.bool false) := rblk_cell P_o 0
    have c_o1 : W2.cell? ⟨w.heap.size, 1, none⟩ = some (.slice none 0 0) := rblk_cell P_o 1
    have c_o2 : W2.cell? ⟨w.heap.size, 2, none⟩ = some (.slice none 0 0) := rblk_cell P_o 2
    have f_o0 := rblk_free P_o 0
    have f_o1 := rblk_free P_o 1
    have f_o2 := rblk_free P_o 2
    go_wp2
    exact bodyPost_ret (v := .agg #[.bool false, .slice none 0 0, .slice none 0 0]) (by simp [results, Tryz.results17, go_sem, c_o0, c_o1, c_o2]) rfl (none_rat _ _ _ (below_put (below_put (below_put kb (by omega) _) (by omega) _) (by omega) _))
  | true =>
    obtain ⟨p, q, r, rfl, _, _⟩ := properB_three hp
    obtain ⟨g, o, rfl, hg, c0, c1, c2, c3, c4, c5, c6, c7, c8, c9, c10, c11, c12, c13, c14, c15, c16, c17⟩ := hA.tri
    rw [hp] at HP
    rw [shape_yes hp]
    have HA := Lib.hid (fun W h1 h2 h3 => spec_areaV p q r W (hL p (by simp)) (hL q (by simp)) (hL r (by simp)) (hC p (by simp)) (hC q (by simp)) (hC r (by simp)) h1 h2 h3)
    have HD_0 : Hid (∀ W, Below w.heap.size w W → Calls Tryz.prog 43 #[.agg #[.bool q.x.p, .slice q.a.A q.x.l.length q.a.c, .slice q.a.D q.x.m.length q.a.d, .bool q.y.p, .slice q.b.A q.y.l.length q.b.c, .slice q.b.D q.y.m.length q.b.d], .agg #[.bool p.x.p, .slice p.a.A p.x.l.length p.a.c, .slice p.a.D p.x.m.length p.a.d, .bool p.y.p, .slice p.b.A p.y.l.length p.b.c, .slice p.b.D p.y.m.length p.b.d]] W (MadeP W.heap.size (ofO (dX p q)) (ofO (dY p q)) W)) := Lib.hid (fun W hB => spec_subV q p W (hL q (by simp)) (hL p (by simp)) (hC q (by simp)) (hC p (by simp)) ((hR.at (i := 1) rfl).below hB) ((hR.at (i := 0) rfl).below hB))
    have HI_0 := Lib.hid (fun c1 d1 W h => spec_sqV p q c1 d1 W h)
    have HD_1 : Hid (∀ W, Below w.heap.size w W → Calls Tryz.prog 43 #[.agg #[.bool r.x.p, .slice r.a.A r.x.l.length r.a.c, .slice r.a.D r.x.m.length r.a.d, .bool r.y.p, .slice r.b.A r.y.l.length r.b.c, .slice r.b.D r.y.m.length r.b.d], .agg #[.bool q.x.p, .slice q.a.A q.x.l.length q.a.c, .slice q.a.D q.x.m.length q.a.d, .bool q.y.p, .slice q.b.A q.y.l.length q.b.c, .slice q.b.D q.y.m.length q.b.d]] W (MadeP W.heap.size (ofO (dX q r)) (ofO (dY q r)) W)) := Lib.hid (fun W hB => spec_subV r q W (hL r (by simp)) (hL q (by simp)) (hC r (by simp)) (hC q (by simp)) ((hR.at (i := 2) rfl).below hB) ((hR.at (i := 1) rfl).below hB))
    have HI_1 := Lib.hid (fun c1 d1 W h => spec_sqV q r c1 d1 W h)
    have HD_2 : Hid (∀ W, Below w.heap.size w W → Calls Tryz.prog 43 #[.agg #[.bool p.x.p, .slice p.a.A p.x.l.length p.a.c, .slice p.a.D p.x.m.length p.a.d, .bool p.y.p, .slice p.b.A p.y.l.length p.b.c, .slice p.b.D p.y.m.length p.b.d], .agg #[.bool r.x.p, .slice r.a.A r.x.l.length r.a.c, .slice r.a.D r.x.m.length r.a.d, .bool r.y.p, .slice r.b.A r.y.l.length r.b.c, .slice r.b.D r.y.m.length r.b.d]] W (MadeP W.heap.size (ofO (dX r p)) (ofO (dY r p)) W)) := Lib.hid (fun W hB => spec_subV p r W (hL p (by simp)) (hL r (by simp)) (hC p (by simp)) (hC r (by simp)) ((hR.at (i := 0) rfl).below hB) ((hR.at (i := 2) rfl).below hB))
    have HI_2 := Lib.hid (fun c1 d1 W h => spec_sqV r p c1 d1 W h)
    have f1 : FitO (lon1 p q) := maxO_fit (sqO_fit _ _) (sqO_fit _ _)
    have f2 : FitO (lon2 p q r) := maxO_fit f1 (sqO_fit _ _)
    have f3 : FitO (lon3 p q r) := maxO_fit f2 (sqO_fit _ _)
    have HM_0 : Hid (∀ (a c : Ad) W, Rds W (rows (ofO (sqO p q)) a) → Rds W (rows (ofO (sqO p q)) c) → Calls Tryz.prog 45 #[.agg #[.bool (ofO (sqO p q)).p, .slice a.A (ofO (sqO p q)).l.length a.c, .slice a.D (ofO (sqO p q)).m.length a.d], .agg #[.bool (ofO (sqO p q)).p, .slice c.A (ofO (sqO p q)).l.length c.c, .slice c.D (ofO (sqO p q)).m.length c.d]] W (MadeQ W.heap.size (ofO (lon1 p q)) W)) := Lib.hid (fun a c W h h' => spec_max_o _ _ a c W (sqO_fit _ _) (sqO_fit _ _) h h')
    have HM_1 : Hid (∀ (a c : Ad) W, Rds W (rows (ofO (lon1 p q)) a) → Rds W (rows (ofO (sqO q r)) c) → Calls Tryz.prog 45 #[.agg #[.bool (ofO (lon1 p q)).p, .slice a.A (ofO (lon1 p q)).l.length a.c, .slice a.D (ofO (lon1 p q)).m.length a.d], .agg #[.bool (ofO (sqO q r)).p, .slice c.A (ofO (sqO q r)).l.length c.c, .slice c.D (ofO (sqO q r)).m.length c.d]] W (MadeQ W.heap.size (ofO (lon2 p q r)) W)) := Lib.hid (fun a c W h h' => spec_max_o _ _ a c W f1 (sqO_fit _ _) h h')
    have HM_2 : Hid (∀ (a c : Ad) W, Rds W (rows (ofO (lon2 p q r)) a) → Rds W (rows (ofO (sqO r p)) c) → Calls Tryz.prog 45 #[.agg #[.bool (ofO (lon2 p q r)).p, .slice a.A (ofO (lon2 p q r)).l.length a.c, .slice a.D (ofO (lon2 p q r)).m.length a.d], .agg #[.bool (ofO (sqO r p)).p, .slice c.A (ofO (sqO r p)).l.length c.c, .slice c.D (ofO (sqO r p)).m.length c.d]] W (MadeQ W.heap.size (ofO (lon3 p q r)) W)) := Lib.hid (fun a c W h h' => spec_max_o _ _ a c W f2 (sqO_fit _ _) h h')
    have hsh := (aV_fit p q r).len
    have hsh2 := f3.len
    have HV := Lib.hid (fun a c W kx ku h h' => spec_div_r (ofO (aV p q r)) (ofO (lon3 p q r)) a c W (by omega) (by omega) (by omega) (by omega) kx ku h h')
    rw [valx_ofO (aV_fit p q r), valx_ofO f3] at HV
    have RR : Hid (∀ W, Below w.heap.size w W → Rds W (prow p) ∧ Rds W (prow q) ∧ Rds W (prow r)) := Lib.hid (fun W hB => ⟨(hR.at (i := 0) rfl).below hB, (hR.at (i := 1) rfl).below hB, (hR.at (i := 2) rfl).below hB⟩)
    have SL : Hid (∀ w', Below w.heap.size w w' → (w'.cell? ⟨g, o, none⟩ = some (.bool p.x.p) ∧ w'.cell? ⟨g, o + 1, none⟩ = some (.slice p.a.A p.x.l.length p.a.c) ∧ w'.cell? ⟨g, o + 2, none⟩ = some (.slice p.a.D p.x.m.length p.a.d) ∧ w'.cell? ⟨g, o + 3, none⟩ = some (.bool p.y.p) ∧ w'.cell? ⟨g, o + 4, none⟩ = some (.slice p.b.A p.y.l.length p.b.c) ∧ w'.cell? ⟨g, o + 5, none⟩ = some (.slice p.b.D p.y.m.length p.b.d) ∧ w'.cell? ⟨g, o + 6, none⟩ = some (.bool q.x.p) ∧ w'.cell? ⟨g, o + 7, none⟩ = some (.slice q.a.A q.x.l.length q.a.c) ∧ w'.cell? ⟨g, o + 8, none⟩ = some (.slice q.a.D q.x.m.length q.a.d) ∧ w'.cell? ⟨g, o + 9, none⟩ = some (.bool q.y.p) ∧ w'.cell? ⟨g, o + 10, none⟩ = some (.slice q.b.A q.y.l.length q.b.c) ∧ w'.cell? ⟨g, o + 11, none⟩ = some (.slice q.b.D q.y.m.length q.b.d) ∧ w'.cell? ⟨g, o + 12, none⟩ = some (.bool r.x.p) ∧ w'.cell? ⟨g, o + 13, none⟩ = some (.slice r.a.A r.x.l.length r.a.c) ∧ w'.cell? ⟨g, o + 14, none⟩ = some (.slice r.a.D r.x.m.length r.a.d) ∧ w'.cell? ⟨g, o + 15, none⟩ = some (.bool r.y.p) ∧ w'.cell? ⟨g, o + 16, none⟩ = some (.slice r.b.A r.y.l.length r.b.c) ∧ w'.cell? ⟨g, o + 17, none⟩ = some (.slice r.b.D r.y.m.length r.b.d))) := Lib.hid (fun w' hB => ⟨below_cell hB c0, below_cell hB c1, below_cell hB c2, below_cell hB c3, below_cell hB c4, below_cell hB c5, below_cell hB c6, below_cell hB c7, below_cell hB c8, below_cell hB c9, below_cell hB c10, below_cell hB c11, below_cell hB c12, below_cell hB c13, below_cell hB c14, below_cell hB c15, below_cell hB c16, below_cell hB c17⟩)
    show Calls Tryz.prog 17 #[.slice (some ⟨g, o, none⟩) 3 c] w (MadeQ w.heap.size (ofO (binQ quoQ (aV p q r) (lon3 p q r))) w)
    generalize ofO (binQ quoQ (aV p q r) (lon3 p q r)) = V at HV ⊢
    generalize ofO (aV p q r) = U at HA HV
    generalize ofO (sqO p q) = S0 at HI_0 HM_0
    generalize ofO (sqO q r) = S1 at HI_1 HM_1
    generalize ofO (sqO r p) = S2 at HI_2 HM_2
    generalize ofO (lon1 p q) = L1 at HM_0 HM_1
    generalize ofO (lon2 p q r) = L2 at HM_1 HM_2
    generalize ofO (lon3 p q r) = L3 at HM_2 HV
    generalize ofO (dX p q) = X0 at HD_0 HI_0
    generalize ofO (dY p q) = Y0 at HD_0 HI_0
    generalize ofO (dX q r) = X1 at HD_1 HI_1
    generalize ofO (dY q r) = Y1 at HD_1 HI_1
    generalize ofO (dX r p) = X2 at HD_2 HI_2
    generalize ofO (dY r p) = Y2 at HD_2 HI_2
    unfold MadeQ at HA HI_0 HI_1 HI_2 HM_0 HM_1 HM_2 HV
    unfold MadeP at HD_0 HD_1 HD_2
    have hw0 : IntKind.i64.wrap 0 = 0 := by decide
    have hw1 : IntKind.i64.wrap 1 = 1 := by decide
    have hw2 : IntKind.i64.wrap 2 = 2 := by decide
    have hw3 : IntKind.i64.wrap 3 = 3 := by decide
    clear hA hR hL hC hn hp hsh hsh2 f1 f2 f3 c0 c1 c2 c3 c4 c5 c6 c7 c8 c9 c10 c11 c12 c13 c14 c15 c16 c17
    go_enter Tryz.func17, Tryz.ntmps17
    go_wp2_with fail
    have kb := ba1 w (.cells #[.bool false, .slice none 0 0, .slice none 0 0] 29)
    have P_o := heap_alloc_new w (.cells #[.bool false, .slice none 0 0, .slice none 0 0] 29)
    generalize w.alloc (.cells #[.bool false, .slice none 0 0, .slice none 0 0] 29) = W1 at kb P_o ⊢
    refine (HP.out _ (RP.out _ kb).1 (RP.out _ kb).2).mono ?_
    rintro e W2 ⟨rfl, hb⟩
    replace P_o := rblk_below P_o hb
    replace kb := bt kb hb
    clear hb
    obtain ⟨c0, c1, c2, c3, c4, c5, c6, c7, c8, c9, c10, c11, c12, c13, c14, c15, c16, c17⟩ := SL.out _ kb
    go_wp2_with fail
    have SB : Hid (∀ w', Below W2.heap.size W2 w' → (w'.cell? ⟨g, o + 6, none⟩ = some (.bool q.x.p) ∧ w'.cell? ⟨g, o + 7, none⟩ = some (.slice q.a.A q.x.l.length q.a.c) ∧ w'.cell? ⟨g, o + 8, none⟩ = some (.slice q.a.D q.x.m.length q.a.d) ∧ w'.cell? ⟨g, o + 9, none⟩ = some (.bool q.y.p) ∧ w'.cell? ⟨g, o + 10, none⟩ = some (.slice q.b.A q.y.l.length q.b.c) ∧ w'.cell? ⟨g, o + 11, none⟩ = some (.slice q.b.D q.y.m.length q.b.d) ∧ w'.cell? ⟨g, o, none⟩ = some (.bool p.x.p) ∧ w'.cell? ⟨g, o + 1, none⟩ = some (.slice p.a.A p.x.l.length p.a.c) ∧ w'.cell? ⟨g, o + 2, none⟩ = some (.slice p.a.D p.x.m.length p.a.d) ∧ w'.cell? ⟨g, o + 3, none⟩ = some (.bool p.y.p) ∧ w'.cell? ⟨g, o + 4, none⟩ = some (.slice p.b.A p.y.l.length p.b.c) ∧ w'.cell? ⟨g, o + 5, none⟩ = some (.slice p.b.D p.y.m.length p.b.d) ∧ Below W2.heap.size W2 w')) := Lib.hid (fun w' hB => ⟨below_cell hB c6, below_cell hB c7, below_cell hB c8, below_cell hB c9, below_cell hB c10, below_cell hB c11, below_cell hB c0, below_cell hB c1, below_cell hB c2, below_cell hB c3, below_cell hB c4, below_cell hB c5, hB⟩)
    have KW := Lib.hid kb
    go_cut [3] (fun sv wx => CutV6 W2 31 X0 Y0 sv wx)
    case first =>
      clear kb
      go_region_held3 (fun w' => w'.cell? ⟨g, o + 6, none⟩ = some (.bool q.x.p) ∧ w'.cell? ⟨g, o + 7, none⟩ = some (.slice q.a.A q.x.l.length q.a.c) ∧ w'.cell? ⟨g, o + 8, none⟩ = some (.slice q.a.D q.x.m.length q.a.d) ∧ w'.cell? ⟨g, o + 9, none⟩ = some (.bool q.y.p) ∧ w'.cell? ⟨g, o + 10, none⟩ = some (.slice q.b.A q.y.l.length q.b.c) ∧ w'.cell? ⟨g, o + 11, none⟩ = some (.slice q.b.D q.y.m.length q.b.d) ∧ w'.cell? ⟨g, o, none⟩ = some (.bool p.x.p) ∧ w'.cell? ⟨g, o + 1, none⟩ = some (.slice p.a.A p.x.l.length p.a.c) ∧ w'.cell? ⟨g, o + 2, none⟩ = some (.slice p.a.D p.x.m.length p.a.d) ∧ w'.cell? ⟨g, o + 3, none⟩ = some (.bool p.y.p) ∧ w'.cell? ⟨g, o + 4, none⟩ = some (.slice p.b.A p.y.l.length p.b.c) ∧ w'.cell? ⟨g, o + 5, none⟩ = some (.slice p.b.D p.y.m.length p.b.d) ∧ Below W2.heap.size W2 w')
        (first | (go_split_ands; with_reducible refine SB.out _ ?_; with_reducible refine below_put6 ?_ ?_ _ _ _ _ _ _; with_reducible assumption; (first | with_reducible exact Nat.le_refl _ | with_reducible assumption | exact Nat.le_refl _ | assumption)) | (with_reducible exact SB.out _ (Below.refl _ _).drew) | (with_reducible exact SB.out _ (ba1 _ _).drew) | (with_reducible exact SB.out _ (ba1 _ _)) | (with_reducible exact SB.out _ (Below.refl _ _)) | (go_split_ands; with_reducible exact SB.out _ (bt (by assumption : Below W2.heap.size W2 _) hb)) | (go_split_ands; with_reducible exact SB.out _ (Below.alloc (by assumption : Below W2.heap.size W2 _) (Below.size (by assumption : Below W2.heap.size W2 _)) _)))
        (first | (go_at_call 43; go_split_ands; ((with_reducible refine (HD_0.out _ (bt KW.out (by assumption : Below W2.heap.size W2 _))).mono ?_); rintro e Wq0 ⟨a1, b1, rfl, hcap, o1, hap1, hb⟩; skip; have KB0 := (by assumption : Below W2.heap.size W2 _); have KB := bt KB0 hb; have hsC := KB.size; have hs0 := KB0.size; (first | (with_reducible have tt := (tt_a hb).1; with_reducible have hgB := (tt_a hb).2) | (with_reducible have tt := (tt_b hb).1; with_reducible have hgB := (tt_b hb).2) | (with_reducible have hgB := (tt_c tt hb).2; with_reducible replace tt := (tt_c tt hb).1) | skip); (first | (have t0 := rblk_cell tt 0; have q0 := rblk_free tt 0; have t1 := rblk_cell tt 1; have q1 := rblk_free tt 1; have t2 := rblk_cell tt 2; have q2 := rblk_free tt 2; have t3 := rblk_cell tt 3; have q3 := rblk_free tt 3; have t4 := rblk_cell tt 4; have q4 := rblk_free tt 4; have t5 := rblk_cell tt 5; have q5 := rblk_free tt 5) | skip))))
      all_goals (go_wp2_with fail; go_meet; first | (with_reducible exact cutV6_late hsC hcap o1 hs0 (Nat.le_refl _) hap1 KB) | (with_reducible exact cutV6_early tt (by first | with_reducible exact Nat.le_refl _ | with_reducible assumption | exact Nat.le_refl _ | assumption) hgB hcap o1 hs0 (Nat.le_refl _) hap1 KB))
    case rest =>
      obtain ⟨g_d, a1, b1, rfl, hlo_d, hcap_d, P_d, o1, hap1, hb⟩ := hcut
      obtain ⟨W3, hWn⟩ : ∃ W', W' = wc := ⟨_, rfl⟩
      subst hWn
      replace P_o := rblk_below P_o hb
      replace kb := bt kb hb
      clear hb KW SB
      clear c0 c1 c2 c3 c4 c5 c6 c7 c8 c9 c10 c11 c12 c13 c14 c15 c16 c17
      have c_d0 : W3.cell? ⟨g_d, 0, none⟩ = some (.bool X0.p) := rblk_cell P_d 0
      have c_d1 : W3.cell? ⟨g_d, 1, none⟩ = some (.slice a1.A X0.l.length a1.c) := rblk_cell P_d 1
      have c_d2 : W3.cell? ⟨g_d, 2, none⟩ = some (.slice a1.D X0.m.length a1.d) := rblk_cell P_d 2
      have c_d3 : W3.cell? ⟨g_d, 3, none⟩ = some (.bool Y0.p) := rblk_cell P_d 3
      have c_d4 : W3.cell? ⟨g_d, 4, none⟩ = some (.slice b1.A Y0.l.length b1.c) := rblk_cell P_d 4
      have c_d5 : W3.cell? ⟨g_d, 5, none⟩ = some (.slice b1.D Y0.m.length b1.d) := rblk_cell P_d 5
      go_wp2_with fail
      clear c_d0 c_d1 c_d2 c_d3 c_d4 c_d5
      have hlt_o2 := rblk_lt P_o
      refine (HI_0.out a1 b1 _ o1.rds).mono ?_
      rintro e W4 ⟨a2, rfl, hc1, hc2, o2, hap2, hb⟩
      replace P_o := rblk_below P_o hb
      replace P_d := rblk_below P_d hb
      replace o1 := o1.below hb
      replace kb := bt kb hb
      clear hb
      have hneq_lo : W4.heap.size ≠ w.heap.size := by have := rblk_lt P_o; omega
      have hle_lo : w.heap.size ≤ W4.heap.size := kb.size
      have P_l := heap_alloc_new W4 (.cells #[.bool S0.p, .slice a2.A S0.l.length a2.c, .slice a2.D S0.m.length a2.d] 29)
      have hb := ba1 W4 (.cells #[.bool S0.p, .slice a2.A S0.l.length a2.c, .slice a2.D S0.m.length a2.d] 29)
      replace P_o := rblk_below P_o hb
      replace P_d := rblk_below P_d hb
      replace o1 := o1.below hb
      replace o2 := o2.below hb
      replace kb := bt kb hb
      clear hb
      go_wp2_with fail
      generalize W4.alloc (.cells #[.bool S0.p, .slice a2.A S0.l.length a2.c, .slice a2.D S0.m.length a2.d] 29) = W5 at kb P_o P_d P_l o1 o2 ⊢
      have ol := o2.rds
      have hoff0 : OffB w.heap.size (rows S0 a2) := offB_owns o2 hlt_o2
      have nr_lo : W4.heap.size ≠ w.heap.size := hneq_lo
      generalize W4.heap.size = gl at *
      clear P_d o1 o2 hap1 hap2 hcap_d hlo_d
      have HN := Lib.hid (And.intro nr_lo hle_lo)
      clear nr_lo hneq_lo hle_lo
      go_loopw [23] (fun k w' => ∃ (j : Nat) (Lx : R3) (a : Ad), j ≤ 3 ∧ k = .int .i64 (j : Int) ∧ (j = 0 → Lx = S0) ∧ (j = 1 → Lx = L1) ∧ (j = 2 → Lx = L2) ∧ (j = 3 → Lx = L3) ∧ (Lx.l.length ≤ a.c ∧ Lx.m.length ≤ a.d) ∧ OffB w.heap.size (rows Lx a) ∧ w'.heap[gl]? = some (.cells #[.bool Lx.p, .slice a.A Lx.l.length a.c, .slice a.D Lx.m.length a.d] 29 (0, 0)) ∧ Rds w' (rows Lx a) ∧ w'.heap[w.heap.size]? = some (.cells #[.bool false, .slice none 0 0, .slice none 0 0] 29) ∧ Below w.heap.size w w') (fun k _ => 3 - (intOf k).toNat)
      case atStart => exact ⟨0, S0, a2, by omega, rfl, (fun _ => rfl), (fun h => by omega), (fun h => by omega), (fun h => by omega), ⟨hc1, hc2⟩, hoff0, P_l, ol, P_o, kb⟩
      case round =>
        clear P_l ol P_o kb hc1 hc2
        obtain ⟨j, Lx, ax, hj, rfl, n0, n1, n2, n3, hcx, hox, P_l, ol, P_o, kb⟩ := hrel
        have hjc : j = 0 ∨ j = 1 ∨ j = 2 ∨ j = 3 := by omega
        rcases hjc with rfl | rfl | rfl | rfl
        · obtain rfl := n0 rfl
          clear n0 n1 n2 n3 hj hcx hox
          have HOL := Lib.hid ol
          have K0 := Lib.hid kb
          clear ol
          obtain ⟨c0, c1, c2, c3, c4, c5, c6, c7, c8, c9, c10, c11, c12, c13, c14, c15, c16, c17⟩ := SL.out _ kb
          go_wp2_with fail
          have SB : Hid (∀ w', Below wr.heap.size wr w' → (w'.cell? ⟨g, o + 6, none⟩ = some (.bool q.x.p) ∧ w'.cell? ⟨g, o + 7, none⟩ = some (.slice q.a.A q.x.l.length q.a.c) ∧ w'.cell? ⟨g, o + 8, none⟩ = some (.slice q.a.D q.x.m.length q.a.d) ∧ w'.cell? ⟨g, o + 9, none⟩ = some (.bool q.y.p) ∧ w'.cell? ⟨g, o + 10, none⟩ = some (.slice q.b.A q.y.l.length q.b.c) ∧ w'.cell? ⟨g, o + 11, none⟩ = some (.slice q.b.D q.y.m.length q.b.d) ∧ w'.cell? ⟨g, o, none⟩ = some (.bool p.x.p) ∧ w'.cell? ⟨g, o + 1, none⟩ = some (.slice p.a.A p.x.l.length p.a.c) ∧ w'.cell? ⟨g, o + 2, none⟩ = some (.slice p.a.D p.x.m.length p.a.d) ∧ w'.cell? ⟨g, o + 3, none⟩ = some (.bool p.y.p) ∧ w'.cell? ⟨g, o + 4, none⟩ = some (.slice p.b.A p.y.l.length p.b.c) ∧ w'.cell? ⟨g, o + 5, none⟩ = some (.slice p.b.D p.y.m.length p.b.d) ∧ Below wr.heap.size wr w')) := Lib.hid (fun w' hB => ⟨below_cell hB c6, below_cell hB c7, below_cell hB c8, below_cell hB c9, below_cell hB c10, below_cell hB c11, below_cell hB c0, below_cell hB c1, below_cell hB c2, below_cell hB c3, below_cell hB c4, below_cell hB c5, hB⟩)
          have KW := Lib.hid kb
          have K_lt := rblk_lt P_l
          go_cut [6] (fun sv wx => CutV6 wr 31 X0 Y0 sv wx)
          case first =>
            clear kb
            go_region_held3 (fun w' => w'.cell? ⟨g, o + 6, none⟩ = some (.bool q.x.p) ∧ w'.cell? ⟨g, o + 7, none⟩ = some (.slice q.a.A q.x.l.length q.a.c) ∧ w'.cell? ⟨g, o + 8, none⟩ = some (.slice q.a.D q.x.m.length q.a.d) ∧ w'.cell? ⟨g, o + 9, none⟩ = some (.bool q.y.p) ∧ w'.cell? ⟨g, o + 10, none⟩ = some (.slice q.b.A q.y.l.length q.b.c) ∧ w'.cell? ⟨g, o + 11, none⟩ = some (.slice q.b.D q.y.m.length q.b.d) ∧ w'.cell? ⟨g, o, none⟩ = some (.bool p.x.p) ∧ w'.cell? ⟨g, o + 1, none⟩ = some (.slice p.a.A p.x.l.length p.a.c) ∧ w'.cell? ⟨g, o + 2, none⟩ = some (.slice p.a.D p.x.m.length p.a.d) ∧ w'.cell? ⟨g, o + 3, none⟩ = some (.bool p.y.p) ∧ w'.cell? ⟨g, o + 4, none⟩ = some (.slice p.b.A p.y.l.length p.b.c) ∧ w'.cell? ⟨g, o + 5, none⟩ = some (.slice p.b.D p.y.m.length p.b.d) ∧ Below wr.heap.size wr w')
              (first | (go_split_ands; with_reducible refine SB.out _ ?_; with_reducible refine below_put6 ?_ ?_ _ _ _ _ _ _; with_reducible assumption; (first | with_reducible exact Nat.le_refl _ | with_reducible assumption | exact Nat.le_refl _ | assumption)) | (with_reducible exact SB.out _ (Below.refl _ _).drew) | (with_reducible exact SB.out _ (ba1 _ _).drew) | (with_reducible exact SB.out _ (ba1 _ _)) | (with_reducible exact SB.out _ (Below.refl _ _)) | (go_split_ands; with_reducible exact SB.out _ (bt (by assumption : Below wr.heap.size wr _) hb)) | (go_split_ands; with_reducible exact SB.out _ (Below.alloc (by assumption : Below wr.heap.size wr _) (Below.size (by assumption : Below wr.heap.size wr _)) _)))
              (first | (go_at_call 43; go_split_ands; ((with_reducible refine (HD_0.out _ (bt KW.out (by assumption : Below wr.heap.size wr _))).mono ?_); rintro e Wq0 ⟨ae, be, rfl, hcap, oe, hape, hb⟩; skip; have KB0 := (by assumption : Below wr.heap.size wr _); have KB := bt KB0 hb; have hsC := KB.size; have hs0 := KB0.size; (first | (with_reducible have tt := (tt_a hb).1; with_reducible have hgB := (tt_a hb).2) | (with_reducible have tt := (tt_b hb).1; with_reducible have hgB := (tt_b hb).2) | (with_reducible have hgB := (tt_c tt hb).2; with_reducible replace tt := (tt_c tt hb).1) | skip); (first | (have t0 := rblk_cell tt 0; have q0 := rblk_free tt 0; have t1 := rblk_cell tt 1; have q1 := rblk_free tt 1; have t2 := rblk_cell tt 2; have q2 := rblk_free tt 2; have t3 := rblk_cell tt 3; have q3 := rblk_free tt 3; have t4 := rblk_cell tt 4; have q4 := rblk_free tt 4; have t5 := rblk_cell tt 5; have q5 := rblk_free tt 5) | skip))))
            all_goals (go_wp2_with fail; go_meet; first | (with_reducible exact cutV6_late hsC hcap oe hs0 (Nat.le_refl _) hape KB) | (with_reducible exact cutV6_early tt (by first | with_reducible exact Nat.le_refl _ | with_reducible assumption | exact Nat.le_refl _ | assumption) hgB hcap oe hs0 (Nat.le_refl _) hape KB))
          case rest =>
            obtain ⟨g_e, ae, be, rfl, hlo_e, hcap_e, P_e, oe, hape, hb⟩ := hcut
            obtain ⟨W101, hWn⟩ : ∃ W', W' = wc := ⟨_, rfl⟩
            subst hWn
            replace P_o := rblk_below P_o hb
            replace P_l := rblk_below P_l hb
            replace kb := bt kb hb
            have HOL2 := Lib.hid (HOL.out.below hb)
            have hne_e : g_e ≠ gl := by have h1 := hlo_e; have h2 := K_lt; omega
            clear hb KW SB
            clear c0 c1 c2 c3 c4 c5 c6 c7 c8 c9 c10 c11 c12 c13 c14 c15 c16 c17
            have HOE := Lib.hid oe.rds
            clear oe
            go_wp2_with fail
            obtain ⟨rr, hrr⟩ : ∃ r, r = gl := ⟨_, rfl⟩
            subst hrr
            have nr_e : rr ≠ g_e := fun e => hne_e e.symm
            have nr_o : rr ≠ w.heap.size := HN.out.1
            have SB : Hid (∀ w', Keep3 W101 w' rr → (w'.cell? ⟨g_e, 0, none⟩ = some (.bool X0.p) ∧ w'.cell? ⟨g_e, 1, none⟩ = some (.slice ae.A X0.l.length ae.c) ∧ w'.cell? ⟨g_e, 2, none⟩ = some (.slice ae.D X0.m.length ae.d) ∧ w'.cell? ⟨g_e, 3, none⟩ = some (.bool Y0.p) ∧ w'.cell? ⟨g_e, 4, none⟩ = some (.slice be.A Y0.l.length be.c) ∧ w'.cell? ⟨g_e, 5, none⟩ = some (.slice be.D Y0.m.length be.d) ∧ Keep3 W101 w' rr)) := Lib.hid (fun w' hK => ⟨rblk_cell (hK.block P_e nr_e) 0, rblk_cell (hK.block P_e nr_e) 1, rblk_cell (hK.block P_e nr_e) 2, rblk_cell (hK.block P_e nr_e) 3, rblk_cell (hK.block P_e nr_e) 4, rblk_cell (hK.block P_e nr_e) 5, hK⟩)
            have KST := Keep3.start P_l
            have KW := Lib.hid kb
            have hlt0 := rblk_lt P_l
            clear kb
            refine wp_region_held_drew (S := fun w' => w'.cell? ⟨g_e, 0, none⟩ = some (.bool X0.p) ∧ w'.cell? ⟨g_e, 1, none⟩ = some (.slice ae.A X0.l.length ae.c) ∧ w'.cell? ⟨g_e, 2, none⟩ = some (.slice ae.D X0.m.length ae.d) ∧ w'.cell? ⟨g_e, 3, none⟩ = some (.bool Y0.p) ∧ w'.cell? ⟨g_e, 4, none⟩ = some (.slice be.A Y0.l.length be.c) ∧ w'.cell? ⟨g_e, 5, none⟩ = some (.slice be.D Y0.m.length be.d) ∧ Keep3 W101 w' rr) (by kernel_rfl) (SB.out _ KST.drew) (fun hHeld => ?_)
            have hCur : Keep3 W101 W101.drew rr := KST.drew
            have P_c : W101.drew.heap[rr]? = some (.cells #[.bool Lx.p, .slice ax.A Lx.l.length ax.c, .slice ax.D Lx.m.length ax.d] 29 (0, 0)) := P_l
            have HRw : Rds W101.drew (rows Lx ax) := HOL2.out.below ((Below.refl _ _).drew)
            have HRe : Rds W101.drew (rows X0 ae ++ rows Y0 be) := HOE.out.below ((Below.refl _ _).drew)
            refine tk (i := 1) (v := ?vs01) rfl (by kernel_rfl) (fun _ _ _ h => h) (Or.inl ⟨by rfl, ?hs01⟩) hHeld ?_
            case hs01 => (intro w hSw; (try dsimp only at hSw); go_simp; (try with_reducible rfl))
            try simp only [ps]
            refine tk (i := 2) (v := ?vs02) rfl (by kernel_rfl) (fun _ _ _ h => h) (Or.inl ⟨by rfl, ?hs02⟩) hHeld ?_
            case hs02 => (intro w hSw; (try dsimp only at hSw); go_simp; (try with_reducible rfl))
            try simp only [ps]
            refine wpAnyH_ready (rs := [0, 3]) (by kernel_rfl) (by simp) ?_
            refine rc1 rfl (fun K hK => ?_) (rc1 rfl (fun K hK => ?_) AllReadyH.nil)
            · skip
              have t0 := rblk_cell P_c 0
              have t1 := rblk_cell P_c 1
              have t2 := rblk_cell P_c 2
              go_simp
              clear t0 t1 t2
              refine hK.out _ _ (SB.out _ hCur) (fun hHeld' => ?_)
              clear hK K hHeld
              have hHeld := hHeld'
              clear hHeld'
              try simp only [ps]
              refine rd1 (i := 3) (by kernel_rfl) rfl (fun K hK => ?_)
              go_simp
              (go_at_call 44; ((with_reducible refine (HI_0.out _ _ _ HRe).mono ?_); rintro e Wa1 ⟨a1, rfl, hc1, hc2, o1, hap1, hb⟩))
              refine hK.out _ _ (SB.out _ (hCur.below hb)) (fun hHeld' => ?_)
              clear hK K hHeld
              have hHeld := hHeld'
              clear hHeld'
              replace hCur := hCur.below hb
              replace P_c := rblk_below P_c hb
              replace HRw := HRw.below hb
              clear hb
              try simp only [ps]
              refine rd1 (i := 4) (by kernel_rfl) rfl (fun K hK => ?_)
              go_simp
              (go_at_call 45; ((with_reducible refine (HM_0.out _ _ _ HRw o1.rds).mono ?_); rintro e Wa2 ⟨a3, rfl, hc5, hc6, o3, hap3, hb⟩))
              have hz3 := hCur.lt
              refine hK.out _ _ (SB.out _ (hCur.below hb)) (fun hHeld' => ?_)
              clear hK K hHeld
              have hHeld := hHeld'
              clear hHeld'
              replace hCur := hCur.below hb
              replace P_c := rblk_below P_c hb
              clear hb
              try simp only [ps]
              refine rd1 (i := 5) (by kernel_rfl) rfl (fun K hK => ?_)
              have t0 := rblk_cell P_c 0
              have q0 := rblk_free P_c 0
              have t1 := rblk_cell P_c 1
              have q1 := rblk_free P_c 1
              have t2 := rblk_cell P_c 2
              have q2 := rblk_free P_c 2
              go_simp
              clear t0 t1 t2 q0 q1 q2
              refine hK.out _ _ (SB.out _ (hCur.put3 (.bool L1.p) (.slice a3.A L1.l.length a3.c) (.slice a3.D L1.m.length a3.d))) (fun hHeld' => ?_)
              clear hK K hHeld
              have hHeld := hHeld'
              clear hHeld'
              replace hCur := hCur.put3 (.bool L1.p) (.slice a3.A L1.l.length a3.c) (.slice a3.D L1.m.length a3.d)
              have P_f := rblk_set (rblk_set (rblk_set P_c 0 (.bool L1.p)) 1 (.slice a3.A L1.l.length a3.c)) 2 (.slice a3.D L1.m.length a3.d)
              have hof3 : OffB w.heap.size (rows L1 a3) := offB_owns o3 (by have := HN.out.2; omega)
              replace o3 := (owns_put3 (r := rr) o3 (.inl hz3) (.bool L1.p) (.slice a3.A L1.l.length a3.c) (.slice a3.D L1.m.length a3.d)).rds
              try simp only [ps]
              refine wpAnyH_done (by kernel_rfl) ?_ _
              have P_o2 := hCur.block P_o nr_o
              have kz := hCur.base KW.out HN.out.2
              have HF := Lib.hid (And.intro (And.intro hc5 hc6) (And.intro hof3 (And.intro P_f (And.intro o3 (And.intro P_o2 kz)))))
              clear P_f o3 P_o2 kz hHeld hCur P_c hof3
              go_wp2
              go_roundw
              case rel => exact ⟨1, L1, a3, by omega, by go_num, (fun h => by omega), (fun _ => rfl), (fun h => by omega), (fun h => by omega), HF.out.1, HF.out.2.1, HF.out.2.2.1, HF.out.2.2.2.1, HF.out.2.2.2.2.1, HF.out.2.2.2.2.2⟩
              case measure => simp [intOf]
            · skip
              go_simp
              (go_at_call 44; ((with_reducible refine (HI_0.out _ _ _ HRe).mono ?_); rintro e Wb1 ⟨a1, rfl, hc1, hc2, o1, hap1, hb⟩))
              refine hK.out _ _ (SB.out _ (hCur.below hb)) (fun hHeld' => ?_)
              clear hK K hHeld
              have hHeld := hHeld'
              clear hHeld'
              replace hCur := hCur.below hb
              replace P_c := rblk_below P_c hb
              replace HRw := HRw.below hb
              clear hb
              try simp only [ps]
              refine rd1 (i := 0) (by kernel_rfl) rfl (fun K hK => ?_)
              have t0 := rblk_cell P_c 0
              have t1 := rblk_cell P_c 1
              have t2 := rblk_cell P_c 2
              go_simp
              clear t0 t1 t2
              refine hK.out _ _ (SB.out _ hCur) (fun hHeld' => ?_)
              clear hK K hHeld
              have hHeld := hHeld'
              clear hHeld'
              try simp only [ps]
              refine rd1 (i := 4) (by kernel_rfl) rfl (fun K hK => ?_)
              go_simp
              (go_at_call 45; ((with_reducible refine (HM_0.out _ _ _ HRw o1.rds).mono ?_); rintro e Wb2 ⟨a3, rfl, hc5, hc6, o3, hap3, hb⟩))
              have hz3 := hCur.lt
              refine hK.out _ _ (SB.out _ (hCur.below hb)) (fun hHeld' => ?_)
              clear hK K hHeld
              have hHeld := hHeld'
              clear hHeld'
              replace hCur := hCur.below hb
              replace P_c := rblk_below P_c hb
              clear hb
              try simp only [ps]
              refine rd1 (i := 5) (by kernel_rfl) rfl (fun K hK => ?_)
              have t0 := rblk_cell P_c 0
              have q0 := rblk_free P_c 0
              have t1 := rblk_cell P_c 1
              have q1 := rblk_free P_c 1
              have t2 := rblk_cell P_c 2
              have q2 := rblk_free P_c 2
              go_simp
              clear t0 t1 t2 q0 q1 q2
              refine hK.out _ _ (SB.out _ (hCur.put3 (.bool L1.p) (.slice a3.A L1.l.length a3.c) (.slice a3.D L1.m.length a3.d))) (fun hHeld' => ?_)
              clear hK K hHeld
              have hHeld := hHeld'
              clear hHeld'
              replace hCur := hCur.put3 (.bool L1.p) (.slice a3.A L1.l.length a3.c) (.slice a3.D L1.m.length a3.d)
              have P_f := rblk_set (rblk_set (rblk_set P_c 0 (.bool L1.p)) 1 (.slice a3.A L1.l.length a3.c)) 2 (.slice a3.D L1.m.length a3.d)
              have hof3 : OffB w.heap.size (rows L1 a3) := offB_owns o3 (by have := HN.out.2; omega)
              replace o3 := (owns_put3 (r := rr) o3 (.inl hz3) (.bool L1.p) (.slice a3.A L1.l.length a3.c) (.slice a3.D L1.m.length a3.d)).rds
              try simp only [ps]
              refine wpAnyH_done (by kernel_rfl) ?_ _
              have P_o2 := hCur.block P_o nr_o
              have kz := hCur.base KW.out HN.out.2
              have HF := Lib.hid (And.intro (And.intro hc5 hc6) (And.intro hof3 (And.intro P_f (And.intro o3 (And.intro P_o2 kz)))))
              clear P_f o3 P_o2 kz hHeld hCur P_c hof3
              go_wp2
              go_roundw
              case rel => exact ⟨1, L1, a3, by omega, by go_num, (fun h => by omega), (fun _ => rfl), (fun h => by omega), (fun h => by omega), HF.out.1, HF.out.2.1, HF.out.2.2.1, HF.out.2.2.2.1, HF.out.2.2.2.2.1, HF.out.2.2.2.2.2⟩
              case measure => simp [intOf]
        · obtain rfl := n1 rfl
          clear n0 n1 n2 n3 hj hcx hox
          have HOL := Lib.hid ol
          have K0 := Lib.hid kb
          clear ol
          obtain ⟨c0, c1, c2, c3, c4, c5, c6, c7, c8, c9, c10, c11, c12, c13, c14, c15, c16, c17⟩ := SL.out _ kb
          go_wp2_with fail
          have SB : Hid (∀ w', Below wr.heap.size wr w' → (w'.cell? ⟨g, o + 12, none⟩ = some (.bool r.x.p) ∧ w'.cell? ⟨g, o + 13, none⟩ = some (.slice r.a.A r.x.l.length r.a.c) ∧ w'.cell? ⟨g, o + 14, none⟩ = some (.slice r.a.D r.x.m.length r.a.d) ∧ w'.cell? ⟨g, o + 15, none⟩ = some (.bool r.y.p) ∧ w'.cell? ⟨g, o + 16, none⟩ = some (.slice r.b.A r.y.l.length r.b.c) ∧ w'.cell? ⟨g, o + 17, none⟩ = some (.slice r.b.D r.y.m.length r.b.d) ∧ w'.cell? ⟨g, o + 6, none⟩ = some (.bool q.x.p) ∧ w'.cell? ⟨g, o + 7, none⟩ = some (.slice q.a.A q.x.l.length q.a.c) ∧ w'.cell? ⟨g, o + 8, none⟩ = some (.slice q.a.D q.x.m.length q.a.d) ∧ w'.cell? ⟨g, o + 9, none⟩ = some (.bool q.y.p) ∧ w'.cell? ⟨g, o + 10, none⟩ = some (.slice q.b.A q.y.l.length q.b.c) ∧ w'.cell? ⟨g, o + 11, none⟩ = some (.slice q.b.D q.y.m.length q.b.d) ∧ Below wr.heap.size wr w')) := Lib.hid (fun w' hB => ⟨below_cell hB c12, below_cell hB c13, below_cell hB c14, below_cell hB c15, below_cell hB c16, below_cell hB c17, below_cell hB c6, below_cell hB c7, below_cell hB c8, below_cell hB c9, below_cell hB c10, below_cell hB c11, hB⟩)
          have KW := Lib.hid kb
          have K_lt := rblk_lt P_l
          go_cut [6] (fun sv wx => CutV6 wr 31 X1 Y1 sv wx)
          case first =>
            clear kb
            go_region_held3 (fun w' => w'.cell? ⟨g, o + 12, none⟩ = some (.bool r.x.p) ∧ w'.cell? ⟨g, o + 13, none⟩ = some (.slice r.a.A r.x.l.length r.a.c) ∧ w'.cell? ⟨g, o + 14, none⟩ = some (.slice r.a.D r.x.m.length r.a.d) ∧ w'.cell? ⟨g, o + 15, none⟩ = some (.bool r.y.p) ∧ w'.cell? ⟨g, o + 16, none⟩ = some (.slice r.b.A r.y.l.length r.b.c) ∧ w'.cell? ⟨g, o + 17, none⟩ = some (.slice r.b.D r.y.m.length r.b.d) ∧ w'.cell? ⟨g, o + 6, none⟩ = some (.bool q.x.p) ∧ w'.cell? ⟨g, o + 7, none⟩ = some (.slice q.a.A q.x.l.length q.a.c) ∧ w'.cell? ⟨g, o + 8, none⟩ = some (.slice q.a.D q.x.m.length q.a.d) ∧ w'.cell? ⟨g, o + 9, none⟩ = some (.bool q.y.p) ∧ w'.cell? ⟨g, o + 10, none⟩ = some (.slice q.b.A q.y.l.length q.b.c) ∧ w'.cell? ⟨g, o + 11, none⟩ = some (.slice q.b.D q.y.m.length q.b.d) ∧ Below wr.heap.size wr w')
              (first | (go_split_ands; with_reducible refine SB.out _ ?_; with_reducible refine below_put6 ?_ ?_ _ _ _ _ _ _; with_reducible assumption; (first | with_reducible exact Nat.le_refl _ | with_reducible assumption | exact Nat.le_refl _ | assumption)) | (with_reducible exact SB.out _ (Below.refl _ _).drew) | (with_reducible exact SB.out _ (ba1 _ _).drew) | (with_reducible exact SB.out _ (ba1 _ _)) | (with_reducible exact SB.out _ (Below.refl _ _)) | (go_split_ands; with_reducible exact SB.out _ (bt (by assumption : Below wr.heap.size wr _) hb)) | (go_split_ands; with_reducible exact SB.out _ (Below.alloc (by assumption : Below wr.heap.size wr _) (Below.size (by assumption : Below wr.heap.size wr _)) _)))
              (first | (go_at_call 43; go_split_ands; ((with_reducible refine (HD_1.out _ (bt KW.out (by assumption : Below wr.heap.size wr _))).mono ?_); rintro e Wq0 ⟨ae, be, rfl, hcap, oe, hape, hb⟩; skip; have KB0 := (by assumption : Below wr.heap.size wr _); have KB := bt KB0 hb; have hsC := KB.size; have hs0 := KB0.size; (first | (with_reducible have tt := (tt_a hb).1; with_reducible have hgB := (tt_a hb).2) | (with_reducible have tt := (tt_b hb).1; with_reducible have hgB := (tt_b hb).2) | (with_reducible have hgB := (tt_c tt hb).2; with_reducible replace tt := (tt_c tt hb).1) | skip); (first | (have t0 := rblk_cell tt 0; have q0 := rblk_free tt 0; have t1 := rblk_cell tt 1; have q1 := rblk_free tt 1; have t2 := rblk_cell tt 2; have q2 := rblk_free tt 2; have t3 := rblk_cell tt 3; have q3 := rblk_free tt 3; have t4 := rblk_cell tt 4; have q4 := rblk_free tt 4; have t5 := rblk_cell tt 5; have q5 := rblk_free tt 5) | skip))))
            all_goals (go_wp2_with fail; go_meet; first | (with_reducible exact cutV6_late hsC hcap oe hs0 (Nat.le_refl _) hape KB) | (with_reducible exact cutV6_early tt (by first | with_reducible exact Nat.le_refl _ | with_reducible assumption | exact Nat.le_refl _ | assumption) hgB hcap oe hs0 (Nat.le_refl _) hape KB))
          case rest =>
            obtain ⟨g_e, ae, be, rfl, hlo_e, hcap_e, P_e, oe, hape, hb⟩ := hcut
            obtain ⟨W201, hWn⟩ : ∃ W', W' = wc := ⟨_, rfl⟩
            subst hWn
            replace P_o := rblk_below P_o hb
            replace P_l := rblk_below P_l hb
            replace kb := bt kb hb
            have HOL2 := Lib.hid (HOL.out.below hb)
            have hne_e : g_e ≠ gl := by have h1 := hlo_e; have h2 := K_lt; omega
            clear hb KW SB
            clear c0 c1 c2 c3 c4 c5 c6 c7 c8 c9 c10 c11 c12 c13 c14 c15 c16 c17
            have HOE := Lib.hid oe.rds
            clear oe
            go_wp2_with fail
            obtain ⟨rr, hrr⟩ : ∃ r, r = gl := ⟨_, rfl⟩
            subst hrr
            have nr_e : rr ≠ g_e := fun e => hne_e e.symm
            have nr_o : rr ≠ w.heap.size := HN.out.1
            have SB : Hid (∀ w', Keep3 W201 w' rr → (w'.cell? ⟨g_e, 0, none⟩ = some (.bool X1.p) ∧ w'.cell? ⟨g_e, 1, none⟩ = some (.slice ae.A X1.l.length ae.c) ∧ w'.cell? ⟨g_e, 2, none⟩ = some (.slice ae.D X1.m.length ae.d) ∧ w'.cell? ⟨g_e, 3, none⟩ = some (.bool Y1.p) ∧ w'.cell? ⟨g_e, 4, none⟩ = some (.slice be.A Y1.l.length be.c) ∧ w'.cell? ⟨g_e, 5, none⟩ = some (.slice be.D Y1.m.length be.d) ∧ Keep3 W201 w' rr)) := Lib.hid (fun w' hK => ⟨rblk_cell (hK.block P_e nr_e) 0, rblk_cell (hK.block P_e nr_e) 1, rblk_cell (hK.block P_e nr_e) 2, rblk_cell (hK.block P_e nr_e) 3, rblk_cell (hK.block P_e nr_e) 4, rblk_cell (hK.block P_e nr_e) 5, hK⟩)
            have KST := Keep3.start P_l
            have KW := Lib.hid kb
            have hlt0 := rblk_lt P_l
            clear kb
            refine wp_region_held_drew (S := fun w' => w'.cell? ⟨g_e, 0, none⟩ = some (.bool X1.p) ∧ w'.cell? ⟨g_e, 1, none⟩ = some (.slice ae.A X1.l.length ae.c) ∧ w'.cell? ⟨g_e, 2, none⟩ = some (.slice ae.D X1.m.length ae.d) ∧ w'.cell? ⟨g_e, 3, none⟩ = some (.bool Y1.p) ∧ w'.cell? ⟨g_e, 4, none⟩ = some (.slice be.A Y1.l.length be.c) ∧ w'.cell? ⟨g_e, 5, none⟩ = some (.slice be.D Y1.m.length be.d) ∧ Keep3 W201 w' rr) (by kernel_rfl) (SB.out _ KST.drew) (fun hHeld => ?_)
            have hCur : Keep3 W201 W201.drew rr := KST.drew
            have P_c : W201.drew.heap[rr]? = some (.cells #[.bool Lx.p, .slice ax.A Lx.l.length ax.c, .slice ax.D Lx.m.length ax.d] 29 (0, 0)) := P_l
            have HRw : Rds W201.drew (rows Lx ax) := HOL2.out.below ((Below.refl _ _).drew)
            have HRe : Rds W201.drew (rows X1 ae ++ rows Y1 be) := HOE.out.below ((Below.refl _ _).drew)
            refine tk (i := 1) (v := ?vs11) rfl (by kernel_rfl) (fun _ _ _ h => h) (Or.inl ⟨by rfl, ?hs11⟩) hHeld ?_
            case hs11 => (intro w hSw; (try dsimp only at hSw); go_simp; (try with_reducible rfl))
            try simp only [ps]
            refine tk (i := 2) (v := ?vs12) rfl (by kernel_rfl) (fun _ _ _ h => h) (Or.inl ⟨by rfl, ?hs12⟩) hHeld ?_
            case hs12 => (intro w hSw; (try dsimp only at hSw); go_simp; (try with_reducible rfl))
            try simp only [ps]
            refine wpAnyH_ready (rs := [0, 3]) (by kernel_rfl) (by simp) ?_
            refine rc1 rfl (fun K hK => ?_) (rc1 rfl (fun K hK => ?_) AllReadyH.nil)
            · skip
              have t0 := rblk_cell P_c 0
              have t1 := rblk_cell P_c 1
              have t2 := rblk_cell P_c 2
              go_simp
              clear t0 t1 t2
              refine hK.out _ _ (SB.out _ hCur) (fun hHeld' => ?_)
              clear hK K hHeld
              have hHeld := hHeld'
              clear hHeld'
              try simp only [ps]
              refine rd1 (i := 3) (by kernel_rfl) rfl (fun K hK => ?_)
              go_simp
              (go_at_call 44; ((with_reducible refine (HI_1.out _ _ _ HRe).mono ?_); rintro e Wa1 ⟨a1, rfl, hc1, hc2, o1, hap1, hb⟩))
              refine hK.out _ _ (SB.out _ (hCur.below hb)) (fun hHeld' => ?_)
              clear hK K hHeld
              have hHeld := hHeld'
              clear hHeld'
              replace hCur := hCur.below hb
              replace P_c := rblk_below P_c hb
              replace HRw := HRw.below hb
              clear hb
              try simp only [ps]
              refine rd1 (i := 4) (by kernel_rfl) rfl (fun K hK => ?_)
              go_simp
              (go_at_call 45; ((with_reducible refine (HM_1.out _ _ _ HRw o1.rds).mono ?_); rintro e Wa2 ⟨a3, rfl, hc5, hc6, o3, hap3, hb⟩))
              have hz3 := hCur.lt
              refine hK.out _ _ (SB.out _ (hCur.below hb)) (fun hHeld' => ?_)
              clear hK K hHeld
              have hHeld := hHeld'
              clear hHeld'
              replace hCur := hCur.below hb
              replace P_c := rblk_below P_c hb
              clear hb
              try simp only [ps]
              refine rd1 (i := 5) (by kernel_rfl) rfl (fun K hK => ?_)
              have t0 := rblk_cell P_c 0
              have q0 := rblk_free P_c 0
              have t1 := rblk_cell P_c 1
              have q1 := rblk_free P_c 1
              have t2 := rblk_cell P_c 2
              have q2 := rblk_free P_c 2
              go_simp
              clear t0 t1 t2 q0 q1 q2
              refine hK.out _ _ (SB.out _ (hCur.put3 (.bool L2.p) (.slice a3.A L2.l.length a3.c) (.slice a3.D L2.m.length a3.d))) (fun hHeld' => ?_)
              clear hK K hHeld
              have hHeld := hHeld'
              clear hHeld'
              replace hCur := hCur.put3 (.bool L2.p) (.slice a3.A L2.l.length a3.c) (.slice a3.D L2.m.length a3.d)
              have P_f := rblk_set (rblk_set (rblk_set P_c 0 (.bool L2.p)) 1 (.slice a3.A L2.l.length a3.c)) 2 (.slice a3.D L2.m.length a3.d)
              have hof3 : OffB w.heap.size (rows L2 a3) := offB_owns o3 (by have := HN.out.2; omega)
              replace o3 := (owns_put3 (r := rr) o3 (.inl hz3) (.bool L2.p) (.slice a3.A L2.l.length a3.c) (.slice a3.D L2.m.length a3.d)).rds
              try simp only [ps]
              refine wpAnyH_done (by kernel_rfl) ?_ _
              have P_o2 := hCur.block P_o nr_o
              have kz := hCur.base KW.out HN.out.2
              have HF := Lib.hid (And.intro (And.intro hc5 hc6) (And.intro hof3 (And.intro P_f (And.intro o3 (And.intro P_o2 kz)))))
              clear P_f o3 P_o2 kz hHeld hCur P_c hof3
              go_wp2
              go_roundw
              case rel => exact ⟨2, L2, a3, by omega, by go_num, (fun h => by omega), (fun h => by omega), (fun _ => rfl), (fun h => by omega), HF.out.1, HF.out.2.1, HF.out.2.2.1, HF.out.2.2.2.1, HF.out.2.2.2.2.1, HF.out.2.2.2.2.2⟩
              case measure => simp [intOf]
            · skip
              go_simp
              (go_at_call 44; ((with_reducible refine (HI_1.out _ _ _ HRe).mono ?_); rintro e Wb1 ⟨a1, rfl, hc1, hc2, o1, hap1, hb⟩))
              refine hK.out _ _ (SB.out _ (hCur.below hb)) (fun hHeld' => ?_)
              clear hK K hHeld
              have hHeld := hHeld'
              clear hHeld'
              replace hCur := hCur.below hb
              replace P_c := rblk_below P_c hb
              replace HRw := HRw.below hb
              clear hb
              try simp only [ps]
              refine rd1 (i := 0) (by kernel_rfl) rfl (fun K hK => ?_)
              have t0 := rblk_cell P_c 0
              have t1 := rblk_cell P_c 1
              have t2 := rblk_cell P_c 2
              go_simp
              clear t0 t1 t2
              refine hK.out _ _ (SB.out _ hCur) (fun hHeld' => ?_)
              clear hK K hHeld
              have hHeld := hHeld'
              clear hHeld'
              try simp only [ps]
              refine rd1 (i := 4) (by kernel_rfl) rfl (fun K hK => ?_)
              go_simp
              (go_at_call 45; ((with_reducible refine (HM_1.out _ _ _ HRw o1.rds).mono ?_); rintro e Wb2 ⟨a3, rfl, hc5, hc6, o3, hap3, hb⟩))
              have hz3 := hCur.lt
              refine hK.out _ _ (SB.out _ (hCur.below hb)) (fun hHeld' => ?_)
              clear hK K hHeld
              have hHeld := hHeld'
              clear hHeld'
              replace hCur := hCur.below hb
              replace P_c := rblk_below P_c hb
              clear hb
              try simp only [ps]
              refine rd1 (i := 5) (by kernel_rfl) rfl (fun K hK => ?_)
              have t0 := rblk_cell P_c 0
              have q0 := rblk_free P_c 0
              have t1 := rblk_cell P_c 1
              have q1 := rblk_free P_c 1
              have t2 := rblk_cell P_c 2
              have q2 := rblk_free P_c 2
              go_simp
              clear t0 t1 t2 q0 q1 q2
              refine hK.out _ _ (SB.out _ (hCur.put3 (.bool L2.p) (.slice a3.A L2.l.length a3.c) (.slice a3.D L2.m.length a3.d))) (fun hHeld' => ?_)
              clear hK K hHeld
              have hHeld := hHeld'
              clear hHeld'
              replace hCur := hCur.put3 (.bool L2.p) (.slice a3.A L2.l.length a3.c) (.slice a3.D L2.m.length a3.d)
              have P_f := rblk_set (rblk_set (rblk_set P_c 0 (.bool L2.p)) 1 (.slice a3.A L2.l.length a3.c)) 2 (.slice a3.D L2.m.length a3.d)
              have hof3 : OffB w.heap.size (rows L2 a3) := offB_owns o3 (by have := HN.out.2; omega)
              replace o3 := (owns_put3 (r := rr) o3 (.inl hz3) (.bool L2.p) (.slice a3.A L2.l.length a3.c) (.slice a3.D L2.m.length a3.d)).rds
              try simp only [ps]
              refine wpAnyH_done (by kernel_rfl) ?_ _
              have P_o2 := hCur.block P_o nr_o
              have kz := hCur.base KW.out HN.out.2
              have HF := Lib.hid (And.intro (And.intro hc5 hc6) (And.intro hof3 (And.intro P_f (And.intro o3 (And.intro P_o2 kz)))))
              clear P_f o3 P_o2 kz hHeld hCur P_c hof3
              go_wp2
              go_roundw
              case rel => exact ⟨2, L2, a3, by omega, by go_num, (fun h => by omega), (fun h => by omega), (fun _ => rfl), (fun h => by omega), HF.out.1, HF.out.2.1, HF.out.2.2.1, HF.out.2.2.2.1, HF.out.2.2.2.2.1, HF.out.2.2.2.2.2⟩
              case measure => simp [intOf]
        · obtain rfl := n2 rfl
          clear n0 n1 n2 n3 hj hcx hox
          have HOL := Lib.hid ol
          have K0 := Lib.hid kb
          clear ol
          obtain ⟨c0, c1, c2, c3, c4, c5, c6, c7, c8, c9, c10, c11, c12, c13, c14, c15, c16, c17⟩ := SL.out _ kb
          go_wp2_with fail
          have SB : Hid (∀ w', Below wr.heap.size wr w' → (w'.cell? ⟨g, o, none⟩ = some (.bool p.x.p) ∧ w'.cell? ⟨g, o + 1, none⟩ = some (.slice p.a.A p.x.l.length p.a.c) ∧ w'.cell? ⟨g, o + 2, none⟩ = some (.slice p.a.D p.x.m.length p.a.d) ∧ w'.cell? ⟨g, o + 3, none⟩ = some (.bool p.y.p) ∧ w'.cell? ⟨g, o + 4, none⟩ = some (.slice p.b.A p.y.l.length p.b.c) ∧ w'.cell? ⟨g, o + 5, none⟩ = some (.slice p.b.D p.y.m.length p.b.d) ∧ w'.cell? ⟨g, o + 12, none⟩ = some (.bool r.x.p) ∧ w'.cell? ⟨g, o + 13, none⟩ = some (.slice r.a.A r.x.l.length r.a.c) ∧ w'.cell? ⟨g, o + 14, none⟩ = some (.slice r.a.D r.x.m.length r.a.d) ∧ w'.cell? ⟨g, o + 15, none⟩ = some (.bool r.y.p) ∧ w'.cell? ⟨g, o + 16, none⟩ = some (.slice r.b.A r.y.l.length r.b.c) ∧ w'.cell? ⟨g, o + 17, none⟩ = some (.slice r.b.D r.y.m.length r.b.d) ∧ Below wr.heap.size wr w')) := Lib.hid (fun w' hB => ⟨below_cell hB c0, below_cell hB c1, below_cell hB c2, below_cell hB c3, below_cell hB c4, below_cell hB c5, below_cell hB c12, below_cell hB c13, below_cell hB c14, below_cell hB c15, below_cell hB c16, below_cell hB c17, hB⟩)
          have KW := Lib.hid kb
          have K_lt := rblk_lt P_l
          go_cut [6] (fun sv wx => CutV6 wr 31 X2 Y2 sv wx)
          case first =>
            clear kb
            go_region_held3 (fun w' => w'.cell? ⟨g, o, none⟩ = some (.bool p.x.p) ∧ w'.cell? ⟨g, o + 1, none⟩ = some (.slice p.a.A p.x.l.length p.a.c) ∧ w'.cell? ⟨g, o + 2, none⟩ = some (.slice p.a.D p.x.m.length p.a.d) ∧ w'.cell? ⟨g, o + 3, none⟩ = some (.bool p.y.p) ∧ w'.cell? ⟨g, o + 4, none⟩ = some (.slice p.b.A p.y.l.length p.b.c) ∧ w'.cell? ⟨g, o + 5, none⟩ = some (.slice p.b.D p.y.m.length p.b.d) ∧ w'.cell? ⟨g, o + 12, none⟩ = some (.bool r.x.p) ∧ w'.cell? ⟨g, o + 13, none⟩ = some (.slice r.a.A r.x.l.length r.a.c) ∧ w'.cell? ⟨g, o + 14, none⟩ = some (.slice r.a.D r.x.m.length r.a.d) ∧ w'.cell? ⟨g, o + 15, none⟩ = some (.bool r.y.p) ∧ w'.cell? ⟨g, o + 16, none⟩ = some (.slice r.b.A r.y.l.length r.b.c) ∧ w'.cell? ⟨g, o + 17, none⟩ = some (.slice r.b.D r.y.m.length r.b.d) ∧ Below wr.heap.size wr w')
              (first | (go_split_ands; with_reducible refine SB.out _ ?_; with_reducible refine below_put6 ?_ ?_ _ _ _ _ _ _; with_reducible assumption; (first | with_reducible exact Nat.le_refl _ | with_reducible assumption | exact Nat.le_refl _ | assumption)) | (with_reducible exact SB.out _ (Below.refl _ _).drew) | (with_reducible exact SB.out _ (ba1 _ _).drew) | (with_reducible exact SB.out _ (ba1 _ _)) | (with_reducible exact SB.out _ (Below.refl _ _)) | (go_split_ands; with_reducible exact SB.out _ (bt (by assumption : Below wr.heap.size wr _) hb)) | (go_split_ands; with_reducible exact SB.out _ (Below.alloc (by assumption : Below wr.heap.size wr _) (Below.size (by assumption : Below wr.heap.size wr _)) _)))
              (first | (go_at_call 43; go_split_ands; ((with_reducible refine (HD_2.out _ (bt KW.out (by assumption : Below wr.heap.size wr _))).mono ?_); rintro e Wq0 ⟨ae, be, rfl, hcap, oe, hape, hb⟩; skip; have KB0 := (by assumption : Below wr.heap.size wr _); have KB := bt KB0 hb; have hsC := KB.size; have hs0 := KB0.size; (first | (with_reducible have tt := (tt_a hb).1; with_reducible have hgB := (tt_a hb).2) | (with_reducible have tt := (tt_b hb).1; with_reducible have hgB := (tt_b hb).2) | (with_reducible have hgB := (tt_c tt hb).2; with_reducible replace tt := (tt_c tt hb).1) | skip); (first | (have t0 := rblk_cell tt 0; have q0 := rblk_free tt 0; have t1 := rblk_cell tt 1; have q1 := rblk_free tt 1; have t2 := rblk_cell tt 2; have q2 := rblk_free tt 2; have t3 := rblk_cell tt 3; have q3 := rblk_free tt 3; have t4 := rblk_cell tt 4; have q4 := rblk_free tt 4; have t5 := rblk_cell tt 5; have q5 := rblk_free tt 5) | skip))))
            all_goals (go_wp2_with fail; go_meet; first | (with_reducible exact cutV6_late hsC hcap oe hs0 (Nat.le_refl _) hape KB) | (with_reducible exact cutV6_early tt (by first | with_reducible exact Nat.le_refl _ | with_reducible assumption | exact Nat.le_refl _ | assumption) hgB hcap oe hs0 (Nat.le_refl _) hape KB))
          case rest =>
            obtain ⟨g_e, ae, be, rfl, hlo_e, hcap_e, P_e, oe, hape, hb⟩ := hcut
            obtain ⟨W301, hWn⟩ : ∃ W', W' = wc := ⟨_, rfl⟩
            subst hWn
            replace P_o := rblk_below P_o hb
            replace P_l := rblk_below P_l hb
            replace kb := bt kb hb
            have HOL2 := Lib.hid (HOL.out.below hb)
            have hne_e : g_e ≠ gl := by have h1 := hlo_e; have h2 := K_lt; omega
            clear hb KW SB
            clear c0 c1 c2 c3 c4 c5 c6 c7 c8 c9 c10 c11 c12 c13 c14 c15 c16 c17
            have HOE := Lib.hid oe.rds
            clear oe
            go_wp2_with fail
            obtain ⟨rr, hrr⟩ : ∃ r, r = gl := ⟨_, rfl⟩
            subst hrr
            have nr_e : rr ≠ g_e := fun e => hne_e e.symm
            have nr_o : rr ≠ w.heap.size := HN.out.1
            have SB : Hid (∀ w', Keep3 W301 w' rr → (w'.cell? ⟨g_e, 0, none⟩ = some (.bool X2.p) ∧ w'.cell? ⟨g_e, 1, none⟩ = some (.slice ae.A X2.l.length ae.c) ∧ w'.cell? ⟨g_e, 2, none⟩ = some (.slice ae.D X2.m.length ae.d) ∧ w'.cell? ⟨g_e, 3, none⟩ = some (.bool Y2.p) ∧ w'.cell? ⟨g_e, 4, none⟩ = some (.slice be.A Y2.l.length be.c) ∧ w'.cell? ⟨g_e, 5, none⟩ = some (.slice be.D Y2.m.length be.d) ∧ Keep3 W301 w' rr)) := Lib.hid (fun w' hK => ⟨rblk_cell (hK.block P_e nr_e) 0, rblk_cell (hK.block P_e nr_e) 1, rblk_cell (hK.block P_e nr_e) 2, rblk_cell (hK.block P_e nr_e) 3, rblk_cell (hK.block P_e nr_e) 4, rblk_cell (hK.block P_e nr_e) 5, hK⟩)
            have KST := Keep3.start P_l
            have KW := Lib.hid kb
            have hlt0 := rblk_lt P_l
            clear kb
            refine wp_region_held_drew (S := fun w' => w'.cell? ⟨g_e, 0, none⟩ = some (.bool X2.p) ∧ w'.cell? ⟨g_e, 1, none⟩ = some (.slice ae.A X2.l.length ae.c) ∧ w'.cell? ⟨g_e, 2, none⟩ = some (.slice ae.D X2.m.length ae.d) ∧ w'.cell? ⟨g_e, 3, none⟩ = some (.bool Y2.p) ∧ w'.cell? ⟨g_e, 4, none⟩ = some (.slice be.A Y2.l.length be.c) ∧ w'.cell? ⟨g_e, 5, none⟩ = some (.slice be.D Y2.m.length be.d) ∧ Keep3 W301 w' rr) (by kernel_rfl) (SB.out _ KST.drew) (fun hHeld => ?_)
            have hCur : Keep3 W301 W301.drew rr := KST.drew
            have P_c : W301.drew.heap[rr]? = some (.cells #[.bool Lx.p, .slice ax.A Lx.l.length ax.c, .slice ax.D Lx.m.length ax.d] 29 (0, 0)) := P_l
            have HRw : Rds W301.drew (rows Lx ax) := HOL2.out.below ((Below.refl _ _).drew)
            have HRe : Rds W301.drew (rows X2 ae ++ rows Y2 be) := HOE.out.below ((Below.refl _ _).drew)
            refine tk (i := 1) (v := ?vs21) rfl (by kernel_rfl) (fun _ _ _ h => h) (Or.inl ⟨by rfl, ?hs21⟩) hHeld ?_
            case hs21 => (intro w hSw; (try dsimp only at hSw); go_simp; (try with_reducible rfl))
            try simp only [ps]
            refine tk (i := 2) (v := ?vs22) rfl (by kernel_rfl) (fun _ _ _ h => h) (Or.inl ⟨by rfl, ?hs22⟩) hHeld ?_
            case hs22 => (intro w hSw; (try dsimp only at hSw); go_simp; (try with_reducible rfl))
            try simp only [ps]
            refine wpAnyH_ready (rs := [0, 3]) (by kernel_rfl) (by simp) ?_
            refine rc1 rfl (fun K hK => ?_) (rc1 rfl (fun K hK => ?_) AllReadyH.nil)
            · skip
              have t0 := rblk_cell P_c 0
              have t1 := rblk_cell P_c 1
              have t2 := rblk_cell P_c 2
              go_simp
              clear t0 t1 t2
              refine hK.out _ _ (SB.out _ hCur) (fun hHeld' => ?_)
              clear hK K hHeld
              have hHeld := hHeld'
              clear hHeld'
              try simp only [ps]
              refine rd1 (i := 3) (by kernel_rfl) rfl (fun K hK => ?_)
              go_simp
              (go_at_call 44; ((with_reducible refine (HI_2.out _ _ _ HRe).mono ?_); rintro e Wa1 ⟨a1, rfl, hc1, hc2, o1, hap1, hb⟩))
              refine hK.out _ _ (SB.out _ (hCur.below hb)) (fun hHeld' => ?_)
              clear hK K hHeld
              have hHeld := hHeld'
              clear hHeld'
              replace hCur := hCur.below hb
              replace P_c := rblk_below P_c hb
              replace HRw := HRw.below hb
              clear hb
              try simp only [ps]
              refine rd1 (i := 4) (by kernel_rfl) rfl (fun K hK => ?_)
              go_simp
              (go_at_call 45; ((with_reducible refine (HM_2.out _ _ _ HRw o1.rds).mono ?_); rintro e Wa2 ⟨a3, rfl, hc5, hc6, o3, hap3, hb⟩))
              have hz3 := hCur.lt
              refine hK.out _ _ (SB.out _ (hCur.below hb)) (fun hHeld' => ?_)
              clear hK K hHeld
              have hHeld := hHeld'
              clear hHeld'
              replace hCur := hCur.below hb
              replace P_c := rblk_below P_c hb
              clear hb
              try simp only [ps]
              refine rd1 (i := 5) (by kernel_rfl) rfl (fun K hK => ?_)
              have t0 := rblk_cell P_c 0
              have q0 := rblk_free P_c 0
              have t1 := rblk_cell P_c 1
              have q1 := rblk_free P_c 1
              have t2 := rblk_cell P_c 2
              have q2 := rblk_free P_c 2
              go_simp
              clear t0 t1 t2 q0 q1 q2
              refine hK.out _ _ (SB.out _ (hCur.put3 (.bool L3.p) (.slice a3.A L3.l.length a3.c) (.slice a3.D L3.m.length a3.d))) (fun hHeld' => ?_)
              clear hK K hHeld
              have hHeld := hHeld'
              clear hHeld'
              replace hCur := hCur.put3 (.bool L3.p) (.slice a3.A L3.l.length a3.c) (.slice a3.D L3.m.length a3.d)
              have P_f := rblk_set (rblk_set (rblk_set P_c 0 (.bool L3.p)) 1 (.slice a3.A L3.l.length a3.c)) 2 (.slice a3.D L3.m.length a3.d)
              have hof3 : OffB w.heap.size (rows L3 a3) := offB_owns o3 (by have := HN.out.2; omega)
              replace o3 := (owns_put3 (r := rr) o3 (.inl hz3) (.bool L3.p) (.slice a3.A L3.l.length a3.c) (.slice a3.D L3.m.length a3.d)).rds
              try simp only [ps]
              refine wpAnyH_done (by kernel_rfl) ?_ _
              have P_o2 := hCur.block P_o nr_o
              have kz := hCur.base KW.out HN.out.2
              have HF := Lib.hid (And.intro (And.intro hc5 hc6) (And.intro hof3 (And.intro P_f (And.intro o3 (And.intro P_o2 kz)))))
              clear P_f o3 P_o2 kz hHeld hCur P_c hof3
              go_wp2
              go_roundw
              case rel => exact ⟨3, L3, a3, by omega, by go_num, (fun h => by omega), (fun h => by omega), (fun h => by omega), (fun _ => rfl), HF.out.1, HF.out.2.1, HF.out.2.2.1, HF.out.2.2.2.1, HF.out.2.2.2.2.1, HF.out.2.2.2.2.2⟩
              case measure => simp [intOf]
            · skip
              go_simp
              (go_at_call 44; ((with_reducible refine (HI_2.out _ _ _ HRe).mono ?_); rintro e Wb1 ⟨a1, rfl, hc1, hc2, o1, hap1, hb⟩))
              refine hK.out _ _ (SB.out _ (hCur.below hb)) (fun hHeld' => ?_)
              clear hK K hHeld
              have hHeld := hHeld'
              clear hHeld'
              replace hCur := hCur.below hb
              replace P_c := rblk_below P_c hb
              replace HRw := HRw.below hb
              clear hb
              try simp only [ps]
              refine rd1 (i := 0) (by kernel_rfl) rfl (fun K hK => ?_)
              have t0 := rblk_cell P_c 0
              have t1 := rblk_cell P_c 1
              have t2 := rblk_cell P_c 2
              go_simp
              clear t0 t1 t2
              refine hK.out _ _ (SB.out _ hCur) (fun hHeld' => ?_)
              clear hK K hHeld
              have hHeld := hHeld'
              clear hHeld'
              try simp only [ps]
              refine rd1 (i := 4) (by kernel_rfl) rfl (fun K hK => ?_)
              go_simp
              (go_at_call 45; ((with_reducible refine (HM_2.out _ _ _ HRw o1.rds).mono ?_); rintro e Wb2 ⟨a3, rfl, hc5, hc6, o3, hap3, hb⟩))
              have hz3 := hCur.lt
              refine hK.out _ _ (SB.out _ (hCur.below hb)) (fun hHeld' => ?_)
              clear hK K hHeld
              have hHeld := hHeld'
              clear hHeld'
              replace hCur := hCur.below hb
              replace P_c := rblk_below P_c hb
              clear hb
              try simp only [ps]
              refine rd1 (i := 5) (by kernel_rfl) rfl (fun K hK => ?_)
              have t0 := rblk_cell P_c 0
              have q0 := rblk_free P_c 0
              have t1 := rblk_cell P_c 1
              have q1 := rblk_free P_c 1
              have t2 := rblk_cell P_c 2
              have q2 := rblk_free P_c 2
              go_simp
              clear t0 t1 t2 q0 q1 q2
              refine hK.out _ _ (SB.out _ (hCur.put3 (.bool L3.p) (.slice a3.A L3.l.length a3.c) (.slice a3.D L3.m.length a3.d))) (fun hHeld' => ?_)
              clear hK K hHeld
              have hHeld := hHeld'
              clear hHeld'
              replace hCur := hCur.put3 (.bool L3.p) (.slice a3.A L3.l.length a3.c) (.slice a3.D L3.m.length a3.d)
              have P_f := rblk_set (rblk_set (rblk_set P_c 0 (.bool L3.p)) 1 (.slice a3.A L3.l.length a3.c)) 2 (.slice a3.D L3.m.length a3.d)
              have hof3 : OffB w.heap.size (rows L3 a3) := offB_owns o3 (by have := HN.out.2; omega)
              replace o3 := (owns_put3 (r := rr) o3 (.inl hz3) (.bool L3.p) (.slice a3.A L3.l.length a3.c) (.slice a3.D L3.m.length a3.d)).rds
              try simp only [ps]
              refine wpAnyH_done (by kernel_rfl) ?_ _
              have P_o2 := hCur.block P_o nr_o
              have kz := hCur.base KW.out HN.out.2
              have HF := Lib.hid (And.intro (And.intro hc5 hc6) (And.intro hof3 (And.intro P_f (And.intro o3 (And.intro P_o2 kz)))))
              clear P_f o3 P_o2 kz hHeld hCur P_c hof3
              go_wp2
              go_roundw
              case rel => exact ⟨3, L3, a3, by omega, by go_num, (fun h => by omega), (fun h => by omega), (fun h => by omega), (fun _ => rfl), HF.out.1, HF.out.2.1, HF.out.2.2.1, HF.out.2.2.2.1, HF.out.2.2.2.2.1, HF.out.2.2.2.2.2⟩
              case measure => simp [intOf]
        · obtain rfl := n3 rfl
          clear n0 n1 n2 hj
          have HOL := Lib.hid ol
          have K0 := Lib.hid kb
          have HCX := Lib.hid hcx
          clear ol
          obtain ⟨c0, c1, c2, c3, c4, c5, c6, c7, c8, c9, c10, c11, c12, c13, c14, c15, c16, c17⟩ := SL.out _ kb
          go_wp2_with fail
          have nr_l : w.heap.size ≠ gl := fun e => HN.out.1 e.symm
          obtain ⟨rr, hrr⟩ : ∃ r, r = w.heap.size := ⟨_, rfl⟩
          have hrr3 : w.heap.size ≤ rr := Nat.le_of_eq hrr.symm
          have nr_l2 : rr ≠ gl := by rw [hrr]; exact nr_l
          have nr_g : rr ≠ g := by rw [hrr]; omega
          have P_r := P_o
          have hoxr : OffB rr (rows Lx ax) := by rw [hrr]; exact hox
          rw [← hrr] at P_r ⊢
          clear hrr nr_l
          have hlt0 := rblk_lt P_r
          have hle0 := kb.size
          have HRX : Hid (∀ W, Below wr.heap.size wr W → Rds W (rows Lx ax)) := Lib.hid (fun W hB => HOL.out.below hB)
          have SB : Hid (∀ w', Keep3 wr w' rr → (w'.cell? ⟨g, o, none⟩ = some (.bool p.x.p) ∧ w'.cell? ⟨g, o + 1, none⟩ = some (.slice p.a.A p.x.l.length p.a.c) ∧ w'.cell? ⟨g, o + 2, none⟩ = some (.slice p.a.D p.x.m.length p.a.d) ∧ w'.cell? ⟨g, o + 3, none⟩ = some (.bool p.y.p) ∧ w'.cell? ⟨g, o + 4, none⟩ = some (.slice p.b.A p.y.l.length p.b.c) ∧ w'.cell? ⟨g, o + 5, none⟩ = some (.slice p.b.D p.y.m.length p.b.d) ∧ w'.cell? ⟨g, o + 6, none⟩ = some (.bool q.x.p) ∧ w'.cell? ⟨g, o + 7, none⟩ = some (.slice q.a.A q.x.l.length q.a.c) ∧ w'.cell? ⟨g, o + 8, none⟩ = some (.slice q.a.D q.x.m.length q.a.d) ∧ w'.cell? ⟨g, o + 9, none⟩ = some (.bool q.y.p) ∧ w'.cell? ⟨g, o + 10, none⟩ = some (.slice q.b.A q.y.l.length q.b.c) ∧ w'.cell? ⟨g, o + 11, none⟩ = some (.slice q.b.D q.y.m.length q.b.d) ∧ w'.cell? ⟨g, o + 12, none⟩ = some (.bool r.x.p) ∧ w'.cell? ⟨g, o + 13, none⟩ = some (.slice r.a.A r.x.l.length r.a.c) ∧ w'.cell? ⟨g, o + 14, none⟩ = some (.slice r.a.D r.x.m.length r.a.d) ∧ w'.cell? ⟨g, o + 15, none⟩ = some (.bool r.y.p) ∧ w'.cell? ⟨g, o + 16, none⟩ = some (.slice r.b.A r.y.l.length r.b.c) ∧ w'.cell? ⟨g, o + 17, none⟩ = some (.slice r.b.D r.y.m.length r.b.d) ∧ w'.cell? ⟨gl, 0, none⟩ = some (.bool Lx.p) ∧ w'.cell? ⟨gl, 1, none⟩ = some (.slice ax.A Lx.l.length ax.c) ∧ w'.cell? ⟨gl, 2, none⟩ = some (.slice ax.D Lx.m.length ax.d) ∧ Keep3 wr w' rr)) := Lib.hid (fun w' hK => ⟨hK.cell c0 nr_g, hK.cell c1 nr_g, hK.cell c2 nr_g, hK.cell c3 nr_g, hK.cell c4 nr_g, hK.cell c5 nr_g, hK.cell c6 nr_g, hK.cell c7 nr_g, hK.cell c8 nr_g, hK.cell c9 nr_g, hK.cell c10 nr_g, hK.cell c11 nr_g, hK.cell c12 nr_g, hK.cell c13 nr_g, hK.cell c14 nr_g, hK.cell c15 nr_g, hK.cell c16 nr_g, hK.cell c17 nr_g, rblk_cell (hK.block P_l nr_l2) 0, rblk_cell (hK.block P_l nr_l2) 1, rblk_cell (hK.block P_l nr_l2) 2, hK⟩)
          have HRK : Hid (∀ W, Keep3 wr W rr → Rds W (rows Lx ax)) := Lib.hid (fun W hK => keep_rds hK HOL.out hoxr)
          have KW := Lib.hid kb
          have KST := Keep3.start P_r
          clear kb
          go_region_held3 (fun w' => w'.cell? ⟨g, o, none⟩ = some (.bool p.x.p) ∧ w'.cell? ⟨g, o + 1, none⟩ = some (.slice p.a.A p.x.l.length p.a.c) ∧ w'.cell? ⟨g, o + 2, none⟩ = some (.slice p.a.D p.x.m.length p.a.d) ∧ w'.cell? ⟨g, o + 3, none⟩ = some (.bool p.y.p) ∧ w'.cell? ⟨g, o + 4, none⟩ = some (.slice p.b.A p.y.l.length p.b.c) ∧ w'.cell? ⟨g, o + 5, none⟩ = some (.slice p.b.D p.y.m.length p.b.d) ∧ w'.cell? ⟨g, o + 6, none⟩ = some (.bool q.x.p) ∧ w'.cell? ⟨g, o + 7, none⟩ = some (.slice q.a.A q.x.l.length q.a.c) ∧ w'.cell? ⟨g, o + 8, none⟩ = some (.slice q.a.D q.x.m.length q.a.d) ∧ w'.cell? ⟨g, o + 9, none⟩ = some (.bool q.y.p) ∧ w'.cell? ⟨g, o + 10, none⟩ = some (.slice q.b.A q.y.l.length q.b.c) ∧ w'.cell? ⟨g, o + 11, none⟩ = some (.slice q.b.D q.y.m.length q.b.d) ∧ w'.cell? ⟨g, o + 12, none⟩ = some (.bool r.x.p) ∧ w'.cell? ⟨g, o + 13, none⟩ = some (.slice r.a.A r.x.l.length r.a.c) ∧ w'.cell? ⟨g, o + 14, none⟩ = some (.slice r.a.D r.x.m.length r.a.d) ∧ w'.cell? ⟨g, o + 15, none⟩ = some (.bool r.y.p) ∧ w'.cell? ⟨g, o + 16, none⟩ = some (.slice r.b.A r.y.l.length r.b.c) ∧ w'.cell? ⟨g, o + 17, none⟩ = some (.slice r.b.D r.y.m.length r.b.d) ∧ w'.cell? ⟨gl, 0, none⟩ = some (.bool Lx.p) ∧ w'.cell? ⟨gl, 1, none⟩ = some (.slice ax.A Lx.l.length ax.c) ∧ w'.cell? ⟨gl, 2, none⟩ = some (.slice ax.D Lx.m.length ax.d) ∧ Keep3 wr w' rr)
            (first | (with_reducible exact SB.out _ KST.drew) | (with_reducible exact SB.out _ KST) | (go_split_ands; with_reducible refine SB.out _ ?_; with_reducible refine Keep3.put3 ?_ _ _ _; with_reducible assumption) | (with_reducible exact SB.out _ (KST.below (ba1 _ _))) | (with_reducible exact SB.out _ (KST.drew.below (ba1 _ _))) | (go_split_ands; with_reducible exact SB.out _ (Keep3.below (by assumption : Keep3 wr _ rr) hb)) | (go_split_ands; with_reducible exact SB.out _ (Keep3.below (by assumption : Keep3 wr _ rr) (ba1 _ _))))
            (first | (go_at_call 47; go_split_ands; ((with_reducible refine (HA.out _ (RR.out _ (Keep3.base (by assumption : Keep3 wr _ rr) KW.out hrr3)).1 (RR.out _ (Keep3.base (by assumption : Keep3 wr _ rr) KW.out hrr3)).2.1 (RR.out _ (Keep3.base (by assumption : Keep3 wr _ rr) KW.out hrr3)).2.2).mono ?_); rintro e Wq0 ⟨a2, rfl, hc3, hc4, o2, hap2, hb⟩; skip)) | (go_at_call 46; go_split_ands; ((with_reducible refine (HV.out _ _ _ ⟨hc3, hc4⟩ HCX.out (by first | with_reducible exact o2.rds | with_reducible exact (Owns.drew o2).rds | with_reducible exact (o2.below (ba1 _ _)).rds | with_reducible exact (Owns.drew (o2.below (ba1 _ _))).rds) (HRK.out _ (by assumption : Keep3 wr _ rr))).mono ?_); rintro e Wq1 ⟨a3, rfl, hc5, hc6, o3, hap3, hb⟩; have hz0 := Keep3.size (by assumption : Keep3 wr _ rr); have KL := Keep3.below (by assumption : Keep3 wr _ rr) hb; obtain ⟨u0, u1, u2, t0, t1, t2, t3, t4, t5⟩ := KL.cells)))
          all_goals
            have hfin := (‹_ ∧ _ ∧ _ ∧ _ ∧ _ ∧ _ ∧ _ ∧ _ ∧ _ ∧ _ ∧ _ ∧ _ ∧ _ ∧ _ ∧ _ ∧ _ ∧ _ ∧ _ ∧ _ ∧ _ ∧ _ ∧ Keep3 wr _ rr›).2.2.2.2.2.2.2.2.2.2.2.2.2.2.2.2.2.2.2.2.2
            go_wp2
            exact bodyPost_ret (v := .agg #[.bool V.p, .slice a3.A V.l.length a3.c, .slice a3.D V.m.length a3.d]) (by simp [results, Tryz.results17, go_sem, t0, t1, t2, t3, t4, t5]) rfl ⟨a3, rfl, hc5, hc6, owns_end3 o3 (.inl (Nat.lt_of_lt_of_le hlt0 hz0)) (by first | exact Nat.le_trans hle0 hz0 | exact Nat.le_of_lt (Nat.lt_of_lt_of_le hlt0 hz0)) (Nat.le_refl _) _ _ _, hap3, hfin.base KW.out hrr3⟩
end Go.Proofs.YtaohiacpdljacaaGreat

