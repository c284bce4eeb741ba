/-
  The square of side 0.
-/
import Derived.Test.YtaohiacpdljacaaGreatShB
namespace Go.Proofs.YtaohiacpdljacaaGreat
open Go.ChangeShapes Go.WideShapes Go.ChangeAt Go.RowKit
open Go.ChangeMaps (open_string shut_string)
set_option linter.unusedVariables false
set_option linter.unusedSimpArgs false
set_option maxRecDepth 4000

attribute [local go_sem ↓] Go.wp_at_zero Go.wp_at_succ
set_option maxHeartbeats 4000000 in
theorem square_0 (p q r : PV) (w : World) (h : TriOk w p q r) :
    Calls Tryz.prog 67 #[.agg #[.bool p.x.p, .slice p.a.A p.x.l.length p.a.c, .slice p.a.D p.x.m.length p.a.d, .bool p.y.p, .slice p.b.A p.y.l.length p.b.c, .slice p.b.D p.y.m.length p.b.d, .bool q.x.p, .slice q.a.A q.x.l.length q.a.c, .slice q.a.D q.x.m.length q.a.d, .bool q.y.p, .slice q.b.A q.y.l.length q.b.c, .slice q.b.D q.y.m.length q.b.d, .bool r.x.p, .slice r.a.A r.x.l.length r.a.c, .slice r.a.D r.x.m.length r.a.d, .bool r.y.p, .slice r.b.A r.y.l.length r.b.c, .slice r.b.D r.y.m.length r.b.d], .int .i64 0] w (MadeQ w.heap.size (ofO (sqO p q)) w) := by
  have H : Hid (∀ W, Below w.heap.size w W → TriOk W p q r) := Lib.hid (fun W hB => h.below hB)
  have HC := Lib.hid (fun W => corner_1 p q r W)
  have HM : Hid (∀ W, Below w.heap.size w W → Calls Tryz.prog 28 #[.agg #[.bool q.x.p, .slice q.a.A q.x.l.length q.a.c, .slice q.a.D q.x.m.length q.a.d, .bool q.y.p, .slice q.b.A q.y.l.length q.b.c, .slice q.b.D q.y.m.length q.b.d], .agg #[.bool p.x.p, .slice p.a.A p.x.l.length p.a.c, .slice p.a.D p.x.m.length p.a.d, .bool p.y.p, .slice p.b.A p.y.l.length p.b.c, .slice p.b.D p.y.m.length p.b.d]] W (MadeP W.heap.size (ofO (dX p q)) (ofO (dY p q)) W)) := Lib.hid (fun W hB => minusV q p W (H.out W hB).1.2.1 (H.out W hB).1.1 (H.out W hB).2.2.1 (H.out W hB).2.1)
  have HI := Lib.hid (fun a1 b1 W h h' => innerP_r (dX p q) (dY p q) (dX p q) (dY p q) a1 b1 a1 b1 W (dX_fit _ _) (dY_fit _ _) (dX_fit _ _) (dY_fit _ _) h h')
  have e0 : binQ addQ (binQ mulQ (dX p q) (dX p q)) (binQ mulQ (dY p q) (dY p q)) = sqO p q := rfl
  rw [e0] at HI
  clear e0 h
  generalize ofO (sqO p q) = V at HI ⊢
  generalize ofO (dX p q) = X at HM HI
  generalize ofO (dY p q) = Y at HM HI
  unfold MadeQ at HI
  unfold MadeP at HM
  go_enter Tryz.func67, Tryz.ntmps67
  go_wp2_with fail
  have kb := ba2 w (.cells #[.bool p.x.p, .slice p.a.A p.x.l.length p.a.c, .slice p.a.D p.x.m.length p.a.d, .bool p.y.p, .slice p.b.A p.y.l.length p.b.c, .slice p.b.D p.y.m.length p.b.d, .bool q.x.p, .slice q.a.A q.x.l.length q.a.c, .slice q.a.D q.x.m.length q.a.d, .bool q.y.p, .slice q.b.A q.y.l.length q.b.c, .slice q.b.D q.y.m.length q.b.d, .bool r.x.p, .slice r.a.A r.x.l.length r.a.c, .slice r.a.D r.x.m.length r.a.d, .bool r.y.p, .slice r.b.A r.y.l.length r.b.c, .slice r.b.D r.y.m.length r.b.d] 53) (.cells #[.bool false, .slice none 0 0, .slice none 0 0] 29)
  obtain ⟨P_t, P_o⟩ := blocks2 w (.cells #[.bool p.x.p, .slice p.a.A p.x.l.length p.a.c, .slice p.a.D p.x.m.length p.a.d, .bool p.y.p, .slice p.b.A p.y.l.length p.b.c, .slice p.b.D p.y.m.length p.b.d, .bool q.x.p, .slice q.a.A q.x.l.length q.a.c, .slice q.a.D q.x.m.length q.a.d, .bool q.y.p, .slice q.b.A q.y.l.length q.b.c, .slice q.b.D q.y.m.length q.b.d, .bool r.x.p, .slice r.a.A r.x.l.length r.a.c, .slice r.a.D r.x.m.length r.a.d, .bool r.y.p, .slice r.b.A r.y.l.length r.b.c, .slice r.b.D r.y.m.length r.b.d] 53) (.cells #[.bool false, .slice none 0 0, .slice none 0 0] 29)
  generalize (w.alloc (.cells #[.bool p.x.p, .slice p.a.A p.x.l.length p.a.c, .slice p.a.D p.x.m.length p.a.d, .bool p.y.p, .slice p.b.A p.y.l.length p.b.c, .slice p.b.D p.y.m.length p.b.d, .bool q.x.p, .slice q.a.A q.x.l.length q.a.c, .slice q.a.D q.x.m.length q.a.d, .bool q.y.p, .slice q.b.A q.y.l.length q.b.c, .slice q.b.D q.y.m.length q.b.d, .bool r.x.p, .slice r.a.A r.x.l.length r.a.c, .slice r.a.D r.x.m.length r.a.d, .bool r.y.p, .slice r.b.A r.y.l.length r.b.c, .slice r.b.D r.y.m.length r.b.d] 53)).alloc (.cells #[.bool false, .slice none 0 0, .slice none 0 0] 29) = W1 at kb P_t P_o ⊢
  have SB : Hid (∀ w', Below W1.heap.size W1 w' → (w'.rangeAt (w.heap.size) 0 [.bool p.x.p, .slice p.a.A p.x.l.length p.a.c, .slice p.a.D p.x.m.length p.a.d, .bool p.y.p, .slice p.b.A p.y.l.length p.b.c, .slice p.b.D p.y.m.length p.b.d, .bool q.x.p, .slice q.a.A q.x.l.length q.a.c, .slice q.a.D q.x.m.length q.a.d, .bool q.y.p, .slice q.b.A q.y.l.length q.b.c, .slice q.b.D q.y.m.length q.b.d, .bool r.x.p, .slice r.a.A r.x.l.length r.a.c, .slice r.a.D r.x.m.length r.a.d, .bool r.y.p, .slice r.b.A r.y.l.length r.b.c, .slice r.b.D r.y.m.length r.b.d] ∧ w'.cell? ⟨w.heap.size, 0, none⟩ = some (.bool p.x.p) ∧ w'.cell? ⟨w.heap.size, 1, none⟩ = some (.slice p.a.A p.x.l.length p.a.c) ∧ w'.cell? ⟨w.heap.size, 2, none⟩ = some (.slice p.a.D p.x.m.length p.a.d) ∧ w'.cell? ⟨w.heap.size, 3, none⟩ = some (.bool p.y.p) ∧ w'.cell? ⟨w.heap.size, 4, none⟩ = some (.slice p.b.A p.y.l.length p.b.c) ∧ w'.cell? ⟨w.heap.size, 5, none⟩ = some (.slice p.b.D p.y.m.length p.b.d) ∧ Below W1.heap.size W1 w')) := Lib.hid (fun w' hB => ⟨range_row (rblk_below P_t hB), rblk_cell (rblk_below P_t hB) 0, rblk_cell (rblk_below P_t hB) 1, rblk_cell (rblk_below P_t hB) 2, rblk_cell (rblk_below P_t hB) 3, rblk_cell (rblk_below P_t hB) 4, rblk_cell (rblk_below P_t hB) 5, hB⟩)
  have KW := Lib.hid kb
  have hszO := rblk_lt P_o
  have hszk := kb.size
  clear kb
  refine wp_region_held_drew (S := fun w' => w'.rangeAt (w.heap.size) 0 [.bool p.x.p, .slice p.a.A p.x.l.length p.a.c, .slice p.a.D p.x.m.length p.a.d, .bool p.y.p, .slice p.b.A p.y.l.length p.b.c, .slice p.b.D p.y.m.length p.b.d, .bool q.x.p, .slice q.a.A q.x.l.length q.a.c, .slice q.a.D q.x.m.length q.a.d, .bool q.y.p, .slice q.b.A q.y.l.length q.b.c, .slice q.b.D q.y.m.length q.b.d, .bool r.x.p, .slice r.a.A r.x.l.length r.a.c, .slice r.a.D r.x.m.length r.a.d, .bool r.y.p, .slice r.b.A r.y.l.length r.b.c, .slice r.b.D r.y.m.length r.b.d] ∧ w'.cell? ⟨w.heap.size, 0, none⟩ = some (.bool p.x.p) ∧ w'.cell? ⟨w.heap.size, 1, none⟩ = some (.slice p.a.A p.x.l.length p.a.c) ∧ w'.cell? ⟨w.heap.size, 2, none⟩ = some (.slice p.a.D p.x.m.length p.a.d) ∧ w'.cell? ⟨w.heap.size, 3, none⟩ = some (.bool p.y.p) ∧ w'.cell? ⟨w.heap.size, 4, none⟩ = some (.slice p.b.A p.y.l.length p.b.c) ∧ w'.cell? ⟨w.heap.size, 5, none⟩ = some (.slice p.b.D p.y.m.length p.b.d) ∧ Below W1.heap.size W1 w') (by kernel_rfl) (SB.out _ (Below.refl _ _).drew) (fun hHeld => ?_)
  have hCur : Below W1.heap.size W1 W1.drew := (Below.refl _ _).drew
  refine tk (i := 0) (v := .agg #[.bool p.x.p, .slice p.a.A p.x.l.length p.a.c, .slice p.a.D p.x.m.length p.a.d, .bool p.y.p, .slice p.b.A p.y.l.length p.b.c, .slice p.b.D p.y.m.length p.b.d, .bool q.x.p, .slice q.a.A q.x.l.length q.a.c, .slice q.a.D q.x.m.length q.a.d, .bool q.y.p, .slice q.b.A q.y.l.length q.b.c, .slice q.b.D q.y.m.length q.b.d, .bool r.x.p, .slice r.a.A r.x.l.length r.a.c, .slice r.a.D r.x.m.length r.a.d, .bool r.y.p, .slice r.b.A r.y.l.length r.b.c, .slice r.b.D r.y.m.length r.b.d]) rfl (by kernel_rfl) (fun _ _ _ h => h) (yieldsIf_load_mid (by rfl) 53 (.tmp 2) rfl (w.heap.size) 0 rfl [.bool p.x.p, .slice p.a.A p.x.l.length p.a.c, .slice p.a.D p.x.m.length p.a.d, .bool p.y.p, .slice p.b.A p.y.l.length p.b.c, .slice p.b.D p.y.m.length p.b.d, .bool q.x.p, .slice q.a.A q.x.l.length q.a.c, .slice q.a.D q.x.m.length q.a.d, .bool q.y.p, .slice q.b.A q.y.l.length q.b.c, .slice q.b.D q.y.m.length q.b.d, .bool r.x.p, .slice r.a.A r.x.l.length r.a.c, .slice r.a.D r.x.m.length r.a.d, .bool r.y.p, .slice r.b.A r.y.l.length r.b.c, .slice r.b.D r.y.m.length r.b.d] _ (fun w hSw => hSw.1) Tryz.underlying53 rfl tri_size) hHeld ?_
  try simp only [ps]
  refine tk (i := 1) (v := ?vs1) rfl (by kernel_rfl) (fun _ _ _ h => h) (Or.inl ⟨by rfl, ?hys1⟩) hHeld ?_
  case hys1 => (intro w hSw; (try dsimp only at hSw); go_simp; (try with_reducible rfl))
  try simp only [ps]
  refine tk (i := 2) (v := .int .i64 1) rfl (by kernel_rfl) (fun _ _ _ h => h) (Or.inl ⟨by rfl, ?hys2⟩) hHeld ?_
  case hys2 => (intro w hSw; (try dsimp only at hSw); go_simp; (try rfl))
  try simp only [ps]
  refine tk (i := 4) (v := ?vs4) rfl (by kernel_rfl) (fun _ _ _ h => h) (Or.inl ⟨by rfl, ?hys4⟩) hHeld ?_
  case hys4 => (intro w hSw; (try dsimp only at hSw); go_simp; (try with_reducible rfl))
  try simp only [ps]
  refine tk (i := 5) (v := ?vs5) rfl (by kernel_rfl) (fun _ _ _ h => h) (Or.inl ⟨by rfl, ?hys5⟩) hHeld ?_
  case hys5 => (intro w hSw; (try dsimp only at hSw); go_simp; (try with_reducible rfl))
  try simp only [ps]
  refine tk (i := 6) (v := ?vs6) rfl (by kernel_rfl) (fun _ _ _ h => h) (Or.inl ⟨by rfl, ?hys6⟩) hHeld ?_
  case hys6 => (intro w hSw; (try dsimp only at hSw); go_simp; (try with_reducible rfl))
  try simp only [ps]
  refine wpAnyH_ready (rs := [3, 8]) (by kernel_rfl) (by simp) ?_
  refine rc1 rfl (fun K hK => ?_) (rc1 rfl (fun K hK => ?_) AllReadyH.nil)
  · skip
    go_simp
    (go_at_call 108; ((with_reducible refine (HC.out _).mono ?_); rintro e Ws1 ⟨rfl, hb⟩))
    have hzWs1 := hb.size
    refine hK.out _ _ (SB.out _ (bt hCur hb)) (fun hHeld' => ?_)
    clear hK K hHeld
    have hHeld := hHeld'
    clear hHeld'
    replace hCur := (bt hCur hb)
    clear hb
    try simp only [ps]
    refine wpAnyH_ready (rs := [7, 8]) (by kernel_rfl) (by simp) ?_
    refine rc1 rfl (fun K hK => ?_) (rc1 rfl (fun K hK => ?_) AllReadyH.nil)
    · skip
      go_simp
      (go_at_call 28; ((with_reducible refine (HM.out _ (bt KW.out hCur)).mono ?_); rintro e Ws2 ⟨a1, b1, rfl, hcs, o1, hap1, hb⟩))
      have hzWs2 := hb.size
      refine hK.out _ _ (SB.out _ (bt hCur hb)) (fun hHeld' => ?_)
      clear hK K hHeld
      have hHeld := hHeld'
      clear hHeld'
      replace hCur := (bt hCur hb)
      clear hb
      try simp only [ps]
      refine rd1 (i := 8) (by kernel_rfl) rfl (fun K hK => ?_)
      go_simp
      have P_d := heap_alloc_new (Ws2) (.cells #[.bool false, .slice none 0 0, .slice none 0 0, .bool false, .slice none 0 0, .slice none 0 0] 31)
      have hb := ba1 (Ws2) (.cells #[.bool false, .slice none 0 0, .slice none 0 0, .bool false, .slice none 0 0, .slice none 0 0] 31)
      have hzd : (Ws2).heap.size < ((Ws2).alloc (.cells #[.bool false, .slice none 0 0, .slice none 0 0, .bool false, .slice none 0 0, .slice none 0 0] 31)).heap.size := by rw [sz1]; omega
      have hgd : W1.heap.size ≤ (Ws2).heap.size := hCur.size
      refine hK.out _ _ (SB.out _ (bt hCur hb)) (fun hHeld' => ?_)
      clear hK K hHeld
      have hHeld := hHeld'
      clear hHeld'
      replace hCur := (bt hCur hb)
      replace o1 := o1.below hb
      clear hb
      try simp only [ps]
      have hgd : W1.heap.size ≤ Ws2.heap.size := hgd
      generalize (Ws2).alloc (.cells #[.bool false, .slice none 0 0, .slice none 0 0, .bool false, .slice none 0 0, .slice none 0 0] 31) = Ws3 at *
      refine rd1 (i := 9) (by kernel_rfl) rfl (fun K hK => ?_)
      have t0 := rblk_cell P_d 0
      have q0 := rblk_free P_d 0
      have t1 := rblk_cell P_d 1
      have q1 := rblk_free P_d 1
      have t2 := rblk_cell P_d 2
      have q2 := rblk_free P_d 2
      have t3 := rblk_cell P_d 3
      have q3 := rblk_free P_d 3
      have t4 := rblk_cell P_d 4
      have q4 := rblk_free P_d 4
      have t5 := rblk_cell P_d 5
      have q5 := rblk_free P_d 5
      go_simp
      clear t0 q0 t1 q1 t2 q2 t3 q3 t4 q4 t5 q5
      refine hK.out _ _ (SB.out _ (below_put6 hCur hgd (.bool X.p) (.slice a1.A X.l.length a1.c) (.slice a1.D X.m.length a1.d) (.bool Y.p) (.slice b1.A Y.l.length b1.c) (.slice b1.D Y.m.length b1.d))) (fun hHeld' => ?_)
      clear hK K hHeld
      have hHeld := hHeld'
      clear hHeld'
      replace hCur := (below_put6 hCur hgd (.bool X.p) (.slice a1.A X.l.length a1.c) (.slice a1.D X.m.length a1.d) (.bool Y.p) (.slice b1.A Y.l.length b1.c) (.slice b1.D Y.m.length b1.d))
      replace P_d := rblk_set (rblk_set (rblk_set (rblk_set (rblk_set (rblk_set P_d 0 (.bool X.p)) 1 (.slice a1.A X.l.length a1.c)) 2 (.slice a1.D X.m.length a1.d)) 3 (.bool Y.p)) 4 (.slice b1.A Y.l.length b1.c)) 5 (.slice b1.D Y.m.length b1.d)
      replace o1 := owns_put6 (r := Ws2.heap.size) o1 (.inr (by omega)) (.bool X.p) (.slice a1.A X.l.length a1.c) (.slice a1.D X.m.length a1.d) (.bool Y.p) (.slice b1.A Y.l.length b1.c) (.slice b1.D Y.m.length b1.d)
      try simp only [ps]
      refine wpAnyH_done (by kernel_rfl) ?_ _
      generalize (((((Ws3.setCell ⟨Ws2.heap.size, 0, none⟩ (.bool X.p)).setCell ⟨Ws2.heap.size, 1, none⟩ (.slice a1.A X.l.length a1.c)).setCell ⟨Ws2.heap.size, 2, none⟩ (.slice a1.D X.m.length a1.d)).setCell ⟨Ws2.heap.size, 3, none⟩ (.bool Y.p)).setCell ⟨Ws2.heap.size, 4, none⟩ (.slice b1.A Y.l.length b1.c)).setCell ⟨Ws2.heap.size, 5, none⟩ (.slice b1.D Y.m.length b1.d) = Ws4 at *
      have kb := bt KW.out hCur
      have P_o2 := rblk_below P_o hCur
      have t0 := rblk_cell P_d 0
      have t1 := rblk_cell P_d 1
      have t2 := rblk_cell P_d 2
      have t3 := rblk_cell P_d 3
      have t4 := rblk_cell P_d 4
      have t5 := rblk_cell P_d 5
      go_wp2_with fail
      clear t0 t1 t2 t3 t4 t5
      have hlt0 := rblk_lt P_o2
      have hle0 := kb.size
      refine (HI.out a1 b1 _ o1.rds o1.rds).mono ?_
      rintro e Ws5 ⟨a3, rfl, hc5, hc6, o3, hap3, hb⟩
      replace P_o2 := rblk_below P_o2 hb
      replace kb := bt kb hb
      have t0 := rblk_cell P_o2 0
      have q0 := rblk_free P_o2 0
      have t1 := rblk_cell P_o2 1
      have q1 := rblk_free P_o2 1
      have t2 := rblk_cell P_o2 2
      have q2 := rblk_free P_o2 2
      go_wp2
      exact bodyPost_ret (v := .agg #[.bool V.p, .slice a3.A V.l.length a3.c, .slice a3.D V.m.length a3.d]) (by simp [results, Tryz.results67, go_sem, t0, t1, t2]) rfl ⟨a3, rfl, hc5, hc6, owns_end3 o3 (.inl hlt0) hle0 (Nat.le_refl _) _ _ _, hap3, (below_put (below_put (below_put kb (by omega) _) (by omega) _) (by omega) _)⟩
    · skip
      go_simp
      have P_d := heap_alloc_new (Ws1) (.cells #[.bool false, .slice none 0 0, .slice none 0 0, .bool false, .slice none 0 0, .slice none 0 0] 31)
      have hb := ba1 (Ws1) (.cells #[.bool false, .slice none 0 0, .slice none 0 0, .bool false, .slice none 0 0, .slice none 0 0] 31)
      have hzd : (Ws1).heap.size < ((Ws1).alloc (.cells #[.bool false, .slice none 0 0, .slice none 0 0, .bool false, .slice none 0 0, .slice none 0 0] 31)).heap.size := by rw [sz1]; omega
      have hgd : W1.heap.size ≤ (Ws1).heap.size := hCur.size
      refine hK.out _ _ (SB.out _ (bt hCur hb)) (fun hHeld' => ?_)
      clear hK K hHeld
      have hHeld := hHeld'
      clear hHeld'
      replace hCur := (bt hCur hb)
      clear hb
      try simp only [ps]
      have hgd : W1.heap.size ≤ Ws1.heap.size := hgd
      generalize (Ws1).alloc (.cells #[.bool false, .slice none 0 0, .slice none 0 0, .bool false, .slice none 0 0, .slice none 0 0] 31) = Ws6 at *
      refine rd1 (i := 7) (by kernel_rfl) rfl (fun K hK => ?_)
      go_simp
      (go_at_call 28; ((with_reducible refine (HM.out _ (bt KW.out hCur)).mono ?_); rintro e Ws7 ⟨a1, b1, rfl, hcs, o1, hap1, hb⟩))
      have hzWs7 := hb.size
      refine hK.out _ _ (SB.out _ (bt hCur hb)) (fun hHeld' => ?_)
      clear hK K hHeld
      have hHeld := hHeld'
      clear hHeld'
      replace hCur := (bt hCur hb)
      replace P_d := rblk_below P_d hb
      clear hb
      try simp only [ps]
      refine rd1 (i := 9) (by kernel_rfl) rfl (fun K hK => ?_)
      have t0 := rblk_cell P_d 0
      have q0 := rblk_free P_d 0
      have t1 := rblk_cell P_d 1
      have q1 := rblk_free P_d 1
      have t2 := rblk_cell P_d 2
      have q2 := rblk_free P_d 2
      have t3 := rblk_cell P_d 3
      have q3 := rblk_free P_d 3
      have t4 := rblk_cell P_d 4
      have q4 := rblk_free P_d 4
      have t5 := rblk_cell P_d 5
      have q5 := rblk_free P_d 5
      go_simp
      clear t0 q0 t1 q1 t2 q2 t3 q3 t4 q4 t5 q5
      refine hK.out _ _ (SB.out _ (below_put6 hCur hgd (.bool X.p) (.slice a1.A X.l.length a1.c) (.slice a1.D X.m.length a1.d) (.bool Y.p) (.slice b1.A Y.l.length b1.c) (.slice b1.D Y.m.length b1.d))) (fun hHeld' => ?_)
      clear hK K hHeld
      have hHeld := hHeld'
      clear hHeld'
      replace hCur := (below_put6 hCur hgd (.bool X.p) (.slice a1.A X.l.length a1.c) (.slice a1.D X.m.length a1.d) (.bool Y.p) (.slice b1.A Y.l.length b1.c) (.slice b1.D Y.m.length b1.d))
      replace P_d := rblk_set (rblk_set (rblk_set (rblk_set (rblk_set (rblk_set P_d 0 (.bool X.p)) 1 (.slice a1.A X.l.length a1.c)) 2 (.slice a1.D X.m.length a1.d)) 3 (.bool Y.p)) 4 (.slice b1.A Y.l.length b1.c)) 5 (.slice b1.D Y.m.length b1.d)
      replace o1 := owns_put6 (r := Ws1.heap.size) o1 (.inl (by omega)) (.bool X.p) (.slice a1.A X.l.length a1.c) (.slice a1.D X.m.length a1.d) (.bool Y.p) (.slice b1.A Y.l.length b1.c) (.slice b1.D Y.m.length b1.d)
      try simp only [ps]
      refine wpAnyH_done (by kernel_rfl) ?_ _
      generalize (((((Ws7.setCell ⟨Ws1.heap.size, 0, none⟩ (.bool X.p)).setCell ⟨Ws1.heap.size, 1, none⟩ (.slice a1.A X.l.length a1.c)).setCell ⟨Ws1.heap.size, 2, none⟩ (.slice a1.D X.m.length a1.d)).setCell ⟨Ws1.heap.size, 3, none⟩ (.bool Y.p)).setCell ⟨Ws1.heap.size, 4, none⟩ (.slice b1.A Y.l.length b1.c)).setCell ⟨Ws1.heap.size, 5, none⟩ (.slice b1.D Y.m.length b1.d) = Ws8 at *
      have kb := bt KW.out hCur
      have P_o2 := rblk_below P_o hCur
      have t0 := rblk_cell P_d 0
      have t1 := rblk_cell P_d 1
      have t2 := rblk_cell P_d 2
      have t3 := rblk_cell P_d 3
      have t4 := rblk_cell P_d 4
      have t5 := rblk_cell P_d 5
      go_wp2_with fail
      clear t0 t1 t2 t3 t4 t5
      have hlt0 := rblk_lt P_o2
      have hle0 := kb.size
      refine (HI.out a1 b1 _ o1.rds o1.rds).mono ?_
      rintro e Ws9 ⟨a3, rfl, hc5, hc6, o3, hap3, hb⟩
      replace P_o2 := rblk_below P_o2 hb
      replace kb := bt kb hb
      have t0 := rblk_cell P_o2 0
      have q0 := rblk_free P_o2 0
      have t1 := rblk_cell P_o2 1
      have q1 := rblk_free P_o2 1
      have t2 := rblk_cell P_o2 2
      have q2 := rblk_free P_o2 2
      go_wp2
      exact bodyPost_ret (v := .agg #[.bool V.p, .slice a3.A V.l.length a3.c, .slice a3.D V.m.length a3.d]) (by simp [results, Tryz.results67, go_sem, t0, t1, t2]) rfl ⟨a3, rfl, hc5, hc6, owns_end3 o3 (.inl hlt0) hle0 (Nat.le_refl _) _ _ _, hap3, (below_put (below_put (below_put kb (by omega) _) (by omega) _) (by omega) _)⟩
  · skip
    go_simp
    have P_d : ((W1.alloc (.cells #[.bool false, .slice none 0 0, .slice none 0 0, .bool false, .slice none 0 0, .slice none 0 0] 31)).drew).heap[W1.heap.size]? = some (.cells #[.bool false, .slice none 0 0, .slice none 0 0, .bool false, .slice none 0 0, .slice none 0 0] 31) := heap_alloc_new W1 (.cells #[.bool false, .slice none 0 0, .slice none 0 0, .bool false, .slice none 0 0, .slice none 0 0] 31)
    have hb : Below W1.heap.size W1 ((W1.alloc (.cells #[.bool false, .slice none 0 0, .slice none 0 0, .bool false, .slice none 0 0, .slice none 0 0] 31)).drew) := (ba1 W1 (.cells #[.bool false, .slice none 0 0, .slice none 0 0, .bool false, .slice none 0 0, .slice none 0 0] 31)).drew
    have hzd : W1.heap.size < ((W1.alloc (.cells #[.bool false, .slice none 0 0, .slice none 0 0, .bool false, .slice none 0 0, .slice none 0 0] 31)).drew).heap.size := rblk_lt P_d
    have hgd : W1.heap.size ≤ W1.heap.size := Nat.le_refl _
    refine hK.out _ _ (SB.out _ hb) (fun hHeld' => ?_)
    clear hK K hHeld
    have hHeld := hHeld'
    clear hHeld'
    replace hCur := hb
    clear hb
    try simp only [ps]
    have hgd : W1.heap.size ≤ W1.heap.size := hgd
    generalize (W1.alloc (.cells #[.bool false, .slice none 0 0, .slice none 0 0, .bool false, .slice none 0 0, .slice none 0 0] 31)).drew = Ws10 at *
    refine rd1 (i := 3) (by kernel_rfl) rfl (fun K hK => ?_)
    go_simp
    (go_at_call 108; ((with_reducible refine (HC.out _).mono ?_); rintro e Ws11 ⟨rfl, hb⟩))
    have hzWs11 := hb.size
    refine hK.out _ _ (SB.out _ (bt hCur hb)) (fun hHeld' => ?_)
    clear hK K hHeld
    have hHeld := hHeld'
    clear hHeld'
    replace hCur := (bt hCur hb)
    replace P_d := rblk_below P_d hb
    clear hb
    try simp only [ps]
    refine rd1 (i := 7) (by kernel_rfl) rfl (fun K hK => ?_)
    go_simp
    (go_at_call 28; ((with_reducible refine (HM.out _ (bt KW.out hCur)).mono ?_); rintro e Ws12 ⟨a1, b1, rfl, hcs, o1, hap1, hb⟩))
    have hzWs12 := hb.size
    refine hK.out _ _ (SB.out _ (bt hCur hb)) (fun hHeld' => ?_)
    clear hK K hHeld
    have hHeld := hHeld'
    clear hHeld'
    replace hCur := (bt hCur hb)
    replace P_d := rblk_below P_d hb
    clear hb
    try simp only [ps]
    refine rd1 (i := 9) (by kernel_rfl) rfl (fun K hK => ?_)
    have t0 := rblk_cell P_d 0
    have q0 := rblk_free P_d 0
    have t1 := rblk_cell P_d 1
    have q1 := rblk_free P_d 1
    have t2 := rblk_cell P_d 2
    have q2 := rblk_free P_d 2
    have t3 := rblk_cell P_d 3
    have q3 := rblk_free P_d 3
    have t4 := rblk_cell P_d 4
    have q4 := rblk_free P_d 4
    have t5 := rblk_cell P_d 5
    have q5 := rblk_free P_d 5
    go_simp
    clear t0 q0 t1 q1 t2 q2 t3 q3 t4 q4 t5 q5
    refine hK.out _ _ (SB.out _ (below_put6 hCur hgd (.bool X.p) (.slice a1.A X.l.length a1.c) (.slice a1.D X.m.length a1.d) (.bool Y.p) (.slice b1.A Y.l.length b1.c) (.slice b1.D Y.m.length b1.d))) (fun hHeld' => ?_)
    clear hK K hHeld
    have hHeld := hHeld'
    clear hHeld'
    replace hCur := (below_put6 hCur hgd (.bool X.p) (.slice a1.A X.l.length a1.c) (.slice a1.D X.m.length a1.d) (.bool Y.p) (.slice b1.A Y.l.length b1.c) (.slice b1.D Y.m.length b1.d))
    replace P_d := rblk_set (rblk_set (rblk_set (rblk_set (rblk_set (rblk_set P_d 0 (.bool X.p)) 1 (.slice a1.A X.l.length a1.c)) 2 (.slice a1.D X.m.length a1.d)) 3 (.bool Y.p)) 4 (.slice b1.A Y.l.length b1.c)) 5 (.slice b1.D Y.m.length b1.d)
    replace o1 := owns_put6 (r := W1.heap.size) o1 (.inl (by omega)) (.bool X.p) (.slice a1.A X.l.length a1.c) (.slice a1.D X.m.length a1.d) (.bool Y.p) (.slice b1.A Y.l.length b1.c) (.slice b1.D Y.m.length b1.d)
    try simp only [ps]
    refine wpAnyH_done (by kernel_rfl) ?_ _
    generalize (((((Ws12.setCell ⟨W1.heap.size, 0, none⟩ (.bool X.p)).setCell ⟨W1.heap.size, 1, none⟩ (.slice a1.A X.l.length a1.c)).setCell ⟨W1.heap.size, 2, none⟩ (.slice a1.D X.m.length a1.d)).setCell ⟨W1.heap.size, 3, none⟩ (.bool Y.p)).setCell ⟨W1.heap.size, 4, none⟩ (.slice b1.A Y.l.length b1.c)).setCell ⟨W1.heap.size, 5, none⟩ (.slice b1.D Y.m.length b1.d) = Ws13 at *
    have kb := bt KW.out hCur
    have P_o2 := rblk_below P_o hCur
    have t0 := rblk_cell P_d 0
    have t1 := rblk_cell P_d 1
    have t2 := rblk_cell P_d 2
    have t3 := rblk_cell P_d 3
    have t4 := rblk_cell P_d 4
    have t5 := rblk_cell P_d 5
    go_wp2_with fail
    clear t0 t1 t2 t3 t4 t5
    have hlt0 := rblk_lt P_o2
    have hle0 := kb.size
    refine (HI.out a1 b1 _ o1.rds o1.rds).mono ?_
    rintro e Ws14 ⟨a3, rfl, hc5, hc6, o3, hap3, hb⟩
    replace P_o2 := rblk_below P_o2 hb
    replace kb := bt kb hb
    have t0 := rblk_cell P_o2 0
    have q0 := rblk_free P_o2 0
    have t1 := rblk_cell P_o2 1
    have q1 := rblk_free P_o2 1
    have t2 := rblk_cell P_o2 2
    have q2 := rblk_free P_o2 2
    go_wp2
    exact bodyPost_ret (v := .agg #[.bool V.p, .slice a3.A V.l.length a3.c, .slice a3.D V.m.length a3.d]) (by simp [results, Tryz.results67, go_sem, t0, t1, t2]) rfl ⟨a3, rfl, hc5, hc6, owns_end3 o3 (.inl hlt0) hle0 (Nat.le_refl _) _ _ _, hap3, (below_put (below_put (below_put kb (by omega) _) (by omega) _) (by omega) _)⟩
end Go.Proofs.YtaohiacpdljacaaGreat

