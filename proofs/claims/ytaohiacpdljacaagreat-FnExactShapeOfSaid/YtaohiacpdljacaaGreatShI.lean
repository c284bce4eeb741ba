/-
  The program's ShapeOf.
-/
import Derived.Test.YtaohiacpdljacaaGreatShC
import Derived.Test.YtaohiacpdljacaaGreatShA0
import Derived.Test.YtaohiacpdljacaaGreatShA1
import Derived.Test.YtaohiacpdljacaaGreatShA2
namespace Go.Proofs.YtaohiacpdljacaaGreat
open Go.ChangeShapes Go.WideShapes Go.ChangeAt Go.RowKit
open Go.ChangeMaps (open_string shut_string)
set_option linter.unusedVariables false
set_option linter.unusedSimpArgs false
set_option maxRecDepth 4000

attribute [local go_sem ↓] Go.wp_at_zero Go.wp_at_succ
/-- The shape of three points. -/
def shapeT (p q r : PV) : Option Rat := binQ quoQ (aV p q r) (long3 p q r)
set_option maxHeartbeats 4000000 in
theorem shape_any (p q r : PV) (w : World) (h : TriOk w p q r) :
    Calls Tryz.prog 31 #[.agg #[.bool p.x.p, .slice p.a.A p.x.l.length p.a.c, .slice p.a.D p.x.m.length p.a.d, .bool p.y.p, .slice p.b.A p.y.l.length p.b.c, .slice p.b.D p.y.m.length p.b.d, .bool q.x.p, .slice q.a.A q.x.l.length q.a.c, .slice q.a.D q.x.m.length q.a.d, .bool q.y.p, .slice q.b.A q.y.l.length q.b.c, .slice q.b.D q.y.m.length q.b.d, .bool r.x.p, .slice r.a.A r.x.l.length r.a.c, .slice r.a.D r.x.m.length r.a.d, .bool r.y.p, .slice r.b.A r.y.l.length r.b.c, .slice r.b.D r.y.m.length r.b.d]] w (MadeQ w.heap.size (ofO (shapeT p q r)) w) := by
  have RT : Hid (∀ W, Below w.heap.size w W → TriOk W p q r) := Lib.hid (fun W hB => h.below hB)
  unfold shapeT
  have HZ := Lib.hid (fun W => show Calls Tryz.prog 12 #[.int .i64 0] W (MadeQ W.heap.size (ofO (some 0)) W) from (impl_rfi 0 W (by decide)).mono fun e w' k => MadeR.toQ (x := rfi 0) k)
  have HQ_0 : Hid (∀ W, Below w.heap.size w W → Calls Tryz.prog 67 #[.agg #[.bool p.x.p, .slice p.a.A p.x.l.length p.a.c, .slice p.a.D p.x.m.length p.a.d, .bool p.y.p, .slice p.b.A p.y.l.length p.b.c, .slice p.b.D p.y.m.length p.b.d, .bool q.x.p, .slice q.a.A q.x.l.length q.a.c, .slice q.a.D q.x.m.length q.a.d, .bool q.y.p, .slice q.b.A q.y.l.length q.b.c, .slice q.b.D q.y.m.length q.b.d, .bool r.x.p, .slice r.a.A r.x.l.length r.a.c, .slice r.a.D r.x.m.length r.a.d, .bool r.y.p, .slice r.b.A r.y.l.length r.b.c, .slice r.b.D r.y.m.length r.b.d], .int .i64 0] W (MadeQ W.heap.size (ofO (sqO p q)) W)) := Lib.hid (fun W hB => square_0 p q r W (RT.out W hB))
  have HQ_1 : Hid (∀ W, Below w.heap.size w W → Calls Tryz.prog 67 #[.agg #[.bool p.x.p, .slice p.a.A p.x.l.length p.a.c, .slice p.a.D p.x.m.length p.a.d, .bool p.y.p, .slice p.b.A p.y.l.length p.b.c, .slice p.b.D p.y.m.length p.b.d, .bool q.x.p, .slice q.a.A q.x.l.length q.a.c, .slice q.a.D q.x.m.length q.a.d, .bool q.y.p, .slice q.b.A q.y.l.length q.b.c, .slice q.b.D q.y.m.length q.b.d, .bool r.x.p, .slice r.a.A r.x.l.length r.a.c, .slice r.a.D r.x.m.length r.a.d, .bool r.y.p, .slice r.b.A r.y.l.length r.b.c, .slice r.b.D r.y.m.length r.b.d], .int .i64 1] W (MadeQ W.heap.size (ofO (sqO q r)) W)) := Lib.hid (fun W hB => square_1 p q r W (RT.out W hB))
  have HQ_2 : Hid (∀ W, Below w.heap.size w W → Calls Tryz.prog 67 #[.agg #[.bool p.x.p, .slice p.a.A p.x.l.length p.a.c, .slice p.a.D p.x.m.length p.a.d, .bool p.y.p, .slice p.b.A p.y.l.length p.b.c, .slice p.b.D p.y.m.length p.b.d, .bool q.x.p, .slice q.a.A q.x.l.length q.a.c, .slice q.a.D q.x.m.length q.a.d, .bool q.y.p, .slice q.b.A q.y.l.length q.b.c, .slice q.b.D q.y.m.length q.b.d, .bool r.x.p, .slice r.a.A r.x.l.length r.a.c, .slice r.a.D r.x.m.length r.a.d, .bool r.y.p, .slice r.b.A r.y.l.length r.b.c, .slice r.b.D r.y.m.length r.b.d], .int .i64 2] W (MadeQ W.heap.size (ofO (sqO r p)) W)) := Lib.hid (fun W hB => square_2 p q r W (RT.out W hB))
  have f1 : FitO (long1 p q) := maxO_fit fit_zero (sqO_fit _ _)
  have f2 : FitO (long2 p q r) := maxO_fit f1 (sqO_fit _ _)
  have f3 : FitO (long3 p q r) := maxO_fit f2 (sqO_fit _ _)
  have HM_0 : Hid (∀ (a c : Ad) W, Rds W (rows (ofO (some 0)) a) → Rds W (rows (ofO (sqO p q)) c) → Calls Tryz.prog 66 #[.agg #[.bool (ofO (some 0)).p, .slice a.A (ofO (some 0)).l.length a.c, .slice a.D (ofO (some 0)).m.length a.d], .agg #[.bool (ofO (sqO p q)).p, .slice c.A (ofO (sqO p q)).l.length c.c, .slice c.D (ofO (sqO p q)).m.length c.d]] W (MadeQ W.heap.size (ofO (long1 p q)) W)) := Lib.hid (fun a c W h h' => max_o _ _ a c W fit_zero (sqO_fit _ _) h h')
  have HM_1 : Hid (∀ (a c : Ad) W, Rds W (rows (ofO (long1 p q)) a) → Rds W (rows (ofO (sqO q r)) c) → Calls Tryz.prog 66 #[.agg #[.bool (ofO (long1 p q)).p, .slice a.A (ofO (long1 p q)).l.length a.c, .slice a.D (ofO (long1 p q)).m.length a.d], .agg #[.bool (ofO (sqO q r)).p, .slice c.A (ofO (sqO q r)).l.length c.c, .slice c.D (ofO (sqO q r)).m.length c.d]] W (MadeQ W.heap.size (ofO (long2 p q r)) W)) := Lib.hid (fun a c W h h' => max_o _ _ a c W f1 (sqO_fit _ _) h h')
  have HM_2 : Hid (∀ (a c : Ad) W, Rds W (rows (ofO (long2 p q r)) a) → Rds W (rows (ofO (sqO r p)) c) → Calls Tryz.prog 66 #[.agg #[.bool (ofO (long2 p q r)).p, .slice a.A (ofO (long2 p q r)).l.length a.c, .slice a.D (ofO (long2 p q r)).m.length a.d], .agg #[.bool (ofO (sqO r p)).p, .slice c.A (ofO (sqO r p)).l.length c.c, .slice c.D (ofO (sqO r p)).m.length c.d]] W (MadeQ W.heap.size (ofO (long3 p q r)) W)) := Lib.hid (fun a c W h h' => max_o _ _ a c W f2 (sqO_fit _ _) h h')
  have HA := Lib.hid (fun W hB => tarea p q r W (RT.out W hB))
  have HO := Lib.hid (fun a c W h h' => over_r (aV p q r) (long3 p q r) a c W (aV_fit _ _ _) f3 h h')
  generalize ofO (binQ quoQ (aV p q r) (long3 p q r)) = V at HO ⊢
  generalize ofO (aV p q r) = U at HA HO
  generalize ofO (sqO p q) = S0 at HQ_0 HM_0
  generalize ofO (sqO q r) = S1 at HQ_1 HM_1
  generalize ofO (sqO r p) = S2 at HQ_2 HM_2
  generalize ofO (some (0 : Rat)) = Z0 at HZ HM_0
  generalize ofO (long1 p q) = L1 at HM_0 HM_1
  generalize ofO (long2 p q r) = L2 at HM_1 HM_2
  generalize ofO (long3 p q r) = L3 at HM_2 HO
  clear f1 f2 f3 h
  unfold MadeQ at HZ HQ_0 HQ_1 HQ_2 HM_0 HM_1 HM_2 HA HO
  obtain ⟨P_t, P_o2⟩ := blocks2 w (.cells #[.bool p.x.p, .slice p.a.A p.x.l.length p.a.c, .slice p.a.D p.x.m.length p.a.d, .bool p.y.p, .slice p.b.A p.y.l.length p.b.c, .slice p.b.D p.y.m.length p.b.d, .bool q.x.p, .slice q.a.A q.x.l.length q.a.c, .slice q.a.D q.x.m.length q.a.d, .bool q.y.p, .slice q.b.A q.y.l.length q.b.c, .slice q.b.D q.y.m.length q.b.d, .bool r.x.p, .slice r.a.A r.x.l.length r.a.c, .slice r.a.D r.x.m.length r.a.d, .bool r.y.p, .slice r.b.A r.y.l.length r.b.c, .slice r.b.D r.y.m.length r.b.d] 53) (.cells #[.bool false, .slice none 0 0, .slice none 0 0] 29)
  have k2 := ba2 w (.cells #[.bool p.x.p, .slice p.a.A p.x.l.length p.a.c, .slice p.a.D p.x.m.length p.a.d, .bool p.y.p, .slice p.b.A p.y.l.length p.b.c, .slice p.b.D p.y.m.length p.b.d, .bool q.x.p, .slice q.a.A q.x.l.length q.a.c, .slice q.a.D q.x.m.length q.a.d, .bool q.y.p, .slice q.b.A q.y.l.length q.b.c, .slice q.b.D q.y.m.length q.b.d, .bool r.x.p, .slice r.a.A r.x.l.length r.a.c, .slice r.a.D r.x.m.length r.a.d, .bool r.y.p, .slice r.b.A r.y.l.length r.b.c, .slice r.b.D r.y.m.length r.b.d] 53) (.cells #[.bool false, .slice none 0 0, .slice none 0 0] 29)
  have hs2 : (w.heap.size + 1) < ((w.alloc (.cells #[.bool p.x.p, .slice p.a.A p.x.l.length p.a.c, .slice p.a.D p.x.m.length p.a.d, .bool p.y.p, .slice p.b.A p.y.l.length p.b.c, .slice p.b.D p.y.m.length p.b.d, .bool q.x.p, .slice q.a.A q.x.l.length q.a.c, .slice q.a.D q.x.m.length q.a.d, .bool q.y.p, .slice q.b.A q.y.l.length q.b.c, .slice q.b.D q.y.m.length q.b.d, .bool r.x.p, .slice r.a.A r.x.l.length r.a.c, .slice r.a.D r.x.m.length r.a.d, .bool r.y.p, .slice r.b.A r.y.l.length r.b.c, .slice r.b.D r.y.m.length r.b.d] 53)).alloc (.cells #[.bool false, .slice none 0 0, .slice none 0 0] 29)).heap.size := rblk_lt P_o2
  go_enter Tryz.func31, Tryz.ntmps31
  go_wp2_with fail
  generalize (w.alloc (.cells #[.bool p.x.p, .slice p.a.A p.x.l.length p.a.c, .slice p.a.D p.x.m.length p.a.d, .bool p.y.p, .slice p.b.A p.y.l.length p.b.c, .slice p.b.D p.y.m.length p.b.d, .bool q.x.p, .slice q.a.A q.x.l.length q.a.c, .slice q.a.D q.x.m.length q.a.d, .bool q.y.p, .slice q.b.A q.y.l.length q.b.c, .slice q.b.D q.y.m.length q.b.d, .bool r.x.p, .slice r.a.A r.x.l.length r.a.c, .slice r.a.D r.x.m.length r.a.d, .bool r.y.p, .slice r.b.A r.y.l.length r.b.c, .slice r.b.D r.y.m.length r.b.d] 53)).alloc (.cells #[.bool false, .slice none 0 0, .slice none 0 0] 29) = W3 at P_t P_o2 k2 hs2 ⊢
  refine (HZ.out _).mono ?_
  rintro e W4 ⟨a0, rfl, hx0, hy0, o0, hap0, hb⟩
  replace P_t := rblk_below P_t hb
  replace P_o2 := rblk_below P_o2 hb
  have hs4 := hb.size
  replace k2 := bt k2 hb
  clear hb hap0 hx0 hy0
  have P_l := heap_alloc_new W4 (.cells #[.bool Z0.p, .slice a0.A Z0.l.length a0.c, .slice a0.D Z0.m.length a0.d] 29)
  have hb := ba1 W4 (.cells #[.bool Z0.p, .slice a0.A Z0.l.length a0.c, .slice a0.D Z0.m.length a0.d] 29)
  replace P_t := rblk_below P_t hb
  replace P_o2 := rblk_below P_o2 hb
  replace o0 := (o0.below hb).rds
  replace k2 := bt k2 hb
  clear hb
  have hsl := rblk_lt P_l
  go_wp2_with fail
  generalize W4.alloc (.cells #[.bool Z0.p, .slice a0.A Z0.l.length a0.c, .slice a0.D Z0.m.length a0.d] 29) = W5 at P_l P_t P_o2 o0 k2 hsl ⊢
  have hgl : w.heap.size + 1 < W4.heap.size := by omega
  generalize W4.heap.size = gl at P_l hgl hsl ⊢
  clear hs4 hs2
  have HG := Lib.hid hgl
  clear hgl
  go_loopw [6] (fun k w' => ∃ (j : Nat) (Lx : R3) (a : Ad), j ≤ 3 ∧ k = .int .i64 (j : Int) ∧ (j = 0 → Lx = Z0) ∧ (j = 1 → Lx = L1) ∧ (j = 2 → Lx = L2) ∧ (j = 3 → Lx = L3) ∧ w'.heap[gl]? = some (.cells #[.bool Lx.p, .slice a.A Lx.l.length a.c, .slice a.D Lx.m.length a.d] 29 (0, 0)) ∧ Rds w' (rows Lx a) ∧ w'.heap[w.heap.size]? = some (.cells #[.bool p.x.p, .slice p.a.A p.x.l.length p.a.c, .slice p.a.D p.x.m.length p.a.d, .bool p.y.p, .slice p.b.A p.y.l.length p.b.c, .slice p.b.D p.y.m.length p.b.d, .bool q.x.p, .slice q.a.A q.x.l.length q.a.c, .slice q.a.D q.x.m.length q.a.d, .bool q.y.p, .slice q.b.A q.y.l.length q.b.c, .slice q.b.D q.y.m.length q.b.d, .bool r.x.p, .slice r.a.A r.x.l.length r.a.c, .slice r.a.D r.x.m.length r.a.d, .bool r.y.p, .slice r.b.A r.y.l.length r.b.c, .slice r.b.D r.y.m.length r.b.d] 53 (0, 0)) ∧ w'.heap[w.heap.size + 1]? = some (.cells #[.bool false, .slice none 0 0, .slice none 0 0] 29) ∧ Below w.heap.size w w') (fun k _ => 3 - (intOf k).toNat)
  case atStart => exact ⟨0, Z0, a0, by omega, rfl, (fun _ => rfl), (fun h => by omega), (fun h => by omega), (fun h => by omega), P_l, o0, P_t, P_o2, k2⟩
  case round =>
    clear P_l o0 P_t P_o2 k2 hsl
    obtain ⟨j, Lx, ax, hj, rfl, n0, n1, n2, n3, P_l, ol, P_t, P_o, kb⟩ := hrel
    have hjc : j = 0 ∨ j = 1 ∨ j = 2 ∨ j = 3 := by omega
    rcases hjc with rfl | rfl | rfl | rfl
    · obtain rfl := n0 rfl
      clear n0 n1 n2 n3 hj
      have HR := Lib.hid ol
      clear ol
      obtain ⟨rr, hrr⟩ : ∃ r, r = gl := ⟨_, rfl⟩
      rw [← hrr] at P_l
      have hro : w.heap.size + 1 < rr := by rw [hrr]; exact HG.out
      subst hrr
      go_wp2_with fail
      have SB : Hid (∀ w', Keep3 wr w' rr → (w'.rangeAt w.heap.size 0 [.bool p.x.p, .slice p.a.A p.x.l.length p.a.c, .slice p.a.D p.x.m.length p.a.d, .bool p.y.p, .slice p.b.A p.y.l.length p.b.c, .slice p.b.D p.y.m.length p.b.d, .bool q.x.p, .slice q.a.A q.x.l.length q.a.c, .slice q.a.D q.x.m.length q.a.d, .bool q.y.p, .slice q.b.A q.y.l.length q.b.c, .slice q.b.D q.y.m.length q.b.d, .bool r.x.p, .slice r.a.A r.x.l.length r.a.c, .slice r.a.D r.x.m.length r.a.d, .bool r.y.p, .slice r.b.A r.y.l.length r.b.c, .slice r.b.D r.y.m.length r.b.d] ∧ Keep3 wr w' rr)) := Lib.hid (fun w' hK => ⟨range_row (hK.block P_t (by omega)), hK⟩)
      have KST := Keep3.start P_l
      have KW := Lib.hid kb
      have hlt0 := rblk_lt P_l
      clear kb
      refine wp_region_held_drew (S := fun w' => w'.rangeAt w.heap.size 0 [.bool p.x.p, .slice p.a.A p.x.l.length p.a.c, .slice p.a.D p.x.m.length p.a.d, .bool p.y.p, .slice p.b.A p.y.l.length p.b.c, .slice p.b.D p.y.m.length p.b.d, .bool q.x.p, .slice q.a.A q.x.l.length q.a.c, .slice q.a.D q.x.m.length q.a.d, .bool q.y.p, .slice q.b.A q.y.l.length q.b.c, .slice q.b.D q.y.m.length q.b.d, .bool r.x.p, .slice r.a.A r.x.l.length r.a.c, .slice r.a.D r.x.m.length r.a.d, .bool r.y.p, .slice r.b.A r.y.l.length r.b.c, .slice r.b.D r.y.m.length r.b.d] ∧ Keep3 wr w' rr) (by kernel_rfl) (SB.out _ KST.drew) (fun hHeld => ?_)
      have hCur : Keep3 wr wr.drew rr := KST.drew
      have P_c : wr.drew.heap[rr]? = some (.cells #[.bool Lx.p, .slice ax.A Lx.l.length ax.c, .slice ax.D Lx.m.length ax.d] 29 (0, 0)) := P_l
      have HRw : Rds wr.drew (rows Lx ax) := HR.out.below ((Below.refl _ _).drew)
      refine tk (i := 1) (v := .agg #[.bool p.x.p, .slice p.a.A p.x.l.length p.a.c, .slice p.a.D p.x.m.length p.a.d, .bool p.y.p, .slice p.b.A p.y.l.length p.b.c, .slice p.b.D p.y.m.length p.b.d, .bool q.x.p, .slice q.a.A q.x.l.length q.a.c, .slice q.a.D q.x.m.length q.a.d, .bool q.y.p, .slice q.b.A q.y.l.length q.b.c, .slice q.b.D q.y.m.length q.b.d, .bool r.x.p, .slice r.a.A r.x.l.length r.a.c, .slice r.a.D r.x.m.length r.a.d, .bool r.y.p, .slice r.b.A r.y.l.length r.b.c, .slice r.b.D r.y.m.length r.b.d]) rfl (by kernel_rfl) (fun _ _ _ h => h) (yieldsIf_load_mid (by rfl) 53 (.tmp 1) rfl (w.heap.size) 0 rfl [.bool p.x.p, .slice p.a.A p.x.l.length p.a.c, .slice p.a.D p.x.m.length p.a.d, .bool p.y.p, .slice p.b.A p.y.l.length p.b.c, .slice p.b.D p.y.m.length p.b.d, .bool q.x.p, .slice q.a.A q.x.l.length q.a.c, .slice q.a.D q.x.m.length q.a.d, .bool q.y.p, .slice q.b.A q.y.l.length q.b.c, .slice q.b.D q.y.m.length q.b.d, .bool r.x.p, .slice r.a.A r.x.l.length r.a.c, .slice r.a.D r.x.m.length r.a.d, .bool r.y.p, .slice r.b.A r.y.l.length r.b.c, .slice r.b.D r.y.m.length r.b.d] _ (fun w hSw => hSw.1) Tryz.underlying53 rfl tri_size) hHeld ?_
      try simp only [ps]
      refine tk (i := 2) (v := ?vz0) rfl (by kernel_rfl) (fun _ _ _ h => h) (Or.inl ⟨by rfl, ?hz0⟩) hHeld ?_
      case hz0 => (intro w hSw; (try dsimp only at hSw); go_simp; (try with_reducible rfl))
      try simp only [ps]
      refine wpAnyH_ready (rs := [0, 3]) (by kernel_rfl) (by simp) ?_
      refine rc1 rfl (fun K hK => ?_) (rc1 rfl (fun K hK => ?_) AllReadyH.nil)
      · skip
        have t0 := rblk_cell P_c 0
        have t1 := rblk_cell P_c 1
        have t2 := rblk_cell P_c 2
        go_simp
        clear t0 t1 t2
        refine hK.out _ _ (SB.out _ hCur) (fun hHeld' => ?_)
        clear hK K hHeld
        have hHeld := hHeld'
        clear hHeld'
        try simp only [ps]
        refine rd1 (i := 3) (by kernel_rfl) rfl (fun K hK => ?_)
        go_simp
        (go_at_call 67; ((with_reducible refine (HQ_0.out _ (hCur.base KW.out (by omega))).mono ?_); rintro e Wa1 ⟨a1, rfl, hc1, hc2, o1, hap1, hb⟩))
        have hzq := hb.size
        refine hK.out _ _ (SB.out _ (hCur.below hb)) (fun hHeld' => ?_)
        clear hK K hHeld
        have hHeld := hHeld'
        clear hHeld'
        replace hCur := hCur.below hb
        replace P_c := rblk_below P_c hb
        replace HRw := HRw.below hb
        clear hb
        try simp only [ps]
        refine rd1 (i := 4) (by kernel_rfl) rfl (fun K hK => ?_)
        go_simp
        (go_at_call 66; ((with_reducible refine (HM_0.out _ _ _ HRw o1.rds).mono ?_); rintro e Wa2 ⟨a3, rfl, hc5, hc6, o3, hap3, hb⟩))
        have hz3 := hCur.lt
        refine hK.out _ _ (SB.out _ (hCur.below hb)) (fun hHeld' => ?_)
        clear hK K hHeld
        have hHeld := hHeld'
        clear hHeld'
        replace hCur := hCur.below hb
        replace P_c := rblk_below P_c hb
        clear hb
        try simp only [ps]
        refine rd1 (i := 5) (by kernel_rfl) rfl (fun K hK => ?_)
        have t0 := rblk_cell P_c 0
        have q0 := rblk_free P_c 0
        have t1 := rblk_cell P_c 1
        have q1 := rblk_free P_c 1
        have t2 := rblk_cell P_c 2
        have q2 := rblk_free P_c 2
        go_simp
        clear t0 t1 t2 q0 q1 q2
        refine hK.out _ _ (SB.out _ (hCur.put3 (.bool L1.p) (.slice a3.A L1.l.length a3.c) (.slice a3.D L1.m.length a3.d))) (fun hHeld' => ?_)
        clear hK K hHeld
        have hHeld := hHeld'
        clear hHeld'
        replace hCur := hCur.put3 (.bool L1.p) (.slice a3.A L1.l.length a3.c) (.slice a3.D L1.m.length a3.d)
        have P_e := rblk_set (rblk_set (rblk_set P_c 0 (.bool L1.p)) 1 (.slice a3.A L1.l.length a3.c)) 2 (.slice a3.D L1.m.length a3.d)
        replace o3 := (owns_put3 (r := rr) o3 (.inl hz3) (.bool L1.p) (.slice a3.A L1.l.length a3.c) (.slice a3.D L1.m.length a3.d)).rds
        try simp only [ps]
        refine wpAnyH_done (by kernel_rfl) ?_ _
        have P_t2 := hCur.block P_t (show rr ≠ w.heap.size by omega)
        have P_o2 := hCur.block P_o (show rr ≠ w.heap.size + 1 by omega)
        have kz := hCur.base KW.out (show w.heap.size ≤ rr by omega)
        have HF := Lib.hid (And.intro P_e (And.intro o3 (And.intro P_t2 (And.intro P_o2 kz))))
        clear P_e o3 P_t2 P_o2 kz hHeld hCur P_c
        go_wp2
        go_roundw
        case rel => exact ⟨1, L1, a3, by omega, by go_num, (fun h => by omega), (fun _ => rfl), (fun h => by omega), (fun h => by omega), HF.out.1, HF.out.2.1, HF.out.2.2.1, HF.out.2.2.2.1, HF.out.2.2.2.2⟩
        case measure => simp [intOf]
      · skip
        go_simp
        (go_at_call 67; ((with_reducible refine (HQ_0.out _ (hCur.base KW.out (by omega))).mono ?_); rintro e Wb1 ⟨a1, rfl, hc1, hc2, o1, hap1, hb⟩))
        have hzq := hb.size
        refine hK.out _ _ (SB.out _ (hCur.below hb)) (fun hHeld' => ?_)
        clear hK K hHeld
        have hHeld := hHeld'
        clear hHeld'
        replace hCur := hCur.below hb
        replace P_c := rblk_below P_c hb
        replace HRw := HRw.below hb
        clear hb
        try simp only [ps]
        refine rd1 (i := 0) (by kernel_rfl) rfl (fun K hK => ?_)
        have t0 := rblk_cell P_c 0
        have t1 := rblk_cell P_c 1
        have t2 := rblk_cell P_c 2
        go_simp
        clear t0 t1 t2
        refine hK.out _ _ (SB.out _ hCur) (fun hHeld' => ?_)
        clear hK K hHeld
        have hHeld := hHeld'
        clear hHeld'
        try simp only [ps]
        refine rd1 (i := 4) (by kernel_rfl) rfl (fun K hK => ?_)
        go_simp
        (go_at_call 66; ((with_reducible refine (HM_0.out _ _ _ HRw o1.rds).mono ?_); rintro e Wb2 ⟨a3, rfl, hc5, hc6, o3, hap3, hb⟩))
        have hz3 := hCur.lt
        refine hK.out _ _ (SB.out _ (hCur.below hb)) (fun hHeld' => ?_)
        clear hK K hHeld
        have hHeld := hHeld'
        clear hHeld'
        replace hCur := hCur.below hb
        replace P_c := rblk_below P_c hb
        clear hb
        try simp only [ps]
        refine rd1 (i := 5) (by kernel_rfl) rfl (fun K hK => ?_)
        have t0 := rblk_cell P_c 0
        have q0 := rblk_free P_c 0
        have t1 := rblk_cell P_c 1
        have q1 := rblk_free P_c 1
        have t2 := rblk_cell P_c 2
        have q2 := rblk_free P_c 2
        go_simp
        clear t0 t1 t2 q0 q1 q2
        refine hK.out _ _ (SB.out _ (hCur.put3 (.bool L1.p) (.slice a3.A L1.l.length a3.c) (.slice a3.D L1.m.length a3.d))) (fun hHeld' => ?_)
        clear hK K hHeld
        have hHeld := hHeld'
        clear hHeld'
        replace hCur := hCur.put3 (.bool L1.p) (.slice a3.A L1.l.length a3.c) (.slice a3.D L1.m.length a3.d)
        have P_e := rblk_set (rblk_set (rblk_set P_c 0 (.bool L1.p)) 1 (.slice a3.A L1.l.length a3.c)) 2 (.slice a3.D L1.m.length a3.d)
        replace o3 := (owns_put3 (r := rr) o3 (.inl hz3) (.bool L1.p) (.slice a3.A L1.l.length a3.c) (.slice a3.D L1.m.length a3.d)).rds
        try simp only [ps]
        refine wpAnyH_done (by kernel_rfl) ?_ _
        have P_t2 := hCur.block P_t (show rr ≠ w.heap.size by omega)
        have P_o2 := hCur.block P_o (show rr ≠ w.heap.size + 1 by omega)
        have kz := hCur.base KW.out (show w.heap.size ≤ rr by omega)
        have HF := Lib.hid (And.intro P_e (And.intro o3 (And.intro P_t2 (And.intro P_o2 kz))))
        clear P_e o3 P_t2 P_o2 kz hHeld hCur P_c
        go_wp2
        go_roundw
        case rel => exact ⟨1, L1, a3, by omega, by go_num, (fun h => by omega), (fun _ => rfl), (fun h => by omega), (fun h => by omega), HF.out.1, HF.out.2.1, HF.out.2.2.1, HF.out.2.2.2.1, HF.out.2.2.2.2⟩
        case measure => simp [intOf]
    · obtain rfl := n1 rfl
      clear n0 n1 n2 n3 hj
      have HR := Lib.hid ol
      clear ol
      obtain ⟨rr, hrr⟩ : ∃ r, r = gl := ⟨_, rfl⟩
      rw [← hrr] at P_l
      have hro : w.heap.size + 1 < rr := by rw [hrr]; exact HG.out
      subst hrr
      go_wp2_with fail
      have SB : Hid (∀ w', Keep3 wr w' rr → (w'.rangeAt w.heap.size 0 [.bool p.x.p, .slice p.a.A p.x.l.length p.a.c, .slice p.a.D p.x.m.length p.a.d, .bool p.y.p, .slice p.b.A p.y.l.length p.b.c, .slice p.b.D p.y.m.length p.b.d, .bool q.x.p, .slice q.a.A q.x.l.length q.a.c, .slice q.a.D q.x.m.length q.a.d, .bool q.y.p, .slice q.b.A q.y.l.length q.b.c, .slice q.b.D q.y.m.length q.b.d, .bool r.x.p, .slice r.a.A r.x.l.length r.a.c, .slice r.a.D r.x.m.length r.a.d, .bool r.y.p, .slice r.b.A r.y.l.length r.b.c, .slice r.b.D r.y.m.length r.b.d] ∧ Keep3 wr w' rr)) := Lib.hid (fun w' hK => ⟨range_row (hK.block P_t (by omega)), hK⟩)
      have KST := Keep3.start P_l
      have KW := Lib.hid kb
      have hlt0 := rblk_lt P_l
      clear kb
      refine wp_region_held_drew (S := fun w' => w'.rangeAt w.heap.size 0 [.bool p.x.p, .slice p.a.A p.x.l.length p.a.c, .slice p.a.D p.x.m.length p.a.d, .bool p.y.p, .slice p.b.A p.y.l.length p.b.c, .slice p.b.D p.y.m.length p.b.d, .bool q.x.p, .slice q.a.A q.x.l.length q.a.c, .slice q.a.D q.x.m.length q.a.d, .bool q.y.p, .slice q.b.A q.y.l.length q.b.c, .slice q.b.D q.y.m.length q.b.d, .bool r.x.p, .slice r.a.A r.x.l.length r.a.c, .slice r.a.D r.x.m.length r.a.d, .bool r.y.p, .slice r.b.A r.y.l.length r.b.c, .slice r.b.D r.y.m.length r.b.d] ∧ Keep3 wr w' rr) (by kernel_rfl) (SB.out _ KST.drew) (fun hHeld => ?_)
      have hCur : Keep3 wr wr.drew rr := KST.drew
      have P_c : wr.drew.heap[rr]? = some (.cells #[.bool Lx.p, .slice ax.A Lx.l.length ax.c, .slice ax.D Lx.m.length ax.d] 29 (0, 0)) := P_l
      have HRw : Rds wr.drew (rows Lx ax) := HR.out.below ((Below.refl _ _).drew)
      refine tk (i := 1) (v := .agg #[.bool p.x.p, .slice p.a.A p.x.l.length p.a.c, .slice p.a.D p.x.m.length p.a.d, .bool p.y.p, .slice p.b.A p.y.l.length p.b.c, .slice p.b.D p.y.m.length p.b.d, .bool q.x.p, .slice q.a.A q.x.l.length q.a.c, .slice q.a.D q.x.m.length q.a.d, .bool q.y.p, .slice q.b.A q.y.l.length q.b.c, .slice q.b.D q.y.m.length q.b.d, .bool r.x.p, .slice r.a.A r.x.l.length r.a.c, .slice r.a.D r.x.m.length r.a.d, .bool r.y.p, .slice r.b.A r.y.l.length r.b.c, .slice r.b.D r.y.m.length r.b.d]) rfl (by kernel_rfl) (fun _ _ _ h => h) (yieldsIf_load_mid (by rfl) 53 (.tmp 1) rfl (w.heap.size) 0 rfl [.bool p.x.p, .slice p.a.A p.x.l.length p.a.c, .slice p.a.D p.x.m.length p.a.d, .bool p.y.p, .slice p.b.A p.y.l.length p.b.c, .slice p.b.D p.y.m.length p.b.d, .bool q.x.p, .slice q.a.A q.x.l.length q.a.c, .slice q.a.D q.x.m.length q.a.d, .bool q.y.p, .slice q.b.A q.y.l.length q.b.c, .slice q.b.D q.y.m.length q.b.d, .bool r.x.p, .slice r.a.A r.x.l.length r.a.c, .slice r.a.D r.x.m.length r.a.d, .bool r.y.p, .slice r.b.A r.y.l.length r.b.c, .slice r.b.D r.y.m.length r.b.d] _ (fun w hSw => hSw.1) Tryz.underlying53 rfl tri_size) hHeld ?_
      try simp only [ps]
      refine tk (i := 2) (v := ?vz1) rfl (by kernel_rfl) (fun _ _ _ h => h) (Or.inl ⟨by rfl, ?hz1⟩) hHeld ?_
      case hz1 => (intro w hSw; (try dsimp only at hSw); go_simp; (try with_reducible rfl))
      try simp only [ps]
      refine wpAnyH_ready (rs := [0, 3]) (by kernel_rfl) (by simp) ?_
      refine rc1 rfl (fun K hK => ?_) (rc1 rfl (fun K hK => ?_) AllReadyH.nil)
      · skip
        have t0 := rblk_cell P_c 0
        have t1 := rblk_cell P_c 1
        have t2 := rblk_cell P_c 2
        go_simp
        clear t0 t1 t2
        refine hK.out _ _ (SB.out _ hCur) (fun hHeld' => ?_)
        clear hK K hHeld
        have hHeld := hHeld'
        clear hHeld'
        try simp only [ps]
        refine rd1 (i := 3) (by kernel_rfl) rfl (fun K hK => ?_)
        go_simp
        (go_at_call 67; ((with_reducible refine (HQ_1.out _ (hCur.base KW.out (by omega))).mono ?_); rintro e Wa1 ⟨a1, rfl, hc1, hc2, o1, hap1, hb⟩))
        have hzq := hb.size
        refine hK.out _ _ (SB.out _ (hCur.below hb)) (fun hHeld' => ?_)
        clear hK K hHeld
        have hHeld := hHeld'
        clear hHeld'
        replace hCur := hCur.below hb
        replace P_c := rblk_below P_c hb
        replace HRw := HRw.below hb
        clear hb
        try simp only [ps]
        refine rd1 (i := 4) (by kernel_rfl) rfl (fun K hK => ?_)
        go_simp
        (go_at_call 66; ((with_reducible refine (HM_1.out _ _ _ HRw o1.rds).mono ?_); rintro e Wa2 ⟨a3, rfl, hc5, hc6, o3, hap3, hb⟩))
        have hz3 := hCur.lt
        refine hK.out _ _ (SB.out _ (hCur.below hb)) (fun hHeld' => ?_)
        clear hK K hHeld
        have hHeld := hHeld'
        clear hHeld'
        replace hCur := hCur.below hb
        replace P_c := rblk_below P_c hb
        clear hb
        try simp only [ps]
        refine rd1 (i := 5) (by kernel_rfl) rfl (fun K hK => ?_)
        have t0 := rblk_cell P_c 0
        have q0 := rblk_free P_c 0
        have t1 := rblk_cell P_c 1
        have q1 := rblk_free P_c 1
        have t2 := rblk_cell P_c 2
        have q2 := rblk_free P_c 2
        go_simp
        clear t0 t1 t2 q0 q1 q2
        refine hK.out _ _ (SB.out _ (hCur.put3 (.bool L2.p) (.slice a3.A L2.l.length a3.c) (.slice a3.D L2.m.length a3.d))) (fun hHeld' => ?_)
        clear hK K hHeld
        have hHeld := hHeld'
        clear hHeld'
        replace hCur := hCur.put3 (.bool L2.p) (.slice a3.A L2.l.length a3.c) (.slice a3.D L2.m.length a3.d)
        have P_e := rblk_set (rblk_set (rblk_set P_c 0 (.bool L2.p)) 1 (.slice a3.A L2.l.length a3.c)) 2 (.slice a3.D L2.m.length a3.d)
        replace o3 := (owns_put3 (r := rr) o3 (.inl hz3) (.bool L2.p) (.slice a3.A L2.l.length a3.c) (.slice a3.D L2.m.length a3.d)).rds
        try simp only [ps]
        refine wpAnyH_done (by kernel_rfl) ?_ _
        have P_t2 := hCur.block P_t (show rr ≠ w.heap.size by omega)
        have P_o2 := hCur.block P_o (show rr ≠ w.heap.size + 1 by omega)
        have kz := hCur.base KW.out (show w.heap.size ≤ rr by omega)
        have HF := Lib.hid (And.intro P_e (And.intro o3 (And.intro P_t2 (And.intro P_o2 kz))))
        clear P_e o3 P_t2 P_o2 kz hHeld hCur P_c
        go_wp2
        go_roundw
        case rel => exact ⟨2, L2, a3, by omega, by go_num, (fun h => by omega), (fun h => by omega), (fun _ => rfl), (fun h => by omega), HF.out.1, HF.out.2.1, HF.out.2.2.1, HF.out.2.2.2.1, HF.out.2.2.2.2⟩
        case measure => simp [intOf]
      · skip
        go_simp
        (go_at_call 67; ((with_reducible refine (HQ_1.out _ (hCur.base KW.out (by omega))).mono ?_); rintro e Wb1 ⟨a1, rfl, hc1, hc2, o1, hap1, hb⟩))
        have hzq := hb.size
        refine hK.out _ _ (SB.out _ (hCur.below hb)) (fun hHeld' => ?_)
        clear hK K hHeld
        have hHeld := hHeld'
        clear hHeld'
        replace hCur := hCur.below hb
        replace P_c := rblk_below P_c hb
        replace HRw := HRw.below hb
        clear hb
        try simp only [ps]
        refine rd1 (i := 0) (by kernel_rfl) rfl (fun K hK => ?_)
        have t0 := rblk_cell P_c 0
        have t1 := rblk_cell P_c 1
        have t2 := rblk_cell P_c 2
        go_simp
        clear t0 t1 t2
        refine hK.out _ _ (SB.out _ hCur) (fun hHeld' => ?_)
        clear hK K hHeld
        have hHeld := hHeld'
        clear hHeld'
        try simp only [ps]
        refine rd1 (i := 4) (by kernel_rfl) rfl (fun K hK => ?_)
        go_simp
        (go_at_call 66; ((with_reducible refine (HM_1.out _ _ _ HRw o1.rds).mono ?_); rintro e Wb2 ⟨a3, rfl, hc5, hc6, o3, hap3, hb⟩))
        have hz3 := hCur.lt
        refine hK.out _ _ (SB.out _ (hCur.below hb)) (fun hHeld' => ?_)
        clear hK K hHeld
        have hHeld := hHeld'
        clear hHeld'
        replace hCur := hCur.below hb
        replace P_c := rblk_below P_c hb
        clear hb
        try simp only [ps]
        refine rd1 (i := 5) (by kernel_rfl) rfl (fun K hK => ?_)
        have t0 := rblk_cell P_c 0
        have q0 := rblk_free P_c 0
        have t1 := rblk_cell P_c 1
        have q1 := rblk_free P_c 1
        have t2 := rblk_cell P_c 2
        have q2 := rblk_free P_c 2
        go_simp
        clear t0 t1 t2 q0 q1 q2
        refine hK.out _ _ (SB.out _ (hCur.put3 (.bool L2.p) (.slice a3.A L2.l.length a3.c) (.slice a3.D L2.m.length a3.d))) (fun hHeld' => ?_)
        clear hK K hHeld
        have hHeld := hHeld'
        clear hHeld'
        replace hCur := hCur.put3 (.bool L2.p) (.slice a3.A L2.l.length a3.c) (.slice a3.D L2.m.length a3.d)
        have P_e := rblk_set (rblk_set (rblk_set P_c 0 (.bool L2.p)) 1 (.slice a3.A L2.l.length a3.c)) 2 (.slice a3.D L2.m.length a3.d)
        replace o3 := (owns_put3 (r := rr) o3 (.inl hz3) (.bool L2.p) (.slice a3.A L2.l.length a3.c) (.slice a3.D L2.m.length a3.d)).rds
        try simp only [ps]
        refine wpAnyH_done (by kernel_rfl) ?_ _
        have P_t2 := hCur.block P_t (show rr ≠ w.heap.size by omega)
        have P_o2 := hCur.block P_o (show rr ≠ w.heap.size + 1 by omega)
        have kz := hCur.base KW.out (show w.heap.size ≤ rr by omega)
        have HF := Lib.hid (And.intro P_e (And.intro o3 (And.intro P_t2 (And.intro P_o2 kz))))
        clear P_e o3 P_t2 P_o2 kz hHeld hCur P_c
        go_wp2
        go_roundw
        case rel => exact ⟨2, L2, a3, by omega, by go_num, (fun h => by omega), (fun h => by omega), (fun _ => rfl), (fun h => by omega), HF.out.1, HF.out.2.1, HF.out.2.2.1, HF.out.2.2.2.1, HF.out.2.2.2.2⟩
        case measure => simp [intOf]
    · obtain rfl := n2 rfl
      clear n0 n1 n2 n3 hj
      have HR := Lib.hid ol
      clear ol
      obtain ⟨rr, hrr⟩ : ∃ r, r = gl := ⟨_, rfl⟩
      rw [← hrr] at P_l
      have hro : w.heap.size + 1 < rr := by rw [hrr]; exact HG.out
      subst hrr
      go_wp2_with fail
      have SB : Hid (∀ w', Keep3 wr w' rr → (w'.rangeAt w.heap.size 0 [.bool p.x.p, .slice p.a.A p.x.l.length p.a.c, .slice p.a.D p.x.m.length p.a.d, .bool p.y.p, .slice p.b.A p.y.l.length p.b.c, .slice p.b.D p.y.m.length p.b.d, .bool q.x.p, .slice q.a.A q.x.l.length q.a.c, .slice q.a.D q.x.m.length q.a.d, .bool q.y.p, .slice q.b.A q.y.l.length q.b.c, .slice q.b.D q.y.m.length q.b.d, .bool r.x.p, .slice r.a.A r.x.l.length r.a.c, .slice r.a.D r.x.m.length r.a.d, .bool r.y.p, .slice r.b.A r.y.l.length r.b.c, .slice r.b.D r.y.m.length r.b.d] ∧ Keep3 wr w' rr)) := Lib.hid (fun w' hK => ⟨range_row (hK.block P_t (by omega)), hK⟩)
      have KST := Keep3.start P_l
      have KW := Lib.hid kb
      have hlt0 := rblk_lt P_l
      clear kb
      refine wp_region_held_drew (S := fun w' => w'.rangeAt w.heap.size 0 [.bool p.x.p, .slice p.a.A p.x.l.length p.a.c, .slice p.a.D p.x.m.length p.a.d, .bool p.y.p, .slice p.b.A p.y.l.length p.b.c, .slice p.b.D p.y.m.length p.b.d, .bool q.x.p, .slice q.a.A q.x.l.length q.a.c, .slice q.a.D q.x.m.length q.a.d, .bool q.y.p, .slice q.b.A q.y.l.length q.b.c, .slice q.b.D q.y.m.length q.b.d, .bool r.x.p, .slice r.a.A r.x.l.length r.a.c, .slice r.a.D r.x.m.length r.a.d, .bool r.y.p, .slice r.b.A r.y.l.length r.b.c, .slice r.b.D r.y.m.length r.b.d] ∧ Keep3 wr w' rr) (by kernel_rfl) (SB.out _ KST.drew) (fun hHeld => ?_)
      have hCur : Keep3 wr wr.drew rr := KST.drew
      have P_c : wr.drew.heap[rr]? = some (.cells #[.bool Lx.p, .slice ax.A Lx.l.length ax.c, .slice ax.D Lx.m.length ax.d] 29 (0, 0)) := P_l
      have HRw : Rds wr.drew (rows Lx ax) := HR.out.below ((Below.refl _ _).drew)
      refine tk (i := 1) (v := .agg #[.bool p.x.p, .slice p.a.A p.x.l.length p.a.c, .slice p.a.D p.x.m.length p.a.d, .bool p.y.p, .slice p.b.A p.y.l.length p.b.c, .slice p.b.D p.y.m.length p.b.d, .bool q.x.p, .slice q.a.A q.x.l.length q.a.c, .slice q.a.D q.x.m.length q.a.d, .bool q.y.p, .slice q.b.A q.y.l.length q.b.c, .slice q.b.D q.y.m.length q.b.d, .bool r.x.p, .slice r.a.A r.x.l.length r.a.c, .slice r.a.D r.x.m.length r.a.d, .bool r.y.p, .slice r.b.A r.y.l.length r.b.c, .slice r.b.D r.y.m.length r.b.d]) rfl (by kernel_rfl) (fun _ _ _ h => h) (yieldsIf_load_mid (by rfl) 53 (.tmp 1) rfl (w.heap.size) 0 rfl [.bool p.x.p, .slice p.a.A p.x.l.length p.a.c, .slice p.a.D p.x.m.length p.a.d, .bool p.y.p, .slice p.b.A p.y.l.length p.b.c, .slice p.b.D p.y.m.length p.b.d, .bool q.x.p, .slice q.a.A q.x.l.length q.a.c, .slice q.a.D q.x.m.length q.a.d, .bool q.y.p, .slice q.b.A q.y.l.length q.b.c, .slice q.b.D q.y.m.length q.b.d, .bool r.x.p, .slice r.a.A r.x.l.length r.a.c, .slice r.a.D r.x.m.length r.a.d, .bool r.y.p, .slice r.b.A r.y.l.length r.b.c, .slice r.b.D r.y.m.length r.b.d] _ (fun w hSw => hSw.1) Tryz.underlying53 rfl tri_size) hHeld ?_
      try simp only [ps]
      refine tk (i := 2) (v := ?vz2) rfl (by kernel_rfl) (fun _ _ _ h => h) (Or.inl ⟨by rfl, ?hz2⟩) hHeld ?_
      case hz2 => (intro w hSw; (try dsimp only at hSw); go_simp; (try with_reducible rfl))
      try simp only [ps]
      refine wpAnyH_ready (rs := [0, 3]) (by kernel_rfl) (by simp) ?_
      refine rc1 rfl (fun K hK => ?_) (rc1 rfl (fun K hK => ?_) AllReadyH.nil)
      · skip
        have t0 := rblk_cell P_c 0
        have t1 := rblk_cell P_c 1
        have t2 := rblk_cell P_c 2
        go_simp
        clear t0 t1 t2
        refine hK.out _ _ (SB.out _ hCur) (fun hHeld' => ?_)
        clear hK K hHeld
        have hHeld := hHeld'
        clear hHeld'
        try simp only [ps]
        refine rd1 (i := 3) (by kernel_rfl) rfl (fun K hK => ?_)
        go_simp
        (go_at_call 67; ((with_reducible refine (HQ_2.out _ (hCur.base KW.out (by omega))).mono ?_); rintro e Wa1 ⟨a1, rfl, hc1, hc2, o1, hap1, hb⟩))
        have hzq := hb.size
        refine hK.out _ _ (SB.out _ (hCur.below hb)) (fun hHeld' => ?_)
        clear hK K hHeld
        have hHeld := hHeld'
        clear hHeld'
        replace hCur := hCur.below hb
        replace P_c := rblk_below P_c hb
        replace HRw := HRw.below hb
        clear hb
        try simp only [ps]
        refine rd1 (i := 4) (by kernel_rfl) rfl (fun K hK => ?_)
        go_simp
        (go_at_call 66; ((with_reducible refine (HM_2.out _ _ _ HRw o1.rds).mono ?_); rintro e Wa2 ⟨a3, rfl, hc5, hc6, o3, hap3, hb⟩))
        have hz3 := hCur.lt
        refine hK.out _ _ (SB.out _ (hCur.below hb)) (fun hHeld' => ?_)
        clear hK K hHeld
        have hHeld := hHeld'
        clear hHeld'
        replace hCur := hCur.below hb
        replace P_c := rblk_below P_c hb
        clear hb
        try simp only [ps]
        refine rd1 (i := 5) (by kernel_rfl) rfl (fun K hK => ?_)
        have t0 := rblk_cell P_c 0
        have q0 := rblk_free P_c 0
        have t1 := rblk_cell P_c 1
        have q1 := rblk_free P_c 1
        have t2 := rblk_cell P_c 2
        have q2 := rblk_free P_c 2
        go_simp
        clear t0 t1 t2 q0 q1 q2
        refine hK.out _ _ (SB.out _ (hCur.put3 (.bool L3.p) (.slice a3.A L3.l.length a3.c) (.slice a3.D L3.m.length a3.d))) (fun hHeld' => ?_)
        clear hK K hHeld
        have hHeld := hHeld'
        clear hHeld'
        replace hCur := hCur.put3 (.bool L3.p) (.slice a3.A L3.l.length a3.c) (.slice a3.D L3.m.length a3.d)
        have P_e := rblk_set (rblk_set (rblk_set P_c 0 (.bool L3.p)) 1 (.slice a3.A L3.l.length a3.c)) 2 (.slice a3.D L3.m.length a3.d)
        replace o3 := (owns_put3 (r := rr) o3 (.inl hz3) (.bool L3.p) (.slice a3.A L3.l.length a3.c) (.slice a3.D L3.m.length a3.d)).rds
        try simp only [ps]
        refine wpAnyH_done (by kernel_rfl) ?_ _
        have P_t2 := hCur.block P_t (show rr ≠ w.heap.size by omega)
        have P_o2 := hCur.block P_o (show rr ≠ w.heap.size + 1 by omega)
        have kz := hCur.base KW.out (show w.heap.size ≤ rr by omega)
        have HF := Lib.hid (And.intro P_e (And.intro o3 (And.intro P_t2 (And.intro P_o2 kz))))
        clear P_e o3 P_t2 P_o2 kz hHeld hCur P_c
        go_wp2
        go_roundw
        case rel => exact ⟨3, L3, a3, by omega, by go_num, (fun h => by omega), (fun h => by omega), (fun h => by omega), (fun _ => rfl), HF.out.1, HF.out.2.1, HF.out.2.2.1, HF.out.2.2.2.1, HF.out.2.2.2.2⟩
        case measure => simp [intOf]
      · skip
        go_simp
        (go_at_call 67; ((with_reducible refine (HQ_2.out _ (hCur.base KW.out (by omega))).mono ?_); rintro e Wb1 ⟨a1, rfl, hc1, hc2, o1, hap1, hb⟩))
        have hzq := hb.size
        refine hK.out _ _ (SB.out _ (hCur.below hb)) (fun hHeld' => ?_)
        clear hK K hHeld
        have hHeld := hHeld'
        clear hHeld'
        replace hCur := hCur.below hb
        replace P_c := rblk_below P_c hb
        replace HRw := HRw.below hb
        clear hb
        try simp only [ps]
        refine rd1 (i := 0) (by kernel_rfl) rfl (fun K hK => ?_)
        have t0 := rblk_cell P_c 0
        have t1 := rblk_cell P_c 1
        have t2 := rblk_cell P_c 2
        go_simp
        clear t0 t1 t2
        refine hK.out _ _ (SB.out _ hCur) (fun hHeld' => ?_)
        clear hK K hHeld
        have hHeld := hHeld'
        clear hHeld'
        try simp only [ps]
        refine rd1 (i := 4) (by kernel_rfl) rfl (fun K hK => ?_)
        go_simp
        (go_at_call 66; ((with_reducible refine (HM_2.out _ _ _ HRw o1.rds).mono ?_); rintro e Wb2 ⟨a3, rfl, hc5, hc6, o3, hap3, hb⟩))
        have hz3 := hCur.lt
        refine hK.out _ _ (SB.out _ (hCur.below hb)) (fun hHeld' => ?_)
        clear hK K hHeld
        have hHeld := hHeld'
        clear hHeld'
        replace hCur := hCur.below hb
        replace P_c := rblk_below P_c hb
        clear hb
        try simp only [ps]
        refine rd1 (i := 5) (by kernel_rfl) rfl (fun K hK => ?_)
        have t0 := rblk_cell P_c 0
        have q0 := rblk_free P_c 0
        have t1 := rblk_cell P_c 1
        have q1 := rblk_free P_c 1
        have t2 := rblk_cell P_c 2
        have q2 := rblk_free P_c 2
        go_simp
        clear t0 t1 t2 q0 q1 q2
        refine hK.out _ _ (SB.out _ (hCur.put3 (.bool L3.p) (.slice a3.A L3.l.length a3.c) (.slice a3.D L3.m.length a3.d))) (fun hHeld' => ?_)
        clear hK K hHeld
        have hHeld := hHeld'
        clear hHeld'
        replace hCur := hCur.put3 (.bool L3.p) (.slice a3.A L3.l.length a3.c) (.slice a3.D L3.m.length a3.d)
        have P_e := rblk_set (rblk_set (rblk_set P_c 0 (.bool L3.p)) 1 (.slice a3.A L3.l.length a3.c)) 2 (.slice a3.D L3.m.length a3.d)
        replace o3 := (owns_put3 (r := rr) o3 (.inl hz3) (.bool L3.p) (.slice a3.A L3.l.length a3.c) (.slice a3.D L3.m.length a3.d)).rds
        try simp only [ps]
        refine wpAnyH_done (by kernel_rfl) ?_ _
        have P_t2 := hCur.block P_t (show rr ≠ w.heap.size by omega)
        have P_o2 := hCur.block P_o (show rr ≠ w.heap.size + 1 by omega)
        have kz := hCur.base KW.out (show w.heap.size ≤ rr by omega)
        have HF := Lib.hid (And.intro P_e (And.intro o3 (And.intro P_t2 (And.intro P_o2 kz))))
        clear P_e o3 P_t2 P_o2 kz hHeld hCur P_c
        go_wp2
        go_roundw
        case rel => exact ⟨3, L3, a3, by omega, by go_num, (fun h => by omega), (fun h => by omega), (fun h => by omega), (fun _ => rfl), HF.out.1, HF.out.2.1, HF.out.2.2.1, HF.out.2.2.2.1, HF.out.2.2.2.2⟩
        case measure => simp [intOf]
    · obtain rfl := n3 rfl
      clear n0 n1 n2 hj
      have HR := Lib.hid ol
      clear ol
      go_wp2_with fail
      have nr_t : w.heap.size + 1 ≠ w.heap.size := by omega
      have nr_l : w.heap.size + 1 ≠ gl := by have h1 := HG.out; omega
      obtain ⟨rr, hrr⟩ : ∃ r, r = w.heap.size + 1 := ⟨_, rfl⟩
      have P_r := P_o
      rw [← hrr] at P_r
      have hrr3 : w.heap.size ≤ rr := by rw [hrr]; exact Nat.le_succ _
      have nt : rr ≠ w.heap.size := by rw [hrr]; exact nr_t
      have nl : rr ≠ gl := by rw [hrr]; exact nr_l
      have SB : Hid (∀ w', Keep3 wr w' rr → (w'.rangeAt w.heap.size 0 [.bool p.x.p, .slice p.a.A p.x.l.length p.a.c, .slice p.a.D p.x.m.length p.a.d, .bool p.y.p, .slice p.b.A p.y.l.length p.b.c, .slice p.b.D p.y.m.length p.b.d, .bool q.x.p, .slice q.a.A q.x.l.length q.a.c, .slice q.a.D q.x.m.length q.a.d, .bool q.y.p, .slice q.b.A q.y.l.length q.b.c, .slice q.b.D q.y.m.length q.b.d, .bool r.x.p, .slice r.a.A r.x.l.length r.a.c, .slice r.a.D r.x.m.length r.a.d, .bool r.y.p, .slice r.b.A r.y.l.length r.b.c, .slice r.b.D r.y.m.length r.b.d] ∧ w'.cell? ⟨gl, 0, none⟩ = some (.bool Lx.p) ∧ w'.cell? ⟨gl, 1, none⟩ = some (.slice ax.A Lx.l.length ax.c) ∧ w'.cell? ⟨gl, 2, none⟩ = some (.slice ax.D Lx.m.length ax.d) ∧ Keep3 wr w' rr)) := Lib.hid (fun w' hK => ⟨range_row (hK.block P_t nt), rblk_cell (hK.block P_l nl) 0, rblk_cell (hK.block P_l nl) 1, rblk_cell (hK.block P_l nl) 2, hK⟩)
      have KST := Keep3.start P_r
      have KW := Lib.hid kb
      have hlt0 := rblk_lt P_r
      clear kb
      refine wp_region_held_drew (S := fun w' => w'.rangeAt w.heap.size 0 [.bool p.x.p, .slice p.a.A p.x.l.length p.a.c, .slice p.a.D p.x.m.length p.a.d, .bool p.y.p, .slice p.b.A p.y.l.length p.b.c, .slice p.b.D p.y.m.length p.b.d, .bool q.x.p, .slice q.a.A q.x.l.length q.a.c, .slice q.a.D q.x.m.length q.a.d, .bool q.y.p, .slice q.b.A q.y.l.length q.b.c, .slice q.b.D q.y.m.length q.b.d, .bool r.x.p, .slice r.a.A r.x.l.length r.a.c, .slice r.a.D r.x.m.length r.a.d, .bool r.y.p, .slice r.b.A r.y.l.length r.b.c, .slice r.b.D r.y.m.length r.b.d] ∧ w'.cell? ⟨gl, 0, none⟩ = some (.bool Lx.p) ∧ w'.cell? ⟨gl, 1, none⟩ = some (.slice ax.A Lx.l.length ax.c) ∧ w'.cell? ⟨gl, 2, none⟩ = some (.slice ax.D Lx.m.length ax.d) ∧ Keep3 wr w' rr) (by kernel_rfl) (SB.out _ KST.drew) (fun hHeld => ?_)
      have hCur : Keep3 wr wr.drew rr := KST.drew
      have HRw : Rds wr.drew (rows Lx ax) := HR.out.below ((Below.refl _ _).drew)
      refine tk (i := 0) (v := .agg #[.bool p.x.p, .slice p.a.A p.x.l.length p.a.c, .slice p.a.D p.x.m.length p.a.d, .bool p.y.p, .slice p.b.A p.y.l.length p.b.c, .slice p.b.D p.y.m.length p.b.d, .bool q.x.p, .slice q.a.A q.x.l.length q.a.c, .slice q.a.D q.x.m.length q.a.d, .bool q.y.p, .slice q.b.A q.y.l.length q.b.c, .slice q.b.D q.y.m.length q.b.d, .bool r.x.p, .slice r.a.A r.x.l.length r.a.c, .slice r.a.D r.x.m.length r.a.d, .bool r.y.p, .slice r.b.A r.y.l.length r.b.c, .slice r.b.D r.y.m.length r.b.d]) rfl (by kernel_rfl) (fun _ _ _ h => h) (yieldsIf_load_mid (by rfl) 53 (.tmp 1) rfl (w.heap.size) 0 rfl [.bool p.x.p, .slice p.a.A p.x.l.length p.a.c, .slice p.a.D p.x.m.length p.a.d, .bool p.y.p, .slice p.b.A p.y.l.length p.b.c, .slice p.b.D p.y.m.length p.b.d, .bool q.x.p, .slice q.a.A q.x.l.length q.a.c, .slice q.a.D q.x.m.length q.a.d, .bool q.y.p, .slice q.b.A q.y.l.length q.b.c, .slice q.b.D q.y.m.length q.b.d, .bool r.x.p, .slice r.a.A r.x.l.length r.a.c, .slice r.a.D r.x.m.length r.a.d, .bool r.y.p, .slice r.b.A r.y.l.length r.b.c, .slice r.b.D r.y.m.length r.b.d] _ (fun w hSw => hSw.1) Tryz.underlying53 rfl tri_size) hHeld ?_
      try simp only [ps]
      refine tk (i := 2) (v := ?vy) rfl (by kernel_rfl) (fun _ _ _ h => h) (Or.inl ⟨by rfl, ?hy⟩) hHeld ?_
      case hy => (intro w hSw; (try dsimp only at hSw); go_simp; (try with_reducible rfl))
      try simp only [ps]
      refine rd1 (i := 1) (by kernel_rfl) rfl (fun K hK => ?_)
      go_simp
      (go_at_call 68; ((with_reducible refine (HA.out _ (hCur.base KW.out hrr3)).mono ?_); rintro e Wc1 ⟨a1, rfl, hc1, hc2, o1, hap1, hb⟩))
      refine hK.out _ _ (SB.out _ (hCur.below hb)) (fun hHeld' => ?_)
      clear hK K hHeld
      have hHeld := hHeld'
      clear hHeld'
      replace hCur := hCur.below hb
      replace HRw := HRw.below hb
      clear hb
      try simp only [ps]
      refine rd1 (i := 3) (by kernel_rfl) rfl (fun K hK => ?_)
      go_simp
      (go_at_call 69; ((with_reducible refine (HO.out _ _ _ o1.rds HRw).mono ?_); rintro e Wc2 ⟨a3, rfl, hc5, hc6, o3, hap3, hb⟩))
      have hz0 := hCur.lt
      have kz0 := (hCur.base KW.out hrr3).size
      refine hK.out _ _ (SB.out _ (hCur.below hb)) (fun hHeld' => ?_)
      clear hK K hHeld
      have hHeld := hHeld'
      clear hHeld'
      replace hCur := hCur.below hb
      clear hb
      try simp only [ps]
      obtain ⟨u0, u1, u2, t0, t1, t2, t3, t4, t5⟩ := hCur.cells
      refine rd1 (i := 4) (by kernel_rfl) rfl (fun K hK => ?_)
      subst hrr
      go_simp
      refine hK.out _ _ (SB.out _ (hCur.put3 (.bool V.p) (.slice a3.A V.l.length a3.c) (.slice a3.D V.m.length a3.d))) (fun hHeld' => ?_)
      clear hK K hHeld
      clear hHeld'
      try simp only [ps]
      refine wpAnyH_done (by kernel_rfl) ?_ _
      go_wp2
      exact bodyPost_ret (v := .agg #[.bool V.p, .slice a3.A V.l.length a3.c, .slice a3.D V.m.length a3.d]) (by simp [results, Tryz.results31, go_sem, t0, t1, t2, t3, t4, t5]) rfl ⟨a3, rfl, hc5, hc6, owns_end3 o3 (.inl hz0) kz0 (Nat.le_refl _) _ _ _, hap3, (hCur.put3 (.bool V.p) (.slice a3.A V.l.length a3.c) (.slice a3.D V.m.length a3.d)).base KW.out (Nat.le_succ _)⟩
set_option maxHeartbeats 1000000 in
theorem impl_shapeOf (L : List PV) (A : Option Addr) (c : Nat) (w : World) (hn : L.length ≤ 9223372036854775807) (hL : ∀ p, p ∈ L → LenP p) (hA : RdS w A (flat L)) (hR : Rds w (lrow L)) :
    Calls Tryz.prog 9 #[.slice A L.length c] w (MadeQ w.heap.size (ofO (shapeO L)) w) := by
  have HT := Lib.hid (fun W h h' => tri_any L A c W hn hL h h')
  have RR : Hid (∀ W, Below w.heap.size w W → RdS W A (flat L) ∧ Rds W (lrow L)) := Lib.hid (fun W hB => ⟨hA.below hB, hR.below hB⟩)
  have HS : Hid (∀ W, Below w.heap.size w W → Calls Tryz.prog 31 #[.agg #[.bool (tri1 L).x.p, .slice (tri1 L).a.A (tri1 L).x.l.length (tri1 L).a.c, .slice (tri1 L).a.D (tri1 L).x.m.length (tri1 L).a.d, .bool (tri1 L).y.p, .slice (tri1 L).b.A (tri1 L).y.l.length (tri1 L).b.c, .slice (tri1 L).b.D (tri1 L).y.m.length (tri1 L).b.d, .bool (tri2 L).x.p, .slice (tri2 L).a.A (tri2 L).x.l.length (tri2 L).a.c, .slice (tri2 L).a.D (tri2 L).x.m.length (tri2 L).a.d, .bool (tri2 L).y.p, .slice (tri2 L).b.A (tri2 L).y.l.length (tri2 L).b.c, .slice (tri2 L).b.D (tri2 L).y.m.length (tri2 L).b.d, .bool (tri3 L).x.p, .slice (tri3 L).a.A (tri3 L).x.l.length (tri3 L).a.c, .slice (tri3 L).a.D (tri3 L).x.m.length (tri3 L).a.d, .bool (tri3 L).y.p, .slice (tri3 L).b.A (tri3 L).y.l.length (tri3 L).b.c, .slice (tri3 L).b.D (tri3 L).y.m.length (tri3 L).b.d]] W (MadeQ W.heap.size (ofO (shapeO L)) W)) := Lib.hid (fun W hB => shape_any _ _ _ W (tri_ok (hR.below hB)))
  unfold MadeQ at HS
  generalize ofO (shapeO L) = U at HS ⊢
  generalize tri1 L = p at HT HS
  generalize tri2 L = q at HT HS
  generalize tri3 L = r at HT HS
  generalize L.length = n at HT ⊢
  clear hn hL hA hR
  go_enter Tryz.func9, Tryz.ntmps9
  go_wp2_with fail
  have kb := ba1 w (.cells #[.bool false, .slice none 0 0, .slice none 0 0] 29)
  have P_o := heap_alloc_new w (.cells #[.bool false, .slice none 0 0, .slice none 0 0] 29)
  generalize w.alloc (.cells #[.bool false, .slice none 0 0, .slice none 0 0] 29) = W1 at kb P_o ⊢
  refine (HT.out _ (RR.out _ kb).1 (RR.out _ kb).2).mono ?_
  rintro e W2 ⟨rfl, hb⟩
  replace P_o := rblk_below P_o hb
  replace kb := bt kb hb
  clear hb
  go_wp2_with fail
  have hlt0 := rblk_lt P_o
  have hle0 := kb.size
  refine (HS.out _ kb).mono ?_
  rintro e W3 ⟨a1, rfl, hc1, hc2, o1, hap1, hb⟩
  replace P_o := rblk_below P_o hb
  replace kb := bt kb hb
  have hz := hb.size
  have c_o0 : W3.cell? ⟨w.heap.size, 0, none⟩ = some (.bool false) := rblk_cell P_o 0
  have c_o1 : W3.cell? ⟨w.heap.size, 1, none⟩ = some (.slice none 0 0) := rblk_cell P_o 1
  have c_o2 : W3.cell? ⟨w.heap.size, 2, none⟩ = some (.slice none 0 0) := rblk_cell P_o 2
  have f_o0 := rblk_free P_o 0
  have f_o1 := rblk_free P_o 1
  have f_o2 := rblk_free P_o 2
  go_wp2
  exact bodyPost_ret (v := .agg #[.bool U.p, .slice a1.A U.l.length a1.c, .slice a1.D U.m.length a1.d]) (by simp [results, Tryz.results9, go_sem, c_o0, c_o1, c_o2]) rfl ⟨a1, rfl, hc1, hc2, owns_end3 o1 (.inl hlt0) hle0 (Nat.le_refl _) _ _ _, hap1, (below_put (below_put (below_put kb (by omega) _) (by omega) _) (by omega) _)⟩
end Go.Proofs.YtaohiacpdljacaaGreat

