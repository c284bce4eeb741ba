/-
  Does a triangle reach beyond a side of another one?
-/
import Derived.Test.YtaohiacpdljacaaGreatWg
import Derived.Test.YtaohiacpdljacaaGreatTriB
import Derived.Test.YtaohiacpdljacaaGreatTriS
namespace Go.Proofs.YtaohiacpdljacaaGreat
open Go.ChangeShapes Go.WideShapes Go.ChangeAt Go.RowKit
set_option linter.unusedVariables false
set_option linter.unusedSimpArgs false
set_option maxRecDepth 4000
attribute [local go_sem ↓] Go.wp_at_zero Go.wp_at_succ
set_option maxHeartbeats 4000000 in
theorem reaches_any (i : Int) (a b p q r u v s : PV) (w : World) (h : TriOk w p q r) (h' : TriOk w u v s)
    (HE : ∀ x W, TriOk W p q r → NiceP x → Rds W (prow x) → Calls Tryz.prog 152 #[.agg #[.bool p.x.p, .slice p.a.A p.x.l.length p.a.c, .slice p.a.D p.x.m.length p.a.d, .bool p.y.p, .slice p.b.A p.y.l.length p.b.c, .slice p.b.D p.y.m.length p.b.d, .bool q.x.p, .slice q.a.A q.x.l.length q.a.c, .slice q.a.D q.x.m.length q.a.d, .bool q.y.p, .slice q.b.A q.y.l.length q.b.c, .slice q.b.D q.y.m.length q.b.d, .bool r.x.p, .slice r.a.A r.x.l.length r.a.c, .slice r.a.D r.x.m.length r.a.d, .bool r.y.p, .slice r.b.A r.y.l.length r.b.c, .slice r.b.D r.y.m.length r.b.d], .int .i64 i, .agg #[.bool x.x.p, .slice x.a.A x.x.l.length x.a.c, .slice x.a.D x.x.m.length x.a.d, .bool x.y.p, .slice x.b.A x.y.l.length x.b.c, .slice x.b.D x.y.m.length x.b.d]] W (fun e w' => e = .returned (.bool (sameB x a || sameB x b)) ∧ Below W.heap.size W w'))
    (HW : ∀ x W, TriOk W p q r → NiceP x → Rds W (prow x) → Calls Tryz.prog 153 #[.agg #[.bool p.x.p, .slice p.a.A p.x.l.length p.a.c, .slice p.a.D p.x.m.length p.a.d, .bool p.y.p, .slice p.b.A p.y.l.length p.b.c, .slice p.b.D p.y.m.length p.b.d, .bool q.x.p, .slice q.a.A q.x.l.length q.a.c, .slice q.a.D q.x.m.length q.a.d, .bool q.y.p, .slice q.b.A q.y.l.length q.b.c, .slice q.b.D q.y.m.length q.b.d, .bool r.x.p, .slice r.a.A r.x.l.length r.a.c, .slice r.a.D r.x.m.length r.a.d, .bool r.y.p, .slice r.b.A r.y.l.length r.b.c, .slice r.b.D r.y.m.length r.b.d], .int .i64 i, .agg #[.bool x.x.p, .slice x.a.A x.x.l.length x.a.c, .slice x.a.D x.x.m.length x.a.d, .bool x.y.p, .slice x.b.A x.y.l.length x.b.c, .slice x.b.D x.y.m.length x.b.d]] W (MadeQ W.heap.size (ofO (aV a b x)) W)) :
    Calls Tryz.prog 121 #[.agg #[.bool p.x.p, .slice p.a.A p.x.l.length p.a.c, .slice p.a.D p.x.m.length p.a.d, .bool p.y.p, .slice p.b.A p.y.l.length p.b.c, .slice p.b.D p.y.m.length p.b.d, .bool q.x.p, .slice q.a.A q.x.l.length q.a.c, .slice q.a.D q.x.m.length q.a.d, .bool q.y.p, .slice q.b.A q.y.l.length q.b.c, .slice q.b.D q.y.m.length q.b.d, .bool r.x.p, .slice r.a.A r.x.l.length r.a.c, .slice r.a.D r.x.m.length r.a.d, .bool r.y.p, .slice r.b.A r.y.l.length r.b.c, .slice r.b.D r.y.m.length r.b.d], .int .i64 i, .agg #[.bool u.x.p, .slice u.a.A u.x.l.length u.a.c, .slice u.a.D u.x.m.length u.a.d, .bool u.y.p, .slice u.b.A u.y.l.length u.b.c, .slice u.b.D u.y.m.length u.b.d, .bool v.x.p, .slice v.a.A v.x.l.length v.a.c, .slice v.a.D v.x.m.length v.a.d, .bool v.y.p, .slice v.b.A v.y.l.length v.b.c, .slice v.b.D v.y.m.length v.b.d, .bool s.x.p, .slice s.a.A s.x.l.length s.a.c, .slice s.a.D s.x.m.length s.a.d, .bool s.y.p, .slice s.b.A s.y.l.length s.b.c, .slice s.b.D s.y.m.length s.b.d]] w (fun e w' => e = .returned (.bool (reachB a b u v s)) ∧ Below w.heap.size w w') := by
  have H : Hid (∀ W, Below w.heap.size w W → TriOk W p q r ∧ TriOk W u v s) := Lib.hid (fun W hB => ⟨h.below hB, h'.below hB⟩)
  have HI_u : Hid (∀ W, Below w.heap.size w W → Calls Tryz.prog 153 #[.agg #[.bool p.x.p, .slice p.a.A p.x.l.length p.a.c, .slice p.a.D p.x.m.length p.a.d, .bool p.y.p, .slice p.b.A p.y.l.length p.b.c, .slice p.b.D p.y.m.length p.b.d, .bool q.x.p, .slice q.a.A q.x.l.length q.a.c, .slice q.a.D q.x.m.length q.a.d, .bool q.y.p, .slice q.b.A q.y.l.length q.b.c, .slice q.b.D q.y.m.length q.b.d, .bool r.x.p, .slice r.a.A r.x.l.length r.a.c, .slice r.a.D r.x.m.length r.a.d, .bool r.y.p, .slice r.b.A r.y.l.length r.b.c, .slice r.b.D r.y.m.length r.b.d], .int .i64 i, .agg #[.bool u.x.p, .slice u.a.A u.x.l.length u.a.c, .slice u.a.D u.x.m.length u.a.d, .bool u.y.p, .slice u.b.A u.y.l.length u.b.c, .slice u.b.D u.y.m.length u.b.d]] W (MadeQ W.heap.size (ofO (aV a b u)) W)) := Lib.hid (fun W hB => HW u W (H.out W hB).1 (H.out W hB).2.1.1 (H.out W hB).2.2.1)
  have HE_u : Hid (∀ W, Below w.heap.size w W → Calls Tryz.prog 152 #[.agg #[.bool p.x.p, .slice p.a.A p.x.l.length p.a.c, .slice p.a.D p.x.m.length p.a.d, .bool p.y.p, .slice p.b.A p.y.l.length p.b.c, .slice p.b.D p.y.m.length p.b.d, .bool q.x.p, .slice q.a.A q.x.l.length q.a.c, .slice q.a.D q.x.m.length q.a.d, .bool q.y.p, .slice q.b.A q.y.l.length q.b.c, .slice q.b.D q.y.m.length q.b.d, .bool r.x.p, .slice r.a.A r.x.l.length r.a.c, .slice r.a.D r.x.m.length r.a.d, .bool r.y.p, .slice r.b.A r.y.l.length r.b.c, .slice r.b.D r.y.m.length r.b.d], .int .i64 i, .agg #[.bool u.x.p, .slice u.a.A u.x.l.length u.a.c, .slice u.a.D u.x.m.length u.a.d, .bool u.y.p, .slice u.b.A u.y.l.length u.b.c, .slice u.b.D u.y.m.length u.b.d]] W (fun e w' => e = .returned (.bool (sameB u a || sameB u b)) ∧ Below W.heap.size W w')) := Lib.hid (fun W hB => HE u W (H.out W hB).1 (H.out W hB).2.1.1 (H.out W hB).2.2.1)
  have HN_u : Hid ((sameB u a || sameB u b) = true → ¬ 0 < sgnO (aV a b u)) := Lib.hid (fun h => end_area h)
  have HS_u := Lib.hid (fun a1 W hr => sign_r (aV a b u) a1 W (aV_fit a b u) hr)
  have HI_v : Hid (∀ W, Below w.heap.size w W → Calls Tryz.prog 153 #[.agg #[.bool p.x.p, .slice p.a.A p.x.l.length p.a.c, .slice p.a.D p.x.m.length p.a.d, .bool p.y.p, .slice p.b.A p.y.l.length p.b.c, .slice p.b.D p.y.m.length p.b.d, .bool q.x.p, .slice q.a.A q.x.l.length q.a.c, .slice q.a.D q.x.m.length q.a.d, .bool q.y.p, .slice q.b.A q.y.l.length q.b.c, .slice q.b.D q.y.m.length q.b.d, .bool r.x.p, .slice r.a.A r.x.l.length r.a.c, .slice r.a.D r.x.m.length r.a.d, .bool r.y.p, .slice r.b.A r.y.l.length r.b.c, .slice r.b.D r.y.m.length r.b.d], .int .i64 i, .agg #[.bool v.x.p, .slice v.a.A v.x.l.length v.a.c, .slice v.a.D v.x.m.length v.a.d, .bool v.y.p, .slice v.b.A v.y.l.length v.b.c, .slice v.b.D v.y.m.length v.b.d]] W (MadeQ W.heap.size (ofO (aV a b v)) W)) := Lib.hid (fun W hB => HW v W (H.out W hB).1 (H.out W hB).2.1.2.1 (H.out W hB).2.2.2.1)
  have HE_v : Hid (∀ W, Below w.heap.size w W → Calls Tryz.prog 152 #[.agg #[.bool p.x.p, .slice p.a.A p.x.l.length p.a.c, .slice p.a.D p.x.m.length p.a.d, .bool p.y.p, .slice p.b.A p.y.l.length p.b.c, .slice p.b.D p.y.m.length p.b.d, .bool q.x.p, .slice q.a.A q.x.l.length q.a.c, .slice q.a.D q.x.m.length q.a.d, .bool q.y.p, .slice q.b.A q.y.l.length q.b.c, .slice q.b.D q.y.m.length q.b.d, .bool r.x.p, .slice r.a.A r.x.l.length r.a.c, .slice r.a.D r.x.m.length r.a.d, .bool r.y.p, .slice r.b.A r.y.l.length r.b.c, .slice r.b.D r.y.m.length r.b.d], .int .i64 i, .agg #[.bool v.x.p, .slice v.a.A v.x.l.length v.a.c, .slice v.a.D v.x.m.length v.a.d, .bool v.y.p, .slice v.b.A v.y.l.length v.b.c, .slice v.b.D v.y.m.length v.b.d]] W (fun e w' => e = .returned (.bool (sameB v a || sameB v b)) ∧ Below W.heap.size W w')) := Lib.hid (fun W hB => HE v W (H.out W hB).1 (H.out W hB).2.1.2.1 (H.out W hB).2.2.2.1)
  have HN_v : Hid ((sameB v a || sameB v b) = true → ¬ 0 < sgnO (aV a b v)) := Lib.hid (fun h => end_area h)
  have HS_v := Lib.hid (fun a1 W hr => sign_r (aV a b v) a1 W (aV_fit a b v) hr)
  have HI_s : Hid (∀ W, Below w.heap.size w W → Calls Tryz.prog 153 #[.agg #[.bool p.x.p, .slice p.a.A p.x.l.length p.a.c, .slice p.a.D p.x.m.length p.a.d, .bool p.y.p, .slice p.b.A p.y.l.length p.b.c, .slice p.b.D p.y.m.length p.b.d, .bool q.x.p, .slice q.a.A q.x.l.length q.a.c, .slice q.a.D q.x.m.length q.a.d, .bool q.y.p, .slice q.b.A q.y.l.length q.b.c, .slice q.b.D q.y.m.length q.b.d, .bool r.x.p, .slice r.a.A r.x.l.length r.a.c, .slice r.a.D r.x.m.length r.a.d, .bool r.y.p, .slice r.b.A r.y.l.length r.b.c, .slice r.b.D r.y.m.length r.b.d], .int .i64 i, .agg #[.bool s.x.p, .slice s.a.A s.x.l.length s.a.c, .slice s.a.D s.x.m.length s.a.d, .bool s.y.p, .slice s.b.A s.y.l.length s.b.c, .slice s.b.D s.y.m.length s.b.d]] W (MadeQ W.heap.size (ofO (aV a b s)) W)) := Lib.hid (fun W hB => HW s W (H.out W hB).1 (H.out W hB).2.1.2.2 (H.out W hB).2.2.2.2)
  have HE_s : Hid (∀ W, Below w.heap.size w W → Calls Tryz.prog 152 #[.agg #[.bool p.x.p, .slice p.a.A p.x.l.length p.a.c, .slice p.a.D p.x.m.length p.a.d, .bool p.y.p, .slice p.b.A p.y.l.length p.b.c, .slice p.b.D p.y.m.length p.b.d, .bool q.x.p, .slice q.a.A q.x.l.length q.a.c, .slice q.a.D q.x.m.length q.a.d, .bool q.y.p, .slice q.b.A q.y.l.length q.b.c, .slice q.b.D q.y.m.length q.b.d, .bool r.x.p, .slice r.a.A r.x.l.length r.a.c, .slice r.a.D r.x.m.length r.a.d, .bool r.y.p, .slice r.b.A r.y.l.length r.b.c, .slice r.b.D r.y.m.length r.b.d], .int .i64 i, .agg #[.bool s.x.p, .slice s.a.A s.x.l.length s.a.c, .slice s.a.D s.x.m.length s.a.d, .bool s.y.p, .slice s.b.A s.y.l.length s.b.c, .slice s.b.D s.y.m.length s.b.d]] W (fun e w' => e = .returned (.bool (sameB s a || sameB s b)) ∧ Below W.heap.size W w')) := Lib.hid (fun W hB => HE s W (H.out W hB).1 (H.out W hB).2.1.2.2 (H.out W hB).2.2.2.2)
  have HN_s : Hid ((sameB s a || sameB s b) = true → ¬ 0 < sgnO (aV a b s)) := Lib.hid (fun h => end_area h)
  have HS_s := Lib.hid (fun a1 W hr => sign_r (aV a b s) a1 W (aV_fit a b s) hr)
  unfold reachB rB
  clear H h h' HW HE
  generalize (sameB u a || sameB u b) = e_u at HE_u HN_u
  generalize sgnO (aV a b u) = g_u at HS_u HN_u ⊢
  generalize ofO (aV a b u) = U_u at HI_u HS_u
  generalize (sameB v a || sameB v b) = e_v at HE_v HN_v
  generalize sgnO (aV a b v) = g_v at HS_v HN_v ⊢
  generalize ofO (aV a b v) = U_v at HI_v HS_v
  generalize (sameB s a || sameB s b) = e_s at HE_s HN_s
  generalize sgnO (aV a b s) = g_s at HS_s HN_s ⊢
  generalize ofO (aV a b s) = U_s at HI_s HS_s
  unfold MadeQ at HI_u HI_v HI_s
  obtain ⟨P_t, P_u⟩ := blocks2 w (.cells #[.bool p.x.p, .slice p.a.A p.x.l.length p.a.c, .slice p.a.D p.x.m.length p.a.d, .bool p.y.p, .slice p.b.A p.y.l.length p.b.c, .slice p.b.D p.y.m.length p.b.d, .bool q.x.p, .slice q.a.A q.x.l.length q.a.c, .slice q.a.D q.x.m.length q.a.d, .bool q.y.p, .slice q.b.A q.y.l.length q.b.c, .slice q.b.D q.y.m.length q.b.d, .bool r.x.p, .slice r.a.A r.x.l.length r.a.c, .slice r.a.D r.x.m.length r.a.d, .bool r.y.p, .slice r.b.A r.y.l.length r.b.c, .slice r.b.D r.y.m.length r.b.d] 53) (.cells #[.bool u.x.p, .slice u.a.A u.x.l.length u.a.c, .slice u.a.D u.x.m.length u.a.d, .bool u.y.p, .slice u.b.A u.y.l.length u.b.c, .slice u.b.D u.y.m.length u.b.d, .bool v.x.p, .slice v.a.A v.x.l.length v.a.c, .slice v.a.D v.x.m.length v.a.d, .bool v.y.p, .slice v.b.A v.y.l.length v.b.c, .slice v.b.D v.y.m.length v.b.d, .bool s.x.p, .slice s.a.A s.x.l.length s.a.c, .slice s.a.D s.x.m.length s.a.d, .bool s.y.p, .slice s.b.A s.y.l.length s.b.c, .slice s.b.D s.y.m.length s.b.d] 53)
  have kb := ba2 w (.cells #[.bool p.x.p, .slice p.a.A p.x.l.length p.a.c, .slice p.a.D p.x.m.length p.a.d, .bool p.y.p, .slice p.b.A p.y.l.length p.b.c, .slice p.b.D p.y.m.length p.b.d, .bool q.x.p, .slice q.a.A q.x.l.length q.a.c, .slice q.a.D q.x.m.length q.a.d, .bool q.y.p, .slice q.b.A q.y.l.length q.b.c, .slice q.b.D q.y.m.length q.b.d, .bool r.x.p, .slice r.a.A r.x.l.length r.a.c, .slice r.a.D r.x.m.length r.a.d, .bool r.y.p, .slice r.b.A r.y.l.length r.b.c, .slice r.b.D r.y.m.length r.b.d] 53) (.cells #[.bool u.x.p, .slice u.a.A u.x.l.length u.a.c, .slice u.a.D u.x.m.length u.a.d, .bool u.y.p, .slice u.b.A u.y.l.length u.b.c, .slice u.b.D u.y.m.length u.b.d, .bool v.x.p, .slice v.a.A v.x.l.length v.a.c, .slice v.a.D v.x.m.length v.a.d, .bool v.y.p, .slice v.b.A v.y.l.length v.b.c, .slice v.b.D v.y.m.length v.b.d, .bool s.x.p, .slice s.a.A s.x.l.length s.a.c, .slice s.a.D s.x.m.length s.a.d, .bool s.y.p, .slice s.b.A s.y.l.length s.b.c, .slice s.b.D s.y.m.length s.b.d] 53)
  have hldu := cells_row P_u
  go_enter Tryz.func121, Tryz.ntmps121
  go_wp2_with (refine wpList_load_at rfl 53 (.tmp 5) rfl (w.heap.size + 1) 0 #[.bool u.x.p, .slice u.a.A u.x.l.length u.a.c, .slice u.a.D u.x.m.length u.a.d, .bool u.y.p, .slice u.b.A u.y.l.length u.b.c, .slice u.b.D u.y.m.length u.b.d, .bool v.x.p, .slice v.a.A v.x.l.length v.a.c, .slice v.a.D v.x.m.length v.a.d, .bool v.y.p, .slice v.b.A v.y.l.length v.b.c, .slice v.b.D v.y.m.length v.b.d, .bool s.x.p, .slice s.a.A s.x.l.length s.a.c, .slice s.a.D s.x.m.length s.a.d, .bool s.y.p, .slice s.b.A s.y.l.length s.b.c, .slice s.b.D s.y.m.length s.b.d] rfl tri_agg (run_size tri_size) hldu ?_)
  clear hldu
  generalize (w.alloc (.cells #[.bool p.x.p, .slice p.a.A p.x.l.length p.a.c, .slice p.a.D p.x.m.length p.a.d, .bool p.y.p, .slice p.b.A p.y.l.length p.b.c, .slice p.b.D p.y.m.length p.b.d, .bool q.x.p, .slice q.a.A q.x.l.length q.a.c, .slice q.a.D q.x.m.length q.a.d, .bool q.y.p, .slice q.b.A q.y.l.length q.b.c, .slice q.b.D q.y.m.length q.b.d, .bool r.x.p, .slice r.a.A r.x.l.length r.a.c, .slice r.a.D r.x.m.length r.a.d, .bool r.y.p, .slice r.b.A r.y.l.length r.b.c, .slice r.b.D r.y.m.length r.b.d] 53)).alloc (.cells #[.bool u.x.p, .slice u.a.A u.x.l.length u.a.c, .slice u.a.D u.x.m.length u.a.d, .bool u.y.p, .slice u.b.A u.y.l.length u.b.c, .slice u.b.D u.y.m.length u.b.d, .bool v.x.p, .slice v.a.A v.x.l.length v.a.c, .slice v.a.D v.x.m.length v.a.d, .bool v.y.p, .slice v.b.A v.y.l.length v.b.c, .slice v.b.D v.y.m.length v.b.d, .bool s.x.p, .slice s.a.A s.x.l.length s.a.c, .slice s.a.D s.x.m.length s.a.d, .bool s.y.p, .slice s.b.A s.y.l.length s.b.c, .slice s.b.D s.y.m.length s.b.d] 53) = W1 at P_t P_u kb ⊢
  go_loopw [10] (fun k w' => ∃ j : Nat, j ≤ 3 ∧ k = .int .i64 (j : Int) ∧ (0 < j → g_u ≤ 0) ∧ (1 < j → g_v ≤ 0) ∧ (2 < j → g_s ≤ 0) ∧ Below W1.heap.size W1 w') (fun k _ => 3 - (intOf k).toNat)
  case atStart => exact ⟨0, by omega, rfl, (fun h => by omega), (fun h => by omega), (fun h => by omega), Below.refl _ _⟩
  case round =>
    obtain ⟨j, hj, rfl, n0, n1, n2, hb⟩ := hrel
    have P_r := rblk_below P_t hb
    have kr := kb.trans (hb.mono kb.size)
    have hsz := rblk_lt P_r
    have HB := Lib.hid hb
    clear hb P_t P_u kb
    have hjc : j = 0 ∨ j = 1 ∨ j = 2 ∨ j = 3 := by omega
    rcases hjc with rfl | rfl | rfl | rfl
    · have N0 := Lib.hid (And.intro n0 (And.intro n1 n2))
      clear n0 n1 n2
      have P_n := heap_alloc_new wr (.cells z6 31)
      have P2 := rowV_set P_n #[.bool u.x.p, .slice u.a.A u.x.l.length u.a.c, .slice u.a.D u.x.m.length u.a.d, .bool u.y.p, .slice u.b.A u.y.l.length u.b.c, .slice u.b.D u.y.m.length u.b.d]
      have P_q := rowV_other (rblk_below P_r (ba1 wr (.cells z6 31))) (show wr.heap.size ≠ w.heap.size by omega) #[.bool u.x.p, .slice u.a.A u.x.l.length u.a.c, .slice u.a.D u.x.m.length u.a.d, .bool u.y.p, .slice u.b.A u.y.l.length u.b.c, .slice u.b.D u.y.m.length u.b.d]
      have hld := cells_row P_q
      have kz := below_setRow (kr.alloc kr.size (.cells z6 31)) (show w.heap.size ≤ wr.heap.size by omega) #[.bool u.x.p, .slice u.a.A u.x.l.length u.a.c, .slice u.a.D u.x.m.length u.a.d, .bool u.y.p, .slice u.b.A u.y.l.length u.b.c, .slice u.b.D u.y.m.length u.b.d]
      have t0 := rblk_cell P2 0
      have t1 := rblk_cell P2 1
      have t2 := rblk_cell P2 2
      have t3 := rblk_cell P2 3
      have t4 := rblk_cell P2 4
      have t5 := rblk_cell P2 5
      go_wp2_with (first | refine wpList_store_row rfl 31 (.tmp 8) (.tmp 12) rfl (wr.heap.size) #[.bool u.x.p, .slice u.a.A u.x.l.length u.a.c, .slice u.a.D u.x.m.length u.a.d, .bool u.y.p, .slice u.b.A u.y.l.length u.b.c, .slice u.b.D u.y.m.length u.b.d] rfl rfl 31 _ P_n pt_size rfl (by simp [Value.oneCell']) ?_ | refine wpList_load_at rfl 53 (.tmp 3) rfl (w.heap.size) 0 #[.bool p.x.p, .slice p.a.A p.x.l.length p.a.c, .slice p.a.D p.x.m.length p.a.d, .bool p.y.p, .slice p.b.A p.y.l.length p.b.c, .slice p.b.D p.y.m.length p.b.d, .bool q.x.p, .slice q.a.A q.x.l.length q.a.c, .slice q.a.D q.x.m.length q.a.d, .bool q.y.p, .slice q.b.A q.y.l.length q.b.c, .slice q.b.D q.y.m.length q.b.d, .bool r.x.p, .slice r.a.A r.x.l.length r.a.c, .slice r.a.D r.x.m.length r.a.d, .bool r.y.p, .slice r.b.A r.y.l.length r.b.c, .slice r.b.D r.y.m.length r.b.d] rfl tri_agg (run_size tri_size) hld ?_ | simp only [run_index_0])
      clear hld t0 t1 t2 t3 t4 t5 P_n
      have z2 := (HB.out.alloc HB.out.size (.cells z6 31))
      have z3 := below_setRow z2 (show W1.heap.size ≤ wr.heap.size from HB.out.size) #[.bool u.x.p, .slice u.a.A u.x.l.length u.a.c, .slice u.a.D u.x.m.length u.a.d, .bool u.y.p, .slice u.b.A u.y.l.length u.b.c, .slice u.b.D u.y.m.length u.b.d]
      refine (HE_u.out _ kz).mono ?_
      rintro e wE ⟨rfl, hbE⟩
      replace P_q := rblk_below P_q hbE
      replace P2 := rblk_below P2 hbE
      replace kz := bt kz hbE
      replace z3 := bt z3 hbE
      clear hbE z2
      cases e_u with
      | true =>
        have hg : ¬ 0 < g_u := by have hq := HN_u.out rfl; omega
        go_wp2
        go_roundw
        case rel => exact ⟨1, by omega, by go_num, (fun _ => by omega), (fun h => by omega), (fun h => by omega), z3⟩
        case measure => simp [intOf]
      | false =>
      have hld := cells_row P_q
      have t0 := rblk_cell P2 0
      have t1 := rblk_cell P2 1
      have t2 := rblk_cell P2 2
      have t3 := rblk_cell P2 3
      have t4 := rblk_cell P2 4
      have t5 := rblk_cell P2 5
      go_wp2_with (refine wpList_load_want (by rfl) 53 (.tmp 3) rfl (w.heap.size) 0 #[.bool p.x.p, .slice p.a.A p.x.l.length p.a.c, .slice p.a.D p.x.m.length p.a.d, .bool p.y.p, .slice p.b.A p.y.l.length p.b.c, .slice p.b.D p.y.m.length p.b.d, .bool q.x.p, .slice q.a.A q.x.l.length q.a.c, .slice q.a.D q.x.m.length q.a.d, .bool q.y.p, .slice q.b.A q.y.l.length q.b.c, .slice q.b.D q.y.m.length q.b.d, .bool r.x.p, .slice r.a.A r.x.l.length r.a.c, .slice r.a.D r.x.m.length r.a.d, .bool r.y.p, .slice r.b.A r.y.l.length r.b.c, .slice r.b.D r.y.m.length r.b.d] rfl tri_agg (run_size tri_size) hld ?_)
      clear hld t0 t1 t2 t3 t4 t5 P2 P_q
      refine (HI_u.out _ kz).mono ?_
      rintro e w2 ⟨a1, rfl, _, _, o1, _, hb2⟩
      have k2 := bt kz hb2
      replace z3 := bt z3 hb2
      clear kz hb2
      go_wp2_with fail
      refine (HS_u.out a1 _ o1.rds).mono ?_
      rintro e w3 ⟨rfl, hb3⟩
      have k3 := bt k2 hb3
      have z4 := bt z3 hb3
      clear k2 hb3 o1 z3
      by_cases hg : 0 < g_u
      · go_wp2
        go_ret
        exact ⟨by simp [hg], k3⟩
      · go_wp2
        go_roundw
        case rel => exact ⟨1, by omega, by go_num, (fun _ => by omega), (fun h => by omega), (fun h => by omega), z4⟩
        case measure => simp [intOf]
    · have N0 := Lib.hid (And.intro n0 (And.intro n1 n2))
      clear n0 n1 n2
      have P_n := heap_alloc_new wr (.cells z6 31)
      have P2 := rowV_set P_n #[.bool v.x.p, .slice v.a.A v.x.l.length v.a.c, .slice v.a.D v.x.m.length v.a.d, .bool v.y.p, .slice v.b.A v.y.l.length v.b.c, .slice v.b.D v.y.m.length v.b.d]
      have P_q := rowV_other (rblk_below P_r (ba1 wr (.cells z6 31))) (show wr.heap.size ≠ w.heap.size by omega) #[.bool v.x.p, .slice v.a.A v.x.l.length v.a.c, .slice v.a.D v.x.m.length v.a.d, .bool v.y.p, .slice v.b.A v.y.l.length v.b.c, .slice v.b.D v.y.m.length v.b.d]
      have hld := cells_row P_q
      have kz := below_setRow (kr.alloc kr.size (.cells z6 31)) (show w.heap.size ≤ wr.heap.size by omega) #[.bool v.x.p, .slice v.a.A v.x.l.length v.a.c, .slice v.a.D v.x.m.length v.a.d, .bool v.y.p, .slice v.b.A v.y.l.length v.b.c, .slice v.b.D v.y.m.length v.b.d]
      have t0 := rblk_cell P2 0
      have t1 := rblk_cell P2 1
      have t2 := rblk_cell P2 2
      have t3 := rblk_cell P2 3
      have t4 := rblk_cell P2 4
      have t5 := rblk_cell P2 5
      go_wp2_with (first | refine wpList_store_row rfl 31 (.tmp 8) (.tmp 12) rfl (wr.heap.size) #[.bool v.x.p, .slice v.a.A v.x.l.length v.a.c, .slice v.a.D v.x.m.length v.a.d, .bool v.y.p, .slice v.b.A v.y.l.length v.b.c, .slice v.b.D v.y.m.length v.b.d] rfl rfl 31 _ P_n pt_size rfl (by simp [Value.oneCell']) ?_ | refine wpList_load_at rfl 53 (.tmp 3) rfl (w.heap.size) 0 #[.bool p.x.p, .slice p.a.A p.x.l.length p.a.c, .slice p.a.D p.x.m.length p.a.d, .bool p.y.p, .slice p.b.A p.y.l.length p.b.c, .slice p.b.D p.y.m.length p.b.d, .bool q.x.p, .slice q.a.A q.x.l.length q.a.c, .slice q.a.D q.x.m.length q.a.d, .bool q.y.p, .slice q.b.A q.y.l.length q.b.c, .slice q.b.D q.y.m.length q.b.d, .bool r.x.p, .slice r.a.A r.x.l.length r.a.c, .slice r.a.D r.x.m.length r.a.d, .bool r.y.p, .slice r.b.A r.y.l.length r.b.c, .slice r.b.D r.y.m.length r.b.d] rfl tri_agg (run_size tri_size) hld ?_ | simp only [run_index_1])
      clear hld t0 t1 t2 t3 t4 t5 P_n
      have z2 := (HB.out.alloc HB.out.size (.cells z6 31))
      have z3 := below_setRow z2 (show W1.heap.size ≤ wr.heap.size from HB.out.size) #[.bool v.x.p, .slice v.a.A v.x.l.length v.a.c, .slice v.a.D v.x.m.length v.a.d, .bool v.y.p, .slice v.b.A v.y.l.length v.b.c, .slice v.b.D v.y.m.length v.b.d]
      refine (HE_v.out _ kz).mono ?_
      rintro e wE ⟨rfl, hbE⟩
      replace P_q := rblk_below P_q hbE
      replace P2 := rblk_below P2 hbE
      replace kz := bt kz hbE
      replace z3 := bt z3 hbE
      clear hbE z2
      cases e_v with
      | true =>
        have hg : ¬ 0 < g_v := by have hq := HN_v.out rfl; omega
        go_wp2
        go_roundw
        case rel => exact ⟨2, by omega, by go_num, (fun _ => N0.out.1 (by omega)), (fun _ => by omega), (fun h => by omega), z3⟩
        case measure => simp [intOf]
      | false =>
      have hld := cells_row P_q
      have t0 := rblk_cell P2 0
      have t1 := rblk_cell P2 1
      have t2 := rblk_cell P2 2
      have t3 := rblk_cell P2 3
      have t4 := rblk_cell P2 4
      have t5 := rblk_cell P2 5
      go_wp2_with (refine wpList_load_want (by rfl) 53 (.tmp 3) rfl (w.heap.size) 0 #[.bool p.x.p, .slice p.a.A p.x.l.length p.a.c, .slice p.a.D p.x.m.length p.a.d, .bool p.y.p, .slice p.b.A p.y.l.length p.b.c, .slice p.b.D p.y.m.length p.b.d, .bool q.x.p, .slice q.a.A q.x.l.length q.a.c, .slice q.a.D q.x.m.length q.a.d, .bool q.y.p, .slice q.b.A q.y.l.length q.b.c, .slice q.b.D q.y.m.length q.b.d, .bool r.x.p, .slice r.a.A r.x.l.length r.a.c, .slice r.a.D r.x.m.length r.a.d, .bool r.y.p, .slice r.b.A r.y.l.length r.b.c, .slice r.b.D r.y.m.length r.b.d] rfl tri_agg (run_size tri_size) hld ?_)
      clear hld t0 t1 t2 t3 t4 t5 P2 P_q
      refine (HI_v.out _ kz).mono ?_
      rintro e w2 ⟨a1, rfl, _, _, o1, _, hb2⟩
      have k2 := bt kz hb2
      replace z3 := bt z3 hb2
      clear kz hb2
      go_wp2_with fail
      refine (HS_v.out a1 _ o1.rds).mono ?_
      rintro e w3 ⟨rfl, hb3⟩
      have k3 := bt k2 hb3
      have z4 := bt z3 hb3
      clear k2 hb3 o1 z3
      by_cases hg : 0 < g_v
      · go_wp2
        go_ret
        exact ⟨by simp [hg], k3⟩
      · go_wp2
        go_roundw
        case rel => exact ⟨2, by omega, by go_num, (fun _ => N0.out.1 (by omega)), (fun _ => by omega), (fun h => by omega), z4⟩
        case measure => simp [intOf]
    · have N0 := Lib.hid (And.intro n0 (And.intro n1 n2))
      clear n0 n1 n2
      have P_n := heap_alloc_new wr (.cells z6 31)
      have P2 := rowV_set P_n #[.bool s.x.p, .slice s.a.A s.x.l.length s.a.c, .slice s.a.D s.x.m.length s.a.d, .bool s.y.p, .slice s.b.A s.y.l.length s.b.c, .slice s.b.D s.y.m.length s.b.d]
      have P_q := rowV_other (rblk_below P_r (ba1 wr (.cells z6 31))) (show wr.heap.size ≠ w.heap.size by omega) #[.bool s.x.p, .slice s.a.A s.x.l.length s.a.c, .slice s.a.D s.x.m.length s.a.d, .bool s.y.p, .slice s.b.A s.y.l.length s.b.c, .slice s.b.D s.y.m.length s.b.d]
      have hld := cells_row P_q
      have kz := below_setRow (kr.alloc kr.size (.cells z6 31)) (show w.heap.size ≤ wr.heap.size by omega) #[.bool s.x.p, .slice s.a.A s.x.l.length s.a.c, .slice s.a.D s.x.m.length s.a.d, .bool s.y.p, .slice s.b.A s.y.l.length s.b.c, .slice s.b.D s.y.m.length s.b.d]
      have t0 := rblk_cell P2 0
      have t1 := rblk_cell P2 1
      have t2 := rblk_cell P2 2
      have t3 := rblk_cell P2 3
      have t4 := rblk_cell P2 4
      have t5 := rblk_cell P2 5
      go_wp2_with (first | refine wpList_store_row rfl 31 (.tmp 8) (.tmp 12) rfl (wr.heap.size) #[.bool s.x.p, .slice s.a.A s.x.l.length s.a.c, .slice s.a.D s.x.m.length s.a.d, .bool s.y.p, .slice s.b.A s.y.l.length s.b.c, .slice s.b.D s.y.m.length s.b.d] rfl rfl 31 _ P_n pt_size rfl (by simp [Value.oneCell']) ?_ | refine wpList_load_at rfl 53 (.tmp 3) rfl (w.heap.size) 0 #[.bool p.x.p, .slice p.a.A p.x.l.length p.a.c, .slice p.a.D p.x.m.length p.a.d, .bool p.y.p, .slice p.b.A p.y.l.length p.b.c, .slice p.b.D p.y.m.length p.b.d, .bool q.x.p, .slice q.a.A q.x.l.length q.a.c, .slice q.a.D q.x.m.length q.a.d, .bool q.y.p, .slice q.b.A q.y.l.length q.b.c, .slice q.b.D q.y.m.length q.b.d, .bool r.x.p, .slice r.a.A r.x.l.length r.a.c, .slice r.a.D r.x.m.length r.a.d, .bool r.y.p, .slice r.b.A r.y.l.length r.b.c, .slice r.b.D r.y.m.length r.b.d] rfl tri_agg (run_size tri_size) hld ?_ | simp only [run_index_2])
      clear hld t0 t1 t2 t3 t4 t5 P_n
      have z2 := (HB.out.alloc HB.out.size (.cells z6 31))
      have z3 := below_setRow z2 (show W1.heap.size ≤ wr.heap.size from HB.out.size) #[.bool s.x.p, .slice s.a.A s.x.l.length s.a.c, .slice s.a.D s.x.m.length s.a.d, .bool s.y.p, .slice s.b.A s.y.l.length s.b.c, .slice s.b.D s.y.m.length s.b.d]
      refine (HE_s.out _ kz).mono ?_
      rintro e wE ⟨rfl, hbE⟩
      replace P_q := rblk_below P_q hbE
      replace P2 := rblk_below P2 hbE
      replace kz := bt kz hbE
      replace z3 := bt z3 hbE
      clear hbE z2
      cases e_s with
      | true =>
        have hg : ¬ 0 < g_s := by have hq := HN_s.out rfl; omega
        go_wp2
        go_roundw
        case rel => exact ⟨3, by omega, by go_num, (fun _ => N0.out.1 (by omega)), (fun _ => N0.out.2.1 (by omega)), (fun _ => by omega), z3⟩
        case measure => simp [intOf]
      | false =>
      have hld := cells_row P_q
      have t0 := rblk_cell P2 0
      have t1 := rblk_cell P2 1
      have t2 := rblk_cell P2 2
      have t3 := rblk_cell P2 3
      have t4 := rblk_cell P2 4
      have t5 := rblk_cell P2 5
      go_wp2_with (refine wpList_load_want (by rfl) 53 (.tmp 3) rfl (w.heap.size) 0 #[.bool p.x.p, .slice p.a.A p.x.l.length p.a.c, .slice p.a.D p.x.m.length p.a.d, .bool p.y.p, .slice p.b.A p.y.l.length p.b.c, .slice p.b.D p.y.m.length p.b.d, .bool q.x.p, .slice q.a.A q.x.l.length q.a.c, .slice q.a.D q.x.m.length q.a.d, .bool q.y.p, .slice q.b.A q.y.l.length q.b.c, .slice q.b.D q.y.m.length q.b.d, .bool r.x.p, .slice r.a.A r.x.l.length r.a.c, .slice r.a.D r.x.m.length r.a.d, .bool r.y.p, .slice r.b.A r.y.l.length r.b.c, .slice r.b.D r.y.m.length r.b.d] rfl tri_agg (run_size tri_size) hld ?_)
      clear hld t0 t1 t2 t3 t4 t5 P2 P_q
      refine (HI_s.out _ kz).mono ?_
      rintro e w2 ⟨a1, rfl, _, _, o1, _, hb2⟩
      have k2 := bt kz hb2
      replace z3 := bt z3 hb2
      clear kz hb2
      go_wp2_with fail
      refine (HS_s.out a1 _ o1.rds).mono ?_
      rintro e w3 ⟨rfl, hb3⟩
      have k3 := bt k2 hb3
      have z4 := bt z3 hb3
      clear k2 hb3 o1 z3
      by_cases hg : 0 < g_s
      · go_wp2
        go_ret
        exact ⟨by simp [hg], k3⟩
      · go_wp2
        go_roundw
        case rel => exact ⟨3, by omega, by go_num, (fun _ => N0.out.1 (by omega)), (fun _ => N0.out.2.1 (by omega)), (fun _ => by omega), z4⟩
        case measure => simp [intOf]
    · have N0 := Lib.hid (And.intro (n0 (by omega)) (And.intro (n1 (by omega)) (n2 (by omega))))
      clear n0 n1 n2
      go_wp2
      go_ret
      exact ⟨by simp [Int.not_lt.2 N0.out.1, Int.not_lt.2 N0.out.2.1, Int.not_lt.2 N0.out.2.2], kr⟩
end Go.Proofs.YtaohiacpdljacaaGreat
