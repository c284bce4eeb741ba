/-
  The program's ShapeOf.
-/
import Derived.Test.YtdpbibnmoddblaaGreatShC
import Derived.Test.YtdpbibnmoddblaaGreatShA0
import Derived.Test.YtdpbibnmoddblaaGreatShA1
import Derived.Test.YtdpbibnmoddblaaGreatShA2
namespace Go.Proofs.YtdpbibnmoddblaaGreat
open Go.ChangeShapes Go.WideShapes Go.ChangeAt Go.RowKit
set_option linter.unusedVariables false
set_option linter.unusedSimpArgs false
set_option maxRecDepth 4000
attribute [local go_sem ↓] Go.wp_at_zero Go.wp_at_succ
set_option maxHeartbeats 4000000 in
theorem impl_shapeOf (L : List PV) (A : Option Addr) (c : Nat) (w : World) (hn : L.length ≤ 9223372036854775807) (hL : ∀ p, p ∈ L → LenP p) (hA : RdS w A (flat L)) (hR : Rds w (lrow L)) :
    Calls Tryz.prog 7 #[.slice A L.length c] w (MadeQ w.heap.size (ofO (shapeO L)) w) := by
  have HT := Lib.hid (fun W h h' => tri_any L A c W hn hL h h')
  have RR : Hid (∀ W, Below w.heap.size w W → RdS W A (flat L) ∧ Rds W (lrow L)) := Lib.hid (fun W hB => ⟨hA.below hB, hR.below hB⟩)
  have RT : Hid (∀ W, Below w.heap.size w W → TriOk W (tri1 L) (tri2 L) (tri3 L)) := Lib.hid (fun W hB => tri_ok (hR.below hB))
  unfold shapeO
  generalize hp1 : tri1 L = p at HT RT ⊢
  generalize hp2 : tri2 L = q at HT RT ⊢
  generalize hp3 : tri3 L = r at HT RT ⊢
  have e0 : aT L = aV p q r := by unfold aT; rw [hp1, hp2, hp3]
  rw [e0]
  clear e0 hp1 hp2 hp3
  have HZ := Lib.hid (fun W => show Calls Tryz.prog 10 #[.int .i64 0] W (MadeQ W.heap.size (ofO (some 0)) W) from (impl_rfi 0 W (by decide)).mono fun e w' k => MadeR.toQ (x := rfi 0) k)
  have HQ_0 : Hid (∀ W, Below w.heap.size w W → Calls Tryz.prog 21 #[.agg #[.bool p.x.p, .slice p.a.A p.x.l.length p.a.c, .slice p.a.D p.x.m.length p.a.d, .bool p.y.p, .slice p.b.A p.y.l.length p.b.c, .slice p.b.D p.y.m.length p.b.d, .bool q.x.p, .slice q.a.A q.x.l.length q.a.c, .slice q.a.D q.x.m.length q.a.d, .bool q.y.p, .slice q.b.A q.y.l.length q.b.c, .slice q.b.D q.y.m.length q.b.d, .bool r.x.p, .slice r.a.A r.x.l.length r.a.c, .slice r.a.D r.x.m.length r.a.d, .bool r.y.p, .slice r.b.A r.y.l.length r.b.c, .slice r.b.D r.y.m.length r.b.d], .int .i64 0] W (MadeQ W.heap.size (ofO (sqO p q)) W)) := Lib.hid (fun W hB => square_0 p q r W (RT.out W hB))
  have HQ_1 : Hid (∀ W, Below w.heap.size w W → Calls Tryz.prog 21 #[.agg #[.bool p.x.p, .slice p.a.A p.x.l.length p.a.c, .slice p.a.D p.x.m.length p.a.d, .bool p.y.p, .slice p.b.A p.y.l.length p.b.c, .slice p.b.D p.y.m.length p.b.d, .bool q.x.p, .slice q.a.A q.x.l.length q.a.c, .slice q.a.D q.x.m.length q.a.d, .bool q.y.p, .slice q.b.A q.y.l.length q.b.c, .slice q.b.D q.y.m.length q.b.d, .bool r.x.p, .slice r.a.A r.x.l.length r.a.c, .slice r.a.D r.x.m.length r.a.d, .bool r.y.p, .slice r.b.A r.y.l.length r.b.c, .slice r.b.D r.y.m.length r.b.d], .int .i64 1] W (MadeQ W.heap.size (ofO (sqO q r)) W)) := Lib.hid (fun W hB => square_1 p q r W (RT.out W hB))
  have HQ_2 : Hid (∀ W, Below w.heap.size w W → Calls Tryz.prog 21 #[.agg #[.bool p.x.p, .slice p.a.A p.x.l.length p.a.c, .slice p.a.D p.x.m.length p.a.d, .bool p.y.p, .slice p.b.A p.y.l.length p.b.c, .slice p.b.D p.y.m.length p.b.d, .bool q.x.p, .slice q.a.A q.x.l.length q.a.c, .slice q.a.D q.x.m.length q.a.d, .bool q.y.p, .slice q.b.A q.y.l.length q.b.c, .slice q.b.D q.y.m.length q.b.d, .bool r.x.p, .slice r.a.A r.x.l.length r.a.c, .slice r.a.D r.x.m.length r.a.d, .bool r.y.p, .slice r.b.A r.y.l.length r.b.c, .slice r.b.D r.y.m.length r.b.d], .int .i64 2] W (MadeQ W.heap.size (ofO (sqO r p)) W)) := Lib.hid (fun W hB => square_2 p q r W (RT.out W hB))
  have f1 : FitO (long1 p q) := maxO_fit fit_zero (sqO_fit _ _)
  have f2 : FitO (long2 p q r) := maxO_fit f1 (sqO_fit _ _)
  have f3 : FitO (long3 p q r) := maxO_fit f2 (sqO_fit _ _)
  have HM_0 : Hid (∀ (a c : Ad) W, Rds W (rows (ofO (some 0)) a) → Rds W (rows (ofO (sqO p q)) c) → Calls Tryz.prog 20 #[.agg #[.bool (ofO (some 0)).p, .slice a.A (ofO (some 0)).l.length a.c, .slice a.D (ofO (some 0)).m.length a.d], .agg #[.bool (ofO (sqO p q)).p, .slice c.A (ofO (sqO p q)).l.length c.c, .slice c.D (ofO (sqO p q)).m.length c.d]] W (MadeQ W.heap.size (ofO (long1 p q)) W)) := Lib.hid (fun a c W h h' => max_o _ _ a c W fit_zero (sqO_fit _ _) h h')
  have HM_1 : Hid (∀ (a c : Ad) W, Rds W (rows (ofO (long1 p q)) a) → Rds W (rows (ofO (sqO q r)) c) → Calls Tryz.prog 20 #[.agg #[.bool (ofO (long1 p q)).p, .slice a.A (ofO (long1 p q)).l.length a.c, .slice a.D (ofO (long1 p q)).m.length a.d], .agg #[.bool (ofO (sqO q r)).p, .slice c.A (ofO (sqO q r)).l.length c.c, .slice c.D (ofO (sqO q r)).m.length c.d]] W (MadeQ W.heap.size (ofO (long2 p q r)) W)) := Lib.hid (fun a c W h h' => max_o _ _ a c W f1 (sqO_fit _ _) h h')
  have HM_2 : Hid (∀ (a c : Ad) W, Rds W (rows (ofO (long2 p q r)) a) → Rds W (rows (ofO (sqO r p)) c) → Calls Tryz.prog 20 #[.agg #[.bool (ofO (long2 p q r)).p, .slice a.A (ofO (long2 p q r)).l.length a.c, .slice a.D (ofO (long2 p q r)).m.length a.d], .agg #[.bool (ofO (sqO r p)).p, .slice c.A (ofO (sqO r p)).l.length c.c, .slice c.D (ofO (sqO r p)).m.length c.d]] W (MadeQ W.heap.size (ofO (long3 p q r)) W)) := Lib.hid (fun a c W h h' => max_o _ _ a c W f2 (sqO_fit _ _) h h')
  have HA := Lib.hid (fun W hB => tarea p q r W (RT.out W hB))
  have HO := Lib.hid (fun a c W h h' => over_r (aV p q r) (long3 p q r) a c W (aV_fit _ _ _) f3 h h')
  generalize ofO (binQ quoQ (aV p q r) (long3 p q r)) = V at HO ⊢
  generalize ofO (aV p q r) = U at HA HO
  generalize ofO (sqO p q) = S0 at HQ_0 HM_0
  generalize ofO (sqO q r) = S1 at HQ_1 HM_1
  generalize ofO (sqO r p) = S2 at HQ_2 HM_2
  generalize ofO (some (0 : Rat)) = Z0 at HZ HM_0
  generalize ofO (long1 p q) = L1 at HM_0 HM_1
  generalize ofO (long2 p q r) = L2 at HM_1 HM_2
  generalize ofO (long3 p q r) = L3 at HM_2 HO
  generalize L.length = n at HT ⊢
  clear f1 f2 f3 hA hR hL hn
  unfold MadeQ at HZ HQ_0 HQ_1 HQ_2 HM_0 HM_1 HM_2 HA HO
  have P_o := heap_alloc_new w (.cells #[.bool false, .slice none 0 0, .slice none 0 0] 29)
  have kb := ba1 w (.cells #[.bool false, .slice none 0 0, .slice none 0 0] 29)
  have hso : w.heap.size < (w.alloc (.cells #[.bool false, .slice none 0 0, .slice none 0 0] 29)).heap.size := rblk_lt P_o
  go_enter Tryz.func7, Tryz.ntmps7
  go_wp2_with fail
  generalize w.alloc (.cells #[.bool false, .slice none 0 0, .slice none 0 0] 29) = W1 at P_o kb hso ⊢
  refine (HT.out _ (RR.out _ kb).1 (RR.out _ kb).2).mono ?_
  rintro e W2 ⟨rfl, hb⟩
  replace P_o := rblk_below P_o hb
  replace kb := bt kb hb
  clear hb hso
  have hso := rblk_lt P_o
  have P_n := heap_alloc_new W2 (.cells #[.bool false, .slice none 0 0, .slice none 0 0, .bool false, .slice none 0 0, .slice none 0 0, .bool false, .slice none 0 0, .slice none 0 0, .bool false, .slice none 0 0, .slice none 0 0, .bool false, .slice none 0 0, .slice none 0 0, .bool false, .slice none 0 0, .slice none 0 0] 46)
  have P_t := rowV_set P_n #[.bool p.x.p, .slice p.a.A p.x.l.length p.a.c, .slice p.a.D p.x.m.length p.a.d, .bool p.y.p, .slice p.b.A p.y.l.length p.b.c, .slice p.b.D p.y.m.length p.b.d, .bool q.x.p, .slice q.a.A q.x.l.length q.a.c, .slice q.a.D q.x.m.length q.a.d, .bool q.y.p, .slice q.b.A q.y.l.length q.b.c, .slice q.b.D q.y.m.length q.b.d, .bool r.x.p, .slice r.a.A r.x.l.length r.a.c, .slice r.a.D r.x.m.length r.a.d, .bool r.y.p, .slice r.b.A r.y.l.length r.b.c, .slice r.b.D r.y.m.length r.b.d]
  have P_o2 := rowV_other (rblk_below P_o (ba1 W2 (.cells #[.bool false, .slice none 0 0, .slice none 0 0, .bool false, .slice none 0 0, .slice none 0 0, .bool false, .slice none 0 0, .slice none 0 0, .bool false, .slice none 0 0, .slice none 0 0, .bool false, .slice none 0 0, .slice none 0 0, .bool false, .slice none 0 0, .slice none 0 0] 46))) (show W2.heap.size ≠ w.heap.size by omega) #[.bool p.x.p, .slice p.a.A p.x.l.length p.a.c, .slice p.a.D p.x.m.length p.a.d, .bool p.y.p, .slice p.b.A p.y.l.length p.b.c, .slice p.b.D p.y.m.length p.b.d, .bool q.x.p, .slice q.a.A q.x.l.length q.a.c, .slice q.a.D q.x.m.length q.a.d, .bool q.y.p, .slice q.b.A q.y.l.length q.b.c, .slice q.b.D q.y.m.length q.b.d, .bool r.x.p, .slice r.a.A r.x.l.length r.a.c, .slice r.a.D r.x.m.length r.a.d, .bool r.y.p, .slice r.b.A r.y.l.length r.b.c, .slice r.b.D r.y.m.length r.b.d]
  have k2 := below_setRow (kb.alloc kb.size (.cells #[.bool false, .slice none 0 0, .slice none 0 0, .bool false, .slice none 0 0, .slice none 0 0, .bool false, .slice none 0 0, .slice none 0 0, .bool false, .slice none 0 0, .slice none 0 0, .bool false, .slice none 0 0, .slice none 0 0, .bool false, .slice none 0 0, .slice none 0 0] 46)) (show w.heap.size ≤ W2.heap.size from kb.size) #[.bool p.x.p, .slice p.a.A p.x.l.length p.a.c, .slice p.a.D p.x.m.length p.a.d, .bool p.y.p, .slice p.b.A p.y.l.length p.b.c, .slice p.b.D p.y.m.length p.b.d, .bool q.x.p, .slice q.a.A q.x.l.length q.a.c, .slice q.a.D q.x.m.length q.a.d, .bool q.y.p, .slice q.b.A q.y.l.length q.b.c, .slice q.b.D q.y.m.length q.b.d, .bool r.x.p, .slice r.a.A r.x.l.length r.a.c, .slice r.a.D r.x.m.length r.a.d, .bool r.y.p, .slice r.b.A r.y.l.length r.b.c, .slice r.b.D r.y.m.length r.b.d]
  go_wp2_with (refine wpList_store_row rfl 46 (.tmp 3) (.tmp 7) rfl (W2.heap.size) #[.bool p.x.p, .slice p.a.A p.x.l.length p.a.c, .slice p.a.D p.x.m.length p.a.d, .bool p.y.p, .slice p.b.A p.y.l.length p.b.c, .slice p.b.D p.y.m.length p.b.d, .bool q.x.p, .slice q.a.A q.x.l.length q.a.c, .slice q.a.D q.x.m.length q.a.d, .bool q.y.p, .slice q.b.A q.y.l.length q.b.c, .slice q.b.D q.y.m.length q.b.d, .bool r.x.p, .slice r.a.A r.x.l.length r.a.c, .slice r.a.D r.x.m.length r.a.d, .bool r.y.p, .slice r.b.A r.y.l.length r.b.c, .slice r.b.D r.y.m.length r.b.d] rfl rfl 46 _ P_n tri_size rfl (by simp [Value.oneCell']) ?_)
  clear P_n P_o kb
  have hst := rblk_lt P_t
  generalize (W2.alloc (.cells #[.bool false, .slice none 0 0, .slice none 0 0, .bool false, .slice none 0 0, .slice none 0 0, .bool false, .slice none 0 0, .slice none 0 0, .bool false, .slice none 0 0, .slice none 0 0, .bool false, .slice none 0 0, .slice none 0 0, .bool false, .slice none 0 0, .slice none 0 0] 46)).setRow W2.heap.size #[.bool p.x.p, .slice p.a.A p.x.l.length p.a.c, .slice p.a.D p.x.m.length p.a.d, .bool p.y.p, .slice p.b.A p.y.l.length p.b.c, .slice p.b.D p.y.m.length p.b.d, .bool q.x.p, .slice q.a.A q.x.l.length q.a.c, .slice q.a.D q.x.m.length q.a.d, .bool q.y.p, .slice q.b.A q.y.l.length q.b.c, .slice q.b.D q.y.m.length q.b.d, .bool r.x.p, .slice r.a.A r.x.l.length r.a.c, .slice r.a.D r.x.m.length r.a.d, .bool r.y.p, .slice r.b.A r.y.l.length r.b.c, .slice r.b.D r.y.m.length r.b.d] = W3 at P_t P_o2 k2 hst ⊢
  generalize W2.heap.size = gt at P_t hso hst ⊢
  refine (HZ.out _).mono ?_
  rintro e W4 ⟨a0, rfl, hx0, hy0, o0, hap0, hb⟩
  replace P_t := rblk_below P_t hb
  replace P_o2 := rblk_below P_o2 hb
  have hs4 := hb.size
  replace k2 := bt k2 hb
  clear hb hap0 hx0 hy0
  have P_l := heap_alloc_new W4 (.cells #[.bool Z0.p, .slice a0.A Z0.l.length a0.c, .slice a0.D Z0.m.length a0.d] 29)
  have hb := ba1 W4 (.cells #[.bool Z0.p, .slice a0.A Z0.l.length a0.c, .slice a0.D Z0.m.length a0.d] 29)
  replace P_t := rblk_below P_t hb
  replace P_o2 := rblk_below P_o2 hb
  replace o0 := (o0.below hb).rds
  replace k2 := bt k2 hb
  clear hb
  have hsl := rblk_lt P_l
  go_wp2_with fail
  generalize W4.alloc (.cells #[.bool Z0.p, .slice a0.A Z0.l.length a0.c, .slice a0.D Z0.m.length a0.d] 29) = W5 at P_l P_t P_o2 o0 k2 hsl ⊢
  have hgl : gt < W4.heap.size := by omega
  generalize W4.heap.size = gl at P_l hgl hsl ⊢
  clear hs4 hst
  have HG := Lib.hid (And.intro hso hgl)
  clear hso hgl
  go_loopw [9] (fun k w' => ∃ (j : Nat) (Lx : R3) (a : Ad), j ≤ 3 ∧ k = .int .i64 (j : Int) ∧ (j = 0 → Lx = Z0) ∧ (j = 1 → Lx = L1) ∧ (j = 2 → Lx = L2) ∧ (j = 3 → Lx = L3) ∧ w'.heap[gl]? = some (.cells #[.bool Lx.p, .slice a.A Lx.l.length a.c, .slice a.D Lx.m.length a.d] 29 (0, 0)) ∧ Rds w' (rows Lx a) ∧ w'.heap[gt]? = some (.cells #[.bool p.x.p, .slice p.a.A p.x.l.length p.a.c, .slice p.a.D p.x.m.length p.a.d, .bool p.y.p, .slice p.b.A p.y.l.length p.b.c, .slice p.b.D p.y.m.length p.b.d, .bool q.x.p, .slice q.a.A q.x.l.length q.a.c, .slice q.a.D q.x.m.length q.a.d, .bool q.y.p, .slice q.b.A q.y.l.length q.b.c, .slice q.b.D q.y.m.length q.b.d, .bool r.x.p, .slice r.a.A r.x.l.length r.a.c, .slice r.a.D r.x.m.length r.a.d, .bool r.y.p, .slice r.b.A r.y.l.length r.b.c, .slice r.b.D r.y.m.length r.b.d] 46 (0, 0)) ∧ w'.heap[w.heap.size]? = some (.cells #[.bool false, .slice none 0 0, .slice none 0 0] 29) ∧ Below w.heap.size w w') (fun k _ => 3 - (intOf k).toNat)
  case atStart => exact ⟨0, Z0, a0, by omega, rfl, (fun _ => rfl), (fun h => by omega), (fun h => by omega), (fun h => by omega), P_l, o0, P_t, P_o2, k2⟩
  case round =>
    clear P_l o0 P_t P_o2 k2 hsl
    obtain ⟨j, Lx, ax, hj, rfl, n0, n1, n2, n3, P_l, ol, P_t, P_o, kb⟩ := hrel
    have hjc : j = 0 ∨ j = 1 ∨ j = 2 ∨ j = 3 := by omega
    rcases hjc with rfl | rfl | rfl | rfl
    · obtain rfl := n0 rfl
      clear n0 n1 n2 n3 hj
      have HR := Lib.hid ol
      clear ol
      obtain ⟨rr, hrr⟩ : ∃ r, r = gl := ⟨_, rfl⟩
      rw [← hrr] at P_l
      have hrg : gt < rr := by rw [hrr]; exact HG.out.2
      have hro : w.heap.size < rr := Nat.lt_trans HG.out.1 hrg
      subst hrr
      go_wp2_with fail
      have SB : Hid (∀ w', Keep3 wr w' rr → (w'.rangeAt gt 0 [.bool p.x.p, .slice p.a.A p.x.l.length p.a.c, .slice p.a.D p.x.m.length p.a.d, .bool p.y.p, .slice p.b.A p.y.l.length p.b.c, .slice p.b.D p.y.m.length p.b.d, .bool q.x.p, .slice q.a.A q.x.l.length q.a.c, .slice q.a.D q.x.m.length q.a.d, .bool q.y.p, .slice q.b.A q.y.l.length q.b.c, .slice q.b.D q.y.m.length q.b.d, .bool r.x.p, .slice r.a.A r.x.l.length r.a.c, .slice r.a.D r.x.m.length r.a.d, .bool r.y.p, .slice r.b.A r.y.l.length r.b.c, .slice r.b.D r.y.m.length r.b.d] ∧ Keep3 wr w' rr)) := Lib.hid (fun w' hK => ⟨range_row (hK.block P_t (by omega)), hK⟩)
      have KST := Keep3.start P_l
      have KW := Lib.hid kb
      have hlt0 := rblk_lt P_l
      clear kb
      refine wp_region_held_drew (S := fun w' => w'.rangeAt gt 0 [.bool p.x.p, .slice p.a.A p.x.l.length p.a.c, .slice p.a.D p.x.m.length p.a.d, .bool p.y.p, .slice p.b.A p.y.l.length p.b.c, .slice p.b.D p.y.m.length p.b.d, .bool q.x.p, .slice q.a.A q.x.l.length q.a.c, .slice q.a.D q.x.m.length q.a.d, .bool q.y.p, .slice q.b.A q.y.l.length q.b.c, .slice q.b.D q.y.m.length q.b.d, .bool r.x.p, .slice r.a.A r.x.l.length r.a.c, .slice r.a.D r.x.m.length r.a.d, .bool r.y.p, .slice r.b.A r.y.l.length r.b.c, .slice r.b.D r.y.m.length r.b.d] ∧ Keep3 wr w' rr) (by kernel_rfl) (SB.out _ KST.drew) (fun hHeld => ?_)
      have hCur : Keep3 wr wr.drew rr := KST.drew
      have P_c : wr.drew.heap[rr]? = some (.cells #[.bool Lx.p, .slice ax.A Lx.l.length ax.c, .slice ax.D Lx.m.length ax.d] 29 (0, 0)) := P_l
      have HRw : Rds wr.drew (rows Lx ax) := HR.out.below ((Below.refl _ _).drew)
      refine tk (i := 1) (v := .agg #[.bool p.x.p, .slice p.a.A p.x.l.length p.a.c, .slice p.a.D p.x.m.length p.a.d, .bool p.y.p, .slice p.b.A p.y.l.length p.b.c, .slice p.b.D p.y.m.length p.b.d, .bool q.x.p, .slice q.a.A q.x.l.length q.a.c, .slice q.a.D q.x.m.length q.a.d, .bool q.y.p, .slice q.b.A q.y.l.length q.b.c, .slice q.b.D q.y.m.length q.b.d, .bool r.x.p, .slice r.a.A r.x.l.length r.a.c, .slice r.a.D r.x.m.length r.a.d, .bool r.y.p, .slice r.b.A r.y.l.length r.b.c, .slice r.b.D r.y.m.length r.b.d]) rfl (by kernel_rfl) (fun _ _ _ h => h) (yieldsIf_load_mid (by rfl) 46 (.tmp 3) rfl gt 0 rfl [.bool p.x.p, .slice p.a.A p.x.l.length p.a.c, .slice p.a.D p.x.m.length p.a.d, .bool p.y.p, .slice p.b.A p.y.l.length p.b.c, .slice p.b.D p.y.m.length p.b.d, .bool q.x.p, .slice q.a.A q.x.l.length q.a.c, .slice q.a.D q.x.m.length q.a.d, .bool q.y.p, .slice q.b.A q.y.l.length q.b.c, .slice q.b.D q.y.m.length q.b.d, .bool r.x.p, .slice r.a.A r.x.l.length r.a.c, .slice r.a.D r.x.m.length r.a.d, .bool r.y.p, .slice r.b.A r.y.l.length r.b.c, .slice r.b.D r.y.m.length r.b.d] _ (fun w hSw => hSw.1) Tryz.underlying46 rfl tri_size) hHeld ?_
      try simp only [ps]
      refine tk (i := 2) (v := ?vz0) rfl (by kernel_rfl) (fun _ _ _ h => h) (Or.inl ⟨by rfl, ?hz0⟩) hHeld ?_
      case hz0 => (intro w hSw; (try dsimp only at hSw); go_simp; (try with_reducible rfl))
      try simp only [ps]
      refine wpAnyH_ready (rs := [0, 3]) (by kernel_rfl) (by simp) ?_
      refine rc1 rfl (fun K hK => ?_) (rc1 rfl (fun K hK => ?_) AllReadyH.nil)
      · skip
        have t0 := rblk_cell P_c 0
        have t1 := rblk_cell P_c 1
        have t2 := rblk_cell P_c 2
        go_simp
        clear t0 t1 t2
        refine hK.out _ _ (SB.out _ hCur) (fun hHeld' => ?_)
        clear hK K hHeld
        have hHeld := hHeld'
        clear hHeld'
        try simp only [ps]
        refine rd1 (i := 3) (by kernel_rfl) rfl (fun K hK => ?_)
        go_simp
        (go_at_call 21; ((with_reducible refine (HQ_0.out _ (hCur.base KW.out (by omega))).mono ?_); rintro e Wa1 ⟨a1, rfl, hc1, hc2, o1, hap1, hb⟩))
        have hzq := hb.size
        refine hK.out _ _ (SB.out _ (hCur.below hb)) (fun hHeld' => ?_)
        clear hK K hHeld
        have hHeld := hHeld'
        clear hHeld'
        replace hCur := hCur.below hb
        replace P_c := rblk_below P_c hb
        replace HRw := HRw.below hb
        clear hb
        try simp only [ps]
        refine rd1 (i := 4) (by kernel_rfl) rfl (fun K hK => ?_)
        go_simp
        (go_at_call 20; ((with_reducible refine (HM_0.out _ _ _ HRw o1.rds).mono ?_); rintro e Wa2 ⟨a3, rfl, hc5, hc6, o3, hap3, hb⟩))
        have hz3 := hCur.lt
        refine hK.out _ _ (SB.out _ (hCur.below hb)) (fun hHeld' => ?_)
        clear hK K hHeld
        have hHeld := hHeld'
        clear hHeld'
        replace hCur := hCur.below hb
        replace P_c := rblk_below P_c hb
        clear hb
        try simp only [ps]
        refine rd1 (i := 5) (by kernel_rfl) rfl (fun K hK => ?_)
        have t0 := rblk_cell P_c 0
        have q0 := rblk_free P_c 0
        have t1 := rblk_cell P_c 1
        have q1 := rblk_free P_c 1
        have t2 := rblk_cell P_c 2
        have q2 := rblk_free P_c 2
        go_simp
        clear t0 t1 t2 q0 q1 q2
        refine hK.out _ _ (SB.out _ (hCur.put3 (.bool L1.p) (.slice a3.A L1.l.length a3.c) (.slice a3.D L1.m.length a3.d))) (fun hHeld' => ?_)
        clear hK K hHeld
        have hHeld := hHeld'
        clear hHeld'
        replace hCur := hCur.put3 (.bool L1.p) (.slice a3.A L1.l.length a3.c) (.slice a3.D L1.m.length a3.d)
        have P_e := rblk_set (rblk_set (rblk_set P_c 0 (.bool L1.p)) 1 (.slice a3.A L1.l.length a3.c)) 2 (.slice a3.D L1.m.length a3.d)
        replace o3 := (owns_put3 (r := rr) o3 (.inl hz3) (.bool L1.p) (.slice a3.A L1.l.length a3.c) (.slice a3.D L1.m.length a3.d)).rds
        try simp only [ps]
        refine wpAnyH_done (by kernel_rfl) ?_ _
        have P_t2 := hCur.block P_t (show rr ≠ gt by omega)
        have P_o2 := hCur.block P_o (show rr ≠ w.heap.size by omega)
        have kz := hCur.base KW.out (show w.heap.size ≤ rr by omega)
        have HF := Lib.hid (And.intro P_e (And.intro o3 (And.intro P_t2 (And.intro P_o2 kz))))
        clear P_e o3 P_t2 P_o2 kz hHeld hCur P_c
        go_wp2
        go_roundw
        case rel => exact ⟨1, L1, a3, by omega, by go_num, (fun h => by omega), (fun _ => rfl), (fun h => by omega), (fun h => by omega), HF.out.1, HF.out.2.1, HF.out.2.2.1, HF.out.2.2.2.1, HF.out.2.2.2.2⟩
        case measure => simp [intOf]
      · skip
        go_simp
        (go_at_call 21; ((with_reducible refine (HQ_0.out _ (hCur.base KW.out (by omega))).mono ?_); rintro e Wb1 ⟨a1, rfl, hc1, hc2, o1, hap1, hb⟩))
        have hzq := hb.size
        refine hK.out _ _ (SB.out _ (hCur.below hb)) (fun hHeld' => ?_)
        clear hK K hHeld
        have hHeld := hHeld'
        clear hHeld'
        replace hCur := hCur.below hb
        replace P_c := rblk_below P_c hb
        replace HRw := HRw.below hb
        clear hb
        try simp only [ps]
        refine rd1 (i := 0) (by kernel_rfl) rfl (fun K hK => ?_)
        have t0 := rblk_cell P_c 0
        have t1 := rblk_cell P_c 1
        have t2 := rblk_cell P_c 2
        go_simp
        clear t0 t1 t2
        refine hK.out _ _ (SB.out _ hCur) (fun hHeld' => ?_)
        clear hK K hHeld
        have hHeld := hHeld'
        clear hHeld'
        try simp only [ps]
        refine rd1 (i := 4) (by kernel_rfl) rfl (fun K hK => ?_)
        go_simp
        (go_at_call 20; ((with_reducible refine (HM_0.out _ _ _ HRw o1.rds).mono ?_); rintro e Wb2 ⟨a3, rfl, hc5, hc6, o3, hap3, hb⟩))
        have hz3 := hCur.lt
        refine hK.out _ _ (SB.out _ (hCur.below hb)) (fun hHeld' => ?_)
        clear hK K hHeld
        have hHeld := hHeld'
        clear hHeld'
        replace hCur := hCur.below hb
        replace P_c := rblk_below P_c hb
        clear hb
        try simp only [ps]
        refine rd1 (i := 5) (by kernel_rfl) rfl (fun K hK => ?_)
        have t0 := rblk_cell P_c 0
        have q0 := rblk_free P_c 0
        have t1 := rblk_cell P_c 1
        have q1 := rblk_free P_c 1
        have t2 := rblk_cell P_c 2
        have q2 := rblk_free P_c 2
        go_simp
        clear t0 t1 t2 q0 q1 q2
        refine hK.out _ _ (SB.out _ (hCur.put3 (.bool L1.p) (.slice a3.A L1.l.length a3.c) (.slice a3.D L1.m.length a3.d))) (fun hHeld' => ?_)
        clear hK K hHeld
        have hHeld := hHeld'
        clear hHeld'
        replace hCur := hCur.put3 (.bool L1.p) (.slice a3.A L1.l.length a3.c) (.slice a3.D L1.m.length a3.d)
        have P_e := rblk_set (rblk_set (rblk_set P_c 0 (.bool L1.p)) 1 (.slice a3.A L1.l.length a3.c)) 2 (.slice a3.D L1.m.length a3.d)
        replace o3 := (owns_put3 (r := rr) o3 (.inl hz3) (.bool L1.p) (.slice a3.A L1.l.length a3.c) (.slice a3.D L1.m.length a3.d)).rds
        try simp only [ps]
        refine wpAnyH_done (by kernel_rfl) ?_ _
        have P_t2 := hCur.block P_t (show rr ≠ gt by omega)
        have P_o2 := hCur.block P_o (show rr ≠ w.heap.size by omega)
        have kz := hCur.base KW.out (show w.heap.size ≤ rr by omega)
        have HF := Lib.hid (And.intro P_e (And.intro o3 (And.intro P_t2 (And.intro P_o2 kz))))
        clear P_e o3 P_t2 P_o2 kz hHeld hCur P_c
        go_wp2
        go_roundw
        case rel => exact ⟨1, L1, a3, by omega, by go_num, (fun h => by omega), (fun _ => rfl), (fun h => by omega), (fun h => by omega), HF.out.1, HF.out.2.1, HF.out.2.2.1, HF.out.2.2.2.1, HF.out.2.2.2.2⟩
        case measure => simp [intOf]
    · obtain rfl := n1 rfl
      clear n0 n1 n2 n3 hj
      have HR := Lib.hid ol
      clear ol
      obtain ⟨rr, hrr⟩ : ∃ r, r = gl := ⟨_, rfl⟩
      rw [← hrr] at P_l
      have hrg : gt < rr := by rw [hrr]; exact HG.out.2
      have hro : w.heap.size < rr := Nat.lt_trans HG.out.1 hrg
      subst hrr
      go_wp2_with fail
      have SB : Hid (∀ w', Keep3 wr w' rr → (w'.rangeAt gt 0 [.bool p.x.p, .slice p.a.A p.x.l.length p.a.c, .slice p.a.D p.x.m.length p.a.d, .bool p.y.p, .slice p.b.A p.y.l.length p.b.c, .slice p.b.D p.y.m.length p.b.d, .bool q.x.p, .slice q.a.A q.x.l.length q.a.c, .slice q.a.D q.x.m.length q.a.d, .bool q.y.p, .slice q.b.A q.y.l.length q.b.c, .slice q.b.D q.y.m.length q.b.d, .bool r.x.p, .slice r.a.A r.x.l.length r.a.c, .slice r.a.D r.x.m.length r.a.d, .bool r.y.p, .slice r.b.A r.y.l.length r.b.c, .slice r.b.D r.y.m.length r.b.d] ∧ Keep3 wr w' rr)) := Lib.hid (fun w' hK => ⟨range_row (hK.block P_t (by omega)), hK⟩)
      have KST := Keep3.start P_l
      have KW := Lib.hid kb
      have hlt0 := rblk_lt P_l
      clear kb
      refine wp_region_held_drew (S := fun w' => w'.rangeAt gt 0 [.bool p.x.p, .slice p.a.A p.x.l.length p.a.c, .slice p.a.D p.x.m.length p.a.d, .bool p.y.p, .slice p.b.A p.y.l.length p.b.c, .slice p.b.D p.y.m.length p.b.d, .bool q.x.p, .slice q.a.A q.x.l.length q.a.c, .slice q.a.D q.x.m.length q.a.d, .bool q.y.p, .slice q.b.A q.y.l.length q.b.c, .slice q.b.D q.y.m.length q.b.d, .bool r.x.p, .slice r.a.A r.x.l.length r.a.c, .slice r.a.D r.x.m.length r.a.d, .bool r.y.p, .slice r.b.A r.y.l.length r.b.c, .slice r.b.D r.y.m.length r.b.d] ∧ Keep3 wr w' rr) (by kernel_rfl) (SB.out _ KST.drew) (fun hHeld => ?_)
      have hCur : Keep3 wr wr.drew rr := KST.drew
      have P_c : wr.drew.heap[rr]? = some (.cells #[.bool Lx.p, .slice ax.A Lx.l.length ax.c, .slice ax.D Lx.m.length ax.d] 29 (0, 0)) := P_l
      have HRw : Rds wr.drew (rows Lx ax) := HR.out.below ((Below.refl _ _).drew)
      refine tk (i := 1) (v := .agg #[.bool p.x.p, .slice p.a.A p.x.l.length p.a.c, .slice p.a.D p.x.m.length p.a.d, .bool p.y.p, .slice p.b.A p.y.l.length p.b.c, .slice p.b.D p.y.m.length p.b.d, .bool q.x.p, .slice q.a.A q.x.l.length q.a.c, .slice q.a.D q.x.m.length q.a.d, .bool q.y.p, .slice q.b.A q.y.l.length q.b.c, .slice q.b.D q.y.m.length q.b.d, .bool r.x.p, .slice r.a.A r.x.l.length r.a.c, .slice r.a.D r.x.m.length r.a.d, .bool r.y.p, .slice r.b.A r.y.l.length r.b.c, .slice r.b.D r.y.m.length r.b.d]) rfl (by kernel_rfl) (fun _ _ _ h => h) (yieldsIf_load_mid (by rfl) 46 (.tmp 3) rfl gt 0 rfl [.bool p.x.p, .slice p.a.A p.x.l.length p.a.c, .slice p.a.D p.x.m.length p.a.d, .bool p.y.p, .slice p.b.A p.y.l.length p.b.c, .slice p.b.D p.y.m.length p.b.d, .bool q.x.p, .slice q.a.A q.x.l.length q.a.c, .slice q.a.D q.x.m.length q.a.d, .bool q.y.p, .slice q.b.A q.y.l.length q.b.c, .slice q.b.D q.y.m.length q.b.d, .bool r.x.p, .slice r.a.A r.x.l.length r.a.c, .slice r.a.D r.x.m.length r.a.d, .bool r.y.p, .slice r.b.A r.y.l.length r.b.c, .slice r.b.D r.y.m.length r.b.d] _ (fun w hSw => hSw.1) Tryz.underlying46 rfl tri_size) hHeld ?_
      try simp only [ps]
      refine tk (i := 2) (v := ?vz1) rfl (by kernel_rfl) (fun _ _ _ h => h) (Or.inl ⟨by rfl, ?hz1⟩) hHeld ?_
      case hz1 => (intro w hSw; (try dsimp only at hSw); go_simp; (try with_reducible rfl))
      try simp only [ps]
      refine wpAnyH_ready (rs := [0, 3]) (by kernel_rfl) (by simp) ?_
      refine rc1 rfl (fun K hK => ?_) (rc1 rfl (fun K hK => ?_) AllReadyH.nil)
      · skip
        have t0 := rblk_cell P_c 0
        have t1 := rblk_cell P_c 1
        have t2 := rblk_cell P_c 2
        go_simp
        clear t0 t1 t2
        refine hK.out _ _ (SB.out _ hCur) (fun hHeld' => ?_)
        clear hK K hHeld
        have hHeld := hHeld'
        clear hHeld'
        try simp only [ps]
        refine rd1 (i := 3) (by kernel_rfl) rfl (fun K hK => ?_)
        go_simp
        (go_at_call 21; ((with_reducible refine (HQ_1.out _ (hCur.base KW.out (by omega))).mono ?_); rintro e Wa1 ⟨a1, rfl, hc1, hc2, o1, hap1, hb⟩))
        have hzq := hb.size
        refine hK.out _ _ (SB.out _ (hCur.below hb)) (fun hHeld' => ?_)
        clear hK K hHeld
        have hHeld := hHeld'
        clear hHeld'
        replace hCur := hCur.below hb
        replace P_c := rblk_below P_c hb
        replace HRw := HRw.below hb
        clear hb
        try simp only [ps]
        refine rd1 (i := 4) (by kernel_rfl) rfl (fun K hK => ?_)
        go_simp
        (go_at_call 20; ((with_reducible refine (HM_1.out _ _ _ HRw o1.rds).mono ?_); rintro e Wa2 ⟨a3, rfl, hc5, hc6, o3, hap3, hb⟩))
        have hz3 := hCur.lt
        refine hK.out _ _ (SB.out _ (hCur.below hb)) (fun hHeld' => ?_)
        clear hK K hHeld
        have hHeld := hHeld'
        clear hHeld'
        replace hCur := hCur.below hb
        replace P_c := rblk_below P_c hb
        clear hb
        try simp only [ps]
        refine rd1 (i := 5) (by kernel_rfl) rfl (fun K hK => ?_)
        have t0 := rblk_cell P_c 0
        have q0 := rblk_free P_c 0
        have t1 := rblk_cell P_c 1
        have q1 := rblk_free P_c 1
        have t2 := rblk_cell P_c 2
        have q2 := rblk_free P_c 2
        go_simp
        clear t0 t1 t2 q0 q1 q2
        refine hK.out _ _ (SB.out _ (hCur.put3 (.bool L2.p) (.slice a3.A L2.l.length a3.c) (.slice a3.D L2.m.length a3.d))) (fun hHeld' => ?_)
        clear hK K hHeld
        have hHeld := hHeld'
        clear hHeld'
        replace hCur := hCur.put3 (.bool L2.p) (.slice a3.A L2.l.length a3.c) (.slice a3.D L2.m.length a3.d)
        have P_e := rblk_set (rblk_set (rblk_set P_c 0 (.bool L2.p)) 1 (.slice a3.A L2.l.length a3.c)) 2 (.slice a3.D L2.m.length a3.d)
        replace o3 := (owns_put3 (r := rr) o3 (.inl hz3) (.bool L2.p) (.slice a3.A L2.l.length a3.c) (.slice a3.D L2.m.length a3.d)).rds
        try simp only [ps]
        refine wpAnyH_done (by kernel_rfl) ?_ _
        have P_t2 := hCur.block P_t (show rr ≠ gt by omega)
        have P_o2 := hCur.block P_o (show rr ≠ w.heap.size by omega)
        have kz := hCur.base KW.out (show w.heap.size ≤ rr by omega)
        have HF := Lib.hid (And.intro P_e (And.intro o3 (And.intro P_t2 (And.intro P_o2 kz))))
        clear P_e o3 P_t2 P_o2 kz hHeld hCur P_c
        go_wp2
        go_roundw
        case rel => exact ⟨2, L2, a3, by omega, by go_num, (fun h => by omega), (fun h => by omega), (fun _ => rfl), (fun h => by omega), HF.out.1, HF.out.2.1, HF.out.2.2.1, HF.out.2.2.2.1, HF.out.2.2.2.2⟩
        case measure => simp [intOf]
      · skip
        go_simp
        (go_at_call 21; ((with_reducible refine (HQ_1.out _ (hCur.base KW.out (by omega))).mono ?_); rintro e Wb1 ⟨a1, rfl, hc1, hc2, o1, hap1, hb⟩))
        have hzq := hb.size
        refine hK.out _ _ (SB.out _ (hCur.below hb)) (fun hHeld' => ?_)
        clear hK K hHeld
        have hHeld := hHeld'
        clear hHeld'
        replace hCur := hCur.below hb
        replace P_c := rblk_below P_c hb
        replace HRw := HRw.below hb
        clear hb
        try simp only [ps]
        refine rd1 (i := 0) (by kernel_rfl) rfl (fun K hK => ?_)
        have t0 := rblk_cell P_c 0
        have t1 := rblk_cell P_c 1
        have t2 := rblk_cell P_c 2
        go_simp
        clear t0 t1 t2
        refine hK.out _ _ (SB.out _ hCur) (fun hHeld' => ?_)
        clear hK K hHeld
        have hHeld := hHeld'
        clear hHeld'
        try simp only [ps]
        refine rd1 (i := 4) (by kernel_rfl) rfl (fun K hK => ?_)
        go_simp
        (go_at_call 20; ((with_reducible refine (HM_1.out _ _ _ HRw o1.rds).mono ?_); rintro e Wb2 ⟨a3, rfl, hc5, hc6, o3, hap3, hb⟩))
        have hz3 := hCur.lt
        refine hK.out _ _ (SB.out _ (hCur.below hb)) (fun hHeld' => ?_)
        clear hK K hHeld
        have hHeld := hHeld'
        clear hHeld'
        replace hCur := hCur.below hb
        replace P_c := rblk_below P_c hb
        clear hb
        try simp only [ps]
        refine rd1 (i := 5) (by kernel_rfl) rfl (fun K hK => ?_)
        have t0 := rblk_cell P_c 0
        have q0 := rblk_free P_c 0
        have t1 := rblk_cell P_c 1
        have q1 := rblk_free P_c 1
        have t2 := rblk_cell P_c 2
        have q2 := rblk_free P_c 2
        go_simp
        clear t0 t1 t2 q0 q1 q2
        refine hK.out _ _ (SB.out _ (hCur.put3 (.bool L2.p) (.slice a3.A L2.l.length a3.c) (.slice a3.D L2.m.length a3.d))) (fun hHeld' => ?_)
        clear hK K hHeld
        have hHeld := hHeld'
        clear hHeld'
        replace hCur := hCur.put3 (.bool L2.p) (.slice a3.A L2.l.length a3.c) (.slice a3.D L2.m.length a3.d)
        have P_e := rblk_set (rblk_set (rblk_set P_c 0 (.bool L2.p)) 1 (.slice a3.A L2.l.length a3.c)) 2 (.slice a3.D L2.m.length a3.d)
        replace o3 := (owns_put3 (r := rr) o3 (.inl hz3) (.bool L2.p) (.slice a3.A L2.l.length a3.c) (.slice a3.D L2.m.length a3.d)).rds
        try simp only [ps]
        refine wpAnyH_done (by kernel_rfl) ?_ _
        have P_t2 := hCur.block P_t (show rr ≠ gt by omega)
        have P_o2 := hCur.block P_o (show rr ≠ w.heap.size by omega)
        have kz := hCur.base KW.out (show w.heap.size ≤ rr by omega)
        have HF := Lib.hid (And.intro P_e (And.intro o3 (And.intro P_t2 (And.intro P_o2 kz))))
        clear P_e o3 P_t2 P_o2 kz hHeld hCur P_c
        go_wp2
        go_roundw
        case rel => exact ⟨2, L2, a3, by omega, by go_num, (fun h => by omega), (fun h => by omega), (fun _ => rfl), (fun h => by omega), HF.out.1, HF.out.2.1, HF.out.2.2.1, HF.out.2.2.2.1, HF.out.2.2.2.2⟩
        case measure => simp [intOf]
    · obtain rfl := n2 rfl
      clear n0 n1 n2 n3 hj
      have HR := Lib.hid ol
      clear ol
      obtain ⟨rr, hrr⟩ : ∃ r, r = gl := ⟨_, rfl⟩
      rw [← hrr] at P_l
      have hrg : gt < rr := by rw [hrr]; exact HG.out.2
      have hro : w.heap.size < rr := Nat.lt_trans HG.out.1 hrg
      subst hrr
      go_wp2_with fail
      have SB : Hid (∀ w', Keep3 wr w' rr → (w'.rangeAt gt 0 [.bool p.x.p, .slice p.a.A p.x.l.length p.a.c, .slice p.a.D p.x.m.length p.a.d, .bool p.y.p, .slice p.b.A p.y.l.length p.b.c, .slice p.b.D p.y.m.length p.b.d, .bool q.x.p, .slice q.a.A q.x.l.length q.a.c, .slice q.a.D q.x.m.length q.a.d, .bool q.y.p, .slice q.b.A q.y.l.length q.b.c, .slice q.b.D q.y.m.length q.b.d, .bool r.x.p, .slice r.a.A r.x.l.length r.a.c, .slice r.a.D r.x.m.length r.a.d, .bool r.y.p, .slice r.b.A r.y.l.length r.b.c, .slice r.b.D r.y.m.length r.b.d] ∧ Keep3 wr w' rr)) := Lib.hid (fun w' hK => ⟨range_row (hK.block P_t (by omega)), hK⟩)
      have KST := Keep3.start P_l
      have KW := Lib.hid kb
      have hlt0 := rblk_lt P_l
      clear kb
      refine wp_region_held_drew (S := fun w' => w'.rangeAt gt 0 [.bool p.x.p, .slice p.a.A p.x.l.length p.a.c, .slice p.a.D p.x.m.length p.a.d, .bool p.y.p, .slice p.b.A p.y.l.length p.b.c, .slice p.b.D p.y.m.length p.b.d, .bool q.x.p, .slice q.a.A q.x.l.length q.a.c, .slice q.a.D q.x.m.length q.a.d, .bool q.y.p, .slice q.b.A q.y.l.length q.b.c, .slice q.b.D q.y.m.length q.b.d, .bool r.x.p, .slice r.a.A r.x.l.length r.a.c, .slice r.a.D r.x.m.length r.a.d, .bool r.y.p, .slice r.b.A r.y.l.length r.b.c, .slice r.b.D r.y.m.length r.b.d] ∧ Keep3 wr w' rr) (by kernel_rfl) (SB.out _ KST.drew) (fun hHeld => ?_)
      have hCur : Keep3 wr wr.drew rr := KST.drew
      have P_c : wr.drew.heap[rr]? = some (.cells #[.bool Lx.p, .slice ax.A Lx.l.length ax.c, .slice ax.D Lx.m.length ax.d] 29 (0, 0)) := P_l
      have HRw : Rds wr.drew (rows Lx ax) := HR.out.below ((Below.refl _ _).drew)
      refine tk (i := 1) (v := .agg #[.bool p.x.p, .slice p.a.A p.x.l.length p.a.c, .slice p.a.D p.x.m.length p.a.d, .bool p.y.p, .slice p.b.A p.y.l.length p.b.c, .slice p.b.D p.y.m.length p.b.d, .bool q.x.p, .slice q.a.A q.x.l.length q.a.c, .slice q.a.D q.x.m.length q.a.d, .bool q.y.p, .slice q.b.A q.y.l.length q.b.c, .slice q.b.D q.y.m.length q.b.d, .bool r.x.p, .slice r.a.A r.x.l.length r.a.c, .slice r.a.D r.x.m.length r.a.d, .bool r.y.p, .slice r.b.A r.y.l.length r.b.c, .slice r.b.D r.y.m.length r.b.d]) rfl (by kernel_rfl) (fun _ _ _ h => h) (yieldsIf_load_mid (by rfl) 46 (.tmp 3) rfl gt 0 rfl [.bool p.x.p, .slice p.a.A p.x.l.length p.a.c, .slice p.a.D p.x.m.length p.a.d, .bool p.y.p, .slice p.b.A p.y.l.length p.b.c, .slice p.b.D p.y.m.length p.b.d, .bool q.x.p, .slice q.a.A q.x.l.length q.a.c, .slice q.a.D q.x.m.length q.a.d, .bool q.y.p, .slice q.b.A q.y.l.length q.b.c, .slice q.b.D q.y.m.length q.b.d, .bool r.x.p, .slice r.a.A r.x.l.length r.a.c, .slice r.a.D r.x.m.length r.a.d, .bool r.y.p, .slice r.b.A r.y.l.length r.b.c, .slice r.b.D r.y.m.length r.b.d] _ (fun w hSw => hSw.1) Tryz.underlying46 rfl tri_size) hHeld ?_
      try simp only [ps]
      refine tk (i := 2) (v := ?vz2) rfl (by kernel_rfl) (fun _ _ _ h => h) (Or.inl ⟨by rfl, ?hz2⟩) hHeld ?_
      case hz2 => (intro w hSw; (try dsimp only at hSw); go_simp; (try with_reducible rfl))
      try simp only [ps]
      refine wpAnyH_ready (rs := [0, 3]) (by kernel_rfl) (by simp) ?_
      refine rc1 rfl (fun K hK => ?_) (rc1 rfl (fun K hK => ?_) AllReadyH.nil)
      · skip
        have t0 := rblk_cell P_c 0
        have t1 := rblk_cell P_c 1
        have t2 := rblk_cell P_c 2
        go_simp
        clear t0 t1 t2
        refine hK.out _ _ (SB.out _ hCur) (fun hHeld' => ?_)
        clear hK K hHeld
        have hHeld := hHeld'
        clear hHeld'
        try simp only [ps]
        refine rd1 (i := 3) (by kernel_rfl) rfl (fun K hK => ?_)
        go_simp
        (go_at_call 21; ((with_reducible refine (HQ_2.out _ (hCur.base KW.out (by omega))).mono ?_); rintro e Wa1 ⟨a1, rfl, hc1, hc2, o1, hap1, hb⟩))
        have hzq := hb.size
        refine hK.out _ _ (SB.out _ (hCur.below hb)) (fun hHeld' => ?_)
        clear hK K hHeld
        have hHeld := hHeld'
        clear hHeld'
        replace hCur := hCur.below hb
        replace P_c := rblk_below P_c hb
        replace HRw := HRw.below hb
        clear hb
        try simp only [ps]
        refine rd1 (i := 4) (by kernel_rfl) rfl (fun K hK => ?_)
        go_simp
        (go_at_call 20; ((with_reducible refine (HM_2.out _ _ _ HRw o1.rds).mono ?_); rintro e Wa2 ⟨a3, rfl, hc5, hc6, o3, hap3, hb⟩))
        have hz3 := hCur.lt
        refine hK.out _ _ (SB.out _ (hCur.below hb)) (fun hHeld' => ?_)
        clear hK K hHeld
        have hHeld := hHeld'
        clear hHeld'
        replace hCur := hCur.below hb
        replace P_c := rblk_below P_c hb
        clear hb
        try simp only [ps]
        refine rd1 (i := 5) (by kernel_rfl) rfl (fun K hK => ?_)
        have t0 := rblk_cell P_c 0
        have q0 := rblk_free P_c 0
        have t1 := rblk_cell P_c 1
        have q1 := rblk_free P_c 1
        have t2 := rblk_cell P_c 2
        have q2 := rblk_free P_c 2
        go_simp
        clear t0 t1 t2 q0 q1 q2
        refine hK.out _ _ (SB.out _ (hCur.put3 (.bool L3.p) (.slice a3.A L3.l.length a3.c) (.slice a3.D L3.m.length a3.d))) (fun hHeld' => ?_)
        clear hK K hHeld
        have hHeld := hHeld'
        clear hHeld'
        replace hCur := hCur.put3 (.bool L3.p) (.slice a3.A L3.l.length a3.c) (.slice a3.D L3.m.length a3.d)
        have P_e := rblk_set (rblk_set (rblk_set P_c 0 (.bool L3.p)) 1 (.slice a3.A L3.l.length a3.c)) 2 (.slice a3.D L3.m.length a3.d)
        replace o3 := (owns_put3 (r := rr) o3 (.inl hz3) (.bool L3.p) (.slice a3.A L3.l.length a3.c) (.slice a3.D L3.m.length a3.d)).rds
        try simp only [ps]
        refine wpAnyH_done (by kernel_rfl) ?_ _
        have P_t2 := hCur.block P_t (show rr ≠ gt by omega)
        have P_o2 := hCur.block P_o (show rr ≠ w.heap.size by omega)
        have kz := hCur.base KW.out (show w.heap.size ≤ rr by omega)
        have HF := Lib.hid (And.intro P_e (And.intro o3 (And.intro P_t2 (And.intro P_o2 kz))))
        clear P_e o3 P_t2 P_o2 kz hHeld hCur P_c
        go_wp2
        go_roundw
        case rel => exact ⟨3, L3, a3, by omega, by go_num, (fun h => by omega), (fun h => by omega), (fun h => by omega), (fun _ => rfl), HF.out.1, HF.out.2.1, HF.out.2.2.1, HF.out.2.2.2.1, HF.out.2.2.2.2⟩
        case measure => simp [intOf]
      · skip
        go_simp
        (go_at_call 21; ((with_reducible refine (HQ_2.out _ (hCur.base KW.out (by omega))).mono ?_); rintro e Wb1 ⟨a1, rfl, hc1, hc2, o1, hap1, hb⟩))
        have hzq := hb.size
        refine hK.out _ _ (SB.out _ (hCur.below hb)) (fun hHeld' => ?_)
        clear hK K hHeld
        have hHeld := hHeld'
        clear hHeld'
        replace hCur := hCur.below hb
        replace P_c := rblk_below P_c hb
        replace HRw := HRw.below hb
        clear hb
        try simp only [ps]
        refine rd1 (i := 0) (by kernel_rfl) rfl (fun K hK => ?_)
        have t0 := rblk_cell P_c 0
        have t1 := rblk_cell P_c 1
        have t2 := rblk_cell P_c 2
        go_simp
        clear t0 t1 t2
        refine hK.out _ _ (SB.out _ hCur) (fun hHeld' => ?_)
        clear hK K hHeld
        have hHeld := hHeld'
        clear hHeld'
        try simp only [ps]
        refine rd1 (i := 4) (by kernel_rfl) rfl (fun K hK => ?_)
        go_simp
        (go_at_call 20; ((with_reducible refine (HM_2.out _ _ _ HRw o1.rds).mono ?_); rintro e Wb2 ⟨a3, rfl, hc5, hc6, o3, hap3, hb⟩))
        have hz3 := hCur.lt
        refine hK.out _ _ (SB.out _ (hCur.below hb)) (fun hHeld' => ?_)
        clear hK K hHeld
        have hHeld := hHeld'
        clear hHeld'
        replace hCur := hCur.below hb
        replace P_c := rblk_below P_c hb
        clear hb
        try simp only [ps]
        refine rd1 (i := 5) (by kernel_rfl) rfl (fun K hK => ?_)
        have t0 := rblk_cell P_c 0
        have q0 := rblk_free P_c 0
        have t1 := rblk_cell P_c 1
        have q1 := rblk_free P_c 1
        have t2 := rblk_cell P_c 2
        have q2 := rblk_free P_c 2
        go_simp
        clear t0 t1 t2 q0 q1 q2
        refine hK.out _ _ (SB.out _ (hCur.put3 (.bool L3.p) (.slice a3.A L3.l.length a3.c) (.slice a3.D L3.m.length a3.d))) (fun hHeld' => ?_)
        clear hK K hHeld
        have hHeld := hHeld'
        clear hHeld'
        replace hCur := hCur.put3 (.bool L3.p) (.slice a3.A L3.l.length a3.c) (.slice a3.D L3.m.length a3.d)
        have P_e := rblk_set (rblk_set (rblk_set P_c 0 (.bool L3.p)) 1 (.slice a3.A L3.l.length a3.c)) 2 (.slice a3.D L3.m.length a3.d)
        replace o3 := (owns_put3 (r := rr) o3 (.inl hz3) (.bool L3.p) (.slice a3.A L3.l.length a3.c) (.slice a3.D L3.m.length a3.d)).rds
        try simp only [ps]
        refine wpAnyH_done (by kernel_rfl) ?_ _
        have P_t2 := hCur.block P_t (show rr ≠ gt by omega)
        have P_o2 := hCur.block P_o (show rr ≠ w.heap.size by omega)
        have kz := hCur.base KW.out (show w.heap.size ≤ rr by omega)
        have HF := Lib.hid (And.intro P_e (And.intro o3 (And.intro P_t2 (And.intro P_o2 kz))))
        clear P_e o3 P_t2 P_o2 kz hHeld hCur P_c
        go_wp2
        go_roundw
        case rel => exact ⟨3, L3, a3, by omega, by go_num, (fun h => by omega), (fun h => by omega), (fun h => by omega), (fun _ => rfl), HF.out.1, HF.out.2.1, HF.out.2.2.1, HF.out.2.2.2.1, HF.out.2.2.2.2⟩
        case measure => simp [intOf]
    · obtain rfl := n3 rfl
      clear n0 n1 n2 hj
      have HR := Lib.hid ol
      clear ol
      go_wp2_with fail
      have nr_t : w.heap.size ≠ gt := by have := HG.out.1; omega
      have nr_l : w.heap.size ≠ gl := by have h1 := HG.out.1; have h2 := HG.out.2; omega
      obtain ⟨rr, hrr⟩ : ∃ r, r = w.heap.size := ⟨_, rfl⟩
      have P_r := P_o
      rw [← hrr] at P_r
      have hrr3 : w.heap.size ≤ rr := Nat.le_of_eq hrr.symm
      have nt : rr ≠ gt := by rw [hrr]; exact nr_t
      have nl : rr ≠ gl := by rw [hrr]; exact nr_l
      have SB : Hid (∀ w', Keep3 wr w' rr → (w'.rangeAt gt 0 [.bool p.x.p, .slice p.a.A p.x.l.length p.a.c, .slice p.a.D p.x.m.length p.a.d, .bool p.y.p, .slice p.b.A p.y.l.length p.b.c, .slice p.b.D p.y.m.length p.b.d, .bool q.x.p, .slice q.a.A q.x.l.length q.a.c, .slice q.a.D q.x.m.length q.a.d, .bool q.y.p, .slice q.b.A q.y.l.length q.b.c, .slice q.b.D q.y.m.length q.b.d, .bool r.x.p, .slice r.a.A r.x.l.length r.a.c, .slice r.a.D r.x.m.length r.a.d, .bool r.y.p, .slice r.b.A r.y.l.length r.b.c, .slice r.b.D r.y.m.length r.b.d] ∧ w'.cell? ⟨gl, 0, none⟩ = some (.bool Lx.p) ∧ w'.cell? ⟨gl, 1, none⟩ = some (.slice ax.A Lx.l.length ax.c) ∧ w'.cell? ⟨gl, 2, none⟩ = some (.slice ax.D Lx.m.length ax.d) ∧ Keep3 wr w' rr)) := Lib.hid (fun w' hK => ⟨range_row (hK.block P_t nt), rblk_cell (hK.block P_l nl) 0, rblk_cell (hK.block P_l nl) 1, rblk_cell (hK.block P_l nl) 2, hK⟩)
      have KST := Keep3.start P_r
      have KW := Lib.hid kb
      have hlt0 := rblk_lt P_r
      clear kb
      refine wp_region_held_drew (S := fun w' => w'.rangeAt gt 0 [.bool p.x.p, .slice p.a.A p.x.l.length p.a.c, .slice p.a.D p.x.m.length p.a.d, .bool p.y.p, .slice p.b.A p.y.l.length p.b.c, .slice p.b.D p.y.m.length p.b.d, .bool q.x.p, .slice q.a.A q.x.l.length q.a.c, .slice q.a.D q.x.m.length q.a.d, .bool q.y.p, .slice q.b.A q.y.l.length q.b.c, .slice q.b.D q.y.m.length q.b.d, .bool r.x.p, .slice r.a.A r.x.l.length r.a.c, .slice r.a.D r.x.m.length r.a.d, .bool r.y.p, .slice r.b.A r.y.l.length r.b.c, .slice r.b.D r.y.m.length r.b.d] ∧ w'.cell? ⟨gl, 0, none⟩ = some (.bool Lx.p) ∧ w'.cell? ⟨gl, 1, none⟩ = some (.slice ax.A Lx.l.length ax.c) ∧ w'.cell? ⟨gl, 2, none⟩ = some (.slice ax.D Lx.m.length ax.d) ∧ Keep3 wr w' rr) (by kernel_rfl) (SB.out _ KST.drew) (fun hHeld => ?_)
      have hCur : Keep3 wr wr.drew rr := KST.drew
      have HRw : Rds wr.drew (rows Lx ax) := HR.out.below ((Below.refl _ _).drew)
      refine tk (i := 0) (v := .agg #[.bool p.x.p, .slice p.a.A p.x.l.length p.a.c, .slice p.a.D p.x.m.length p.a.d, .bool p.y.p, .slice p.b.A p.y.l.length p.b.c, .slice p.b.D p.y.m.length p.b.d, .bool q.x.p, .slice q.a.A q.x.l.length q.a.c, .slice q.a.D q.x.m.length q.a.d, .bool q.y.p, .slice q.b.A q.y.l.length q.b.c, .slice q.b.D q.y.m.length q.b.d, .bool r.x.p, .slice r.a.A r.x.l.length r.a.c, .slice r.a.D r.x.m.length r.a.d, .bool r.y.p, .slice r.b.A r.y.l.length r.b.c, .slice r.b.D r.y.m.length r.b.d]) rfl (by kernel_rfl) (fun _ _ _ h => h) (yieldsIf_load_mid (by rfl) 46 (.tmp 3) rfl gt 0 rfl [.bool p.x.p, .slice p.a.A p.x.l.length p.a.c, .slice p.a.D p.x.m.length p.a.d, .bool p.y.p, .slice p.b.A p.y.l.length p.b.c, .slice p.b.D p.y.m.length p.b.d, .bool q.x.p, .slice q.a.A q.x.l.length q.a.c, .slice q.a.D q.x.m.length q.a.d, .bool q.y.p, .slice q.b.A q.y.l.length q.b.c, .slice q.b.D q.y.m.length q.b.d, .bool r.x.p, .slice r.a.A r.x.l.length r.a.c, .slice r.a.D r.x.m.length r.a.d, .bool r.y.p, .slice r.b.A r.y.l.length r.b.c, .slice r.b.D r.y.m.length r.b.d] _ (fun w hSw => hSw.1) Tryz.underlying46 rfl tri_size) hHeld ?_
      try simp only [ps]
      refine tk (i := 2) (v := ?vy) rfl (by kernel_rfl) (fun _ _ _ h => h) (Or.inl ⟨by rfl, ?hy⟩) hHeld ?_
      case hy => (intro w hSw; (try dsimp only at hSw); go_simp; (try with_reducible rfl))
      try simp only [ps]
      refine rd1 (i := 1) (by kernel_rfl) rfl (fun K hK => ?_)
      go_simp
      (go_at_call 22; ((with_reducible refine (HA.out _ (hCur.base KW.out hrr3)).mono ?_); rintro e Wc1 ⟨a1, rfl, hc1, hc2, o1, hap1, hb⟩))
      refine hK.out _ _ (SB.out _ (hCur.below hb)) (fun hHeld' => ?_)
      clear hK K hHeld
      have hHeld := hHeld'
      clear hHeld'
      replace hCur := hCur.below hb
      replace HRw := HRw.below hb
      clear hb
      try simp only [ps]
      refine rd1 (i := 3) (by kernel_rfl) rfl (fun K hK => ?_)
      go_simp
      (go_at_call 23; ((with_reducible refine (HO.out _ _ _ o1.rds HRw).mono ?_); rintro e Wc2 ⟨a3, rfl, hc5, hc6, o3, hap3, hb⟩))
      have hz0 := hCur.lt
      have kz0 := (hCur.base KW.out hrr3).size
      refine hK.out _ _ (SB.out _ (hCur.below hb)) (fun hHeld' => ?_)
      clear hK K hHeld
      have hHeld := hHeld'
      clear hHeld'
      replace hCur := hCur.below hb
      clear hb
      try simp only [ps]
      obtain ⟨u0, u1, u2, t0, t1, t2, t3, t4, t5⟩ := hCur.cells
      refine rd1 (i := 4) (by kernel_rfl) rfl (fun K hK => ?_)
      subst hrr
      go_simp
      refine hK.out _ _ (SB.out _ (hCur.put3 (.bool V.p) (.slice a3.A V.l.length a3.c) (.slice a3.D V.m.length a3.d))) (fun hHeld' => ?_)
      clear hK K hHeld
      clear hHeld'
      try simp only [ps]
      refine wpAnyH_done (by kernel_rfl) ?_ _
      go_wp2
      exact bodyPost_ret (v := .agg #[.bool V.p, .slice a3.A V.l.length a3.c, .slice a3.D V.m.length a3.d]) (by simp [results, Tryz.results7, go_sem, t0, t1, t2, t3, t4, t5]) rfl ⟨a3, rfl, hc5, hc6, owns_end3 o3 (.inl hz0) kz0 (Nat.le_refl _) _ _ _, hap3, (hCur.put3 (.bool V.p) (.slice a3.A V.l.length a3.c) (.slice a3.D V.m.length a3.d)).base KW.out (Nat.le_refl _)⟩
end Go.Proofs.YtdpbibnmoddblaaGreat
