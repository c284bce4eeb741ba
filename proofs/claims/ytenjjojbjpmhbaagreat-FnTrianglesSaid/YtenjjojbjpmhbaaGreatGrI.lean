/-
  The program's Gradients.
-/
import Derived.Test.YtenjjojbjpmhbaaGreatWp
import Derived.Test.YtenjjojbjpmhbaaGreatGrB
namespace Go.Proofs.YtenjjojbjpmhbaaGreat
open Go.ChangeShapes Go.WideShapes Go.ChangeAt Go.RowKit
set_option linter.unusedVariables false
set_option linter.unusedSimpArgs false
set_option maxRecDepth 4000
attribute [local go_sem ↓] Go.wp_at_zero Go.wp_at_succ
set_option maxHeartbeats 4000000 in
theorem impl_gradients (L : List PV) (A : Option Addr) (c : Nat) (w : World) (hn : L.length ≤ 9223372036854775807) (hL : ∀ p, p ∈ L → LenP p) (hA : RdS w A (flat L)) (hR : Rds w (lrow L)) :
    Calls Tryz.prog 15 #[.slice A L.length c] w (MadePS w.heap.size (gradL L) w) := by
  have HT := Lib.hid (fun W h h' => tri_any L A c W hn hL h h')
  have RR : Hid (∀ W, Below w.heap.size w W → RdS W A (flat L) ∧ Rds W (lrow L)) := Lib.hid (fun W hB => ⟨hA.below hB, hR.below hB⟩)
  have RT : Hid (∀ W, Below w.heap.size w W → TriOk W (tri1 L) (tri2 L) (tri3 L)) := Lib.hid (fun W hB => tri_ok (hR.below hB))
  unfold gradL gradV
  generalize hp1 : tri1 L = p at HT RT ⊢
  generalize hp2 : tri2 L = q at HT RT ⊢
  generalize hp3 : tri3 L = r at HT RT ⊢
  have e0 : aT L = aV p q r := by unfold aT; rw [hp1, hp2, hp3]
  rw [e0]
  clear e0 hp1 hp2 hp3
  have HA := Lib.hid (fun W hB => tarea p q r W (RT.out W hB))
  have HI := Lib.hid (fun a W h => inverse_r (aV p q r) a W (aV_fit _ _ _) h)
  have HN_0 : Hid (∀ W, Below w.heap.size w W → Calls Tryz.prog 72 #[.agg (p18 p q r), .int .i64 0] W (MadeP W.heap.size (ofO (nX q r)) (ofO (nY q r)) W)) := Lib.hid (fun W hB => normal_0 p q r W (RT.out W hB))
  have HM_0 : Hid (∀ (a b c : Ad) W, Rds W (rows (ofO (nX q r)) a ++ rows (ofO (nY q r)) b) → Rds W (rows (ofO (invO (aV p q r))) c) → Calls Tryz.prog 73 #[.agg (r6 (ofO (nX q r)) (ofO (nY q r)) a b), .agg (r3 (ofO (invO (aV p q r))) c)] W (MadeP W.heap.size (ofO (tX q r (invO (aV p q r)))) (ofO (tY q r (invO (aV p q r)))) W)) := Lib.hid (fun a b c W h h' => timesP_r (nX q r) (nY q r) (invO (aV p q r)) a b c W (nX_fit _ _) (nY_fit _ _) (invO_fit (aV_fit _ _ _)) h h')
  have lm0 : (ofO (tX q r (invO (aV p q r)))).m.length ≤ 9223372036854775807 := Nat.le_trans (tX_fit _ _ _).len.2 (by omega)
  have HN_1 : Hid (∀ W, Below w.heap.size w W → Calls Tryz.prog 72 #[.agg (p18 p q r), .int .i64 1] W (MadeP W.heap.size (ofO (nX r p)) (ofO (nY r p)) W)) := Lib.hid (fun W hB => normal_1 p q r W (RT.out W hB))
  have HM_1 : Hid (∀ (a b c : Ad) W, Rds W (rows (ofO (nX r p)) a ++ rows (ofO (nY r p)) b) → Rds W (rows (ofO (invO (aV p q r))) c) → Calls Tryz.prog 73 #[.agg (r6 (ofO (nX r p)) (ofO (nY r p)) a b), .agg (r3 (ofO (invO (aV p q r))) c)] W (MadeP W.heap.size (ofO (tX r p (invO (aV p q r)))) (ofO (tY r p (invO (aV p q r)))) W)) := Lib.hid (fun a b c W h h' => timesP_r (nX r p) (nY r p) (invO (aV p q r)) a b c W (nX_fit _ _) (nY_fit _ _) (invO_fit (aV_fit _ _ _)) h h')
  have lm1 : (ofO (tX r p (invO (aV p q r)))).m.length ≤ 9223372036854775807 := Nat.le_trans (tX_fit _ _ _).len.2 (by omega)
  have HN_2 : Hid (∀ W, Below w.heap.size w W → Calls Tryz.prog 72 #[.agg (p18 p q r), .int .i64 2] W (MadeP W.heap.size (ofO (nX p q)) (ofO (nY p q)) W)) := Lib.hid (fun W hB => normal_2 p q r W (RT.out W hB))
  have HM_2 : Hid (∀ (a b c : Ad) W, Rds W (rows (ofO (nX p q)) a ++ rows (ofO (nY p q)) b) → Rds W (rows (ofO (invO (aV p q r))) c) → Calls Tryz.prog 73 #[.agg (r6 (ofO (nX p q)) (ofO (nY p q)) a b), .agg (r3 (ofO (invO (aV p q r))) c)] W (MadeP W.heap.size (ofO (tX p q (invO (aV p q r)))) (ofO (tY p q (invO (aV p q r)))) W)) := Lib.hid (fun a b c W h h' => timesP_r (nX p q) (nY p q) (invO (aV p q r)) a b c W (nX_fit _ _) (nY_fit _ _) (invO_fit (aV_fit _ _ _)) h h')
  have lm2 : (ofO (tX p q (invO (aV p q r)))).m.length ≤ 9223372036854775807 := Nat.le_trans (tX_fit _ _ _).len.2 (by omega)
  generalize ofO (tX q r (invO (aV p q r))) = U0 at HM_0 lm0 ⊢
  generalize ofO (tY q r (invO (aV p q r))) = V0 at HM_0 ⊢
  generalize ofO (nX q r) = X0 at HN_0 HM_0
  generalize ofO (nY q r) = Y0 at HN_0 HM_0
  generalize ofO (tX r p (invO (aV p q r))) = U1 at HM_1 lm1 ⊢
  generalize ofO (tY r p (invO (aV p q r))) = V1 at HM_1 ⊢
  generalize ofO (nX r p) = X1 at HN_1 HM_1
  generalize ofO (nY r p) = Y1 at HN_1 HM_1
  generalize ofO (tX p q (invO (aV p q r))) = U2 at HM_2 lm2 ⊢
  generalize ofO (tY p q (invO (aV p q r))) = V2 at HM_2 ⊢
  generalize ofO (nX p q) = X2 at HN_2 HM_2
  generalize ofO (nY p q) = Y2 at HN_2 HM_2
  generalize ofO (invO (aV p q r)) = Sx at HI HM_0 HM_1 HM_2
  generalize ofO (aV p q r) = Ux at HA HI
  have GN : Hid (¬ (0 < U0.m.length ∧ 0 < U1.m.length ∧ 0 < U2.m.length) → gl3 U0 V0 U1 V1 U2 V2 = []) := Lib.hid (fun h => if_neg h)
  have GY : Hid ((0 < U0.m.length ∧ 0 < U1.m.length ∧ 0 < U2.m.length) → dat (gl3 U0 V0 U1 V1 U2 V2) = [(U0, V0), (U1, V1), (U2, V2)]) := Lib.hid (fun h => by unfold gl3; rw [if_pos h]; rfl)
  generalize gl3 U0 V0 U1 V1 U2 V2 = GL at GN GY ⊢
  generalize L.length = n at HT ⊢
  clear hA hR hL hn
  unfold MadeP at HN_0 HN_1 HN_2 HM_0 HM_1 HM_2
  unfold MadeQ at HA HI
  obtain ⟨i0, hi, hz0, hz1, hz2⟩ := info_parts pt_info
  have kb0 := Below.refl w.heap.size w
  go_enter Tryz.func15, Tryz.ntmps15
  go_wp2_with fail
  refine (HT.out _ (RR.out _ kb0).1 (RR.out _ kb0).2).mono ?_
  rintro e W2 ⟨rfl, hb⟩
  have P_n := heap_alloc_new W2 (.cells #[.bool false, .slice none 0 0, .slice none 0 0, .bool false, .slice none 0 0, .slice none 0 0, .bool false, .slice none 0 0, .slice none 0 0, .bool false, .slice none 0 0, .slice none 0 0, .bool false, .slice none 0 0, .slice none 0 0, .bool false, .slice none 0 0, .slice none 0 0] 91)
  have P_t := rowV_set P_n (p18 p q r)
  have kb := below_setRow (hb.alloc hb.size (.cells #[.bool false, .slice none 0 0, .slice none 0 0, .bool false, .slice none 0 0, .slice none 0 0, .bool false, .slice none 0 0, .slice none 0 0, .bool false, .slice none 0 0, .slice none 0 0, .bool false, .slice none 0 0, .slice none 0 0, .bool false, .slice none 0 0, .slice none 0 0] 91)) (show w.heap.size ≤ W2.heap.size from hb.size) (p18 p q r)
  have hgt : w.heap.size ≤ W2.heap.size := hb.size
  clear hb kb0
  have hst := rblk_lt P_t
  have hld := cells_row P_t
  go_wp2_with (first | refine wpList_store_row rfl 91 (.tmp 3) (.tmp 8) rfl (W2.heap.size) (p18 p q r) rfl rfl 91 _ P_n tri_size rfl (by simp [Value.oneCell', p18, r6, r3, z3]) ?_ | refine wpList_load_at rfl 91 (.tmp 3) rfl W2.heap.size 0 (p18 p q r) rfl tri_agg (run_size tri_size) hld ?_)
  clear P_n hld
  generalize (W2.alloc (.cells #[.bool false, .slice none 0 0, .slice none 0 0, .bool false, .slice none 0 0, .slice none 0 0, .bool false, .slice none 0 0, .slice none 0 0, .bool false, .slice none 0 0, .slice none 0 0, .bool false, .slice none 0 0, .slice none 0 0, .bool false, .slice none 0 0, .slice none 0 0] 91)).setRow W2.heap.size (p18 p q r) = W3 at P_t kb hst ⊢
  generalize W2.heap.size = gt at P_t hgt hst ⊢
  refine (HA.out _ kb).mono ?_
  rintro e W4 ⟨a1, rfl, hx0, hy0, o1, hap1, hb⟩
  replace P_t := rblk_below P_t hb
  replace kb := bt kb hb
  have hs4 := hb.size
  clear hb hap1 hx0 hy0
  go_wp2_with fail
  refine (HI.out a1 _ o1.rds).mono ?_
  rintro e W5 ⟨a0, rfl, hx0, hy0, o0, hap0, hb⟩
  replace P_t := rblk_below P_t hb
  replace kb := bt kb hb
  have hs5 := hb.size
  clear hb hap0 hx0 hy0 o1
  have P_l := heap_alloc_new W5 (.cells (r3 Sx a0) 29)
  have hb := ba1 W5 (.cells (r3 Sx a0) 29)
  replace P_t := rblk_below P_t hb
  replace o0 := o0.below hb
  replace kb := bt kb hb
  clear hb
  have hsl := rblk_lt P_l
  obtain ⟨W6, hW6⟩ : ∃ W, W = W5.alloc (.cells (r3 Sx a0) 29) := ⟨_, rfl⟩
  rw [← hW6] at P_l P_t o0 kb hsl
  go_wp2_with (first | rw [← hW6] | (refine wpList_make_full _ rfl (.const (.int .i64 3)) (.const (.int .i64 3)) 23 rfl W6.heap.size 31 i0 _ 6 Tryz.underlying23 hi hz0 hz1 .i64 .i64 3 3 3 rfl rfl rfl rfl (by rw [hz2]; omega) (by simp only [maxLen]; omega) (Nat.le_refl _) ?_; intro w1 hown hg))
  have hb1 : Below W6.heap.size W6 w1 := below_of_grown hg (Nat.le_refl _) (fun g h => by cases h)
  rw [made_flat] at hown
  have P_s := blk_of_made6 hown
  clear hown hg hi hz0 hz1 hz2
  replace P_t := rblk_below P_t hb1
  replace P_l := rblk_below P_l hb1
  replace o0 := o0.below hb1
  have hgs : w.heap.size ≤ W6.heap.size := kb.size
  replace kb := bt kb hb1
  clear hb1
  have n_tl : gt < W5.heap.size := by omega
  have n_ls : W5.heap.size < W6.heap.size := hsl
  have e_gs : W5.heap.size + 1 = W6.heap.size := by rw [hW6, sz1]
  clear hW6
  generalize W6.heap.size = gs at P_s hgs n_ls hsl e_gs ⊢
  generalize W5.heap.size = gl at P_l n_tl n_ls hsl e_gs o0 ⊢
  go_wp2_with fail
  rw [e_gs]
  clear e_gs
  have HG := Lib.hid (And.intro hgt (And.intro n_tl (And.intro n_ls hgs)))
  clear hs4 hst hs5 hgt n_tl n_ls hgs hsl
  have HL := Lib.hid (And.intro lm0 (And.intro lm1 lm2))
  clear lm0 lm1 lm2
  go_loopw [13] (fun k w' => ∃ (j : Nat) (M : List PV), j ≤ 3 ∧ k = .int .i64 (j : Int) ∧ M.length = j ∧ dat M = [(U0, V0), (U1, V1), (U2, V2)].take j ∧ (0 < j → 0 < U0.m.length) ∧ (1 < j → 0 < U1.m.length) ∧ (2 < j → 0 < U2.m.length) ∧ (∀ p, p ∈ M → CapP p) ∧ w'.heap[gs]? = some (.cells (flat (M ++ List.replicate (3 - j) PV0)).toArray 31 (0, 0)) ∧ Owns (gs + 1) w'.heap.size w' (lrow M) ∧ Aparts (lrow M) ∧ w'.heap[gl]? = some (.cells (r3 Sx a0) 29 (0, 0)) ∧ w'.heap[gt]? = some (.cells (p18 p q r) 91 (0, 0)) ∧ Owns W4.heap.size gl w' (rows Sx a0) ∧ Below w.heap.size w w') (fun k _ => 3 - (intOf k).toNat)
  case atStart => exact ⟨0, [], by omega, rfl, rfl, rfl, (fun h => by omega), (fun h => by omega), (fun h => by omega), (fun p hp => by cases hp), P_s, Owns.nil _ _ _, Aparts.nil, P_l, P_t, o0, kb⟩
  case round =>
    clear P_s P_l P_t o0 kb
    obtain ⟨j, M, hj, rfl, hM, hd, n0, n1, n2, hcap, P_s, hOl, hap, P_l, P_t, ol, kb⟩ := hrel
    have HF := Lib.hid (And.intro hM (And.intro hd (And.intro hcap (And.intro n0 (And.intro n1 n2)))))
    clear hM hd hcap n0 n1 n2
    have hjc : j = 0 ∨ j = 1 ∨ j = 2 ∨ j = 3 := by omega
    rcases hjc with rfl | rfl | rfl | rfl
    · skip
      go_wp2_with fail
      refine wp_region_held_drew (S := fun w' => w'.heap[gt]? = some (.cells (p18 p q r) 91 (0, 0)) ∧ w'.heap[gl]? = some (.cells (r3 Sx a0) 29 (0, 0))) (by kernel_rfl) ⟨P_t, P_l⟩ (fun hHeld => ?_)
      have Q_s : wr.drew.heap[gs]? = some (.cells (flat (M ++ List.replicate (3 - 0) PV0)).toArray 31 (0, 0)) := P_s
      have hbd : Below wr.heap.size wr wr.drew := (Below.refl _ _).drew
      have QO := hOl.below hbd
      have Qr := ol.below hbd
      have kd := bt kb hbd
      have hlt := rblk_lt Q_s
      have hzd : wr.heap.size ≤ wr.drew.heap.size := hbd.size
      clear hbd P_s P_l P_t hOl ol kb
      generalize wr.drew = Wd at *
      refine tk (i := 0) (v := ?vz00) rfl (by kernel_rfl) (fun _ _ _ h => h) (Or.inl ⟨by rfl, ?hz00⟩) hHeld ?_
      case hz00 => (intro w hSw; (try dsimp only at hSw); clear hSw; go_simp; (try with_reducible rfl))
      try simp only [ps]
      refine tk (i := 1) (v := ?vz01) rfl (by kernel_rfl) (fun _ _ _ h => h) (Or.inl ⟨by rfl, ?hz01⟩) hHeld ?_
      case hz01 => (intro w hSw; (try dsimp only at hSw); clear hSw; go_simp; (try with_reducible rfl))
      try simp only [ps]
      refine tk (i := 2) (v := .agg (p18 p q r)) rfl (by kernel_rfl) (fun _ _ _ h => h) (yieldsIf_load_mid (by rfl) 91 (.tmp 3) rfl gt 0 rfl [.bool p.x.p, .slice p.a.A p.x.l.length p.a.c, .slice p.a.D p.x.m.length p.a.d, .bool p.y.p, .slice p.b.A p.y.l.length p.b.c, .slice p.b.D p.y.m.length p.b.d, .bool q.x.p, .slice q.a.A q.x.l.length q.a.c, .slice q.a.D q.x.m.length q.a.d, .bool q.y.p, .slice q.b.A q.y.l.length q.b.c, .slice q.b.D q.y.m.length q.b.d, .bool r.x.p, .slice r.a.A r.x.l.length r.a.c, .slice r.a.D r.x.m.length r.a.d, .bool r.y.p, .slice r.b.A r.y.l.length r.b.c, .slice r.b.D r.y.m.length r.b.d] _ (fun w hSw => range_row hSw.1) Tryz.underlying91 rfl tri_size) hHeld ?_
      try simp only [ps]
      refine tk (i := 3) (v := ?vz03) rfl (by kernel_rfl) (fun _ _ _ h => h) (Or.inl ⟨by rfl, ?hz03⟩) hHeld ?_
      case hz03 => (intro w hSw; (try dsimp only at hSw); clear hSw; go_simp; (try with_reducible rfl))
      try simp only [ps]
      refine tk (i := 5) (v := ?vz05) rfl (by kernel_rfl) (fun _ _ _ h => h) (Or.inl ⟨by rfl, ?hz05⟩) hHeld ?_
      case hz05 => (intro w hSw; (try dsimp only at hSw); have t0 := rblk_cell hSw.2 0; have t1 := rblk_cell hSw.2 1; have t2 := rblk_cell hSw.2 2; clear hSw; go_simp; (try with_reducible rfl))
      try simp only [ps]
      refine rd1 (i := 4) (by kernel_rfl) rfl (fun K hK => ?_)
      go_simp
      (go_at_call 72; ((with_reducible refine (HN_0.out _ kd).mono ?_); rintro e Wa ⟨a1, b1, rfl, hc1, o1, hap1, hb⟩))
      refine hK.out _ _ ⟨rblk_below hHeld.1 hb, rblk_below hHeld.2 hb⟩ (fun hH => ?_)
      replace hHeld := hH
      clear hK K hH
      replace Q_s := rblk_below Q_s hb
      replace QO := QO.below hb
      replace Qr := Qr.below hb
      replace kd := bt kd hb
      have hzWa := hb.size
      clear hb
      try simp only [ps]
      refine rd1 (i := 6) (by kernel_rfl) rfl (fun K hK => ?_)
      go_simp
      (go_at_call 73; ((with_reducible refine (HM_0.out _ _ _ _ o1.rds Qr.rds).mono ?_); rintro e Wb ⟨a3, b3, rfl, hcs, o3, hap3, hb⟩))
      refine hK.out _ _ ⟨rblk_below hHeld.1 hb, rblk_below hHeld.2 hb⟩ (fun hH => ?_)
      replace hHeld := hH
      clear hK K hH
      replace Q_s := rblk_below Q_s hb
      replace QO := QO.below hb
      replace Qr := Qr.below hb
      replace kd := bt kd hb
      have hzWb := hb.size
      clear o1 hap1 hc1
      clear hb
      try simp only [ps]
      refine tk (i := 7) (v := .pointer (some ⟨gs, 0, none⟩)) rfl (by kernel_rfl) (fun _ _ _ h => h) (Or.inl ⟨by rfl, ?hz07⟩) hHeld ?_
      case hz07 => (intro w hSw; (try dsimp only at hSw); clear hSw; go_simp; (try rfl))
      try simp only [ps]
      refine rd1 (i := 8) (by kernel_rfl) rfl (fun K hK => ?_)
      rw [if_pos (by rfl)]
      refine wp_store_at 31 (.tmp 23) (.tmp 22) rfl gs (0 * 6) (r6 U0 V0 a3 b3) rfl rfl 31 _ Q_s pt_size (row_hold HF.out.1) (by simp [Value.oneCell', p18, r6, r3, z3]) ?_
      obtain ⟨cs, ecs, P_s2⟩ := row_ex (n := 2) HF.out.1 Q_s ⟨U0, V0, a3, b3⟩
      rw [ecs]
      clear ecs
      have ngt : gs ≠ gt := by have := HG.out.2.1; have := HG.out.2.2.1; omega
      have ngl : gs ≠ gl := by have := HG.out.2.2.1; omega
      have QO2 := QO.wide (hi' := Wa.heap.size) (Nat.le_refl _) (by omega)
      have O2 : Owns (gs + 1) Wb.heap.size Wb (lrow (M ++ [⟨U0, V0, a3, b3⟩])) := by rw [lrow_app, lrow_one]; exact Owns.app (QO2.wide (Nat.le_refl _) hzWb) (o3.wide (by omega) (Nat.le_refl _))
      have A2 : Aparts (lrow (M ++ [⟨U0, V0, a3, b3⟩])) := by rw [lrow_app, lrow_one]; exact Aparts.app hap hap3 QO2 o3
      clear QO QO2 o3 hap3 hap
      have O3 := O2.setRow (g := gs) (.inl (Nat.lt_succ_self _)) cs
      have Q3 := Qr.setRow (g := gs) (.inr (Nat.le_of_lt HG.out.2.2.1)) cs
      have k3 := below_setRow kd HG.out.2.2.2 cs
      have z3 : (Wb.setRow gs cs).heap.size = Wb.heap.size := setRow_size _ _ _
      clear O2 Qr kd Q_s
      refine hK.out _ _ ⟨rowV_other hHeld.1 ngt cs, rowV_other hHeld.2 ngl cs⟩ (fun hH => ?_)
      replace hHeld := hH
      clear hK K hH
      rw [← z3] at O3
      obtain ⟨P_t, P_l⟩ := hHeld
      clear z3 ngt ngl hlt hzd hzWa hzWb
      generalize Wb.setRow gs cs = Ws at P_t P_l P_s2 O3 Q3 k3 ⊢
      try simp only [ps]
      refine wpAnyH_done (by kernel_rfl) ?_ _
      have h6 := row_six P_s2 (get_mid HF.out.1 ⟨U0, V0, a3, b3⟩)
      have t0 : Ws.cell? ⟨gs, 0, none⟩ = some (.bool U0.p) := h6.1
      have t1 : Ws.cell? ⟨gs, 1, none⟩ = some (.slice a3.A U0.l.length a3.c) := h6.2.1
      have t2 : Ws.cell? ⟨gs, 2, none⟩ = some (.slice a3.D U0.m.length a3.d) := h6.2.2
      clear h6
      have HA2 := Lib.hid (And.intro A2 hcs)
      clear A2 hcs
      go_wp2_with fail
      clear t0 t1 t2
      have EX := exists_any U0.p a3.A a3.D U0.l.length U0.m.length a3.c a3.d Ws HL.out.1
      by_cases hp : 0 < U0.m.length
      · rw [decide_eq_true hp] at EX
        refine EX.mono ?_
        rintro e W8 ⟨rfl, hb⟩
        have HR := Lib.hid (And.intro (rblk_below P_s2 hb) (And.intro ((O3.below hb).wide (Nat.le_refl _) hb.size) (And.intro (rblk_below P_l hb) (And.intro (rblk_below P_t hb) (And.intro (Q3.below hb) (bt k3 hb))))))
        clear hb P_s2 O3 P_l P_t Q3 k3 EX
        go_wp2
        go_roundw
        case rel => exact ⟨1, M ++ [⟨U0, V0, a3, b3⟩], by omega, by go_num, by rw [List.length_append, HF.out.1]; rfl, by rw [dat_app, HF.out.2.1]; rfl, (fun _ => hp), (fun h => by omega), (fun h => by omega), cap_app (q := ⟨U0, V0, a3, b3⟩) HF.out.2.2.1 HA2.out.2, HR.out.1, HR.out.2.1, HA2.out.1, HR.out.2.2.1, HR.out.2.2.2.1, HR.out.2.2.2.2.1, HR.out.2.2.2.2.2⟩
        case measure => simp [intOf]
      · rw [decide_eq_false hp] at EX
        refine EX.mono ?_
        rintro e W8 ⟨rfl, hb⟩
        have HR := Lib.hid (made_none w.heap.size (GN.out (fun h => hp h.1)) (bt k3 hb))
        clear hb P_s2 O3 P_l P_t Q3 k3 EX
        go_wp2
        go_ret
        exact HR.out
    · skip
      go_wp2_with fail
      refine wp_region_held_drew (S := fun w' => w'.heap[gt]? = some (.cells (p18 p q r) 91 (0, 0)) ∧ w'.heap[gl]? = some (.cells (r3 Sx a0) 29 (0, 0))) (by kernel_rfl) ⟨P_t, P_l⟩ (fun hHeld => ?_)
      have Q_s : wr.drew.heap[gs]? = some (.cells (flat (M ++ List.replicate (3 - 1) PV0)).toArray 31 (0, 0)) := P_s
      have hbd : Below wr.heap.size wr wr.drew := (Below.refl _ _).drew
      have QO := hOl.below hbd
      have Qr := ol.below hbd
      have kd := bt kb hbd
      have hlt := rblk_lt Q_s
      have hzd : wr.heap.size ≤ wr.drew.heap.size := hbd.size
      clear hbd P_s P_l P_t hOl ol kb
      generalize wr.drew = Wd at *
      refine tk (i := 0) (v := ?vz10) rfl (by kernel_rfl) (fun _ _ _ h => h) (Or.inl ⟨by rfl, ?hz10⟩) hHeld ?_
      case hz10 => (intro w hSw; (try dsimp only at hSw); clear hSw; go_simp; (try with_reducible rfl))
      try simp only [ps]
      refine tk (i := 1) (v := ?vz11) rfl (by kernel_rfl) (fun _ _ _ h => h) (Or.inl ⟨by rfl, ?hz11⟩) hHeld ?_
      case hz11 => (intro w hSw; (try dsimp only at hSw); clear hSw; go_simp; (try with_reducible rfl))
      try simp only [ps]
      refine tk (i := 2) (v := .agg (p18 p q r)) rfl (by kernel_rfl) (fun _ _ _ h => h) (yieldsIf_load_mid (by rfl) 91 (.tmp 3) rfl gt 0 rfl [.bool p.x.p, .slice p.a.A p.x.l.length p.a.c, .slice p.a.D p.x.m.length p.a.d, .bool p.y.p, .slice p.b.A p.y.l.length p.b.c, .slice p.b.D p.y.m.length p.b.d, .bool q.x.p, .slice q.a.A q.x.l.length q.a.c, .slice q.a.D q.x.m.length q.a.d, .bool q.y.p, .slice q.b.A q.y.l.length q.b.c, .slice q.b.D q.y.m.length q.b.d, .bool r.x.p, .slice r.a.A r.x.l.length r.a.c, .slice r.a.D r.x.m.length r.a.d, .bool r.y.p, .slice r.b.A r.y.l.length r.b.c, .slice r.b.D r.y.m.length r.b.d] _ (fun w hSw => range_row hSw.1) Tryz.underlying91 rfl tri_size) hHeld ?_
      try simp only [ps]
      refine tk (i := 3) (v := ?vz13) rfl (by kernel_rfl) (fun _ _ _ h => h) (Or.inl ⟨by rfl, ?hz13⟩) hHeld ?_
      case hz13 => (intro w hSw; (try dsimp only at hSw); clear hSw; go_simp; (try with_reducible rfl))
      try simp only [ps]
      refine tk (i := 5) (v := ?vz15) rfl (by kernel_rfl) (fun _ _ _ h => h) (Or.inl ⟨by rfl, ?hz15⟩) hHeld ?_
      case hz15 => (intro w hSw; (try dsimp only at hSw); have t0 := rblk_cell hSw.2 0; have t1 := rblk_cell hSw.2 1; have t2 := rblk_cell hSw.2 2; clear hSw; go_simp; (try with_reducible rfl))
      try simp only [ps]
      refine rd1 (i := 4) (by kernel_rfl) rfl (fun K hK => ?_)
      go_simp
      (go_at_call 72; ((with_reducible refine (HN_1.out _ kd).mono ?_); rintro e Wa ⟨a1, b1, rfl, hc1, o1, hap1, hb⟩))
      refine hK.out _ _ ⟨rblk_below hHeld.1 hb, rblk_below hHeld.2 hb⟩ (fun hH => ?_)
      replace hHeld := hH
      clear hK K hH
      replace Q_s := rblk_below Q_s hb
      replace QO := QO.below hb
      replace Qr := Qr.below hb
      replace kd := bt kd hb
      have hzWa := hb.size
      clear hb
      try simp only [ps]
      refine rd1 (i := 6) (by kernel_rfl) rfl (fun K hK => ?_)
      go_simp
      (go_at_call 73; ((with_reducible refine (HM_1.out _ _ _ _ o1.rds Qr.rds).mono ?_); rintro e Wb ⟨a3, b3, rfl, hcs, o3, hap3, hb⟩))
      refine hK.out _ _ ⟨rblk_below hHeld.1 hb, rblk_below hHeld.2 hb⟩ (fun hH => ?_)
      replace hHeld := hH
      clear hK K hH
      replace Q_s := rblk_below Q_s hb
      replace QO := QO.below hb
      replace Qr := Qr.below hb
      replace kd := bt kd hb
      have hzWb := hb.size
      clear o1 hap1 hc1
      clear hb
      try simp only [ps]
      refine tk (i := 7) (v := .pointer (some ⟨gs, 6, none⟩)) rfl (by kernel_rfl) (fun _ _ _ h => h) (Or.inl ⟨by rfl, ?hz17⟩) hHeld ?_
      case hz17 => (intro w hSw; (try dsimp only at hSw); clear hSw; go_simp; (try rfl))
      try simp only [ps]
      refine rd1 (i := 8) (by kernel_rfl) rfl (fun K hK => ?_)
      rw [if_pos (by rfl)]
      refine wp_store_at 31 (.tmp 23) (.tmp 22) rfl gs (1 * 6) (r6 U1 V1 a3 b3) rfl rfl 31 _ Q_s pt_size (row_hold HF.out.1) (by simp [Value.oneCell', p18, r6, r3, z3]) ?_
      obtain ⟨cs, ecs, P_s2⟩ := row_ex (n := 1) HF.out.1 Q_s ⟨U1, V1, a3, b3⟩
      rw [ecs]
      clear ecs
      have ngt : gs ≠ gt := by have := HG.out.2.1; have := HG.out.2.2.1; omega
      have ngl : gs ≠ gl := by have := HG.out.2.2.1; omega
      have QO2 := QO.wide (hi' := Wa.heap.size) (Nat.le_refl _) (by omega)
      have O2 : Owns (gs + 1) Wb.heap.size Wb (lrow (M ++ [⟨U1, V1, a3, b3⟩])) := by rw [lrow_app, lrow_one]; exact Owns.app (QO2.wide (Nat.le_refl _) hzWb) (o3.wide (by omega) (Nat.le_refl _))
      have A2 : Aparts (lrow (M ++ [⟨U1, V1, a3, b3⟩])) := by rw [lrow_app, lrow_one]; exact Aparts.app hap hap3 QO2 o3
      clear QO QO2 o3 hap3 hap
      have O3 := O2.setRow (g := gs) (.inl (Nat.lt_succ_self _)) cs
      have Q3 := Qr.setRow (g := gs) (.inr (Nat.le_of_lt HG.out.2.2.1)) cs
      have k3 := below_setRow kd HG.out.2.2.2 cs
      have z3 : (Wb.setRow gs cs).heap.size = Wb.heap.size := setRow_size _ _ _
      clear O2 Qr kd Q_s
      refine hK.out _ _ ⟨rowV_other hHeld.1 ngt cs, rowV_other hHeld.2 ngl cs⟩ (fun hH => ?_)
      replace hHeld := hH
      clear hK K hH
      rw [← z3] at O3
      obtain ⟨P_t, P_l⟩ := hHeld
      clear z3 ngt ngl hlt hzd hzWa hzWb
      generalize Wb.setRow gs cs = Ws at P_t P_l P_s2 O3 Q3 k3 ⊢
      try simp only [ps]
      refine wpAnyH_done (by kernel_rfl) ?_ _
      have h6 := row_six P_s2 (get_mid HF.out.1 ⟨U1, V1, a3, b3⟩)
      have t0 : Ws.cell? ⟨gs, 6, none⟩ = some (.bool U1.p) := h6.1
      have t1 : Ws.cell? ⟨gs, 7, none⟩ = some (.slice a3.A U1.l.length a3.c) := h6.2.1
      have t2 : Ws.cell? ⟨gs, 8, none⟩ = some (.slice a3.D U1.m.length a3.d) := h6.2.2
      clear h6
      have HA2 := Lib.hid (And.intro A2 hcs)
      clear A2 hcs
      go_wp2_with fail
      clear t0 t1 t2
      have EX := exists_any U1.p a3.A a3.D U1.l.length U1.m.length a3.c a3.d Ws HL.out.2.1
      by_cases hp : 0 < U1.m.length
      · rw [decide_eq_true hp] at EX
        refine EX.mono ?_
        rintro e W8 ⟨rfl, hb⟩
        have HR := Lib.hid (And.intro (rblk_below P_s2 hb) (And.intro ((O3.below hb).wide (Nat.le_refl _) hb.size) (And.intro (rblk_below P_l hb) (And.intro (rblk_below P_t hb) (And.intro (Q3.below hb) (bt k3 hb))))))
        clear hb P_s2 O3 P_l P_t Q3 k3 EX
        go_wp2
        go_roundw
        case rel => exact ⟨2, M ++ [⟨U1, V1, a3, b3⟩], by omega, by go_num, by rw [List.length_append, HF.out.1]; rfl, by rw [dat_app, HF.out.2.1]; rfl, (fun _ => HF.out.2.2.2.1 (by omega)), (fun _ => hp), (fun h => by omega), cap_app (q := ⟨U1, V1, a3, b3⟩) HF.out.2.2.1 HA2.out.2, HR.out.1, HR.out.2.1, HA2.out.1, HR.out.2.2.1, HR.out.2.2.2.1, HR.out.2.2.2.2.1, HR.out.2.2.2.2.2⟩
        case measure => simp [intOf]
      · rw [decide_eq_false hp] at EX
        refine EX.mono ?_
        rintro e W8 ⟨rfl, hb⟩
        have HR := Lib.hid (made_none w.heap.size (GN.out (fun h => hp h.2.1)) (bt k3 hb))
        clear hb P_s2 O3 P_l P_t Q3 k3 EX
        go_wp2
        go_ret
        exact HR.out
    · skip
      go_wp2_with fail
      refine wp_region_held_drew (S := fun w' => w'.heap[gt]? = some (.cells (p18 p q r) 91 (0, 0)) ∧ w'.heap[gl]? = some (.cells (r3 Sx a0) 29 (0, 0))) (by kernel_rfl) ⟨P_t, P_l⟩ (fun hHeld => ?_)
      have Q_s : wr.drew.heap[gs]? = some (.cells (flat (M ++ List.replicate (3 - 2) PV0)).toArray 31 (0, 0)) := P_s
      have hbd : Below wr.heap.size wr wr.drew := (Below.refl _ _).drew
      have QO := hOl.below hbd
      have Qr := ol.below hbd
      have kd := bt kb hbd
      have hlt := rblk_lt Q_s
      have hzd : wr.heap.size ≤ wr.drew.heap.size := hbd.size
      clear hbd P_s P_l P_t hOl ol kb
      generalize wr.drew = Wd at *
      refine tk (i := 0) (v := ?vz20) rfl (by kernel_rfl) (fun _ _ _ h => h) (Or.inl ⟨by rfl, ?hz20⟩) hHeld ?_
      case hz20 => (intro w hSw; (try dsimp only at hSw); clear hSw; go_simp; (try with_reducible rfl))
      try simp only [ps]
      refine tk (i := 1) (v := ?vz21) rfl (by kernel_rfl) (fun _ _ _ h => h) (Or.inl ⟨by rfl, ?hz21⟩) hHeld ?_
      case hz21 => (intro w hSw; (try dsimp only at hSw); clear hSw; go_simp; (try with_reducible rfl))
      try simp only [ps]
      refine tk (i := 2) (v := .agg (p18 p q r)) rfl (by kernel_rfl) (fun _ _ _ h => h) (yieldsIf_load_mid (by rfl) 91 (.tmp 3) rfl gt 0 rfl [.bool p.x.p, .slice p.a.A p.x.l.length p.a.c, .slice p.a.D p.x.m.length p.a.d, .bool p.y.p, .slice p.b.A p.y.l.length p.b.c, .slice p.b.D p.y.m.length p.b.d, .bool q.x.p, .slice q.a.A q.x.l.length q.a.c, .slice q.a.D q.x.m.length q.a.d, .bool q.y.p, .slice q.b.A q.y.l.length q.b.c, .slice q.b.D q.y.m.length q.b.d, .bool r.x.p, .slice r.a.A r.x.l.length r.a.c, .slice r.a.D r.x.m.length r.a.d, .bool r.y.p, .slice r.b.A r.y.l.length r.b.c, .slice r.b.D r.y.m.length r.b.d] _ (fun w hSw => range_row hSw.1) Tryz.underlying91 rfl tri_size) hHeld ?_
      try simp only [ps]
      refine tk (i := 3) (v := ?vz23) rfl (by kernel_rfl) (fun _ _ _ h => h) (Or.inl ⟨by rfl, ?hz23⟩) hHeld ?_
      case hz23 => (intro w hSw; (try dsimp only at hSw); clear hSw; go_simp; (try with_reducible rfl))
      try simp only [ps]
      refine tk (i := 5) (v := ?vz25) rfl (by kernel_rfl) (fun _ _ _ h => h) (Or.inl ⟨by rfl, ?hz25⟩) hHeld ?_
      case hz25 => (intro w hSw; (try dsimp only at hSw); have t0 := rblk_cell hSw.2 0; have t1 := rblk_cell hSw.2 1; have t2 := rblk_cell hSw.2 2; clear hSw; go_simp; (try with_reducible rfl))
      try simp only [ps]
      refine rd1 (i := 4) (by kernel_rfl) rfl (fun K hK => ?_)
      go_simp
      (go_at_call 72; ((with_reducible refine (HN_2.out _ kd).mono ?_); rintro e Wa ⟨a1, b1, rfl, hc1, o1, hap1, hb⟩))
      refine hK.out _ _ ⟨rblk_below hHeld.1 hb, rblk_below hHeld.2 hb⟩ (fun hH => ?_)
      replace hHeld := hH
      clear hK K hH
      replace Q_s := rblk_below Q_s hb
      replace QO := QO.below hb
      replace Qr := Qr.below hb
      replace kd := bt kd hb
      have hzWa := hb.size
      clear hb
      try simp only [ps]
      refine rd1 (i := 6) (by kernel_rfl) rfl (fun K hK => ?_)
      go_simp
      (go_at_call 73; ((with_reducible refine (HM_2.out _ _ _ _ o1.rds Qr.rds).mono ?_); rintro e Wb ⟨a3, b3, rfl, hcs, o3, hap3, hb⟩))
      refine hK.out _ _ ⟨rblk_below hHeld.1 hb, rblk_below hHeld.2 hb⟩ (fun hH => ?_)
      replace hHeld := hH
      clear hK K hH
      replace Q_s := rblk_below Q_s hb
      replace QO := QO.below hb
      replace Qr := Qr.below hb
      replace kd := bt kd hb
      have hzWb := hb.size
      clear o1 hap1 hc1
      clear hb
      try simp only [ps]
      refine tk (i := 7) (v := .pointer (some ⟨gs, 12, none⟩)) rfl (by kernel_rfl) (fun _ _ _ h => h) (Or.inl ⟨by rfl, ?hz27⟩) hHeld ?_
      case hz27 => (intro w hSw; (try dsimp only at hSw); clear hSw; go_simp; (try rfl))
      try simp only [ps]
      refine rd1 (i := 8) (by kernel_rfl) rfl (fun K hK => ?_)
      rw [if_pos (by rfl)]
      refine wp_store_at 31 (.tmp 23) (.tmp 22) rfl gs (2 * 6) (r6 U2 V2 a3 b3) rfl rfl 31 _ Q_s pt_size (row_hold HF.out.1) (by simp [Value.oneCell', p18, r6, r3, z3]) ?_
      obtain ⟨cs, ecs, P_s2⟩ := row_ex (n := 0) HF.out.1 Q_s ⟨U2, V2, a3, b3⟩
      rw [ecs]
      clear ecs
      have ngt : gs ≠ gt := by have := HG.out.2.1; have := HG.out.2.2.1; omega
      have ngl : gs ≠ gl := by have := HG.out.2.2.1; omega
      have QO2 := QO.wide (hi' := Wa.heap.size) (Nat.le_refl _) (by omega)
      have O2 : Owns (gs + 1) Wb.heap.size Wb (lrow (M ++ [⟨U2, V2, a3, b3⟩])) := by rw [lrow_app, lrow_one]; exact Owns.app (QO2.wide (Nat.le_refl _) hzWb) (o3.wide (by omega) (Nat.le_refl _))
      have A2 : Aparts (lrow (M ++ [⟨U2, V2, a3, b3⟩])) := by rw [lrow_app, lrow_one]; exact Aparts.app hap hap3 QO2 o3
      clear QO QO2 o3 hap3 hap
      have O3 := O2.setRow (g := gs) (.inl (Nat.lt_succ_self _)) cs
      have Q3 := Qr.setRow (g := gs) (.inr (Nat.le_of_lt HG.out.2.2.1)) cs
      have k3 := below_setRow kd HG.out.2.2.2 cs
      have z3 : (Wb.setRow gs cs).heap.size = Wb.heap.size := setRow_size _ _ _
      clear O2 Qr kd Q_s
      refine hK.out _ _ ⟨rowV_other hHeld.1 ngt cs, rowV_other hHeld.2 ngl cs⟩ (fun hH => ?_)
      replace hHeld := hH
      clear hK K hH
      rw [← z3] at O3
      obtain ⟨P_t, P_l⟩ := hHeld
      clear z3 ngt ngl hlt hzd hzWa hzWb
      generalize Wb.setRow gs cs = Ws at P_t P_l P_s2 O3 Q3 k3 ⊢
      try simp only [ps]
      refine wpAnyH_done (by kernel_rfl) ?_ _
      have h6 := row_six P_s2 (get_mid HF.out.1 ⟨U2, V2, a3, b3⟩)
      have t0 : Ws.cell? ⟨gs, 12, none⟩ = some (.bool U2.p) := h6.1
      have t1 : Ws.cell? ⟨gs, 13, none⟩ = some (.slice a3.A U2.l.length a3.c) := h6.2.1
      have t2 : Ws.cell? ⟨gs, 14, none⟩ = some (.slice a3.D U2.m.length a3.d) := h6.2.2
      clear h6
      have HA2 := Lib.hid (And.intro A2 hcs)
      clear A2 hcs
      go_wp2_with fail
      clear t0 t1 t2
      have EX := exists_any U2.p a3.A a3.D U2.l.length U2.m.length a3.c a3.d Ws HL.out.2.2
      by_cases hp : 0 < U2.m.length
      · rw [decide_eq_true hp] at EX
        refine EX.mono ?_
        rintro e W8 ⟨rfl, hb⟩
        have HR := Lib.hid (And.intro (rblk_below P_s2 hb) (And.intro ((O3.below hb).wide (Nat.le_refl _) hb.size) (And.intro (rblk_below P_l hb) (And.intro (rblk_below P_t hb) (And.intro (Q3.below hb) (bt k3 hb))))))
        clear hb P_s2 O3 P_l P_t Q3 k3 EX
        go_wp2
        go_roundw
        case rel => exact ⟨3, M ++ [⟨U2, V2, a3, b3⟩], by omega, by go_num, by rw [List.length_append, HF.out.1]; rfl, by rw [dat_app, HF.out.2.1]; rfl, (fun _ => HF.out.2.2.2.1 (by omega)), (fun _ => HF.out.2.2.2.2.1 (by omega)), (fun _ => hp), cap_app (q := ⟨U2, V2, a3, b3⟩) HF.out.2.2.1 HA2.out.2, HR.out.1, HR.out.2.1, HA2.out.1, HR.out.2.2.1, HR.out.2.2.2.1, HR.out.2.2.2.2.1, HR.out.2.2.2.2.2⟩
        case measure => simp [intOf]
      · rw [decide_eq_false hp] at EX
        refine EX.mono ?_
        rintro e W8 ⟨rfl, hb⟩
        have HR := Lib.hid (made_none w.heap.size (GN.out (fun h => hp h.2.2)) (bt k3 hb))
        clear hb P_s2 O3 P_l P_t Q3 k3 EX
        go_wp2
        go_ret
        exact HR.out
    · rw [show M ++ List.replicate (3 - 3) PV0 = M from List.append_nil M] at P_s
      have HR := Lib.hid (made_row HG.out.2.2.2 P_s HF.out.1 (HF.out.2.1.trans (GY.out ⟨HF.out.2.2.2.1 (by omega), HF.out.2.2.2.2.1 (by omega), HF.out.2.2.2.2.2 (by omega)⟩).symm) HF.out.2.2.1 hOl hap kb)
      clear P_s hOl hap P_l P_t ol kb
      go_wp2
      go_ret
      exact HR.out
end Go.Proofs.YtenjjojbjpmhbaaGreat
