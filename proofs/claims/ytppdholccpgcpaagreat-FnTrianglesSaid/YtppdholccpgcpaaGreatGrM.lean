/-
  The program's gradients of a triangle: an array of three points.
-/
import Derived.Test.YtppdholccpgcpaaGreatLawP
import Derived.Test.YtppdholccpgcpaaGreatGrM0
import Derived.Test.YtppdholccpgcpaaGreatTk
namespace Go.Proofs.YtppdholccpgcpaaGreat
open Go.ChangeShapes Go.WideShapes Go.ChangeAt Go.RowKit
set_option linter.unusedVariables false
set_option linter.unusedSimpArgs false
set_option maxRecDepth 4000
attribute [local go_sem ↓] Go.wp_at_zero Go.wp_at_succ
set_option maxHeartbeats 4000000 in
theorem gradients_m (p q r : PV) (w : World) (h : TriOk w p q r) :
    Calls Tryz.prog 68 #[.agg (p18 p q r)] w (MadeP3 w.heap.size (gD p q r) w) := by
  have RT : Hid (∀ W, Below w.heap.size w W → TriOk W p q r) := Lib.hid (fun W hB => h.below hB)
  have HA := Lib.hid (fun W hB => tarea p q r W (RT.out W hB))
  have HI := Lib.hid (fun a W h => inverse_r (aV p q r) a W (aV_fit _ _ _) h)
  have HN : Hid (∀ (j : Nat), j < 3 → ∀ W, Below w.heap.size w W → Calls Tryz.prog 134 #[.agg (p18 p q r), .int .i64 (j : Int)] W (MadeP W.heap.size (ofO (nX (gjk p q r j).1 (gjk p q r j).2)) (ofO (nY (gjk p q r j).1 (gjk p q r j).2)) W)) := Lib.hid (fun j hj W hB => by
    have : j = 0 ∨ j = 1 ∨ j = 2 := by omega
    rcases this with rfl | rfl | rfl
    · exact normal_0 p q r W (RT.out W hB)
    · exact normal_1 p q r W (RT.out W hB)
    · exact normal_2 p q r W (RT.out W hB))
  have HM : Hid (∀ (j : Nat) (a b c : Ad) W, Rds W (rows (ofO (nX (gjk p q r j).1 (gjk p q r j).2)) a ++ rows (ofO (nY (gjk p q r j).1 (gjk p q r j).2)) b) → Rds W (rows (ofO (invO (aV p q r))) c) → Calls Tryz.prog 75 #[.agg (r6 (ofO (nX (gjk p q r j).1 (gjk p q r j).2)) (ofO (nY (gjk p q r j).1 (gjk p q r j).2)) a b), .agg (r3 (ofO (invO (aV p q r))) c)] W (MadeP W.heap.size (ofO (gU p q r j)) (ofO (gV p q r j)) W)) := Lib.hid (fun j a b c W h h' => timesP_r (nX (gjk p q r j).1 (gjk p q r j).2) (nY (gjk p q r j).1 (gjk p q r j).2) (invO (aV p q r)) a b c W (nX_fit _ _) (nY_fit _ _) (invO_fit (aV_fit _ _ _)) h h')
  unfold gD
  obtain ⟨X, hX⟩ : ∃ X : Nat → R3, X = fun j => ofO (nX (gjk p q r j).1 (gjk p q r j).2) := ⟨_, rfl⟩
  obtain ⟨Y, hY⟩ : ∃ Y : Nat → R3, Y = fun j => ofO (nY (gjk p q r j).1 (gjk p q r j).2) := ⟨_, rfl⟩
  obtain ⟨U, hU⟩ : ∃ U : Nat → R3, U = fun j => ofO (gU p q r j) := ⟨_, rfl⟩
  obtain ⟨V, hV⟩ : ∃ V : Nat → R3, V = fun j => ofO (gV p q r j) := ⟨_, rfl⟩
  simp only [← congrFun hX] at HN HM
  simp only [← congrFun hY] at HN HM
  simp only [← congrFun hU] at HM ⊢
  simp only [← congrFun hV] at HM ⊢
  clear hX hY hU hV h RT
  generalize ofO (invO (aV p q r)) = Sx at HI HM
  generalize ofO (aV p q r) = Ux at HA HI
  have GT : Hid (∀ j : Nat, j < 3 → [(U 0, V 0), (U 1, V 1), (U 2, V 2)].take (j + 1) = [(U 0, V 0), (U 1, V 1), (U 2, V 2)].take j ++ [(U j, V j)]) := Lib.hid (fun j hj => three_take U V hj)
  have G3 : Hid ([(U 0, V 0), (U 1, V 1), (U 2, V 2)].take 3 = [(U 0, V 0), (U 1, V 1), (U 2, V 2)]) := Lib.hid rfl
  have G0 : Hid ([(U 0, V 0), (U 1, V 1), (U 2, V 2)].take 0 = []) := Lib.hid rfl
  generalize [(U 0, V 0), (U 1, V 1), (U 2, V 2)] = GD at GT G3 G0 ⊢
  unfold MadeP at HN HM
  unfold MadeQ at HA HI
  obtain ⟨P_t, P_o, P_s⟩ := blocks3 w (.cells (p18 p q r) 81) (.cells #[.bool false, .slice none 0 0, .slice none 0 0, .bool false, .slice none 0 0, .slice none 0 0, .bool false, .slice none 0 0, .slice none 0 0, .bool false, .slice none 0 0, .slice none 0 0, .bool false, .slice none 0 0, .slice none 0 0, .bool false, .slice none 0 0, .slice none 0 0] 80) (.cells #[.bool false, .slice none 0 0, .slice none 0 0, .bool false, .slice none 0 0, .slice none 0 0, .bool false, .slice none 0 0, .slice none 0 0, .bool false, .slice none 0 0, .slice none 0 0, .bool false, .slice none 0 0, .slice none 0 0, .bool false, .slice none 0 0, .slice none 0 0] 80)
  have kb := ba3 w (.cells (p18 p q r) 81) (.cells #[.bool false, .slice none 0 0, .slice none 0 0, .bool false, .slice none 0 0, .slice none 0 0, .bool false, .slice none 0 0, .slice none 0 0, .bool false, .slice none 0 0, .slice none 0 0, .bool false, .slice none 0 0, .slice none 0 0, .bool false, .slice none 0 0, .slice none 0 0] 80) (.cells #[.bool false, .slice none 0 0, .slice none 0 0, .bool false, .slice none 0 0, .slice none 0 0, .bool false, .slice none 0 0, .slice none 0 0, .bool false, .slice none 0 0, .slice none 0 0, .bool false, .slice none 0 0, .slice none 0 0, .bool false, .slice none 0 0, .slice none 0 0] 80)
  go_enter Tryz.func68, Tryz.ntmps68
  go_upto_region 2 with fail
  generalize ((w.alloc (.cells (p18 p q r) 81)).alloc (.cells #[.bool false, .slice none 0 0, .slice none 0 0, .bool false, .slice none 0 0, .slice none 0 0, .bool false, .slice none 0 0, .slice none 0 0, .bool false, .slice none 0 0, .slice none 0 0, .bool false, .slice none 0 0, .slice none 0 0, .bool false, .slice none 0 0, .slice none 0 0] 80)).alloc (.cells #[.bool false, .slice none 0 0, .slice none 0 0, .bool false, .slice none 0 0, .slice none 0 0, .bool false, .slice none 0 0, .slice none 0 0, .bool false, .slice none 0 0, .slice none 0 0, .bool false, .slice none 0 0, .slice none 0 0, .bool false, .slice none 0 0, .slice none 0 0] 80) = W1 at P_t P_o P_s kb ⊢
  have HG0 : Hid (w.heap.size + 1 + 1 < W1.heap.size) := Lib.hid (rblk_lt P_s)
  have HGS : Hid (w.heap.size < w.heap.size + 1 + 1 ∧ w.heap.size + 1 < w.heap.size + 1 + 1 ∧ w.heap.size < w.heap.size + 1) := Lib.hid (by omega)
  have P_s : W1.heap[w.heap.size + 1 + 1]? = some (.cells (flat ([] ++ List.replicate (3 - 0) PV0)).toArray 80 (0, 0)) := P_s
  generalize hgs : w.heap.size + 1 + 1 = gs at P_s HG0 HGS ⊢
  generalize hgo : w.heap.size + 1 = go at P_o HGS ⊢
  clear hgs hgo
  have hld := cells_row P_t
  go_wp2_with (first | refine wpList_load_at rfl 81 (.tmp 1) rfl (w.heap.size) 0 (p18 p q r) rfl tri_agg (run_size tri_size) hld ?_)
  clear hld
  refine (HA.out _ kb).mono ?_
  rintro e W4 ⟨a1, rfl, hx0, hy0, o1, hap1, hb⟩
  replace P_t := rblk_below P_t hb
  replace P_o := rblk_below P_o hb
  replace P_s := rblk_below P_s hb
  replace kb := bt kb hb
  have hs4 := hb.size
  clear hb hap1 hx0 hy0
  go_wp2_with fail
  refine (HI.out a1 _ o1.rds).mono ?_
  rintro e W5 ⟨a0, rfl, hx0, hy0, o0, hap0, hb⟩
  replace P_t := rblk_below P_t hb
  replace P_o := rblk_below P_o hb
  replace P_s := rblk_below P_s hb
  replace kb := bt kb hb
  have hs5 := hb.size
  clear hb hap0 hx0 hy0 o1
  have P_l := heap_alloc_new W5 (.cells (r3 Sx a0) 29)
  have hb := ba1 W5 (.cells (r3 Sx a0) 29)
  replace P_t := rblk_below P_t hb
  replace P_o := rblk_below P_o hb
  replace P_s := rblk_below P_s hb
  replace o0 := o0.below hb
  replace kb := bt kb hb
  clear hb
  obtain ⟨W6, hW6⟩ : ∃ W, W = W5.alloc (.cells (r3 Sx a0) 29) := ⟨_, rfl⟩
  rw [← hW6] at P_l P_t P_o P_s o0 kb
  have hsl := rblk_lt P_l
  go_wp2_with (first | rw [← hW6] | fail)
  clear hW6
  have HG : Hid (w.heap.size < gs ∧ go < gs ∧ gs < W4.heap.size ∧ W4.heap.size ≤ W5.heap.size ∧ w.heap.size < go ∧ gs < W5.heap.size) := Lib.hid ⟨HGS.out.1, HGS.out.2.1, Nat.lt_of_lt_of_le HG0.out hs4, hs5, HGS.out.2.2, Nat.lt_of_lt_of_le (Nat.lt_of_lt_of_le HG0.out hs4) hs5⟩
  generalize hlo : W4.heap.size = lo at o0 HG
  generalize W5.heap.size = gl at P_l o0 HG ⊢
  clear hs4 hs5 hsl HG0 HGS hlo
  go_loopw [9] (fun k w' => ∃ (j : Nat) (M : List PV), j ≤ 3 ∧ k = .int .i64 (j : Int) ∧ M.length = j ∧ dat M = GD.take j ∧ (∀ p, p ∈ M → CapP p) ∧ w'.heap[gs]? = some (.cells (flat (M ++ List.replicate (3 - j) PV0)).toArray 80 (0, 0)) ∧ Owns (gs + 1) w'.heap.size w' (lrow M) ∧ Aparts (lrow M) ∧ w'.heap[gl]? = some (.cells (r3 Sx a0) 29 (0, 0)) ∧ w'.heap[w.heap.size]? = some (.cells (p18 p q r) 81 (0, 0)) ∧ w'.heap[go]? = some (.cells #[.bool false, .slice none 0 0, .slice none 0 0, .bool false, .slice none 0 0, .slice none 0 0, .bool false, .slice none 0 0, .slice none 0 0, .bool false, .slice none 0 0, .slice none 0 0, .bool false, .slice none 0 0, .slice none 0 0, .bool false, .slice none 0 0, .slice none 0 0] 80 (0, 0)) ∧ Owns lo gl w' (rows Sx a0) ∧ Below w.heap.size w w') (fun k _ => 3 - (intOf k).toNat)
  case atStart => exact ⟨0, [], by omega, rfl, rfl, G0.out.symm, (fun p hp => by cases hp), P_s, Owns.nil _ _ _, Aparts.nil, P_l, P_t, P_o, o0, kb⟩
  case round =>
    clear P_s P_l P_t P_o o0 kb
    obtain ⟨j, M, hj, rfl, hM, hd, hcap, P_s, hOl, hap, P_l, P_t, P_o, ol, kb⟩ := hrel
    have HF := Lib.hid (And.intro hM (And.intro hd hcap))
    clear hM hd hcap
    by_cases hlt : j < 3
    · have hi0 : (0 : Int) ≤ (j : Int) := by omega
      have hi1 : (j : Int) < 3 := by omega
      obtain ⟨n, hn⟩ : ∃ n, 3 - j = n + 1 := ⟨2 - j, by omega⟩
      have HNn : Hid (3 - (j + 1) = n ∧ j < 3) := Lib.hid ⟨by omega, hlt⟩
      rw [hn] at P_s
      clear hn
      have HNj := Lib.hid (HN.out j hlt)
      have HMj := Lib.hid (HM.out j)
      generalize X j = Xj at HNj HMj
      generalize Y j = Yj at HNj HMj
      obtain ⟨Uj, hUj⟩ : ∃ u, u = U j := ⟨_, rfl⟩
      obtain ⟨Vj, hVj⟩ : ∃ u, u = V j := ⟨_, rfl⟩
      rw [← hUj, ← hVj] at HMj
      have HUV : Hid (GD.take (j + 1) = GD.take j ++ [(Uj, Vj)]) := Lib.hid (by rw [hUj, hVj]; exact GT.out j hlt)
      clear hUj hVj
      go_wp2_with fail
      have hb : Below wr.heap.size wr wr.drew := (Below.refl _ _).drew
      replace P_s := rblk_below P_s hb
      replace P_o := rblk_below P_o hb
      replace hOl := (hOl.below hb).wide (Nat.le_refl _) hb.size
      replace ol := ol.below hb
      replace kb := bt kb hb
      clear hb
      refine wp_region_held_drew (S := fun w' => w'.heap[w.heap.size]? = some (.cells (p18 p q r) 81 (0, 0)) ∧ w'.heap[gl]? = some (.cells (r3 Sx a0) 29 (0, 0))) (by kernel_rfl) ⟨P_t, P_l⟩ (fun hHeld => ?_)
      clear P_t P_l
      generalize wr.drew = Wd at *
      refine tk (i := 0) (v := ?vg1_1) rfl (by kernel_rfl) (fun _ _ _ h => h) (Or.inl ⟨by rfl, ?hg1_1⟩) hHeld ?_
      case hg1_1 => (intro w hSw; (try dsimp only at hSw); go_simp; (try with_reducible rfl))
      try simp only [ps]
      refine tk (i := 1) (v := .agg (p18 p q r)) rfl (by kernel_rfl) (fun _ _ _ h => h) (yieldsIf_load_mid (by rfl) 81 (.tmp 1) rfl (w.heap.size) 0 rfl [.bool p.x.p, .slice p.a.A p.x.l.length p.a.c, .slice p.a.D p.x.m.length p.a.d, .bool p.y.p, .slice p.b.A p.y.l.length p.b.c, .slice p.b.D p.y.m.length p.b.d, .bool q.x.p, .slice q.a.A q.x.l.length q.a.c, .slice q.a.D q.x.m.length q.a.d, .bool q.y.p, .slice q.b.A q.y.l.length q.b.c, .slice q.b.D q.y.m.length q.b.d, .bool r.x.p, .slice r.a.A r.x.l.length r.a.c, .slice r.a.D r.x.m.length r.a.d, .bool r.y.p, .slice r.b.A r.y.l.length r.b.c, .slice r.b.D r.y.m.length r.b.d] _ (fun w hSw => range_row hSw.1) Tryz.underlying81 rfl tri_size) hHeld ?_
      try simp only [ps]
      refine tk (i := 2) (v := ?vg1_3) rfl (by kernel_rfl) (fun _ _ _ h => h) (Or.inl ⟨by rfl, ?hg1_3⟩) hHeld ?_
      case hg1_3 => (intro w hSw; (try dsimp only at hSw); go_simp; (try with_reducible rfl))
      try simp only [ps]
      refine tk (i := 4) (v := ?vg1_4) rfl (by kernel_rfl) (fun _ _ _ h => h) (Or.inl ⟨by rfl, ?hg1_4⟩) hHeld ?_
      case hg1_4 => (intro w hSw; (try dsimp only at hSw); have t0 := rblk_cell hSw.2 0; have t1 := rblk_cell hSw.2 1; have t2 := rblk_cell hSw.2 2; go_simp; (try with_reducible rfl))
      try simp only [ps]
      refine rd1 (i := 3) (by kernel_rfl) rfl (fun K hK => ?_)
      go_simp
      (go_at_call 134; ((with_reducible refine (HNj.out _ kb).mono ?_); rintro e Wr1_5 ⟨a1, b1, rfl, hc1, o1, hap1, hb⟩))
      refine hK.out _ _ ⟨rblk_below hHeld.1 hb, rblk_below hHeld.2 hb⟩ (fun hH => ?_)
      replace hHeld := hH
      clear hK K hH
      replace P_s := rblk_below P_s hb
      replace P_o := rblk_below P_o hb
      replace hOl := (hOl.below hb).wide (Nat.le_refl _) hb.size
      replace ol := ol.below hb
      replace kb := bt kb hb
      clear hap1 hc1
      clear hb
      try simp only [ps]
      refine rd1 (i := 5) (by kernel_rfl) rfl (fun K hK => ?_)
      have hgz := rblk_lt P_s
      go_simp
      (go_at_call 75; ((with_reducible refine (HMj.out _ _ _ _ o1.rds ol.rds).mono ?_); rintro e Wo ⟨a3, b3, rfl, hcs, o3, hap3, hb⟩))
      have QO2 := hOl
      refine hK.out _ _ ⟨rblk_below hHeld.1 hb, rblk_below hHeld.2 hb⟩ (fun hH => ?_)
      replace hHeld := hH
      clear hK K hH
      replace P_s := rblk_below P_s hb
      replace P_o := rblk_below P_o hb
      replace hOl := (hOl.below hb).wide (Nat.le_refl _) hb.size
      replace ol := ol.below hb
      replace kb := bt kb hb
      replace o1 := o1.below hb
      have o3w := o3.wide (lo' := gs + 1) hgz (Nat.le_refl _)
      have A2 := Aparts.app hap hap3 QO2 o3
      clear hb o1 QO2 o3 hap hap3
      try simp only [ps]
      refine tk (i := 6) (v := .pointer (some ⟨gs, j * 6, none⟩)) rfl (by kernel_rfl) (fun _ _ _ h => h) (Or.inl ⟨by rfl, ?hg1_7⟩) hHeld ?_
      case hg1_7 => (intro w hSw; (try dsimp only at hSw); go_simp; (try rfl))
      try simp only [ps]
      refine rd1 (i := 7) (by kernel_rfl) rfl (fun K hK => ?_)
      rw [if_pos (by rfl)]
      refine wp_store_at 31 (.tmp 18) (.tmp 17) rfl gs (j * 6) (r6 Uj Vj a3 b3) rfl rfl 80 _ P_s pt_size (row_hold HF.out.1) (by simp [Value.oneCell', p18, r6, r3, z3]) ?_
      obtain ⟨cs, ecs, P_s2⟩ := row_ex (n := n) HF.out.1 P_s ⟨Uj, Vj, a3, b3⟩
      rw [ecs]
      clear ecs
      have ngt : gs ≠ w.heap.size := by have := HG.out.1; omega
      have ngo : gs ≠ go := by have := HG.out.2.1; omega
      have ngl : gs ≠ gl := by have := HG.out.2.2.1; have := HG.out.2.2.2.1; omega
      have z3 : (Wo.setRow gs cs).heap.size = Wo.heap.size := setRow_size _ _ _
      have O3 := (hOl.setRow (g := gs) (.inl (Nat.lt_succ_self _)) cs).app (o3w.setRow (g := gs) (.inl (Nat.lt_succ_self _)) cs)
      have Q3 := ol.setRow (g := gs) (.inl HG.out.2.2.1) cs
      have k3 := below_setRow kb (show w.heap.size ≤ gs by have := HG.out.1; omega) cs
      replace P_o := rowV_other P_o ngo cs
      refine hK.out _ _ ⟨rowV_other hHeld.1 ngt cs, rowV_other hHeld.2 ngl cs⟩ (fun hH => ?_)
      replace hHeld := hH
      clear hK K hH P_s ol hOl kb o3w ngt ngo ngl
      rw [← z3] at O3
      clear z3
      generalize Wo.setRow gs cs = Ws at hHeld P_s2 P_o O3 Q3 k3 ⊢
      try simp only [ps]
      refine wpAnyH_done (by kernel_rfl) ?_ _
      obtain ⟨P_t, P_l⟩ := hHeld
      have HR := Lib.hid (And.intro P_s2 (And.intro O3 (And.intro P_l (And.intro P_t (And.intro P_o (And.intro Q3 k3))))))
      have HA2 := Lib.hid (And.intro A2 hcs)
      clear P_s2 O3 P_l P_t P_o Q3 k3 A2 hcs
      go_wp2
      go_roundw
      case rel => exact ⟨j + 1, M ++ [⟨Uj, Vj, a3, b3⟩], HNn.out.2, by go_num, by rw [List.length_append, HF.out.1]; rfl, by rw [dat_app, HF.out.2.1, HUV.out]; rfl, cap_app (q := ⟨Uj, Vj, a3, b3⟩) HF.out.2.2 HA2.out.2, by rw [HNn.out.1]; exact HR.out.1, by rw [lrow_app, lrow_one]; exact HR.out.2.1, by rw [lrow_app, lrow_one]; exact HA2.out.1, HR.out.2.2.1, HR.out.2.2.2.1, HR.out.2.2.2.2.1, HR.out.2.2.2.2.2.1, HR.out.2.2.2.2.2.2⟩
      case measure => simp [intOf]; omega
    · obtain rfl : j = 3 := by omega
      obtain ⟨g0, g1, g2, rfl⟩ := three_pv HF.out.1
      have P_s : wr.heap[gs]? = some (.cells (p18 g0 g1 g2) 80 (0, 0)) := P_s
      have hld := cells_row P_s
      have hgs2 : gs + 1 ≤ gs + 1 := Nat.le_refl _
      have HR : Hid (dat [g0, g1, g2] = GD ∧ (∀ cs, Owns w.heap.size (wr.setRow go cs).heap.size (wr.setRow go cs) (lrow [g0, g1, g2])) ∧ Aparts (lrow [g0, g1, g2])) := Lib.hid ⟨by rw [HF.out.2.1, G3.out], fun cs => by rw [setRow_size]; exact (hOl.setRow (g := go) (.inl (by have := HG.out.2.1; omega)) cs).wide (by have := HG.out.1; omega) (Nat.le_refl _), hap⟩
      clear hgs2
      have hgo : w.heap.size ≤ go := by have := HG.out.2.2.2.2.1; omega
      clear hOl hap P_l P_t ol
      go_wp2_with (first | refine wpList_load_at rfl 80 (.tmp 3) rfl gs 0 (p18 g0 g1 g2) rfl a3_agg (run_size a3_size) hld ?_ | refine wpList_store_row rfl 80 (.tmp 2) (.tmp 20) rfl go (p18 g0 g1 g2) rfl rfl 80 _ P_o a3_size rfl (by simp [Value.oneCell', p18, r6, r3, z3]) ?_)
      exact bodyPost_ret (v := .agg (p18 g0 g1 g2)) (results_row Tryz.results68 _ _ go (p18 g0 g1 g2) rfl a3_agg (run_size a3_size) (rowV_set P_o _)) rfl ⟨g0, g1, g2, rfl, HR.out.1, HF.out.2.2, HR.out.2.1 _, HR.out.2.2, below_setRow kb hgo _⟩
end Go.Proofs.YtppdholccpgcpaaGreat
