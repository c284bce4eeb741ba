/-
  The program's mass matrix of a triangle: an array.
-/
import Derived.Test.YtppdholccpgcpaaGreatWp
import Derived.Test.YtppdholccpgcpaaGreatMsI
import Derived.Test.YtppdholccpgcpaaGreatTriI
import Derived.Test.YtppdholccpgcpaaGreatWg
namespace Go.Proofs.YtppdholccpgcpaaGreat
open Go.ChangeShapes Go.WideShapes Go.ChangeAt Go.RowKit
set_option linter.unusedVariables false
set_option linter.unusedSimpArgs false
set_option maxRecDepth 4000
attribute [local go_sem ↓] Go.wp_at_zero Go.wp_at_succ
set_option maxHeartbeats 4000000 in
theorem mass_m (p q r : PV) (w : World) (h : TriOk w p q r) :
    Calls Tryz.prog 86 #[.agg (p18 p q r)] w (MadeM9 w.heap.size (nine (mF p q r)) w) := by
  have HA := Lib.hid (fun W (hB : Below w.heap.size w W) => show Calls Tryz.prog 91 #[.agg (p18 p q r)] W (MadeQ W.heap.size (ofO (aHalf p q r)) W) from area_m p q r W (h.below hB))
  have HS := Lib.hid (fun (i j : Nat) W => share_any i j W)
  have HT : Hid (∀ (i j : Nat) (a c : Ad) W, Rds W (rows (ofO (aHalf p q r)) a) → Rds W (rows (ofO (ofQ 1 (if i = j then 6 else 12))) c) → Calls Tryz.prog 140 #[.agg (r3 (ofO (aHalf p q r)) a), .agg (r3 (ofO (ofQ 1 (if i = j then 6 else 12))) c)] W (MadeQ W.heap.size (ofO (mF p q r i j)) W)) := Lib.hid (fun i j a c W h h' => times_r (aHalf p q r) (ofQ 1 (if i = j then 6 else 12)) a c W (binmul_fit _ _) (ofQ_fit _ _) h h')
  have H9 : Hid (∀ i j : Nat, i < 3 → j < 3 → (nine (mF p q r)).take (3 * i + j + 1) = (nine (mF p q r)).take (3 * i + j) ++ [ofO (mF p q r i j)]) := Lib.hid (fun i j hi hj => nine_take (mF p q r) hi hj)
  have H9A := Lib.hid (nine_all (mF p q r))
  obtain ⟨Sh, hSh⟩ : ∃ S : Nat → Nat → R3, S = fun i j => ofO (ofQ 1 (if i = j then 6 else 12)) := ⟨_, rfl⟩
  obtain ⟨Fx, hFx⟩ : ∃ S : Nat → Nat → R3, S = fun i j => ofO (mF p q r i j) := ⟨_, rfl⟩
  replace HS : Hid (∀ (i j : Nat) W, Calls Tryz.prog 152 #[.int .i64 (i : Int), .int .i64 (j : Int)] W (MadeQ W.heap.size (Sh i j) W)) := by rw [hSh]; exact HS
  replace HT : Hid (∀ (i j : Nat) (a c : Ad) W, Rds W (rows (ofO (aHalf p q r)) a) → Rds W (rows (Sh i j) c) → Calls Tryz.prog 140 #[.agg (r3 (ofO (aHalf p q r)) a), .agg (r3 (Sh i j) c)] W (MadeQ W.heap.size (Fx i j) W)) := by rw [hSh, hFx]; exact HT
  replace H9 : Hid (∀ i j : Nat, i < 3 → j < 3 → (nine (mF p q r)).take (3 * i + j + 1) = (nine (mF p q r)).take (3 * i + j) ++ [Fx i j]) := by rw [hFx]; exact H9
  clear hSh hFx h
  generalize nine (mF p q r) = D9 at H9 H9A ⊢
  generalize ofO (aHalf p q r) = Sx at HA HT
  unfold MadeQ at HA HS HT
  obtain ⟨P_t, P_o, P_s⟩ := blocks3 w (.cells (p18 p q r) 81) (.cells #[.bool false, .slice none 0 0, .slice none 0 0, .bool false, .slice none 0 0, .slice none 0 0, .bool false, .slice none 0 0, .slice none 0 0, .bool false, .slice none 0 0, .slice none 0 0, .bool false, .slice none 0 0, .slice none 0 0, .bool false, .slice none 0 0, .slice none 0 0, .bool false, .slice none 0 0, .slice none 0 0, .bool false, .slice none 0 0, .slice none 0 0, .bool false, .slice none 0 0, .slice none 0 0] 100) (.cells #[.bool false, .slice none 0 0, .slice none 0 0, .bool false, .slice none 0 0, .slice none 0 0, .bool false, .slice none 0 0, .slice none 0 0, .bool false, .slice none 0 0, .slice none 0 0, .bool false, .slice none 0 0, .slice none 0 0, .bool false, .slice none 0 0, .slice none 0 0, .bool false, .slice none 0 0, .slice none 0 0, .bool false, .slice none 0 0, .slice none 0 0, .bool false, .slice none 0 0, .slice none 0 0] 100)
  have kb := ba3 w (.cells (p18 p q r) 81) (.cells #[.bool false, .slice none 0 0, .slice none 0 0, .bool false, .slice none 0 0, .slice none 0 0, .bool false, .slice none 0 0, .slice none 0 0, .bool false, .slice none 0 0, .slice none 0 0, .bool false, .slice none 0 0, .slice none 0 0, .bool false, .slice none 0 0, .slice none 0 0, .bool false, .slice none 0 0, .slice none 0 0, .bool false, .slice none 0 0, .slice none 0 0, .bool false, .slice none 0 0, .slice none 0 0] 100) (.cells #[.bool false, .slice none 0 0, .slice none 0 0, .bool false, .slice none 0 0, .slice none 0 0, .bool false, .slice none 0 0, .slice none 0 0, .bool false, .slice none 0 0, .slice none 0 0, .bool false, .slice none 0 0, .slice none 0 0, .bool false, .slice none 0 0, .slice none 0 0, .bool false, .slice none 0 0, .slice none 0 0, .bool false, .slice none 0 0, .slice none 0 0, .bool false, .slice none 0 0, .slice none 0 0] 100)
  go_enter Tryz.func86, Tryz.ntmps86
  go_upto_region 2 with fail
  generalize ((w.alloc (.cells (p18 p q r) 81)).alloc (.cells #[.bool false, .slice none 0 0, .slice none 0 0, .bool false, .slice none 0 0, .slice none 0 0, .bool false, .slice none 0 0, .slice none 0 0, .bool false, .slice none 0 0, .slice none 0 0, .bool false, .slice none 0 0, .slice none 0 0, .bool false, .slice none 0 0, .slice none 0 0, .bool false, .slice none 0 0, .slice none 0 0, .bool false, .slice none 0 0, .slice none 0 0, .bool false, .slice none 0 0, .slice none 0 0] 100)).alloc (.cells #[.bool false, .slice none 0 0, .slice none 0 0, .bool false, .slice none 0 0, .slice none 0 0, .bool false, .slice none 0 0, .slice none 0 0, .bool false, .slice none 0 0, .slice none 0 0, .bool false, .slice none 0 0, .slice none 0 0, .bool false, .slice none 0 0, .slice none 0 0, .bool false, .slice none 0 0, .slice none 0 0, .bool false, .slice none 0 0, .slice none 0 0, .bool false, .slice none 0 0, .slice none 0 0] 100) = W1 at P_t P_o P_s kb ⊢
  have HG0 : Hid (w.heap.size + 1 + 1 < W1.heap.size) := Lib.hid (rblk_lt P_s)
  have HGS : Hid (w.heap.size < w.heap.size + 1 + 1 ∧ w.heap.size + 1 < w.heap.size + 1 + 1 ∧ w.heap.size < w.heap.size + 1) := Lib.hid (by omega)
  have P_s : W1.heap[w.heap.size + 1 + 1]? = some (.cells (flatQ ([] ++ List.replicate (9 - 3 * 0) RV0)).toArray 100 (0, 0)) := P_s
  generalize hgs : w.heap.size + 1 + 1 = gs at P_s HG0 HGS ⊢
  generalize hgo : w.heap.size + 1 = go at P_o HGS ⊢
  clear hgs hgo
  have hld := cells_row P_t
  go_wp2_with (first | refine wpList_load_at rfl 81 (.tmp 1) rfl (w.heap.size) 0 (p18 p q r) rfl tri_agg (run_size tri_size) hld ?_)
  clear hld
  refine (HA.out _ kb).mono ?_
  rintro e W5 ⟨a0, rfl, hx0, hy0, o0, hap0, hb⟩
  replace P_o := rblk_below P_o hb
  replace P_s := rblk_below P_s hb
  replace kb := bt kb hb
  have hs5 := hb.size
  clear hb hap0 hx0 hy0 P_t
  have P_l := heap_alloc_new W5 (.cells (r3 Sx a0) 29)
  have hb := ba1 W5 (.cells (r3 Sx a0) 29)
  replace P_o := rblk_below P_o hb
  replace P_s := rblk_below P_s hb
  replace o0 := o0.below hb
  replace kb := bt kb hb
  clear hb
  obtain ⟨W6, hW6⟩ : ∃ W, W = W5.alloc (.cells (r3 Sx a0) 29) := ⟨_, rfl⟩
  rw [← hW6] at P_l P_o P_s o0 kb
  have hsl := rblk_lt P_l
  go_wp2_with (first | rw [← hW6] | fail)
  clear hW6
  have HG : Hid (w.heap.size < gs ∧ go < gs ∧ gs < W1.heap.size ∧ w.heap.size < go ∧ gs < W5.heap.size) := Lib.hid ⟨HGS.out.1, HGS.out.2.1, HG0.out, HGS.out.2.2, Nat.lt_of_lt_of_le HG0.out hs5⟩
  generalize hlo : W1.heap.size = lo at o0 HG
  generalize W5.heap.size = gl at P_l o0 HG ⊢
  clear hs5 hsl HG0 HGS hlo
  go_loopw [9] (fun k w' => ∃ (i : Nat) (M : List RV), i ≤ 3 ∧ k = .int .i64 (i : Int) ∧ M.length = 3 * i ∧ datQ M = D9.take (3 * i) ∧ (∀ p, p ∈ M → CapQ p) ∧ w'.heap[gs]? = some (.cells (flatQ (M ++ List.replicate (9 - (3 * i)) RV0)).toArray 100 (0, 0)) ∧ Owns (gs + 1) w'.heap.size w' (lrowQ M) ∧ Aparts (lrowQ M) ∧ w'.heap[gl]? = some (.cells (r3 Sx a0) 29 (0, 0)) ∧ w'.heap[go]? = some (.cells #[.bool false, .slice none 0 0, .slice none 0 0, .bool false, .slice none 0 0, .slice none 0 0, .bool false, .slice none 0 0, .slice none 0 0, .bool false, .slice none 0 0, .slice none 0 0, .bool false, .slice none 0 0, .slice none 0 0, .bool false, .slice none 0 0, .slice none 0 0, .bool false, .slice none 0 0, .slice none 0 0, .bool false, .slice none 0 0, .slice none 0 0, .bool false, .slice none 0 0, .slice none 0 0] 100 (0, 0)) ∧ Owns lo gl w' (rows Sx a0) ∧ Below w.heap.size w w') (fun k _ => 3 - (intOf k).toNat)
  case atStart => exact ⟨0, [], by omega, rfl, rfl, H9A.out.2.symm, (fun p hp => by cases hp), P_s, Owns.nil _ _ _, Aparts.nil, P_l, P_o, o0, kb⟩
  case round =>
    clear P_s P_l P_o o0 kb
    obtain ⟨i, M, hi, rfl, hM, hd, hcap, P_s, hOl, hap, P_l, P_o, ol, kb⟩ := hrel
    by_cases hli : i < 3
    · have hi0 : (0 : Int) ≤ (i : Int) := by omega
      have hi1 : (i : Int) < 3 := by omega
      go_wp2_with fail
      go_loopw [12] (fun k w' => ∃ (j : Nat) (M : List RV), j ≤ 3 ∧ k = .int .i64 (j : Int) ∧ M.length = 3 * i + j ∧ datQ M = D9.take (3 * i + j) ∧ (∀ p, p ∈ M → CapQ p) ∧ w'.heap[gs]? = some (.cells (flatQ (M ++ List.replicate (9 - (3 * i + j)) RV0)).toArray 100 (0, 0)) ∧ Owns (gs + 1) w'.heap.size w' (lrowQ M) ∧ Aparts (lrowQ M) ∧ w'.heap[gl]? = some (.cells (r3 Sx a0) 29 (0, 0)) ∧ w'.heap[go]? = some (.cells #[.bool false, .slice none 0 0, .slice none 0 0, .bool false, .slice none 0 0, .slice none 0 0, .bool false, .slice none 0 0, .slice none 0 0, .bool false, .slice none 0 0, .slice none 0 0, .bool false, .slice none 0 0, .slice none 0 0, .bool false, .slice none 0 0, .slice none 0 0, .bool false, .slice none 0 0, .slice none 0 0, .bool false, .slice none 0 0, .slice none 0 0, .bool false, .slice none 0 0, .slice none 0 0] 100 (0, 0)) ∧ Owns lo gl w' (rows Sx a0) ∧ Below w.heap.size w w') (fun k _ => 3 - (intOf k).toNat)
      case atStart => exact ⟨0, M, by omega, rfl, hM, hd, hcap, P_s, hOl, hap, P_l, P_o, ol, kb⟩
      case round =>
        clear P_s P_l P_o ol kb hOl hap hM hd hcap
        obtain ⟨j, M, hj, rfl, hM, hd, hcap, P_s, hOl, hap, P_l, P_o, ol, kb⟩ := hrel
        have HF := Lib.hid (And.intro hM (And.intro hd hcap))
        clear hM hd hcap
        by_cases hlt : j < 3
        · have hj0 : (0 : Int) ≤ (j : Int) := by omega
          have hj1 : (j : Int) < 3 := by omega
          obtain ⟨n, hn⟩ : ∃ n, 9 - (3 * i + j) = n + 1 := ⟨8 - (3 * i + j), by omega⟩
          have HNn : Hid (9 - (3 * i + (j + 1)) = n ∧ j < 3 ∧ i * 9 + j * 3 = (3 * i + j) * 3) := Lib.hid ⟨by omega, hlt, by omega⟩
          rw [hn] at P_s
          clear hn
          have HSj := Lib.hid (HS.out i j)
          have HTj := Lib.hid (HT.out i j)
          have HUV := Lib.hid (H9.out i j hli hlt)
          generalize Sh i j = Sj at HSj HTj
          generalize Fx i j = Fj at HTj HUV
          go_wp2_with fail
          have hb : Below wr.heap.size wr wr.drew := (Below.refl _ _).drew
          replace P_s := rblk_below P_s hb
          replace P_o := rblk_below P_o hb
          replace hOl := (hOl.below hb).wide (Nat.le_refl _) hb.size
          replace ol := ol.below hb
          replace kb := bt kb hb
          clear hb
          refine wp_region_held_drew (S := fun w' => w'.heap[gl]? = some (.cells (r3 Sx a0) 29 (0, 0))) (by kernel_rfl) (P_l) (fun hHeld => ?_)
          clear P_l
          generalize wr.drew = Wd at *
          refine tk (i := 0) (v := ?vg1_1) rfl (by kernel_rfl) (fun _ _ _ h => h) (Or.inl ⟨by rfl, ?hg1_1⟩) hHeld ?_
          case hg1_1 => (intro w hSw; (try dsimp only at hSw); go_simp; (try with_reducible rfl))
          try simp only [ps]
          refine tk (i := 1) (v := ?vg1_2) rfl (by kernel_rfl) (fun _ _ _ h => h) (Or.inl ⟨by rfl, ?hg1_2⟩) hHeld ?_
          case hg1_2 => (intro w hSw; (try dsimp only at hSw); go_simp; (try with_reducible rfl))
          try simp only [ps]
          refine tk (i := 2) (v := ?vg1_3) rfl (by kernel_rfl) (fun _ _ _ h => h) (Or.inl ⟨by rfl, ?hg1_3⟩) hHeld ?_
          case hg1_3 => (intro w hSw; (try dsimp only at hSw); have t0 := rblk_cell hSw 0; have t1 := rblk_cell hSw 1; have t2 := rblk_cell hSw 2; go_simp; (try with_reducible rfl))
          try simp only [ps]
          refine tk (i := 3) (v := ?vg1_4) rfl (by kernel_rfl) (fun _ _ _ h => h) (Or.inl ⟨by rfl, ?hg1_4⟩) hHeld ?_
          case hg1_4 => (intro w hSw; (try dsimp only at hSw); go_simp; (try with_reducible rfl))
          try simp only [ps]
          refine tk (i := 4) (v := ?vg1_5) rfl (by kernel_rfl) (fun _ _ _ h => h) (Or.inl ⟨by rfl, ?hg1_5⟩) hHeld ?_
          case hg1_5 => (intro w hSw; (try dsimp only at hSw); go_simp; (try with_reducible rfl))
          try simp only [ps]
          refine tk (i := 7) (v := .pointer (some ⟨gs, i * 9, none⟩)) rfl (by kernel_rfl) (fun _ _ _ h => h) (Or.inl ⟨by rfl, ?hg1_6⟩) hHeld ?_
          case hg1_6 => (intro w hSw; (try dsimp only at hSw); go_simp; (try rfl))
          try simp only [ps]
          refine rd1 (i := 5) (by kernel_rfl) rfl (fun K hK => ?_)
          go_simp
          (go_at_call 152; ((with_reducible refine (HSj.out _).mono ?_); rintro e Wr1_7 ⟨a1, rfl, hx1, hy1, o1, hap1, hb⟩))
          refine hK.out _ _ (rblk_below hHeld hb) (fun hH => ?_)
          replace hHeld := hH
          clear hK K hH
          replace P_s := rblk_below P_s hb
          replace P_o := rblk_below P_o hb
          replace hOl := (hOl.below hb).wide (Nat.le_refl _) hb.size
          replace ol := ol.below hb
          replace kb := bt kb hb
          clear hap1 hx1 hy1
          clear hb
          try simp only [ps]
          refine rd1 (i := 6) (by kernel_rfl) rfl (fun K hK => ?_)
          have hgz := rblk_lt P_s
          go_simp
          (go_at_call 140; ((with_reducible refine (HTj.out _ _ _ ol.rds o1.rds).mono ?_); rintro e Wo ⟨a3, rfl, hcx, hcy, o3, hap3, hb⟩))
          have QO2 := hOl
          refine hK.out _ _ (rblk_below hHeld hb) (fun hH => ?_)
          replace hHeld := hH
          clear hK K hH
          replace P_s := rblk_below P_s hb
          replace P_o := rblk_below P_o hb
          replace hOl := (hOl.below hb).wide (Nat.le_refl _) hb.size
          replace ol := ol.below hb
          replace kb := bt kb hb
          replace o1 := o1.below hb
          have o3w := o3.wide (lo' := gs + 1) hgz (Nat.le_refl _)
          have A2 := Aparts.app hap hap3 QO2 o3
          clear hb o1 QO2 o3 hap hap3
          try simp only [ps]
          refine tk (i := 8) (v := .pointer (some ⟨gs, i * 9 + j * 3, none⟩)) rfl (by kernel_rfl) (fun _ _ _ h => h) (Or.inl ⟨by rfl, ?hg1_9⟩) hHeld ?_
          case hg1_9 => (intro w hSw; (try dsimp only at hSw); go_simp; (try rfl))
          try simp only [ps]
          refine rd1 (i := 9) (by kernel_rfl) rfl (fun K hK => ?_)
          rw [if_pos (by rfl)]
          refine wp_store_at 29 (.tmp 23) (.tmp 21) rfl gs (i * 9 + j * 3) (r3 Fj a3) rfl rfl 100 _ P_s ratq_size (row_holdQ HF.out.1 HNn.out.2.2) (by simp [Value.oneCell', p18, r3, z3]) ?_
          obtain ⟨cs, ecs, P_s2⟩ := row_exQ (n := n) HF.out.1 HNn.out.2.2 P_s ⟨Fj, a3⟩
          rw [ecs]
          clear ecs
          have ngo : gs ≠ go := by have := HG.out.2.1; omega
          have ngl : gs ≠ gl := by have := HG.out.2.2.2.2; omega
          have z3 : (Wo.setRow gs cs).heap.size = Wo.heap.size := setRow_size _ _ _
          have O3 := (hOl.setRow (g := gs) (.inl (Nat.lt_succ_self _)) cs).app (o3w.setRow (g := gs) (.inl (Nat.lt_succ_self _)) cs)
          have Q3 := ol.setRow (g := gs) (.inl HG.out.2.2.1) cs
          have k3 := below_setRow kb (show w.heap.size ≤ gs by have := HG.out.1; omega) cs
          replace P_o := rowV_other P_o ngo cs
          refine hK.out _ _ (rowV_other hHeld ngl cs) (fun hH => ?_)
          replace hHeld := hH
          clear hK K hH P_s ol hOl kb o3w ngo ngl
          rw [← z3] at O3
          clear z3
          generalize Wo.setRow gs cs = Ws at hHeld P_s2 P_o O3 Q3 k3  ⊢
          try simp only [ps]
          refine wpAnyH_done (by kernel_rfl) ?_ _
          have HR := Lib.hid (And.intro P_s2 (And.intro O3 (And.intro hHeld (And.intro P_o (And.intro Q3 k3)))))
          have HA2 := Lib.hid (And.intro A2 (And.intro hcx hcy))
          clear P_s2 O3 hHeld P_o Q3 k3 A2 hcx hcy
          go_wp2
          go_roundw
          case rel => exact ⟨j + 1, M ++ [⟨Fj, a3⟩], HNn.out.2.1, by go_num, by rw [List.length_append, HF.out.1]; rfl, by rw [datQ_app, HF.out.2.1]; exact HUV.out.symm, cap_apq (q := ⟨Fj, a3⟩) HF.out.2.2 HA2.out.2, by rw [HNn.out.1]; exact HR.out.1, by rw [lrowQ_app, lrowQ_one]; exact HR.out.2.1, by rw [lrowQ_app, lrowQ_one]; exact HA2.out.1, HR.out.2.2.1, HR.out.2.2.2.1, HR.out.2.2.2.2.1, HR.out.2.2.2.2.2⟩
          case measure => simp [intOf]; omega
        · obtain rfl : j = 3 := by omega
          have HE := Lib.hid (And.intro HF.out.1 (And.intro HF.out.2.1 (And.intro HF.out.2.2 (And.intro P_s (And.intro hOl (And.intro hap (And.intro P_l (And.intro P_o (And.intro ol kb)))))))))
          clear P_s hOl hap P_l P_o ol kb HF
          go_wp2
          go_roundw
          case rel => exact ⟨i + 1, M, hli, by go_num, HE.out.1, HE.out.2.1, HE.out.2.2.1, HE.out.2.2.2.1, HE.out.2.2.2.2.1, HE.out.2.2.2.2.2.1, HE.out.2.2.2.2.2.2.1, HE.out.2.2.2.2.2.2.2.1, HE.out.2.2.2.2.2.2.2.2.1, HE.out.2.2.2.2.2.2.2.2.2⟩
          case measure => simp [intOf]; omega
    · obtain rfl : i = 3 := by omega
      have P_s : wr.heap[gs]? = some (.cells (flatQ M).toArray 100 (0, 0)) := by
        have e : M ++ List.replicate (9 - 3 * 3) RV0 = M := List.append_nil M
        rw [e] at P_s; exact P_s
      have hsz : (flatQ M).toArray.size = 27 := by rw [List.size_toArray, flatQ_length, hM]
      have hM9 : M.length = 9 := hM
      have HR : Hid (M.length = 9 ∧ datQ M = D9 ∧ (∀ p, p ∈ M → CapQ p) ∧ (∀ cs, Owns w.heap.size (wr.setRow go cs).heap.size (wr.setRow go cs) (lrowQ M)) ∧ Aparts (lrowQ M) ∧ Below w.heap.size w wr) := Lib.hid ⟨hM, by rw [hd]; exact H9A.out.1, hcap, fun cs => by rw [setRow_size]; exact (hOl.setRow (g := go) (.inl (by have := HG.out.2.1; omega)) cs).wide (by have := HG.out.1; omega) (Nat.le_refl _), hap, kb⟩
      have h1c : (flatQ M).toArray.all (·.oneCell') = true := flatQ_one1 M
      have hgo : w.heap.size ≤ go := by have := HG.out.2.2.2.1; omega
      generalize hC : (flatQ M).toArray = C at P_s hsz h1c
      have hz27 : (Tryz.prog.info? 100).map (·.size) = some C.size := by rw [hsz]; exact m9_size
      have hld := cells_row P_s
      have HC := Lib.hid hC
      clear hOl hap P_l ol kb hC hM hd hcap hM9
      go_wp2_with (first | refine wpList_load_at rfl 100 (.tmp 3) rfl gs 0 C rfl m9_agg (run_size hz27) hld ?_ | refine wpList_store_row rfl 100 (.tmp 2) (.tmp 26) rfl go C rfl rfl 100 _ P_o hz27 hsz.symm h1c ?_)
      exact bodyPost_ret (v := .agg C) (results_row Tryz.results86 _ _ go C rfl m9_agg (run_size hz27) (rowV_set P_o _)) rfl ⟨M, by rw [HC.out], HR.out.1, HR.out.2.1, HR.out.2.2.1, HR.out.2.2.2.1 _, HR.out.2.2.2.2.1, below_setRow HR.out.2.2.2.2.2 hgo _⟩
end Go.Proofs.YtppdholccpgcpaaGreat
