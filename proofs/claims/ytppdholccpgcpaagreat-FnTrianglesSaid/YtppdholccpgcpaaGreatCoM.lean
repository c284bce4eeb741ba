/-
  The program's barycentric coordinates of a point: an array of three fractions.
-/
import Derived.Test.YtppdholccpgcpaaGreatLawP
import Derived.Test.YtppdholccpgcpaaGreatArQ
import Derived.Test.YtppdholccpgcpaaGreatBaryR
import Derived.Test.YtppdholccpgcpaaGreatTriI
import Derived.Test.YtppdholccpgcpaaGreatTk
namespace Go.Proofs.YtppdholccpgcpaaGreat
open Go.ChangeShapes Go.WideShapes Go.ChangeAt Go.RowKit
set_option linter.unusedVariables false
set_option linter.unusedSimpArgs false
set_option maxRecDepth 4000
def rep (p q r u : PV) : Nat → PV × PV × PV
  | 0 => (u, q, r)
  | 1 => (p, u, r)
  | _ => (p, q, u)
def repA (p q r u : PV) (j : Nat) : Option Rat := aV (rep p q r u j).1 (rep p q r u j).2.1 (rep p q r u j).2.2
def cO (p q r u : PV) (j : Nat) : Option Rat := binQ quoQ (repA p q r u j) (aV p q r)
theorem cO_fit (p q r u : PV) (j : Nat) : FitO (cO p q r u j) := FitO.bin (F := quoQ) (fun r s t h => by
  unfold quoQ at h
  by_cases h0 : s.num = 0
  · rw [if_pos h0] at h; cases h
  · rw [if_neg h0] at h; exact cutQ_fit h) _ _
def cD (p q r u : PV) : List R3 := [ofO (cO p q r u 0), ofO (cO p q r u 1), ofO (cO p q r u 2)]
theorem three_takeQ (U : Nat → R3) {j : Nat} (h : j < 3) : [U 0, U 1, U 2].take (j + 1) = [U 0, U 1, U 2].take j ++ [U j] := by
  have : j = 0 ∨ j = 1 ∨ j = 2 := by omega
  rcases this with rfl | rfl | rfl <;> rfl
theorem three_rv {M : List RV} (h : M.length = 3) : ∃ a b c, M = [a, b, c] := by
  match M, h with
  | [a, b, c], _ => exact ⟨a, b, c, rfl⟩
def MadeQ3 (B : Nat) (D : List R3) (w : World) (e : Ending) (w' : World) : Prop :=
  ∃ M : List RV, e = .returned (.agg (flatQ M).toArray) ∧ M.length = 3 ∧ datQ M = D ∧ (∀ p, p ∈ M → CapQ p) ∧ Owns B w'.heap.size w' (lrowQ M) ∧ Aparts (lrowQ M) ∧ Below w.heap.size w w'
attribute [local go_sem ↓] Go.wp_at_zero Go.wp_at_succ
set_option maxHeartbeats 4000000 in
theorem coordinates_m (p q r u : PV) (w : World) (h : TriOk w p q r) (nu : NiceP u) (hu : Rds w (prow u)) :
    Calls Tryz.prog 64 #[.agg (p18 p q r), .agg (p6 u)] w (MadeQ3 w.heap.size (cD p q r u) w) := by
  have RT : Hid (∀ W, Below w.heap.size w W → TriOk W p q r) := Lib.hid (fun W hB => h.below hB)
  have RU : Hid (∀ W, Below w.heap.size w W → Rds W (prow u)) := Lib.hid (fun W hB => hu.below hB)
  have HA := Lib.hid (fun W hB => tarea p q r W (RT.out W hB))
  have HR : Hid (∀ (j : Nat), j < 3 → ∀ W, Calls Tryz.prog 130 #[.agg (p18 p q r), .int .i64 (j : Int), .agg (p6 u)] W (fun e w' => e = .returned (.agg (p18 (rep p q r u j).1 (rep p q r u j).2.1 (rep p q r u j).2.2)) ∧ Below W.heap.size W w')) := Lib.hid (fun j hj W => by
    have : j = 0 ∨ j = 1 ∨ j = 2 := by omega
    rcases this with rfl | rfl | rfl
    · exact replaced_0 p q r u W
    · exact replaced_1 p q r u W
    · exact replaced_2 p q r u W)
  have HB : Hid (∀ (j : Nat), j < 3 → ∀ W, Below w.heap.size w W → Calls Tryz.prog 129 #[.agg (p18 (rep p q r u j).1 (rep p q r u j).2.1 (rep p q r u j).2.2)] W (MadeQ W.heap.size (ofO (repA p q r u j)) W)) := Lib.hid (fun j hj W hB => by
    have h1 := RT.out W hB
    have h2 := RU.out W hB
    have : j = 0 ∨ j = 1 ∨ j = 2 := by omega
    rcases this with rfl | rfl | rfl
    · exact tarea u q r W ⟨⟨nu, h1.1.2.1, h1.1.2.2⟩, h2, h1.2.2.1, h1.2.2.2⟩
    · exact tarea p u r W ⟨⟨h1.1.1, nu, h1.1.2.2⟩, h1.2.1, h2, h1.2.2.2⟩
    · exact tarea p q u W ⟨⟨h1.1.1, h1.1.2.1, nu⟩, h1.2.1, h1.2.2.1, h2⟩)
  have HO : Hid (∀ (j : Nat) (a b : Ad) W, Rds W (rows (ofO (repA p q r u j)) a) → Rds W (rows (ofO (aV p q r)) b) → Calls Tryz.prog 131 #[.agg (r3 (ofO (repA p q r u j)) a), .agg (r3 (ofO (aV p q r)) b)] W (MadeQ W.heap.size (ofO (cO p q r u j)) W)) := Lib.hid (fun j a b W h h' => over_r (repA p q r u j) (aV p q r) a b W (aV_fit _ _ _) (aV_fit _ _ _) h h')
  unfold cD
  obtain ⟨X, hX⟩ : ∃ X : Nat → R3, X = fun j => ofO (repA p q r u j) := ⟨_, rfl⟩
  obtain ⟨U, hU⟩ : ∃ U : Nat → R3, U = fun j => ofO (cO p q r u j) := ⟨_, rfl⟩
  simp only [← congrFun hX] at HB HO
  simp only [← congrFun hU] at HO ⊢
  obtain ⟨rp, hrp⟩ : ∃ f : Nat → PV × PV × PV, f = rep p q r u := ⟨_, rfl⟩
  rw [← hrp] at HR HB
  clear hX hU hrp h nu hu RT RU
  generalize ofO (aV p q r) = Sx at HA HO
  have GT : Hid (∀ j : Nat, j < 3 → [U 0, U 1, U 2].take (j + 1) = [U 0, U 1, U 2].take j ++ [U j]) := Lib.hid (fun j hj => three_takeQ U hj)
  have G3 : Hid ([U 0, U 1, U 2].take 3 = [U 0, U 1, U 2]) := Lib.hid rfl
  have G0 : Hid ([U 0, U 1, U 2].take 0 = []) := Lib.hid rfl
  generalize [U 0, U 1, U 2] = GD at GT G3 G0 ⊢
  unfold MadeQ at HA HB HO
  obtain ⟨P_t, P_u, P_o⟩ := blocks3 w (.cells (p18 p q r) 81) (.cells (p6 u) 31) (.cells #[.bool false, .slice none 0 0, .slice none 0 0, .bool false, .slice none 0 0, .slice none 0 0, .bool false, .slice none 0 0, .slice none 0 0] 79)
  have P_s := heap_alloc_new (((w.alloc (.cells (p18 p q r) 81)).alloc (.cells (p6 u) 31)).alloc (.cells #[.bool false, .slice none 0 0, .slice none 0 0, .bool false, .slice none 0 0, .slice none 0 0, .bool false, .slice none 0 0, .slice none 0 0] 79)) (.cells #[.bool false, .slice none 0 0, .slice none 0 0, .bool false, .slice none 0 0, .slice none 0 0, .bool false, .slice none 0 0, .slice none 0 0] 79)
  have hb4 := ba1 (((w.alloc (.cells (p18 p q r) 81)).alloc (.cells (p6 u) 31)).alloc (.cells #[.bool false, .slice none 0 0, .slice none 0 0, .bool false, .slice none 0 0, .slice none 0 0, .bool false, .slice none 0 0, .slice none 0 0] 79)) (.cells #[.bool false, .slice none 0 0, .slice none 0 0, .bool false, .slice none 0 0, .slice none 0 0, .bool false, .slice none 0 0, .slice none 0 0] 79)
  have kb := bt (ba3 w (.cells (p18 p q r) 81) (.cells (p6 u) 31) (.cells #[.bool false, .slice none 0 0, .slice none 0 0, .bool false, .slice none 0 0, .slice none 0 0, .bool false, .slice none 0 0, .slice none 0 0] 79)) hb4
  replace P_t := rblk_below P_t hb4
  replace P_u := rblk_below P_u hb4
  replace P_o := rblk_below P_o hb4
  have e3 : (((w.alloc (.cells (p18 p q r) 81)).alloc (.cells (p6 u) 31)).alloc (.cells #[.bool false, .slice none 0 0, .slice none 0 0, .bool false, .slice none 0 0, .slice none 0 0, .bool false, .slice none 0 0, .slice none 0 0] 79)).heap.size = w.heap.size + 1 + 1 + 1 := by rw [sz1, sz1, sz1]
  rw [e3] at P_s
  clear hb4 e3
  go_enter Tryz.func64, Tryz.ntmps64
  go_upto_region 2 with fail
  generalize (((w.alloc (.cells (p18 p q r) 81)).alloc (.cells (p6 u) 31)).alloc (.cells #[.bool false, .slice none 0 0, .slice none 0 0, .bool false, .slice none 0 0, .slice none 0 0, .bool false, .slice none 0 0, .slice none 0 0] 79)).alloc (.cells #[.bool false, .slice none 0 0, .slice none 0 0, .bool false, .slice none 0 0, .slice none 0 0, .bool false, .slice none 0 0, .slice none 0 0] 79) = W1 at P_t P_u P_o P_s kb ⊢
  have HG0 : Hid (w.heap.size + 1 + 1 + 1 < W1.heap.size) := Lib.hid (rblk_lt P_s)
  have HGS : Hid (w.heap.size < w.heap.size + 1 + 1 + 1 ∧ w.heap.size + 1 + 1 < w.heap.size + 1 + 1 + 1 ∧ w.heap.size < w.heap.size + 1 + 1 ∧ w.heap.size + 1 < w.heap.size + 1 + 1 + 1 ∧ w.heap.size < w.heap.size + 1) := Lib.hid (by omega)
  have P_s : W1.heap[w.heap.size + 1 + 1 + 1]? = some (.cells (flatQ ([] ++ List.replicate (3 - 0) RV0)).toArray 79 (0, 0)) := P_s
  generalize hgs : w.heap.size + 1 + 1 + 1 = gs at P_s HG0 HGS ⊢
  generalize hgo : w.heap.size + 1 + 1 = go at P_o HGS ⊢
  generalize hgu : w.heap.size + 1 = gu at P_u HGS ⊢
  clear hgs hgo hgu
  have hld := cells_row P_t
  go_wp2_with (first | refine wpList_load_at rfl 81 (.tmp 2) rfl (w.heap.size) 0 (p18 p q r) rfl tri_agg (run_size tri_size) hld ?_)
  clear hld
  refine (HA.out _ kb).mono ?_
  rintro e W5 ⟨a0, rfl, hx0, hy0, o0, hap0, hb⟩
  replace P_t := rblk_below P_t hb
  replace P_u := rblk_below P_u hb
  replace P_o := rblk_below P_o hb
  replace P_s := rblk_below P_s hb
  replace kb := bt kb hb
  have hs5 := hb.size
  clear hb hap0 hx0 hy0
  have P_l := heap_alloc_new W5 (.cells (r3 Sx a0) 29)
  have hb := ba1 W5 (.cells (r3 Sx a0) 29)
  replace P_t := rblk_below P_t hb
  replace P_u := rblk_below P_u hb
  replace P_o := rblk_below P_o hb
  replace P_s := rblk_below P_s hb
  replace o0 := o0.below hb
  replace kb := bt kb hb
  clear hb
  obtain ⟨W6, hW6⟩ : ∃ W, W = W5.alloc (.cells (r3 Sx a0) 29) := ⟨_, rfl⟩
  rw [← hW6] at P_l P_t P_u P_o P_s o0 kb
  go_wp2_with (first | rw [← hW6] | fail)
  clear hW6
  have HG : Hid (w.heap.size < gs ∧ go < gs ∧ gs < W1.heap.size ∧ w.heap.size < go ∧ gs < W5.heap.size ∧ gu < gs ∧ w.heap.size < gu) := Lib.hid ⟨HGS.out.1, HGS.out.2.1, HG0.out, HGS.out.2.2.1, Nat.lt_of_lt_of_le HG0.out hs5, HGS.out.2.2.2.1, HGS.out.2.2.2.2⟩
  generalize hlo : W1.heap.size = lo at o0 HG
  generalize W5.heap.size = gl at P_l o0 HG ⊢
  clear hs5 HG0 HGS hlo
  go_loopw [10] (fun k w' => ∃ (j : Nat) (M : List RV), j ≤ 3 ∧ k = .int .i64 (j : Int) ∧ M.length = j ∧ datQ M = GD.take j ∧ (∀ p, p ∈ M → CapQ p) ∧ w'.heap[gs]? = some (.cells (flatQ (M ++ List.replicate (3 - j) RV0)).toArray 79 (0, 0)) ∧ Owns (gs + 1) w'.heap.size w' (lrowQ M) ∧ Aparts (lrowQ M) ∧ w'.heap[gl]? = some (.cells (r3 Sx a0) 29 (0, 0)) ∧ w'.heap[w.heap.size]? = some (.cells (p18 p q r) 81 (0, 0)) ∧ w'.heap[gu]? = some (.cells (p6 u) 31 (0, 0)) ∧ w'.heap[go]? = some (.cells #[.bool false, .slice none 0 0, .slice none 0 0, .bool false, .slice none 0 0, .slice none 0 0, .bool false, .slice none 0 0, .slice none 0 0] 79 (0, 0)) ∧ Owns lo gl w' (rows Sx a0) ∧ Below w.heap.size w w') (fun k _ => 3 - (intOf k).toNat)
  case atStart => exact ⟨0, [], by omega, rfl, rfl, G0.out.symm, (fun p hp => by cases hp), P_s, Owns.nil _ _ _, Aparts.nil, P_l, P_t, P_u, P_o, o0, kb⟩
  case round =>
    clear P_s P_l P_t P_u P_o o0 kb
    obtain ⟨j, M, hj, rfl, hM, hd, hcap, P_s, hOl, hap, P_l, P_t, P_u, P_o, ol, kb⟩ := hrel
    have HF := Lib.hid (And.intro hM (And.intro hd hcap))
    clear hM hd hcap
    by_cases hlt : j < 3
    · have hi0 : (0 : Int) ≤ (j : Int) := by omega
      have hi1 : (j : Int) < 3 := by omega
      obtain ⟨n, hn⟩ : ∃ n, 3 - j = n + 1 := ⟨2 - j, by omega⟩
      have HNn : Hid (3 - (j + 1) = n ∧ j < 3) := Lib.hid ⟨by omega, hlt⟩
      rw [hn] at P_s
      clear hn
      have HRj := Lib.hid (HR.out j hlt)
      have HBj := Lib.hid (HB.out j hlt)
      have HOj := Lib.hid (HO.out j)
      generalize rp j = t3 at HRj HBj
      obtain ⟨t1, t2, t3⟩ := t3
      dsimp only at HRj HBj
      generalize X j = Xj at HBj HOj
      obtain ⟨Uj, hUj⟩ : ∃ x, x = U j := ⟨_, rfl⟩
      rw [← hUj] at HOj
      have HUV : Hid (GD.take (j + 1) = GD.take j ++ [Uj]) := Lib.hid (by rw [hUj]; exact GT.out j hlt)
      clear hUj
      go_wp2_with fail
      have hb : Below wr.heap.size wr wr.drew := (Below.refl _ _).drew
      replace P_s := rblk_below P_s hb
      replace P_o := rblk_below P_o hb
      replace hOl := (hOl.below hb).wide (Nat.le_refl _) hb.size
      replace ol := ol.below hb
      replace kb := bt kb hb
      clear hb
      refine wp_region_held_drew (S := fun w' => w'.heap[w.heap.size]? = some (.cells (p18 p q r) 81 (0, 0)) ∧ w'.heap[gl]? = some (.cells (r3 Sx a0) 29 (0, 0)) ∧ w'.heap[gu]? = some (.cells (p6 u) 31 (0, 0))) (by kernel_rfl) ⟨P_t, P_l, P_u⟩ (fun hHeld => ?_)
      clear P_t P_l P_u
      generalize wr.drew = Wd at *
      refine tk (i := 0) (v := ?vg1_1) rfl (by kernel_rfl) (fun _ _ _ h => h) (Or.inl ⟨by rfl, ?hg1_1⟩) hHeld ?_
      case hg1_1 => (intro w hSw; (try dsimp only at hSw); go_simp; (try with_reducible rfl))
      try simp only [ps]
      refine tk (i := 1) (v := .agg (p18 p q r)) rfl (by kernel_rfl) (fun _ _ _ h => h) (yieldsIf_load_mid (by rfl) 81 (.tmp 2) rfl (w.heap.size) 0 rfl [.bool p.x.p, .slice p.a.A p.x.l.length p.a.c, .slice p.a.D p.x.m.length p.a.d, .bool p.y.p, .slice p.b.A p.y.l.length p.b.c, .slice p.b.D p.y.m.length p.b.d, .bool q.x.p, .slice q.a.A q.x.l.length q.a.c, .slice q.a.D q.x.m.length q.a.d, .bool q.y.p, .slice q.b.A q.y.l.length q.b.c, .slice q.b.D q.y.m.length q.b.d, .bool r.x.p, .slice r.a.A r.x.l.length r.a.c, .slice r.a.D r.x.m.length r.a.d, .bool r.y.p, .slice r.b.A r.y.l.length r.b.c, .slice r.b.D r.y.m.length r.b.d] _ (fun w hSw => range_row hSw.1) Tryz.underlying81 rfl tri_size) hHeld ?_
      try simp only [ps]
      refine tk (i := 2) (v := ?vg1_3) rfl (by kernel_rfl) (fun _ _ _ h => h) (Or.inl ⟨by rfl, ?hg1_3⟩) hHeld ?_
      case hg1_3 => (intro w hSw; (try dsimp only at hSw); go_simp; (try with_reducible rfl))
      try simp only [ps]
      refine tk (i := 3) (v := ?vg1_4) rfl (by kernel_rfl) (fun _ _ _ h => h) (Or.inl ⟨by rfl, ?hg1_4⟩) hHeld ?_
      case hg1_4 => (intro w hSw; (try dsimp only at hSw); have t0 := rblk_cell hSw.2.2 0; have t1 := rblk_cell hSw.2.2 1; have t2 := rblk_cell hSw.2.2 2; have t3 := rblk_cell hSw.2.2 3; have t4 := rblk_cell hSw.2.2 4; have t5 := rblk_cell hSw.2.2 5; go_simp; (try with_reducible rfl))
      try simp only [ps]
      refine tk (i := 6) (v := ?vg1_5) rfl (by kernel_rfl) (fun _ _ _ h => h) (Or.inl ⟨by rfl, ?hg1_5⟩) hHeld ?_
      case hg1_5 => (intro w hSw; (try dsimp only at hSw); have t0 := rblk_cell hSw.2.1 0; have t1 := rblk_cell hSw.2.1 1; have t2 := rblk_cell hSw.2.1 2; go_simp; (try with_reducible rfl))
      try simp only [ps]
      refine rd1 (i := 4) (by kernel_rfl) rfl (fun K hK => ?_)
      go_simp
      (go_at_call 130; ((with_reducible refine (HRj.out _).mono ?_); rintro e Wr1_6 ⟨rfl, hb⟩))
      refine hK.out _ _ ⟨rblk_below hHeld.1 hb, rblk_below hHeld.2.1 hb, rblk_below hHeld.2.2 hb⟩ (fun hH => ?_)
      replace hHeld := hH
      clear hK K hH
      replace P_s := rblk_below P_s hb
      replace P_o := rblk_below P_o hb
      replace hOl := (hOl.below hb).wide (Nat.le_refl _) hb.size
      replace ol := ol.below hb
      replace kb := bt kb hb
      clear hb
      try simp only [ps]
      refine rd1 (i := 5) (by kernel_rfl) rfl (fun K hK => ?_)
      go_simp
      (go_at_call 129; ((with_reducible refine (HBj.out _ kb).mono ?_); rintro e Wr1_7 ⟨a1, rfl, hx1, hy1, o1, hap1, hb⟩))
      refine hK.out _ _ ⟨rblk_below hHeld.1 hb, rblk_below hHeld.2.1 hb, rblk_below hHeld.2.2 hb⟩ (fun hH => ?_)
      replace hHeld := hH
      clear hK K hH
      replace P_s := rblk_below P_s hb
      replace P_o := rblk_below P_o hb
      replace hOl := (hOl.below hb).wide (Nat.le_refl _) hb.size
      replace ol := ol.below hb
      replace kb := bt kb hb
      clear hap1 hx1 hy1
      clear hb
      try simp only [ps]
      refine rd1 (i := 7) (by kernel_rfl) rfl (fun K hK => ?_)
      have hgz := rblk_lt P_s
      go_simp
      (go_at_call 131; ((with_reducible refine (HOj.out _ _ _ o1.rds ol.rds).mono ?_); rintro e Wo ⟨a3, rfl, hcx, hcy, o3, hap3, hb⟩))
      have QO2 := hOl
      refine hK.out _ _ ⟨rblk_below hHeld.1 hb, rblk_below hHeld.2.1 hb, rblk_below hHeld.2.2 hb⟩ (fun hH => ?_)
      replace hHeld := hH
      clear hK K hH
      replace P_s := rblk_below P_s hb
      replace P_o := rblk_below P_o hb
      replace hOl := (hOl.below hb).wide (Nat.le_refl _) hb.size
      replace ol := ol.below hb
      replace kb := bt kb hb
      replace o1 := o1.below hb
      have o3w := o3.wide (lo' := gs + 1) hgz (Nat.le_refl _)
      have A2 := Aparts.app hap hap3 QO2 o3
      clear hb o1 QO2 o3 hap hap3
      try simp only [ps]
      refine tk (i := 8) (v := .pointer (some ⟨gs, j * 3, none⟩)) rfl (by kernel_rfl) (fun _ _ _ h => h) (Or.inl ⟨by rfl, ?hg1_9⟩) hHeld ?_
      case hg1_9 => (intro w hSw; (try dsimp only at hSw); go_simp; (try rfl))
      try simp only [ps]
      refine rd1 (i := 9) (by kernel_rfl) rfl (fun K hK => ?_)
      rw [if_pos (by rfl)]
      refine wp_store_at 29 (.tmp 21) (.tmp 20) rfl gs (j * 3) (r3 Uj a3) rfl rfl 79 _ P_s ratq_size (row_holdQ HF.out.1 rfl) (by simp [Value.oneCell', p18, p6, r3, z3]) ?_
      obtain ⟨cs, ecs, P_s2⟩ := row_exQ (n := n) HF.out.1 rfl P_s ⟨Uj, a3⟩
      rw [ecs]
      clear ecs
      have ngt : gs ≠ w.heap.size := by have := HG.out; omega
      have ngo : gs ≠ go := by have := HG.out; omega
      have ngl : gs ≠ gl := by have := HG.out; omega
      have ngu : gs ≠ gu := by have := HG.out; omega
      have z3 : (Wo.setRow gs cs).heap.size = Wo.heap.size := setRow_size _ _ _
      have O3 := (hOl.setRow (g := gs) (.inl (Nat.lt_succ_self _)) cs).app (o3w.setRow (g := gs) (.inl (Nat.lt_succ_self _)) cs)
      have Q3 := ol.setRow (g := gs) (.inl HG.out.2.2.1) cs
      have k3 := below_setRow kb (show w.heap.size ≤ gs by have := HG.out.1; omega) cs
      replace P_o := rowV_other P_o ngo cs
      refine hK.out _ _ ⟨rowV_other hHeld.1 ngt cs, rowV_other hHeld.2.1 ngl cs, rowV_other hHeld.2.2 ngu cs⟩ (fun hH => ?_)
      replace hHeld := hH
      clear hK K hH P_s ol hOl kb o3w ngt ngo ngl ngu
      rw [← z3] at O3
      clear z3
      generalize Wo.setRow gs cs = Ws at hHeld P_s2 P_o O3 Q3 k3 ⊢
      try simp only [ps]
      refine wpAnyH_done (by kernel_rfl) ?_ _
      have HRz := Lib.hid (And.intro P_s2 (And.intro O3 (And.intro hHeld.2.1 (And.intro hHeld.1 (And.intro hHeld.2.2 (And.intro P_o (And.intro Q3 k3)))))))
      have HA2 := Lib.hid (And.intro A2 (And.intro hcx hcy))
      clear P_s2 O3 hHeld P_o Q3 k3 A2 hcx hcy
      go_wp2
      go_roundw
      case rel => exact ⟨j + 1, M ++ [⟨Uj, a3⟩], HNn.out.2, by go_num, by rw [List.length_append, HF.out.1]; rfl, by rw [datQ_app, HF.out.2.1]; exact HUV.out.symm, cap_apq (q := ⟨Uj, a3⟩) HF.out.2.2 HA2.out.2, by rw [HNn.out.1]; exact HRz.out.1, by rw [lrowQ_app, lrowQ_one]; exact HRz.out.2.1, by rw [lrowQ_app, lrowQ_one]; exact HA2.out.1, HRz.out.2.2.1, HRz.out.2.2.2.1, HRz.out.2.2.2.2.1, HRz.out.2.2.2.2.2.1, HRz.out.2.2.2.2.2.2.1, HRz.out.2.2.2.2.2.2.2⟩
      case measure => simp [intOf]; omega
    · obtain rfl : j = 3 := by omega
      have P_s : wr.heap[gs]? = some (.cells (flatQ M).toArray 79 (0, 0)) := by
        have e : M ++ List.replicate (3 - 3) RV0 = M := List.append_nil M
        rw [e] at P_s; exact P_s
      have hsz : (flatQ M).toArray.size = 9 := by rw [List.size_toArray, flatQ_length, HF.out.1]
      have HRz : Hid (datQ M = GD ∧ (∀ cs, Owns w.heap.size (wr.setRow go cs).heap.size (wr.setRow go cs) (lrowQ M)) ∧ Aparts (lrowQ M) ∧ Below w.heap.size w wr) := Lib.hid ⟨by rw [HF.out.2.1, G3.out], fun cs => by rw [setRow_size]; exact (hOl.setRow (g := go) (.inl (by have := HG.out.2.1; omega)) cs).wide (by have := HG.out.1; omega) (Nat.le_refl _), hap, kb⟩
      have h1c : (flatQ M).toArray.all (·.oneCell') = true := flatQ_one1 M
      have hgo : w.heap.size ≤ go := by have := HG.out.2.2.2.1; omega
      generalize hC : (flatQ M).toArray = C at P_s hsz h1c
      have hz9 : (Tryz.prog.info? 79).map (·.size) = some C.size := by rw [hsz]; exact r3_size
      have hld := cells_row P_s
      have HC := Lib.hid hC
      clear hOl hap P_l P_t P_u ol kb hC
      go_wp2_with (first | refine wpList_load_at rfl 79 (.tmp 5) rfl gs 0 C rfl r3_agg (run_size hz9) hld ?_ | refine wpList_store_row rfl 79 (.tmp 4) (.tmp 23) rfl go C rfl rfl 79 _ P_o hz9 hsz.symm h1c ?_)
      exact bodyPost_ret (v := .agg C) (results_row Tryz.results64 _ _ go C rfl r3_agg (run_size hz9) (rowV_set P_o _)) rfl ⟨M, by rw [HC.out], HF.out.1, HRz.out.1, HF.out.2.2, HRz.out.2.1 _, HRz.out.2.2.1, below_setRow HRz.out.2.2.2 hgo _⟩
end Go.Proofs.YtppdholccpgcpaaGreat
