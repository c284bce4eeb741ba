/-
  The program's stiffness matrix of a triangle: an array.
-/
import Derived.Test.YtppdholccpgcpaaGreatWp
import Derived.Test.YtppdholccpgcpaaGreatArQ
import Derived.Test.YtppdholccpgcpaaGreatPtJ
import Derived.Test.YtppdholccpgcpaaGreatTriI
import Derived.Test.YtppdholccpgcpaaGreatGrM
import Derived.Test.YtppdholccpgcpaaGreatFull
import Derived.Test.YtppdholccpgcpaaGreatWg
namespace Go.Proofs.YtppdholccpgcpaaGreat
open Go.ChangeShapes Go.WideShapes Go.ChangeAt Go.RowKit
open Go.ChangeMaps (open_string shut_string)
set_option linter.unusedVariables false
set_option linter.unusedSimpArgs false
set_option maxRecDepth 4000
attribute [local go_sem ↓] Go.wp_at_zero Go.wp_at_succ
@[reducible, go_sem] def z18 : Array Value := #[.bool false, .slice none 0 0, .slice none 0 0, .bool false, .slice none 0 0, .slice none 0 0, .bool false, .slice none 0 0, .slice none 0 0, .bool false, .slice none 0 0, .slice none 0 0, .bool false, .slice none 0 0, .slice none 0 0, .bool false, .slice none 0 0, .slice none 0 0]
theorem ecs18 (g0 g1 g2 : PV) : (z18.toList.take 0 ++ (((p18 g0 g1 g2) : Array Value).toList ++ z18.toList.drop (0 + ((p18 g0 g1 g2) : Array Value).size))).toArray = (p18 g0 g1 g2) := rfl
theorem leaf3 {B gl gg lo hi lo' hi' : Nat} {W0 W : World} {T : TypeId} {o0 o1 o2 : Value} {o : Obj} {rs rs' : List (Option Addr × List Value)} (hH : Below B W0 W) (hgl : B ≤ gl) (ne : gl ≠ gg) (P_l : W.heap[gl]? = some (.cells #[o0, o1, o2] T (0, 0))) (P_g : W.heap[gg]? = some o) (oA : Owns lo hi W rs) (oG : Owns lo' hi' W rs') (h1 : gl < lo ∨ hi ≤ gl) (h2 : gl < lo' ∨ hi' ≤ gl) (u0 u1 u2 : Value) :
    ∃ W', W' = ((W.setCell ⟨gl, 0, none⟩ u0).setCell ⟨gl, 1, none⟩ u1).setCell ⟨gl, 2, none⟩ u2 ∧ Below B W0 W' ∧ W'.heap[gl]? = some (.cells #[u0, u1, u2] T (0, 0)) ∧ W'.heap[gg]? = some o ∧ Owns lo hi W' rs ∧ Owns lo' hi' W' rs' ∧ W'.heap.size = W.heap.size :=
  ⟨_, rfl, below_put3 hH hgl u0 u1 u2, rblk_set (rblk_set (rblk_set P_l 0 u0) 1 u1) 2 u2, rblk_other (rblk_other (rblk_other P_g 0 u0 ne) 1 u1 ne) 2 u2 ne, owns_put3 (r := gl) oA h1 u0 u1 u2, owns_put3 (r := gl) oG h2 u0 u1 u2, size_put3 _ _ _ _ _⟩
def inD (x y : R3 × R3) : Option Rat := binQ addQ (binQ mulQ (valx x.1) (valx y.1)) (binQ mulQ (valx x.2) (valx y.2))
def dAt (G : List (R3 × R3)) (i : Nat) : R3 × R3 := (G[i]?).getD (noR, noR)
def kF (s : Option Rat) (G : List (R3 × R3)) (i j : Nat) : Option Rat := binQ mulQ s (inD (dAt G i) (dAt G j))
theorem kF_fit (s : Option Rat) (G : List (R3 × R3)) (i j : Nat) : FitO (kF s G i j) := binmul_fit _ _
theorem inD_fit (x y : R3 × R3) : FitO (inD x y) := binadd_fit _ _
theorem dAt_get {G : List (R3 × R3)} {i : Nat} {x : R3 × R3} (h : G[i]? = some x) : dAt G i = x := by unfold dAt; rw [h]; rfl
theorem blk3 {w : World} {g : Nat} {T : TypeId} {a b c : Value} (h : w.heap[g]? = some (.cells #[a, b, c] T (0, 0))) : (w.cell? ⟨g, 0, none⟩ = some a ∧ w.cell? ⟨g, 1, none⟩ = some b ∧ w.cell? ⟨g, 2, none⟩ = some c) ∧ w.frozen? ⟨g, 0, none⟩ = false ∧ w.frozen? ⟨g, 1, none⟩ = false ∧ w.frozen? ⟨g, 2, none⟩ = false :=
  ⟨⟨rblk_cell h 0, rblk_cell h 1, rblk_cell h 2⟩, rblk_free h 0, rblk_free h 1, rblk_free h 2⟩
def CutS (W1 : World) (Sx : R3) (GD : List (R3 × R3)) (v4 v5 : Value) (wx : World) : Prop :=
  ∃ (gl gg : Nat) (a0 : Ad) (g0 g1 g2 : PV), v4 = .pointer (some ⟨gl, 0, none⟩) ∧ v5 = .pointer (some ⟨gg, 0, none⟩) ∧ W1.heap.size ≤ gl ∧ W1.heap.size ≤ gg ∧ wx.heap[gl]? = some (.cells (r3 Sx a0) 29 (0, 0)) ∧ wx.heap[gg]? = some (.cells (p18 g0 g1 g2) 80 (0, 0)) ∧ dat [g0, g1, g2] = GD ∧ Owns W1.heap.size wx.heap.size wx (rows Sx a0) ∧ Owns W1.heap.size wx.heap.size wx (lrow [g0, g1, g2]) ∧ Below W1.heap.size W1 wx
set_option maxHeartbeats 8000000 in
theorem stiff_m (p q r : PV) (w : World) (h : TriOk w p q r) :
    Calls Tryz.prog 84 #[.agg (p18 p q r)] w (MadeM9 w.heap.size (nine (kF (aHalf p q r) (gD p q r))) w) := by
  have HA := Lib.hid (fun W (hB : Below w.heap.size w W) => show Calls Tryz.prog 91 #[.agg (p18 p q r)] W (MadeQ W.heap.size (ofO (aHalf p q r)) W) from area_m p q r W (h.below hB))
  have HG1 := Lib.hid (fun W (hB : Below w.heap.size w W) => gradients_m p q r W (h.below hB))
  have HNI := Lib.hid (gD_nice p q r)
  have HT : Hid (∀ (x y : R3 × R3) (a c : Ad) W, Rds W (rows (ofO (aHalf p q r)) a) → Rds W (rows (ofO (inD x y)) c) → Calls Tryz.prog 140 #[.agg (r3 (ofO (aHalf p q r)) a), .agg (r3 (ofO (inD x y)) c)] W (MadeQ W.heap.size (ofO (binQ mulQ (aHalf p q r) (inD x y))) W)) := Lib.hid (fun x y a c W h h' => times_r (aHalf p q r) (inD x y) a c W (binmul_fit _ _) (inD_fit _ _) h h')
  have H9 : Hid (∀ i j : Nat, i < 3 → j < 3 → (nine (kF (aHalf p q r) (gD p q r))).take (3 * i + j + 1) = (nine (kF (aHalf p q r) (gD p q r))).take (3 * i + j) ++ [ofO (binQ mulQ (aHalf p q r) (inD (dAt (gD p q r) i) (dAt (gD p q r) j)))]) := Lib.hid (fun i j hi hj => nine_take (kF (aHalf p q r) (gD p q r)) hi hj)
  have H9A := Lib.hid (nine_all (kF (aHalf p q r) (gD p q r)))
  clear h
  generalize nine (kF (aHalf p q r) (gD p q r)) = D9 at H9 H9A ⊢
  generalize gD p q r = GD at HG1 HNI H9
  generalize aHalf p q r = s at HA HT H9
  generalize hSx : ofO s = Sx at HA HT
  clear hSx
  unfold MadeQ at HA HT
  unfold MadeP3 at HG1
  obtain ⟨P_t, P_o, P_s⟩ := blocks3 w (.cells (p18 p q r) 81) (.cells #[.bool false, .slice none 0 0, .slice none 0 0, .bool false, .slice none 0 0, .slice none 0 0, .bool false, .slice none 0 0, .slice none 0 0, .bool false, .slice none 0 0, .slice none 0 0, .bool false, .slice none 0 0, .slice none 0 0, .bool false, .slice none 0 0, .slice none 0 0, .bool false, .slice none 0 0, .slice none 0 0, .bool false, .slice none 0 0, .slice none 0 0, .bool false, .slice none 0 0, .slice none 0 0] 100) (.cells #[.bool false, .slice none 0 0, .slice none 0 0, .bool false, .slice none 0 0, .slice none 0 0, .bool false, .slice none 0 0, .slice none 0 0, .bool false, .slice none 0 0, .slice none 0 0, .bool false, .slice none 0 0, .slice none 0 0, .bool false, .slice none 0 0, .slice none 0 0, .bool false, .slice none 0 0, .slice none 0 0, .bool false, .slice none 0 0, .slice none 0 0, .bool false, .slice none 0 0, .slice none 0 0] 100)
  have kb := ba3 w (.cells (p18 p q r) 81) (.cells #[.bool false, .slice none 0 0, .slice none 0 0, .bool false, .slice none 0 0, .slice none 0 0, .bool false, .slice none 0 0, .slice none 0 0, .bool false, .slice none 0 0, .slice none 0 0, .bool false, .slice none 0 0, .slice none 0 0, .bool false, .slice none 0 0, .slice none 0 0, .bool false, .slice none 0 0, .slice none 0 0, .bool false, .slice none 0 0, .slice none 0 0, .bool false, .slice none 0 0, .slice none 0 0] 100) (.cells #[.bool false, .slice none 0 0, .slice none 0 0, .bool false, .slice none 0 0, .slice none 0 0, .bool false, .slice none 0 0, .slice none 0 0, .bool false, .slice none 0 0, .slice none 0 0, .bool false, .slice none 0 0, .slice none 0 0, .bool false, .slice none 0 0, .slice none 0 0, .bool false, .slice none 0 0, .slice none 0 0, .bool false, .slice none 0 0, .slice none 0 0, .bool false, .slice none 0 0, .slice none 0 0] 100)
  go_enter Tryz.func84, Tryz.ntmps84
  go_upto_region 2 with fail
  generalize ((w.alloc (.cells (p18 p q r) 81)).alloc (.cells #[.bool false, .slice none 0 0, .slice none 0 0, .bool false, .slice none 0 0, .slice none 0 0, .bool false, .slice none 0 0, .slice none 0 0, .bool false, .slice none 0 0, .slice none 0 0, .bool false, .slice none 0 0, .slice none 0 0, .bool false, .slice none 0 0, .slice none 0 0, .bool false, .slice none 0 0, .slice none 0 0, .bool false, .slice none 0 0, .slice none 0 0, .bool false, .slice none 0 0, .slice none 0 0] 100)).alloc (.cells #[.bool false, .slice none 0 0, .slice none 0 0, .bool false, .slice none 0 0, .slice none 0 0, .bool false, .slice none 0 0, .slice none 0 0, .bool false, .slice none 0 0, .slice none 0 0, .bool false, .slice none 0 0, .slice none 0 0, .bool false, .slice none 0 0, .slice none 0 0, .bool false, .slice none 0 0, .slice none 0 0, .bool false, .slice none 0 0, .slice none 0 0, .bool false, .slice none 0 0, .slice none 0 0] 100) = W1 at P_t P_o P_s kb ⊢
  have HG0 : Hid (w.heap.size + 1 + 1 < W1.heap.size) := Lib.hid (rblk_lt P_s)
  have HGS : Hid (w.heap.size < w.heap.size + 1 + 1 ∧ w.heap.size + 1 < w.heap.size + 1 + 1 ∧ w.heap.size < w.heap.size + 1) := Lib.hid (by omega)
  have P_s : W1.heap[w.heap.size + 1 + 1]? = some (.cells (flatQ ([] ++ List.replicate (9 - 3 * 0) RV0)).toArray 100 (0, 0)) := P_s
  generalize hgs : w.heap.size + 1 + 1 = gs at P_s HG0 HGS ⊢
  generalize hgo : w.heap.size + 1 = go at P_o HGS ⊢
  clear hgs hgo
  have HPT := Lib.hid (fun W' (hB : Below W1.heap.size W1 W') => range_row (rblk_below P_t hB))
  have HKB := Lib.hid (fun W' (hB : Below W1.heap.size W1 W') => bt kb hB)
  go_cut [4, 5] (fun s4 s5 wx => CutS W1 Sx GD s4 s5 wx)
  case first =>
    clear P_s P_o P_t kb HG0 HGS
    refine wp_region_held_drew (S := fun w' => Below W1.heap.size W1 w') (by kernel_rfl) ((Below.refl _ _).drew) (fun hHeld => ?_)
    refine tk (i := 0) (v := .agg (p18 p q r)) rfl (by kernel_rfl) (fun _ _ _ h => h) (yieldsIf_load_mid (by rfl) 81 (.tmp 1) rfl (w.heap.size) 0 rfl [.bool p.x.p, .slice p.a.A p.x.l.length p.a.c, .slice p.a.D p.x.m.length p.a.d, .bool p.y.p, .slice p.b.A p.y.l.length p.b.c, .slice p.b.D p.y.m.length p.b.d, .bool q.x.p, .slice q.a.A q.x.l.length q.a.c, .slice q.a.D q.x.m.length q.a.d, .bool q.y.p, .slice q.b.A q.y.l.length q.b.c, .slice q.b.D q.y.m.length q.b.d, .bool r.x.p, .slice r.a.A r.x.l.length r.a.c, .slice r.a.D r.x.m.length r.a.d, .bool r.y.p, .slice r.b.A r.y.l.length r.b.c, .slice r.b.D r.y.m.length r.b.d] _ (fun w hSw => HPT.out _ hSw) Tryz.underlying81 rfl tri_size) hHeld ?_
    try simp only [ps]
    refine tk (i := 2) (v := .agg (p18 p q r)) rfl (by kernel_rfl) (fun _ _ _ h => h) (yieldsIf_load_mid (by rfl) 81 (.tmp 1) rfl (w.heap.size) 0 rfl [.bool p.x.p, .slice p.a.A p.x.l.length p.a.c, .slice p.a.D p.x.m.length p.a.d, .bool p.y.p, .slice p.b.A p.y.l.length p.b.c, .slice p.b.D p.y.m.length p.b.d, .bool q.x.p, .slice q.a.A q.x.l.length q.a.c, .slice q.a.D q.x.m.length q.a.d, .bool q.y.p, .slice q.b.A q.y.l.length q.b.c, .slice q.b.D q.y.m.length q.b.d, .bool r.x.p, .slice r.a.A r.x.l.length r.a.c, .slice r.a.D r.x.m.length r.a.d, .bool r.y.p, .slice r.b.A r.y.l.length r.b.c, .slice r.b.D r.y.m.length r.b.d] _ (fun w hSw => HPT.out _ hSw) Tryz.underlying81 rfl tri_size) hHeld ?_
    try simp only [ps]
    have hz0 : W1.heap.size ≤ W1.drew.heap.size := Nat.le_refl _
    generalize W1.drew = Wd at *
    refine wpAnyH_ready (rs := [1, 4, 5]) (by kernel_rfl) (by simp) ?_
    refine rc1 rfl (fun K hK => ?_) (rc1 rfl (fun K hK => ?_) (rc1 rfl (fun K hK => ?_) AllReadyH.nil))
    · skip
      go_simp
      (go_at_call 91; ((with_reducible refine (HA.out _ (HKB.out _ hHeld)).mono ?_); rintro e Wg1 ⟨a0, rfl, -, -, oA, -, hb⟩))
      have hzWg1 : Wd.heap.size ≤ Wg1.heap.size := hb.size
      refine hK.out _ _ (bt hHeld hb) (fun hH => ?_)
      clear hK K hHeld hb
      have hHeld := hH
      clear hH
      try simp only [ps]
      refine wpAnyH_ready (rs := [3, 4, 5]) (by kernel_rfl) (by simp) ?_
      refine rc1 rfl (fun K hK => ?_) (rc1 rfl (fun K hK => ?_) (rc1 rfl (fun K hK => ?_) AllReadyH.nil))
      · skip
        go_simp
        (go_at_call 68; ((with_reducible refine (HG1.out _ (HKB.out _ hHeld)).mono ?_); rintro e Wg2 ⟨g0, g1, g2, rfl, hdg, -, oG, -, hb⟩))
        have hzWg2 : Wg1.heap.size ≤ Wg2.heap.size := hb.size
        replace oA := oA.below hb
        refine hK.out _ _ (bt hHeld hb) (fun hH => ?_)
        clear hK K hHeld hb
        have hHeld := hH
        clear hH
        try simp only [ps]
        refine wpAnyH_ready (rs := [4, 5]) (by kernel_rfl) (by simp) ?_
        refine rc1 rfl (fun K hK => ?_) (rc1 rfl (fun K hK => ?_) AllReadyH.nil)
        · skip
          go_simp
          have P_l := heap_alloc_new Wg2 (.cells #[.bool false, .slice none 0 0, .slice none 0 0] 29)
          have hb := ba1 Wg2 (.cells #[.bool false, .slice none 0 0, .slice none 0 0] 29)
          have hgl := hHeld.size
          have hzWg3 : Wg2.heap.size < (Wg2.alloc (.cells #[.bool false, .slice none 0 0, .slice none 0 0] 29)).heap.size := by rw [sz1]; omega
          replace oA := oA.below hb
          replace oG := oG.below hb
          refine hK.out _ _ (bt hHeld hb) (fun hH => ?_)
          clear hK K hHeld hb
          have hHeld := hH
          clear hH
          try simp only [ps]
          generalize Wg2.alloc (.cells #[.bool false, .slice none 0 0, .slice none 0 0] 29) = Wg3 at hzWg3 hHeld P_l oA oG ⊢
          refine rd1 (i := 5) (by kernel_rfl) rfl (fun K hK => ?_)
          go_simp
          have P_g := heap_alloc_new Wg3 (.cells z18 80)
          have hb := ba1 Wg3 (.cells z18 80)
          have hgg := hHeld.size
          have hzWg4 : Wg3.heap.size < (Wg3.alloc (.cells z18 80)).heap.size := by rw [sz1]; omega
          replace P_l := rblk_below P_l hb
          replace oA := oA.below hb
          replace oG := oG.below hb
          refine hK.out _ _ (bt hHeld hb) (fun hH => ?_)
          clear hK K hHeld hb
          have hHeld := hH
          clear hH
          try simp only [ps]
          generalize Wg3.alloc (.cells z18 80) = Wg4 at hzWg4 hHeld P_g P_l oA oG ⊢
          have nlg : Wg2.heap.size ≠ Wg3.heap.size := by omega
          refine rd1 (i := 6) (by kernel_rfl) rfl (fun K hK => ?_)
          have ⟨⟨t0, t1, t2⟩, q0, q1, q2⟩ := blk3 P_l
          go_simp
          clear t0 t1 t2 q0 q1 q2
          obtain ⟨Wg5, hW, hH1, P_l, P_g, oA, oG, hzWg5⟩ := leaf3 hHeld hgl nlg P_l P_g oA oG (by omega) (by omega) (.bool Sx.p) (.slice a0.A Sx.l.length a0.c) (.slice a0.D Sx.m.length a0.d)
          rw [← hW]
          clear hW
          refine hK.out _ _ hH1 (fun hHeld => ?_)
          clear hK K
          try simp only [ps]
          refine rd1 (i := 7) (by kernel_rfl) rfl (fun K hK => ?_)
          rw [if_pos (by rfl)]
          refine wp_store_at 80 (.tmp 5) (.tmp 13) rfl (Wg3.heap.size) 0 (p18 g0 g1 g2) rfl rfl 80 _ P_g a3_size (by simp) (by simp [Value.oneCell']) ?_
          rw [ecs18 g0 g1 g2]
          refine hK.out _ _ (below_setRow hHeld hgg _) (fun hH => ?_)
          clear hK K hHeld
          have hHeld := hH
          clear hH
          replace P_g := rowV_set P_g (p18 g0 g1 g2)
          replace P_l := rowV_other P_l nlg.symm (p18 g0 g1 g2)
          replace oA := oA.setRow (g := Wg3.heap.size) (by omega) (p18 g0 g1 g2)
          replace oG := oG.setRow (g := Wg3.heap.size) (by omega) (p18 g0 g1 g2)
          have z9 : (Wg5.setRow Wg3.heap.size #[.bool g0.x.p, .slice g0.a.A g0.x.l.length g0.a.c, .slice g0.a.D g0.x.m.length g0.a.d, .bool g0.y.p, .slice g0.b.A g0.y.l.length g0.b.c, .slice g0.b.D g0.y.m.length g0.b.d, .bool g1.x.p, .slice g1.a.A g1.x.l.length g1.a.c, .slice g1.a.D g1.x.m.length g1.a.d, .bool g1.y.p, .slice g1.b.A g1.y.l.length g1.b.c, .slice g1.b.D g1.y.m.length g1.b.d, .bool g2.x.p, .slice g2.a.A g2.x.l.length g2.a.c, .slice g2.a.D g2.x.m.length g2.a.d, .bool g2.y.p, .slice g2.b.A g2.y.l.length g2.b.c, .slice g2.b.D g2.y.m.length g2.b.d]).heap.size = Wg5.heap.size := setRow_size _ _ _
          try simp only [ps]
          refine wpAnyH_done (by kernel_rfl) ?_ _
          go_wp2_with fail
          go_meet
          exact ⟨_, _, a0, g0, g1, g2, rfl, rfl, hgl, hgg, P_l, P_g, hdg, oA.wide (by omega) (by omega), oG.wide (by omega) (by omega), hHeld⟩
        · skip
          go_simp
          have P_g := heap_alloc_new Wg2 (.cells z18 80)
          have hb := ba1 Wg2 (.cells z18 80)
          have hgg := hHeld.size
          have hzWg6 : Wg2.heap.size < (Wg2.alloc (.cells z18 80)).heap.size := by rw [sz1]; omega
          replace oA := oA.below hb
          replace oG := oG.below hb
          refine hK.out _ _ (bt hHeld hb) (fun hH => ?_)
          clear hK K hHeld hb
          have hHeld := hH
          clear hH
          try simp only [ps]
          generalize Wg2.alloc (.cells z18 80) = Wg6 at hzWg6 hHeld P_g oA oG ⊢
          refine rd1 (i := 4) (by kernel_rfl) rfl (fun K hK => ?_)
          go_simp
          have P_l := heap_alloc_new Wg6 (.cells #[.bool false, .slice none 0 0, .slice none 0 0] 29)
          have hb := ba1 Wg6 (.cells #[.bool false, .slice none 0 0, .slice none 0 0] 29)
          have hgl := hHeld.size
          have hzWg7 : Wg6.heap.size < (Wg6.alloc (.cells #[.bool false, .slice none 0 0, .slice none 0 0] 29)).heap.size := by rw [sz1]; omega
          replace P_g := rblk_below P_g hb
          replace oA := oA.below hb
          replace oG := oG.below hb
          refine hK.out _ _ (bt hHeld hb) (fun hH => ?_)
          clear hK K hHeld hb
          have hHeld := hH
          clear hH
          try simp only [ps]
          generalize Wg6.alloc (.cells #[.bool false, .slice none 0 0, .slice none 0 0] 29) = Wg7 at hzWg7 hHeld P_l P_g oA oG ⊢
          have nlg : Wg6.heap.size ≠ Wg2.heap.size := by omega
          refine rd1 (i := 6) (by kernel_rfl) rfl (fun K hK => ?_)
          have ⟨⟨t0, t1, t2⟩, q0, q1, q2⟩ := blk3 P_l
          go_simp
          clear t0 t1 t2 q0 q1 q2
          obtain ⟨Wg8, hW, hH1, P_l, P_g, oA, oG, hzWg8⟩ := leaf3 hHeld hgl nlg P_l P_g oA oG (by omega) (by omega) (.bool Sx.p) (.slice a0.A Sx.l.length a0.c) (.slice a0.D Sx.m.length a0.d)
          rw [← hW]
          clear hW
          refine hK.out _ _ hH1 (fun hHeld => ?_)
          clear hK K
          try simp only [ps]
          refine rd1 (i := 7) (by kernel_rfl) rfl (fun K hK => ?_)
          rw [if_pos (by rfl)]
          refine wp_store_at 80 (.tmp 5) (.tmp 13) rfl (Wg2.heap.size) 0 (p18 g0 g1 g2) rfl rfl 80 _ P_g a3_size (by simp) (by simp [Value.oneCell']) ?_
          rw [ecs18 g0 g1 g2]
          refine hK.out _ _ (below_setRow hHeld hgg _) (fun hH => ?_)
          clear hK K hHeld
          have hHeld := hH
          clear hH
          replace P_g := rowV_set P_g (p18 g0 g1 g2)
          replace P_l := rowV_other P_l nlg.symm (p18 g0 g1 g2)
          replace oA := oA.setRow (g := Wg2.heap.size) (by omega) (p18 g0 g1 g2)
          replace oG := oG.setRow (g := Wg2.heap.size) (by omega) (p18 g0 g1 g2)
          have z9 : (Wg8.setRow Wg2.heap.size #[.bool g0.x.p, .slice g0.a.A g0.x.l.length g0.a.c, .slice g0.a.D g0.x.m.length g0.a.d, .bool g0.y.p, .slice g0.b.A g0.y.l.length g0.b.c, .slice g0.b.D g0.y.m.length g0.b.d, .bool g1.x.p, .slice g1.a.A g1.x.l.length g1.a.c, .slice g1.a.D g1.x.m.length g1.a.d, .bool g1.y.p, .slice g1.b.A g1.y.l.length g1.b.c, .slice g1.b.D g1.y.m.length g1.b.d, .bool g2.x.p, .slice g2.a.A g2.x.l.length g2.a.c, .slice g2.a.D g2.x.m.length g2.a.d, .bool g2.y.p, .slice g2.b.A g2.y.l.length g2.b.c, .slice g2.b.D g2.y.m.length g2.b.d]).heap.size = Wg8.heap.size := setRow_size _ _ _
          try simp only [ps]
          refine wpAnyH_done (by kernel_rfl) ?_ _
          go_wp2_with fail
          go_meet
          exact ⟨_, _, a0, g0, g1, g2, rfl, rfl, hgl, hgg, P_l, P_g, hdg, oA.wide (by omega) (by omega), oG.wide (by omega) (by omega), hHeld⟩
      · skip
        go_simp
        have P_l := heap_alloc_new Wg1 (.cells #[.bool false, .slice none 0 0, .slice none 0 0] 29)
        have hb := ba1 Wg1 (.cells #[.bool false, .slice none 0 0, .slice none 0 0] 29)
        have hgl := hHeld.size
        have hzWg9 : Wg1.heap.size < (Wg1.alloc (.cells #[.bool false, .slice none 0 0, .slice none 0 0] 29)).heap.size := by rw [sz1]; omega
        replace oA := oA.below hb
        refine hK.out _ _ (bt hHeld hb) (fun hH => ?_)
        clear hK K hHeld hb
        have hHeld := hH
        clear hH
        try simp only [ps]
        generalize Wg1.alloc (.cells #[.bool false, .slice none 0 0, .slice none 0 0] 29) = Wg9 at hzWg9 hHeld P_l oA ⊢
        refine wpAnyH_ready (rs := [3, 5]) (by kernel_rfl) (by simp) ?_
        refine rc1 rfl (fun K hK => ?_) (rc1 rfl (fun K hK => ?_) AllReadyH.nil)
        · skip
          go_simp
          (go_at_call 68; ((with_reducible refine (HG1.out _ (HKB.out _ hHeld)).mono ?_); rintro e Wg10 ⟨g0, g1, g2, rfl, hdg, -, oG, -, hb⟩))
          have hzWg10 : Wg9.heap.size ≤ Wg10.heap.size := hb.size
          replace P_l := rblk_below P_l hb
          replace oA := oA.below hb
          refine hK.out _ _ (bt hHeld hb) (fun hH => ?_)
          clear hK K hHeld hb
          have hHeld := hH
          clear hH
          try simp only [ps]
          refine rd1 (i := 5) (by kernel_rfl) rfl (fun K hK => ?_)
          go_simp
          have P_g := heap_alloc_new Wg10 (.cells z18 80)
          have hb := ba1 Wg10 (.cells z18 80)
          have hgg := hHeld.size
          have hzWg11 : Wg10.heap.size < (Wg10.alloc (.cells z18 80)).heap.size := by rw [sz1]; omega
          replace P_l := rblk_below P_l hb
          replace oA := oA.below hb
          replace oG := oG.below hb
          refine hK.out _ _ (bt hHeld hb) (fun hH => ?_)
          clear hK K hHeld hb
          have hHeld := hH
          clear hH
          try simp only [ps]
          generalize Wg10.alloc (.cells z18 80) = Wg11 at hzWg11 hHeld P_g P_l oA oG ⊢
          have nlg : Wg1.heap.size ≠ Wg10.heap.size := by omega
          refine rd1 (i := 6) (by kernel_rfl) rfl (fun K hK => ?_)
          have ⟨⟨t0, t1, t2⟩, q0, q1, q2⟩ := blk3 P_l
          go_simp
          clear t0 t1 t2 q0 q1 q2
          obtain ⟨Wg12, hW, hH1, P_l, P_g, oA, oG, hzWg12⟩ := leaf3 hHeld hgl nlg P_l P_g oA oG (by omega) (by omega) (.bool Sx.p) (.slice a0.A Sx.l.length a0.c) (.slice a0.D Sx.m.length a0.d)
          rw [← hW]
          clear hW
          refine hK.out _ _ hH1 (fun hHeld => ?_)
          clear hK K
          try simp only [ps]
          refine rd1 (i := 7) (by kernel_rfl) rfl (fun K hK => ?_)
          rw [if_pos (by rfl)]
          refine wp_store_at 80 (.tmp 5) (.tmp 13) rfl (Wg10.heap.size) 0 (p18 g0 g1 g2) rfl rfl 80 _ P_g a3_size (by simp) (by simp [Value.oneCell']) ?_
          rw [ecs18 g0 g1 g2]
          refine hK.out _ _ (below_setRow hHeld hgg _) (fun hH => ?_)
          clear hK K hHeld
          have hHeld := hH
          clear hH
          replace P_g := rowV_set P_g (p18 g0 g1 g2)
          replace P_l := rowV_other P_l nlg.symm (p18 g0 g1 g2)
          replace oA := oA.setRow (g := Wg10.heap.size) (by omega) (p18 g0 g1 g2)
          replace oG := oG.setRow (g := Wg10.heap.size) (by omega) (p18 g0 g1 g2)
          have z9 : (Wg12.setRow Wg10.heap.size #[.bool g0.x.p, .slice g0.a.A g0.x.l.length g0.a.c, .slice g0.a.D g0.x.m.length g0.a.d, .bool g0.y.p, .slice g0.b.A g0.y.l.length g0.b.c, .slice g0.b.D g0.y.m.length g0.b.d, .bool g1.x.p, .slice g1.a.A g1.x.l.length g1.a.c, .slice g1.a.D g1.x.m.length g1.a.d, .bool g1.y.p, .slice g1.b.A g1.y.l.length g1.b.c, .slice g1.b.D g1.y.m.length g1.b.d, .bool g2.x.p, .slice g2.a.A g2.x.l.length g2.a.c, .slice g2.a.D g2.x.m.length g2.a.d, .bool g2.y.p, .slice g2.b.A g2.y.l.length g2.b.c, .slice g2.b.D g2.y.m.length g2.b.d]).heap.size = Wg12.heap.size := setRow_size _ _ _
          try simp only [ps]
          refine wpAnyH_done (by kernel_rfl) ?_ _
          go_wp2_with fail
          go_meet
          exact ⟨_, _, a0, g0, g1, g2, rfl, rfl, hgl, hgg, P_l, P_g, hdg, oA.wide (by omega) (by omega), oG.wide (by omega) (by omega), hHeld⟩
        · skip
          go_simp
          have P_g := heap_alloc_new Wg9 (.cells z18 80)
          have hb := ba1 Wg9 (.cells z18 80)
          have hgg := hHeld.size
          have hzWg13 : Wg9.heap.size < (Wg9.alloc (.cells z18 80)).heap.size := by rw [sz1]; omega
          replace P_l := rblk_below P_l hb
          replace oA := oA.below hb
          refine hK.out _ _ (bt hHeld hb) (fun hH => ?_)
          clear hK K hHeld hb
          have hHeld := hH
          clear hH
          try simp only [ps]
          generalize Wg9.alloc (.cells z18 80) = Wg13 at hzWg13 hHeld P_g P_l oA ⊢
          refine rd1 (i := 3) (by kernel_rfl) rfl (fun K hK => ?_)
          go_simp
          (go_at_call 68; ((with_reducible refine (HG1.out _ (HKB.out _ hHeld)).mono ?_); rintro e Wg14 ⟨g0, g1, g2, rfl, hdg, -, oG, -, hb⟩))
          have hzWg14 : Wg13.heap.size ≤ Wg14.heap.size := hb.size
          replace P_l := rblk_below P_l hb
          replace P_g := rblk_below P_g hb
          replace oA := oA.below hb
          refine hK.out _ _ (bt hHeld hb) (fun hH => ?_)
          clear hK K hHeld hb
          have hHeld := hH
          clear hH
          try simp only [ps]
          have nlg : Wg1.heap.size ≠ Wg9.heap.size := by omega
          refine rd1 (i := 6) (by kernel_rfl) rfl (fun K hK => ?_)
          have ⟨⟨t0, t1, t2⟩, q0, q1, q2⟩ := blk3 P_l
          go_simp
          clear t0 t1 t2 q0 q1 q2
          obtain ⟨Wg15, hW, hH1, P_l, P_g, oA, oG, hzWg15⟩ := leaf3 hHeld hgl nlg P_l P_g oA oG (by omega) (by omega) (.bool Sx.p) (.slice a0.A Sx.l.length a0.c) (.slice a0.D Sx.m.length a0.d)
          rw [← hW]
          clear hW
          refine hK.out _ _ hH1 (fun hHeld => ?_)
          clear hK K
          try simp only [ps]
          refine rd1 (i := 7) (by kernel_rfl) rfl (fun K hK => ?_)
          rw [if_pos (by rfl)]
          refine wp_store_at 80 (.tmp 5) (.tmp 13) rfl (Wg9.heap.size) 0 (p18 g0 g1 g2) rfl rfl 80 _ P_g a3_size (by simp) (by simp [Value.oneCell']) ?_
          rw [ecs18 g0 g1 g2]
          refine hK.out _ _ (below_setRow hHeld hgg _) (fun hH => ?_)
          clear hK K hHeld
          have hHeld := hH
          clear hH
          replace P_g := rowV_set P_g (p18 g0 g1 g2)
          replace P_l := rowV_other P_l nlg.symm (p18 g0 g1 g2)
          replace oA := oA.setRow (g := Wg9.heap.size) (by omega) (p18 g0 g1 g2)
          replace oG := oG.setRow (g := Wg9.heap.size) (by omega) (p18 g0 g1 g2)
          have z9 : (Wg15.setRow Wg9.heap.size #[.bool g0.x.p, .slice g0.a.A g0.x.l.length g0.a.c, .slice g0.a.D g0.x.m.length g0.a.d, .bool g0.y.p, .slice g0.b.A g0.y.l.length g0.b.c, .slice g0.b.D g0.y.m.length g0.b.d, .bool g1.x.p, .slice g1.a.A g1.x.l.length g1.a.c, .slice g1.a.D g1.x.m.length g1.a.d, .bool g1.y.p, .slice g1.b.A g1.y.l.length g1.b.c, .slice g1.b.D g1.y.m.length g1.b.d, .bool g2.x.p, .slice g2.a.A g2.x.l.length g2.a.c, .slice g2.a.D g2.x.m.length g2.a.d, .bool g2.y.p, .slice g2.b.A g2.y.l.length g2.b.c, .slice g2.b.D g2.y.m.length g2.b.d]).heap.size = Wg15.heap.size := setRow_size _ _ _
          try simp only [ps]
          refine wpAnyH_done (by kernel_rfl) ?_ _
          go_wp2_with fail
          go_meet
          exact ⟨_, _, a0, g0, g1, g2, rfl, rfl, hgl, hgg, P_l, P_g, hdg, oA.wide (by omega) (by omega), oG.wide (by omega) (by omega), hHeld⟩
      · skip
        go_simp
        have P_g := heap_alloc_new Wg1 (.cells z18 80)
        have hb := ba1 Wg1 (.cells z18 80)
        have hgg := hHeld.size
        have hzWg16 : Wg1.heap.size < (Wg1.alloc (.cells z18 80)).heap.size := by rw [sz1]; omega
        replace oA := oA.below hb
        refine hK.out _ _ (bt hHeld hb) (fun hH => ?_)
        clear hK K hHeld hb
        have hHeld := hH
        clear hH
        try simp only [ps]
        generalize Wg1.alloc (.cells z18 80) = Wg16 at hzWg16 hHeld P_g oA ⊢
        refine wpAnyH_ready (rs := [3, 4]) (by kernel_rfl) (by simp) ?_
        refine rc1 rfl (fun K hK => ?_) (rc1 rfl (fun K hK => ?_) AllReadyH.nil)
        · skip
          go_simp
          (go_at_call 68; ((with_reducible refine (HG1.out _ (HKB.out _ hHeld)).mono ?_); rintro e Wg17 ⟨g0, g1, g2, rfl, hdg, -, oG, -, hb⟩))
          have hzWg17 : Wg16.heap.size ≤ Wg17.heap.size := hb.size
          replace P_g := rblk_below P_g hb
          replace oA := oA.below hb
          refine hK.out _ _ (bt hHeld hb) (fun hH => ?_)
          clear hK K hHeld hb
          have hHeld := hH
          clear hH
          try simp only [ps]
          refine rd1 (i := 4) (by kernel_rfl) rfl (fun K hK => ?_)
          go_simp
          have P_l := heap_alloc_new Wg17 (.cells #[.bool false, .slice none 0 0, .slice none 0 0] 29)
          have hb := ba1 Wg17 (.cells #[.bool false, .slice none 0 0, .slice none 0 0] 29)
          have hgl := hHeld.size
          have hzWg18 : Wg17.heap.size < (Wg17.alloc (.cells #[.bool false, .slice none 0 0, .slice none 0 0] 29)).heap.size := by rw [sz1]; omega
          replace P_g := rblk_below P_g hb
          replace oA := oA.below hb
          replace oG := oG.below hb
          refine hK.out _ _ (bt hHeld hb) (fun hH => ?_)
          clear hK K hHeld hb
          have hHeld := hH
          clear hH
          try simp only [ps]
          generalize Wg17.alloc (.cells #[.bool false, .slice none 0 0, .slice none 0 0] 29) = Wg18 at hzWg18 hHeld P_l P_g oA oG ⊢
          have nlg : Wg17.heap.size ≠ Wg1.heap.size := by omega
          refine rd1 (i := 6) (by kernel_rfl) rfl (fun K hK => ?_)
          have ⟨⟨t0, t1, t2⟩, q0, q1, q2⟩ := blk3 P_l
          go_simp
          clear t0 t1 t2 q0 q1 q2
          obtain ⟨Wg19, hW, hH1, P_l, P_g, oA, oG, hzWg19⟩ := leaf3 hHeld hgl nlg P_l P_g oA oG (by omega) (by omega) (.bool Sx.p) (.slice a0.A Sx.l.length a0.c) (.slice a0.D Sx.m.length a0.d)
          rw [← hW]
          clear hW
          refine hK.out _ _ hH1 (fun hHeld => ?_)
          clear hK K
          try simp only [ps]
          refine rd1 (i := 7) (by kernel_rfl) rfl (fun K hK => ?_)
          rw [if_pos (by rfl)]
          refine wp_store_at 80 (.tmp 5) (.tmp 13) rfl (Wg1.heap.size) 0 (p18 g0 g1 g2) rfl rfl 80 _ P_g a3_size (by simp) (by simp [Value.oneCell']) ?_
          rw [ecs18 g0 g1 g2]
          refine hK.out _ _ (below_setRow hHeld hgg _) (fun hH => ?_)
          clear hK K hHeld
          have hHeld := hH
          clear hH
          replace P_g := rowV_set P_g (p18 g0 g1 g2)
          replace P_l := rowV_other P_l nlg.symm (p18 g0 g1 g2)
          replace oA := oA.setRow (g := Wg1.heap.size) (by omega) (p18 g0 g1 g2)
          replace oG := oG.setRow (g := Wg1.heap.size) (by omega) (p18 g0 g1 g2)
          have z9 : (Wg19.setRow Wg1.heap.size #[.bool g0.x.p, .slice g0.a.A g0.x.l.length g0.a.c, .slice g0.a.D g0.x.m.length g0.a.d, .bool g0.y.p, .slice g0.b.A g0.y.l.length g0.b.c, .slice g0.b.D g0.y.m.length g0.b.d, .bool g1.x.p, .slice g1.a.A g1.x.l.length g1.a.c, .slice g1.a.D g1.x.m.length g1.a.d, .bool g1.y.p, .slice g1.b.A g1.y.l.length g1.b.c, .slice g1.b.D g1.y.m.length g1.b.d, .bool g2.x.p, .slice g2.a.A g2.x.l.length g2.a.c, .slice g2.a.D g2.x.m.length g2.a.d, .bool g2.y.p, .slice g2.b.A g2.y.l.length g2.b.c, .slice g2.b.D g2.y.m.length g2.b.d]).heap.size = Wg19.heap.size := setRow_size _ _ _
          try simp only [ps]
          refine wpAnyH_done (by kernel_rfl) ?_ _
          go_wp2_with fail
          go_meet
          exact ⟨_, _, a0, g0, g1, g2, rfl, rfl, hgl, hgg, P_l, P_g, hdg, oA.wide (by omega) (by omega), oG.wide (by omega) (by omega), hHeld⟩
        · skip
          go_simp
          have P_l := heap_alloc_new Wg16 (.cells #[.bool false, .slice none 0 0, .slice none 0 0] 29)
          have hb := ba1 Wg16 (.cells #[.bool false, .slice none 0 0, .slice none 0 0] 29)
          have hgl := hHeld.size
          have hzWg20 : Wg16.heap.size < (Wg16.alloc (.cells #[.bool false, .slice none 0 0, .slice none 0 0] 29)).heap.size := by rw [sz1]; omega
          replace P_g := rblk_below P_g hb
          replace oA := oA.below hb
          refine hK.out _ _ (bt hHeld hb) (fun hH => ?_)
          clear hK K hHeld hb
          have hHeld := hH
          clear hH
          try simp only [ps]
          generalize Wg16.alloc (.cells #[.bool false, .slice none 0 0, .slice none 0 0] 29) = Wg20 at hzWg20 hHeld P_l P_g oA ⊢
          refine rd1 (i := 3) (by kernel_rfl) rfl (fun K hK => ?_)
          go_simp
          (go_at_call 68; ((with_reducible refine (HG1.out _ (HKB.out _ hHeld)).mono ?_); rintro e Wg21 ⟨g0, g1, g2, rfl, hdg, -, oG, -, hb⟩))
          have hzWg21 : Wg20.heap.size ≤ Wg21.heap.size := hb.size
          replace P_l := rblk_below P_l hb
          replace P_g := rblk_below P_g hb
          replace oA := oA.below hb
          refine hK.out _ _ (bt hHeld hb) (fun hH => ?_)
          clear hK K hHeld hb
          have hHeld := hH
          clear hH
          try simp only [ps]
          have nlg : Wg16.heap.size ≠ Wg1.heap.size := by omega
          refine rd1 (i := 6) (by kernel_rfl) rfl (fun K hK => ?_)
          have ⟨⟨t0, t1, t2⟩, q0, q1, q2⟩ := blk3 P_l
          go_simp
          clear t0 t1 t2 q0 q1 q2
          obtain ⟨Wg22, hW, hH1, P_l, P_g, oA, oG, hzWg22⟩ := leaf3 hHeld hgl nlg P_l P_g oA oG (by omega) (by omega) (.bool Sx.p) (.slice a0.A Sx.l.length a0.c) (.slice a0.D Sx.m.length a0.d)
          rw [← hW]
          clear hW
          refine hK.out _ _ hH1 (fun hHeld => ?_)
          clear hK K
          try simp only [ps]
          refine rd1 (i := 7) (by kernel_rfl) rfl (fun K hK => ?_)
          rw [if_pos (by rfl)]
          refine wp_store_at 80 (.tmp 5) (.tmp 13) rfl (Wg1.heap.size) 0 (p18 g0 g1 g2) rfl rfl 80 _ P_g a3_size (by simp) (by simp [Value.oneCell']) ?_
          rw [ecs18 g0 g1 g2]
          refine hK.out _ _ (below_setRow hHeld hgg _) (fun hH => ?_)
          clear hK K hHeld
          have hHeld := hH
          clear hH
          replace P_g := rowV_set P_g (p18 g0 g1 g2)
          replace P_l := rowV_other P_l nlg.symm (p18 g0 g1 g2)
          replace oA := oA.setRow (g := Wg1.heap.size) (by omega) (p18 g0 g1 g2)
          replace oG := oG.setRow (g := Wg1.heap.size) (by omega) (p18 g0 g1 g2)
          have z9 : (Wg22.setRow Wg1.heap.size #[.bool g0.x.p, .slice g0.a.A g0.x.l.length g0.a.c, .slice g0.a.D g0.x.m.length g0.a.d, .bool g0.y.p, .slice g0.b.A g0.y.l.length g0.b.c, .slice g0.b.D g0.y.m.length g0.b.d, .bool g1.x.p, .slice g1.a.A g1.x.l.length g1.a.c, .slice g1.a.D g1.x.m.length g1.a.d, .bool g1.y.p, .slice g1.b.A g1.y.l.length g1.b.c, .slice g1.b.D g1.y.m.length g1.b.d, .bool g2.x.p, .slice g2.a.A g2.x.l.length g2.a.c, .slice g2.a.D g2.x.m.length g2.a.d, .bool g2.y.p, .slice g2.b.A g2.y.l.length g2.b.c, .slice g2.b.D g2.y.m.length g2.b.d]).heap.size = Wg22.heap.size := setRow_size _ _ _
          try simp only [ps]
          refine wpAnyH_done (by kernel_rfl) ?_ _
          go_wp2_with fail
          go_meet
          exact ⟨_, _, a0, g0, g1, g2, rfl, rfl, hgl, hgg, P_l, P_g, hdg, oA.wide (by omega) (by omega), oG.wide (by omega) (by omega), hHeld⟩
    · skip
      go_simp
      have P_l := heap_alloc_new Wd (.cells #[.bool false, .slice none 0 0, .slice none 0 0] 29)
      have hb := ba1 Wd (.cells #[.bool false, .slice none 0 0, .slice none 0 0] 29)
      have hgl := hHeld.size
      have hzWg23 : Wd.heap.size < (Wd.alloc (.cells #[.bool false, .slice none 0 0, .slice none 0 0] 29)).heap.size := by rw [sz1]; omega
      refine hK.out _ _ (bt hHeld hb) (fun hH => ?_)
      clear hK K hHeld hb
      have hHeld := hH
      clear hH
      try simp only [ps]
      generalize Wd.alloc (.cells #[.bool false, .slice none 0 0, .slice none 0 0] 29) = Wg23 at hzWg23 hHeld P_l  ⊢
      refine wpAnyH_ready (rs := [1, 5]) (by kernel_rfl) (by simp) ?_
      refine rc1 rfl (fun K hK => ?_) (rc1 rfl (fun K hK => ?_) AllReadyH.nil)
      · skip
        go_simp
        (go_at_call 91; ((with_reducible refine (HA.out _ (HKB.out _ hHeld)).mono ?_); rintro e Wg24 ⟨a0, rfl, -, -, oA, -, hb⟩))
        have hzWg24 : Wg23.heap.size ≤ Wg24.heap.size := hb.size
        replace P_l := rblk_below P_l hb
        refine hK.out _ _ (bt hHeld hb) (fun hH => ?_)
        clear hK K hHeld hb
        have hHeld := hH
        clear hH
        try simp only [ps]
        refine wpAnyH_ready (rs := [3, 5]) (by kernel_rfl) (by simp) ?_
        refine rc1 rfl (fun K hK => ?_) (rc1 rfl (fun K hK => ?_) AllReadyH.nil)
        · skip
          go_simp
          (go_at_call 68; ((with_reducible refine (HG1.out _ (HKB.out _ hHeld)).mono ?_); rintro e Wg25 ⟨g0, g1, g2, rfl, hdg, -, oG, -, hb⟩))
          have hzWg25 : Wg24.heap.size ≤ Wg25.heap.size := hb.size
          replace P_l := rblk_below P_l hb
          replace oA := oA.below hb
          refine hK.out _ _ (bt hHeld hb) (fun hH => ?_)
          clear hK K hHeld hb
          have hHeld := hH
          clear hH
          try simp only [ps]
          refine rd1 (i := 5) (by kernel_rfl) rfl (fun K hK => ?_)
          go_simp
          have P_g := heap_alloc_new Wg25 (.cells z18 80)
          have hb := ba1 Wg25 (.cells z18 80)
          have hgg := hHeld.size
          have hzWg26 : Wg25.heap.size < (Wg25.alloc (.cells z18 80)).heap.size := by rw [sz1]; omega
          replace P_l := rblk_below P_l hb
          replace oA := oA.below hb
          replace oG := oG.below hb
          refine hK.out _ _ (bt hHeld hb) (fun hH => ?_)
          clear hK K hHeld hb
          have hHeld := hH
          clear hH
          try simp only [ps]
          generalize Wg25.alloc (.cells z18 80) = Wg26 at hzWg26 hHeld P_g P_l oA oG ⊢
          have nlg : Wd.heap.size ≠ Wg25.heap.size := by omega
          refine rd1 (i := 6) (by kernel_rfl) rfl (fun K hK => ?_)
          have ⟨⟨t0, t1, t2⟩, q0, q1, q2⟩ := blk3 P_l
          go_simp
          clear t0 t1 t2 q0 q1 q2
          obtain ⟨Wg27, hW, hH1, P_l, P_g, oA, oG, hzWg27⟩ := leaf3 hHeld hgl nlg P_l P_g oA oG (by omega) (by omega) (.bool Sx.p) (.slice a0.A Sx.l.length a0.c) (.slice a0.D Sx.m.length a0.d)
          rw [← hW]
          clear hW
          refine hK.out _ _ hH1 (fun hHeld => ?_)
          clear hK K
          try simp only [ps]
          refine rd1 (i := 7) (by kernel_rfl) rfl (fun K hK => ?_)
          rw [if_pos (by rfl)]
          refine wp_store_at 80 (.tmp 5) (.tmp 13) rfl (Wg25.heap.size) 0 (p18 g0 g1 g2) rfl rfl 80 _ P_g a3_size (by simp) (by simp [Value.oneCell']) ?_
          rw [ecs18 g0 g1 g2]
          refine hK.out _ _ (below_setRow hHeld hgg _) (fun hH => ?_)
          clear hK K hHeld
          have hHeld := hH
          clear hH
          replace P_g := rowV_set P_g (p18 g0 g1 g2)
          replace P_l := rowV_other P_l nlg.symm (p18 g0 g1 g2)
          replace oA := oA.setRow (g := Wg25.heap.size) (by omega) (p18 g0 g1 g2)
          replace oG := oG.setRow (g := Wg25.heap.size) (by omega) (p18 g0 g1 g2)
          have z9 : (Wg27.setRow Wg25.heap.size #[.bool g0.x.p, .slice g0.a.A g0.x.l.length g0.a.c, .slice g0.a.D g0.x.m.length g0.a.d, .bool g0.y.p, .slice g0.b.A g0.y.l.length g0.b.c, .slice g0.b.D g0.y.m.length g0.b.d, .bool g1.x.p, .slice g1.a.A g1.x.l.length g1.a.c, .slice g1.a.D g1.x.m.length g1.a.d, .bool g1.y.p, .slice g1.b.A g1.y.l.length g1.b.c, .slice g1.b.D g1.y.m.length g1.b.d, .bool g2.x.p, .slice g2.a.A g2.x.l.length g2.a.c, .slice g2.a.D g2.x.m.length g2.a.d, .bool g2.y.p, .slice g2.b.A g2.y.l.length g2.b.c, .slice g2.b.D g2.y.m.length g2.b.d]).heap.size = Wg27.heap.size := setRow_size _ _ _
          try simp only [ps]
          refine wpAnyH_done (by kernel_rfl) ?_ _
          go_wp2_with fail
          go_meet
          exact ⟨_, _, a0, g0, g1, g2, rfl, rfl, hgl, hgg, P_l, P_g, hdg, oA.wide (by omega) (by omega), oG.wide (by omega) (by omega), hHeld⟩
        · skip
          go_simp
          have P_g := heap_alloc_new Wg24 (.cells z18 80)
          have hb := ba1 Wg24 (.cells z18 80)
          have hgg := hHeld.size
          have hzWg28 : Wg24.heap.size < (Wg24.alloc (.cells z18 80)).heap.size := by rw [sz1]; omega
          replace P_l := rblk_below P_l hb
          replace oA := oA.below hb
          refine hK.out _ _ (bt hHeld hb) (fun hH => ?_)
          clear hK K hHeld hb
          have hHeld := hH
          clear hH
          try simp only [ps]
          generalize Wg24.alloc (.cells z18 80) = Wg28 at hzWg28 hHeld P_g P_l oA ⊢
          refine rd1 (i := 3) (by kernel_rfl) rfl (fun K hK => ?_)
          go_simp
          (go_at_call 68; ((with_reducible refine (HG1.out _ (HKB.out _ hHeld)).mono ?_); rintro e Wg29 ⟨g0, g1, g2, rfl, hdg, -, oG, -, hb⟩))
          have hzWg29 : Wg28.heap.size ≤ Wg29.heap.size := hb.size
          replace P_l := rblk_below P_l hb
          replace P_g := rblk_below P_g hb
          replace oA := oA.below hb
          refine hK.out _ _ (bt hHeld hb) (fun hH => ?_)
          clear hK K hHeld hb
          have hHeld := hH
          clear hH
          try simp only [ps]
          have nlg : Wd.heap.size ≠ Wg24.heap.size := by omega
          refine rd1 (i := 6) (by kernel_rfl) rfl (fun K hK => ?_)
          have ⟨⟨t0, t1, t2⟩, q0, q1, q2⟩ := blk3 P_l
          go_simp
          clear t0 t1 t2 q0 q1 q2
          obtain ⟨Wg30, hW, hH1, P_l, P_g, oA, oG, hzWg30⟩ := leaf3 hHeld hgl nlg P_l P_g oA oG (by omega) (by omega) (.bool Sx.p) (.slice a0.A Sx.l.length a0.c) (.slice a0.D Sx.m.length a0.d)
          rw [← hW]
          clear hW
          refine hK.out _ _ hH1 (fun hHeld => ?_)
          clear hK K
          try simp only [ps]
          refine rd1 (i := 7) (by kernel_rfl) rfl (fun K hK => ?_)
          rw [if_pos (by rfl)]
          refine wp_store_at 80 (.tmp 5) (.tmp 13) rfl (Wg24.heap.size) 0 (p18 g0 g1 g2) rfl rfl 80 _ P_g a3_size (by simp) (by simp [Value.oneCell']) ?_
          rw [ecs18 g0 g1 g2]
          refine hK.out _ _ (below_setRow hHeld hgg _) (fun hH => ?_)
          clear hK K hHeld
          have hHeld := hH
          clear hH
          replace P_g := rowV_set P_g (p18 g0 g1 g2)
          replace P_l := rowV_other P_l nlg.symm (p18 g0 g1 g2)
          replace oA := oA.setRow (g := Wg24.heap.size) (by omega) (p18 g0 g1 g2)
          replace oG := oG.setRow (g := Wg24.heap.size) (by omega) (p18 g0 g1 g2)
          have z9 : (Wg30.setRow Wg24.heap.size #[.bool g0.x.p, .slice g0.a.A g0.x.l.length g0.a.c, .slice g0.a.D g0.x.m.length g0.a.d, .bool g0.y.p, .slice g0.b.A g0.y.l.length g0.b.c, .slice g0.b.D g0.y.m.length g0.b.d, .bool g1.x.p, .slice g1.a.A g1.x.l.length g1.a.c, .slice g1.a.D g1.x.m.length g1.a.d, .bool g1.y.p, .slice g1.b.A g1.y.l.length g1.b.c, .slice g1.b.D g1.y.m.length g1.b.d, .bool g2.x.p, .slice g2.a.A g2.x.l.length g2.a.c, .slice g2.a.D g2.x.m.length g2.a.d, .bool g2.y.p, .slice g2.b.A g2.y.l.length g2.b.c, .slice g2.b.D g2.y.m.length g2.b.d]).heap.size = Wg30.heap.size := setRow_size _ _ _
          try simp only [ps]
          refine wpAnyH_done (by kernel_rfl) ?_ _
          go_wp2_with fail
          go_meet
          exact ⟨_, _, a0, g0, g1, g2, rfl, rfl, hgl, hgg, P_l, P_g, hdg, oA.wide (by omega) (by omega), oG.wide (by omega) (by omega), hHeld⟩
      · skip
        go_simp
        have P_g := heap_alloc_new Wg23 (.cells z18 80)
        have hb := ba1 Wg23 (.cells z18 80)
        have hgg := hHeld.size
        have hzWg31 : Wg23.heap.size < (Wg23.alloc (.cells z18 80)).heap.size := by rw [sz1]; omega
        replace P_l := rblk_below P_l hb
        refine hK.out _ _ (bt hHeld hb) (fun hH => ?_)
        clear hK K hHeld hb
        have hHeld := hH
        clear hH
        try simp only [ps]
        generalize Wg23.alloc (.cells z18 80) = Wg31 at hzWg31 hHeld P_g P_l ⊢
        refine rd1 (i := 1) (by kernel_rfl) rfl (fun K hK => ?_)
        go_simp
        (go_at_call 91; ((with_reducible refine (HA.out _ (HKB.out _ hHeld)).mono ?_); rintro e Wg32 ⟨a0, rfl, -, -, oA, -, hb⟩))
        have hzWg32 : Wg31.heap.size ≤ Wg32.heap.size := hb.size
        replace P_l := rblk_below P_l hb
        replace P_g := rblk_below P_g hb
        refine hK.out _ _ (bt hHeld hb) (fun hH => ?_)
        clear hK K hHeld hb
        have hHeld := hH
        clear hH
        try simp only [ps]
        refine rd1 (i := 3) (by kernel_rfl) rfl (fun K hK => ?_)
        go_simp
        (go_at_call 68; ((with_reducible refine (HG1.out _ (HKB.out _ hHeld)).mono ?_); rintro e Wg33 ⟨g0, g1, g2, rfl, hdg, -, oG, -, hb⟩))
        have hzWg33 : Wg32.heap.size ≤ Wg33.heap.size := hb.size
        replace P_l := rblk_below P_l hb
        replace P_g := rblk_below P_g hb
        replace oA := oA.below hb
        refine hK.out _ _ (bt hHeld hb) (fun hH => ?_)
        clear hK K hHeld hb
        have hHeld := hH
        clear hH
        try simp only [ps]
        have nlg : Wd.heap.size ≠ Wg23.heap.size := by omega
        refine rd1 (i := 6) (by kernel_rfl) rfl (fun K hK => ?_)
        have ⟨⟨t0, t1, t2⟩, q0, q1, q2⟩ := blk3 P_l
        go_simp
        clear t0 t1 t2 q0 q1 q2
        obtain ⟨Wg34, hW, hH1, P_l, P_g, oA, oG, hzWg34⟩ := leaf3 hHeld hgl nlg P_l P_g oA oG (by omega) (by omega) (.bool Sx.p) (.slice a0.A Sx.l.length a0.c) (.slice a0.D Sx.m.length a0.d)
        rw [← hW]
        clear hW
        refine hK.out _ _ hH1 (fun hHeld => ?_)
        clear hK K
        try simp only [ps]
        refine rd1 (i := 7) (by kernel_rfl) rfl (fun K hK => ?_)
        rw [if_pos (by rfl)]
        refine wp_store_at 80 (.tmp 5) (.tmp 13) rfl (Wg23.heap.size) 0 (p18 g0 g1 g2) rfl rfl 80 _ P_g a3_size (by simp) (by simp [Value.oneCell']) ?_
        rw [ecs18 g0 g1 g2]
        refine hK.out _ _ (below_setRow hHeld hgg _) (fun hH => ?_)
        clear hK K hHeld
        have hHeld := hH
        clear hH
        replace P_g := rowV_set P_g (p18 g0 g1 g2)
        replace P_l := rowV_other P_l nlg.symm (p18 g0 g1 g2)
        replace oA := oA.setRow (g := Wg23.heap.size) (by omega) (p18 g0 g1 g2)
        replace oG := oG.setRow (g := Wg23.heap.size) (by omega) (p18 g0 g1 g2)
        have z9 : (Wg34.setRow Wg23.heap.size #[.bool g0.x.p, .slice g0.a.A g0.x.l.length g0.a.c, .slice g0.a.D g0.x.m.length g0.a.d, .bool g0.y.p, .slice g0.b.A g0.y.l.length g0.b.c, .slice g0.b.D g0.y.m.length g0.b.d, .bool g1.x.p, .slice g1.a.A g1.x.l.length g1.a.c, .slice g1.a.D g1.x.m.length g1.a.d, .bool g1.y.p, .slice g1.b.A g1.y.l.length g1.b.c, .slice g1.b.D g1.y.m.length g1.b.d, .bool g2.x.p, .slice g2.a.A g2.x.l.length g2.a.c, .slice g2.a.D g2.x.m.length g2.a.d, .bool g2.y.p, .slice g2.b.A g2.y.l.length g2.b.c, .slice g2.b.D g2.y.m.length g2.b.d]).heap.size = Wg34.heap.size := setRow_size _ _ _
        try simp only [ps]
        refine wpAnyH_done (by kernel_rfl) ?_ _
        go_wp2_with fail
        go_meet
        exact ⟨_, _, a0, g0, g1, g2, rfl, rfl, hgl, hgg, P_l, P_g, hdg, oA.wide (by omega) (by omega), oG.wide (by omega) (by omega), hHeld⟩
    · skip
      go_simp
      have P_g := heap_alloc_new Wd (.cells z18 80)
      have hb := ba1 Wd (.cells z18 80)
      have hgg := hHeld.size
      have hzWg35 : Wd.heap.size < (Wd.alloc (.cells z18 80)).heap.size := by rw [sz1]; omega
      refine hK.out _ _ (bt hHeld hb) (fun hH => ?_)
      clear hK K hHeld hb
      have hHeld := hH
      clear hH
      try simp only [ps]
      generalize Wd.alloc (.cells z18 80) = Wg35 at hzWg35 hHeld P_g  ⊢
      refine wpAnyH_ready (rs := [1, 4]) (by kernel_rfl) (by simp) ?_
      refine rc1 rfl (fun K hK => ?_) (rc1 rfl (fun K hK => ?_) AllReadyH.nil)
      · skip
        go_simp
        (go_at_call 91; ((with_reducible refine (HA.out _ (HKB.out _ hHeld)).mono ?_); rintro e Wg36 ⟨a0, rfl, -, -, oA, -, hb⟩))
        have hzWg36 : Wg35.heap.size ≤ Wg36.heap.size := hb.size
        replace P_g := rblk_below P_g hb
        refine hK.out _ _ (bt hHeld hb) (fun hH => ?_)
        clear hK K hHeld hb
        have hHeld := hH
        clear hH
        try simp only [ps]
        refine wpAnyH_ready (rs := [3, 4]) (by kernel_rfl) (by simp) ?_
        refine rc1 rfl (fun K hK => ?_) (rc1 rfl (fun K hK => ?_) AllReadyH.nil)
        · skip
          go_simp
          (go_at_call 68; ((with_reducible refine (HG1.out _ (HKB.out _ hHeld)).mono ?_); rintro e Wg37 ⟨g0, g1, g2, rfl, hdg, -, oG, -, hb⟩))
          have hzWg37 : Wg36.heap.size ≤ Wg37.heap.size := hb.size
          replace P_g := rblk_below P_g hb
          replace oA := oA.below hb
          refine hK.out _ _ (bt hHeld hb) (fun hH => ?_)
          clear hK K hHeld hb
          have hHeld := hH
          clear hH
          try simp only [ps]
          refine rd1 (i := 4) (by kernel_rfl) rfl (fun K hK => ?_)
          go_simp
          have P_l := heap_alloc_new Wg37 (.cells #[.bool false, .slice none 0 0, .slice none 0 0] 29)
          have hb := ba1 Wg37 (.cells #[.bool false, .slice none 0 0, .slice none 0 0] 29)
          have hgl := hHeld.size
          have hzWg38 : Wg37.heap.size < (Wg37.alloc (.cells #[.bool false, .slice none 0 0, .slice none 0 0] 29)).heap.size := by rw [sz1]; omega
          replace P_g := rblk_below P_g hb
          replace oA := oA.below hb
          replace oG := oG.below hb
          refine hK.out _ _ (bt hHeld hb) (fun hH => ?_)
          clear hK K hHeld hb
          have hHeld := hH
          clear hH
          try simp only [ps]
          generalize Wg37.alloc (.cells #[.bool false, .slice none 0 0, .slice none 0 0] 29) = Wg38 at hzWg38 hHeld P_l P_g oA oG ⊢
          have nlg : Wg37.heap.size ≠ Wd.heap.size := by omega
          refine rd1 (i := 6) (by kernel_rfl) rfl (fun K hK => ?_)
          have ⟨⟨t0, t1, t2⟩, q0, q1, q2⟩ := blk3 P_l
          go_simp
          clear t0 t1 t2 q0 q1 q2
          obtain ⟨Wg39, hW, hH1, P_l, P_g, oA, oG, hzWg39⟩ := leaf3 hHeld hgl nlg P_l P_g oA oG (by omega) (by omega) (.bool Sx.p) (.slice a0.A Sx.l.length a0.c) (.slice a0.D Sx.m.length a0.d)
          rw [← hW]
          clear hW
          refine hK.out _ _ hH1 (fun hHeld => ?_)
          clear hK K
          try simp only [ps]
          refine rd1 (i := 7) (by kernel_rfl) rfl (fun K hK => ?_)
          rw [if_pos (by rfl)]
          refine wp_store_at 80 (.tmp 5) (.tmp 13) rfl (Wd.heap.size) 0 (p18 g0 g1 g2) rfl rfl 80 _ P_g a3_size (by simp) (by simp [Value.oneCell']) ?_
          rw [ecs18 g0 g1 g2]
          refine hK.out _ _ (below_setRow hHeld hgg _) (fun hH => ?_)
          clear hK K hHeld
          have hHeld := hH
          clear hH
          replace P_g := rowV_set P_g (p18 g0 g1 g2)
          replace P_l := rowV_other P_l nlg.symm (p18 g0 g1 g2)
          replace oA := oA.setRow (g := Wd.heap.size) (by omega) (p18 g0 g1 g2)
          replace oG := oG.setRow (g := Wd.heap.size) (by omega) (p18 g0 g1 g2)
          have z9 : (Wg39.setRow Wd.heap.size #[.bool g0.x.p, .slice g0.a.A g0.x.l.length g0.a.c, .slice g0.a.D g0.x.m.length g0.a.d, .bool g0.y.p, .slice g0.b.A g0.y.l.length g0.b.c, .slice g0.b.D g0.y.m.length g0.b.d, .bool g1.x.p, .slice g1.a.A g1.x.l.length g1.a.c, .slice g1.a.D g1.x.m.length g1.a.d, .bool g1.y.p, .slice g1.b.A g1.y.l.length g1.b.c, .slice g1.b.D g1.y.m.length g1.b.d, .bool g2.x.p, .slice g2.a.A g2.x.l.length g2.a.c, .slice g2.a.D g2.x.m.length g2.a.d, .bool g2.y.p, .slice g2.b.A g2.y.l.length g2.b.c, .slice g2.b.D g2.y.m.length g2.b.d]).heap.size = Wg39.heap.size := setRow_size _ _ _
          try simp only [ps]
          refine wpAnyH_done (by kernel_rfl) ?_ _
          go_wp2_with fail
          go_meet
          exact ⟨_, _, a0, g0, g1, g2, rfl, rfl, hgl, hgg, P_l, P_g, hdg, oA.wide (by omega) (by omega), oG.wide (by omega) (by omega), hHeld⟩
        · skip
          go_simp
          have P_l := heap_alloc_new Wg36 (.cells #[.bool false, .slice none 0 0, .slice none 0 0] 29)
          have hb := ba1 Wg36 (.cells #[.bool false, .slice none 0 0, .slice none 0 0] 29)
          have hgl := hHeld.size
          have hzWg40 : Wg36.heap.size < (Wg36.alloc (.cells #[.bool false, .slice none 0 0, .slice none 0 0] 29)).heap.size := by rw [sz1]; omega
          replace P_g := rblk_below P_g hb
          replace oA := oA.below hb
          refine hK.out _ _ (bt hHeld hb) (fun hH => ?_)
          clear hK K hHeld hb
          have hHeld := hH
          clear hH
          try simp only [ps]
          generalize Wg36.alloc (.cells #[.bool false, .slice none 0 0, .slice none 0 0] 29) = Wg40 at hzWg40 hHeld P_l P_g oA ⊢
          refine rd1 (i := 3) (by kernel_rfl) rfl (fun K hK => ?_)
          go_simp
          (go_at_call 68; ((with_reducible refine (HG1.out _ (HKB.out _ hHeld)).mono ?_); rintro e Wg41 ⟨g0, g1, g2, rfl, hdg, -, oG, -, hb⟩))
          have hzWg41 : Wg40.heap.size ≤ Wg41.heap.size := hb.size
          replace P_l := rblk_below P_l hb
          replace P_g := rblk_below P_g hb
          replace oA := oA.below hb
          refine hK.out _ _ (bt hHeld hb) (fun hH => ?_)
          clear hK K hHeld hb
          have hHeld := hH
          clear hH
          try simp only [ps]
          have nlg : Wg36.heap.size ≠ Wd.heap.size := by omega
          refine rd1 (i := 6) (by kernel_rfl) rfl (fun K hK => ?_)
          have ⟨⟨t0, t1, t2⟩, q0, q1, q2⟩ := blk3 P_l
          go_simp
          clear t0 t1 t2 q0 q1 q2
          obtain ⟨Wg42, hW, hH1, P_l, P_g, oA, oG, hzWg42⟩ := leaf3 hHeld hgl nlg P_l P_g oA oG (by omega) (by omega) (.bool Sx.p) (.slice a0.A Sx.l.length a0.c) (.slice a0.D Sx.m.length a0.d)
          rw [← hW]
          clear hW
          refine hK.out _ _ hH1 (fun hHeld => ?_)
          clear hK K
          try simp only [ps]
          refine rd1 (i := 7) (by kernel_rfl) rfl (fun K hK => ?_)
          rw [if_pos (by rfl)]
          refine wp_store_at 80 (.tmp 5) (.tmp 13) rfl (Wd.heap.size) 0 (p18 g0 g1 g2) rfl rfl 80 _ P_g a3_size (by simp) (by simp [Value.oneCell']) ?_
          rw [ecs18 g0 g1 g2]
          refine hK.out _ _ (below_setRow hHeld hgg _) (fun hH => ?_)
          clear hK K hHeld
          have hHeld := hH
          clear hH
          replace P_g := rowV_set P_g (p18 g0 g1 g2)
          replace P_l := rowV_other P_l nlg.symm (p18 g0 g1 g2)
          replace oA := oA.setRow (g := Wd.heap.size) (by omega) (p18 g0 g1 g2)
          replace oG := oG.setRow (g := Wd.heap.size) (by omega) (p18 g0 g1 g2)
          have z9 : (Wg42.setRow Wd.heap.size #[.bool g0.x.p, .slice g0.a.A g0.x.l.length g0.a.c, .slice g0.a.D g0.x.m.length g0.a.d, .bool g0.y.p, .slice g0.b.A g0.y.l.length g0.b.c, .slice g0.b.D g0.y.m.length g0.b.d, .bool g1.x.p, .slice g1.a.A g1.x.l.length g1.a.c, .slice g1.a.D g1.x.m.length g1.a.d, .bool g1.y.p, .slice g1.b.A g1.y.l.length g1.b.c, .slice g1.b.D g1.y.m.length g1.b.d, .bool g2.x.p, .slice g2.a.A g2.x.l.length g2.a.c, .slice g2.a.D g2.x.m.length g2.a.d, .bool g2.y.p, .slice g2.b.A g2.y.l.length g2.b.c, .slice g2.b.D g2.y.m.length g2.b.d]).heap.size = Wg42.heap.size := setRow_size _ _ _
          try simp only [ps]
          refine wpAnyH_done (by kernel_rfl) ?_ _
          go_wp2_with fail
          go_meet
          exact ⟨_, _, a0, g0, g1, g2, rfl, rfl, hgl, hgg, P_l, P_g, hdg, oA.wide (by omega) (by omega), oG.wide (by omega) (by omega), hHeld⟩
      · skip
        go_simp
        have P_l := heap_alloc_new Wg35 (.cells #[.bool false, .slice none 0 0, .slice none 0 0] 29)
        have hb := ba1 Wg35 (.cells #[.bool false, .slice none 0 0, .slice none 0 0] 29)
        have hgl := hHeld.size
        have hzWg43 : Wg35.heap.size < (Wg35.alloc (.cells #[.bool false, .slice none 0 0, .slice none 0 0] 29)).heap.size := by rw [sz1]; omega
        replace P_g := rblk_below P_g hb
        refine hK.out _ _ (bt hHeld hb) (fun hH => ?_)
        clear hK K hHeld hb
        have hHeld := hH
        clear hH
        try simp only [ps]
        generalize Wg35.alloc (.cells #[.bool false, .slice none 0 0, .slice none 0 0] 29) = Wg43 at hzWg43 hHeld P_l P_g ⊢
        refine rd1 (i := 1) (by kernel_rfl) rfl (fun K hK => ?_)
        go_simp
        (go_at_call 91; ((with_reducible refine (HA.out _ (HKB.out _ hHeld)).mono ?_); rintro e Wg44 ⟨a0, rfl, -, -, oA, -, hb⟩))
        have hzWg44 : Wg43.heap.size ≤ Wg44.heap.size := hb.size
        replace P_l := rblk_below P_l hb
        replace P_g := rblk_below P_g hb
        refine hK.out _ _ (bt hHeld hb) (fun hH => ?_)
        clear hK K hHeld hb
        have hHeld := hH
        clear hH
        try simp only [ps]
        refine rd1 (i := 3) (by kernel_rfl) rfl (fun K hK => ?_)
        go_simp
        (go_at_call 68; ((with_reducible refine (HG1.out _ (HKB.out _ hHeld)).mono ?_); rintro e Wg45 ⟨g0, g1, g2, rfl, hdg, -, oG, -, hb⟩))
        have hzWg45 : Wg44.heap.size ≤ Wg45.heap.size := hb.size
        replace P_l := rblk_below P_l hb
        replace P_g := rblk_below P_g hb
        replace oA := oA.below hb
        refine hK.out _ _ (bt hHeld hb) (fun hH => ?_)
        clear hK K hHeld hb
        have hHeld := hH
        clear hH
        try simp only [ps]
        have nlg : Wg35.heap.size ≠ Wd.heap.size := by omega
        refine rd1 (i := 6) (by kernel_rfl) rfl (fun K hK => ?_)
        have ⟨⟨t0, t1, t2⟩, q0, q1, q2⟩ := blk3 P_l
        go_simp
        clear t0 t1 t2 q0 q1 q2
        obtain ⟨Wg46, hW, hH1, P_l, P_g, oA, oG, hzWg46⟩ := leaf3 hHeld hgl nlg P_l P_g oA oG (by omega) (by omega) (.bool Sx.p) (.slice a0.A Sx.l.length a0.c) (.slice a0.D Sx.m.length a0.d)
        rw [← hW]
        clear hW
        refine hK.out _ _ hH1 (fun hHeld => ?_)
        clear hK K
        try simp only [ps]
        refine rd1 (i := 7) (by kernel_rfl) rfl (fun K hK => ?_)
        rw [if_pos (by rfl)]
        refine wp_store_at 80 (.tmp 5) (.tmp 13) rfl (Wd.heap.size) 0 (p18 g0 g1 g2) rfl rfl 80 _ P_g a3_size (by simp) (by simp [Value.oneCell']) ?_
        rw [ecs18 g0 g1 g2]
        refine hK.out _ _ (below_setRow hHeld hgg _) (fun hH => ?_)
        clear hK K hHeld
        have hHeld := hH
        clear hH
        replace P_g := rowV_set P_g (p18 g0 g1 g2)
        replace P_l := rowV_other P_l nlg.symm (p18 g0 g1 g2)
        replace oA := oA.setRow (g := Wd.heap.size) (by omega) (p18 g0 g1 g2)
        replace oG := oG.setRow (g := Wd.heap.size) (by omega) (p18 g0 g1 g2)
        have z9 : (Wg46.setRow Wd.heap.size #[.bool g0.x.p, .slice g0.a.A g0.x.l.length g0.a.c, .slice g0.a.D g0.x.m.length g0.a.d, .bool g0.y.p, .slice g0.b.A g0.y.l.length g0.b.c, .slice g0.b.D g0.y.m.length g0.b.d, .bool g1.x.p, .slice g1.a.A g1.x.l.length g1.a.c, .slice g1.a.D g1.x.m.length g1.a.d, .bool g1.y.p, .slice g1.b.A g1.y.l.length g1.b.c, .slice g1.b.D g1.y.m.length g1.b.d, .bool g2.x.p, .slice g2.a.A g2.x.l.length g2.a.c, .slice g2.a.D g2.x.m.length g2.a.d, .bool g2.y.p, .slice g2.b.A g2.y.l.length g2.b.c, .slice g2.b.D g2.y.m.length g2.b.d]).heap.size = Wg46.heap.size := setRow_size _ _ _
        try simp only [ps]
        refine wpAnyH_done (by kernel_rfl) ?_ _
        go_wp2_with fail
        go_meet
        exact ⟨_, _, a0, g0, g1, g2, rfl, rfl, hgl, hgg, P_l, P_g, hdg, oA.wide (by omega) (by omega), oG.wide (by omega) (by omega), hHeld⟩
  case rest =>
    obtain ⟨gl, gg, a0, g0, g1, g2, rfl, rfl, hgl, hgg, P_l, P_g, hdg, o0, oG, hb⟩ := hcut
    clear P_t HPT HKB HA HG1
    replace P_o := rblk_below P_o hb
    replace P_s := rblk_below P_s hb
    have HG : Hid (w.heap.size < gs ∧ go < gs ∧ gs < W1.heap.size ∧ w.heap.size < go ∧ gs < gl) := Lib.hid ⟨HGS.out.1, HGS.out.2.1, HG0.out, HGS.out.2.2, Nat.lt_of_lt_of_le HG0.out hgl⟩
    have HGG : Hid (gs < gg) := Lib.hid (Nat.lt_of_lt_of_le HG0.out hgg)
    replace kb := bt kb hb
    clear hb HG0 HGS hgl hgg
    have HMM : Hid (dat [g0, g1, g2] = GD) := Lib.hid hdg
    clear hdg
    have HIX := Lib.hid (fun (j : Nat) (x : PV) h W => run_idx3 g0 g1 g2 (j := j) (x := x) h W)
    generalize W1.heap.size = lo at o0 oG HG
    obtain ⟨W6, hW6⟩ : ∃ W', W' = wc := ⟨_, rfl⟩
    subst hW6
    generalize W6.heap.size = hi0 at o0 oG
    have hld := cells_row P_g
    go_wp2_with (first | refine wpList_load_at rfl 80 (.tmp 5) rfl gg 0 (p18 g0 g1 g2) rfl a3_agg (run_size a3_size) hld ?_)
    clear hld
    go_loopw [15] (fun k w' => ∃ (i : Nat) (M : List RV), i ≤ 3 ∧ k = .int .i64 (i : Int) ∧ M.length = 3 * i ∧ datQ M = D9.take (3 * i) ∧ (∀ p, p ∈ M → CapQ p) ∧ w'.heap[gs]? = some (.cells (flatQ (M ++ List.replicate (9 - (3 * i)) RV0)).toArray 100 (0, 0)) ∧ Owns (gs + 1) w'.heap.size w' (lrowQ M) ∧ Aparts (lrowQ M) ∧ w'.heap[gl]? = some (.cells (r3 Sx a0) 29 (0, 0)) ∧ w'.heap[go]? = some (.cells #[.bool false, .slice none 0 0, .slice none 0 0, .bool false, .slice none 0 0, .slice none 0 0, .bool false, .slice none 0 0, .slice none 0 0, .bool false, .slice none 0 0, .slice none 0 0, .bool false, .slice none 0 0, .slice none 0 0, .bool false, .slice none 0 0, .slice none 0 0, .bool false, .slice none 0 0, .slice none 0 0, .bool false, .slice none 0 0, .slice none 0 0, .bool false, .slice none 0 0, .slice none 0 0] 100 (0, 0)) ∧ Owns lo hi0 w' (rows Sx a0) ∧ Owns lo hi0 w' (lrow [g0, g1, g2]) ∧ w'.heap[gg]? = some (.cells (p18 g0 g1 g2) 80 (0, 0)) ∧ Below w.heap.size w w') (fun k _ => 3 - (intOf k).toNat)
    case atStart => exact ⟨0, [], by omega, rfl, rfl, H9A.out.2.symm, (fun p hp => by cases hp), P_s, Owns.nil _ _ _, Aparts.nil, P_l, P_o, o0, oG, P_g, kb⟩
    case round =>
      clear P_s P_l P_o o0 oG P_g kb
      obtain ⟨i, M, hi, rfl, hM, hd, hcap, P_s, hOl, hap, P_l, P_o, ol, oG, P_g, kb⟩ := hrel
      by_cases hli : i < 3
      · have hi0' : (0 : Int) ≤ (i : Int) := by omega
        have hi1 : (i : Int) < 3 := by omega
        obtain ⟨x, hx⟩ := getP (L := [g0, g1, g2]) (i := i) hli
        have hidx := HIX.out i x hx
        have hld := cells_row P_g
        have P_e := heap_alloc_new wr (.cells (p6 x) 31)
        have hb := ba1 wr (.cells (p6 x) 31)
        have HGE : Hid (gs < wr.heap.size) := Lib.hid (rblk_lt P_s)
        go_wp2_with (first | simp only [hidx] | refine wpList_load_at rfl 80 (.tmp 5) rfl gg 0 (p18 g0 g1 g2) rfl a3_agg (run_size a3_size) (fun j hj => (cells_row (rblk_below P_g hb)) j hj) ?_)
        replace P_s := rblk_below P_s hb
        replace P_l := rblk_below P_l hb
        replace P_o := rblk_below P_o hb
        replace P_g := rblk_below P_g hb
        replace hOl := (hOl.below hb).wide (Nat.le_refl _) hb.size
        replace ol := ol.below hb
        replace oG := oG.below hb
        replace kb := bt kb hb
        clear hb hidx hld
        generalize wr.alloc (.cells (p6 x) 31) = Wq at P_e P_s P_l P_o P_g hOl ol oG kb ⊢
        generalize wr.heap.size = ge at P_e HGE ⊢
        have HX := Lib.hid hx
        clear hx
        go_loopw [20] (fun k w' => ∃ (j : Nat) (M : List RV), j ≤ 3 ∧ k = .int .i64 (j : Int) ∧ M.length = 3 * i + j ∧ datQ M = D9.take (3 * i + j) ∧ (∀ p, p ∈ M → CapQ p) ∧ w'.heap[gs]? = some (.cells (flatQ (M ++ List.replicate (9 - (3 * i + j)) RV0)).toArray 100 (0, 0)) ∧ Owns (gs + 1) w'.heap.size w' (lrowQ M) ∧ Aparts (lrowQ M) ∧ w'.heap[gl]? = some (.cells (r3 Sx a0) 29 (0, 0)) ∧ w'.heap[go]? = some (.cells #[.bool false, .slice none 0 0, .slice none 0 0, .bool false, .slice none 0 0, .slice none 0 0, .bool false, .slice none 0 0, .slice none 0 0, .bool false, .slice none 0 0, .slice none 0 0, .bool false, .slice none 0 0, .slice none 0 0, .bool false, .slice none 0 0, .slice none 0 0, .bool false, .slice none 0 0, .slice none 0 0, .bool false, .slice none 0 0, .slice none 0 0, .bool false, .slice none 0 0, .slice none 0 0] 100 (0, 0)) ∧ Owns lo hi0 w' (rows Sx a0) ∧ Owns lo hi0 w' (lrow [g0, g1, g2]) ∧ w'.heap[gg]? = some (.cells (p18 g0 g1 g2) 80 (0, 0)) ∧ w'.heap[ge]? = some (.cells (p6 x) 31 (0, 0)) ∧ Below w.heap.size w w') (fun k _ => 3 - (intOf k).toNat)
        case atStart => exact ⟨0, M, by omega, rfl, hM, hd, hcap, P_s, hOl, hap, P_l, P_o, ol, oG, P_g, P_e, kb⟩
        case round =>
          clear P_s P_l P_o ol oG P_g P_e kb hOl hap hM hd hcap
          obtain ⟨j, M, hj, rfl, hM, hd, hcap, P_s, hOl, hap, P_l, P_o, ol, oG, P_g, P_e, kb⟩ := hrel
          have HF := Lib.hid (And.intro hM (And.intro hd hcap))
          clear hM hd hcap
          by_cases hlt : j < 3
          · have hj0 : (0 : Int) ≤ (j : Int) := by omega
            have hj1 : (j : Int) < 3 := by omega
            obtain ⟨n, hn⟩ : ∃ n, 9 - (3 * i + j) = n + 1 := ⟨8 - (3 * i + j), by omega⟩
            have HNn : Hid (9 - (3 * i + (j + 1)) = n ∧ j < 3 ∧ i * 9 + j * 3 = (3 * i + j) * 3) := Lib.hid ⟨by omega, hlt, by omega⟩
            rw [hn] at P_s
            clear hn
            obtain ⟨y, hy⟩ := getP (L := [g0, g1, g2]) (i := j) hlt
            have hidx := HIX.out j y hy
            have hxg : GD[i]? = some (x.x, x.y) := by rw [← HMM.out]; unfold dat; rw [List.getElem?_map, HX.out]; rfl
            have hyg : GD[j]? = some (y.x, y.y) := by rw [← HMM.out]; unfold dat; rw [List.getElem?_map, hy]; rfl
            obtain ⟨⟨nx, ny⟩, _⟩ := HNI.out i _ _ hxg
            obtain ⟨⟨mx, my⟩, _⟩ := HNI.out j _ _ hyg
            have HUV := Lib.hid (H9.out i j hli hlt)
            rw [dAt_get hxg, dAt_get hyg] at HUV
            have HIN := Lib.hid (fun W h h' => show Calls Tryz.prog 150 #[.agg (p6 x), .agg (p6 y)] W (MadeQ W.heap.size (ofO (inD (x.x, x.y) (y.x, y.y))) W) from by
              have K := innerP_r (valx x.x) (valx x.y) (valx y.x) (valx y.y) x.a x.b y.a y.b W (FitO.val _) (FitO.val _) (FitO.val _) (FitO.val _) (by rw [← nx, ← ny]; exact h) (by rw [← mx, ← my]; exact h')
              rw [← nx, ← ny, ← mx, ← my] at K; exact K)
            have HTj := Lib.hid (HT.out (x.x, x.y) (y.x, y.y))
            generalize ofO (binQ mulQ s (inD (x.x, x.y) (y.x, y.y))) = Fj at HTj HUV
            generalize ofO (inD (x.x, x.y) (y.x, y.y)) = Ij at HIN HTj
            unfold MadeQ at HIN
            have HRX := Lib.hid (And.intro (oG.rds.at HX.out) (oG.rds.at hy))
            have HWR := Lib.hid (Below.refl wr.heap.size wr)
            have P_f := heap_alloc_new wr (.cells (p6 y) 31)
            have hb := ba1 wr (.cells (p6 y) 31)
            have HGF : Hid (gs < wr.heap.size) := Lib.hid (rblk_lt P_s)
            clear hxg hyg nx ny mx my hy
            go_wp2_with (simp only [hidx])
            replace P_s := rblk_below P_s hb
            replace P_l := rblk_below P_l hb
            replace P_o := rblk_below P_o hb
            replace P_g := rblk_below P_g hb
            replace P_e := rblk_below P_e hb
            replace hOl := (hOl.below hb).wide (Nat.le_refl _) hb.size
            replace ol := ol.below hb
            replace oG := oG.below hb
            replace kb := bt kb hb
            have RX := HRX.out.1.below hb
            have RY := HRX.out.2.below hb
            clear hb hidx HRX HWR
            generalize wr.alloc (.cells (p6 y) 31) = Wr at P_f P_e P_s P_l P_o P_g hOl ol oG kb RX RY ⊢
            generalize wr.heap.size = gf at P_f HGF ⊢
            have HGx : Hid (gs < ge ∧ gs < gf ∧ gs < lo ∧ gs < gg) := Lib.hid ⟨HGE.out, HGF.out, HG.out.2.2.1, HGG.out⟩
            have hb : Below Wr.heap.size Wr Wr.drew := (Below.refl _ _).drew
            replace P_s := rblk_below P_s hb
            replace P_o := rblk_below P_o hb
            replace P_g := rblk_below P_g hb
            replace hOl := (hOl.below hb).wide (Nat.le_refl _) hb.size
            replace ol := ol.below hb
            replace oG := oG.below hb
            replace kb := bt kb hb
            replace RX := RX.below hb
            replace RY := RY.below hb
            clear hb
            refine wp_region_held_drew (S := fun w' => w'.heap[gl]? = some (.cells (r3 Sx a0) 29 (0, 0)) ∧ w'.heap[ge]? = some (.cells (p6 x) 31 (0, 0)) ∧ w'.heap[gf]? = some (.cells (p6 y) 31 (0, 0))) (by kernel_rfl) ⟨P_l, P_e, P_f⟩ (fun hHeld => ?_)
            clear P_l P_e P_f
            generalize Wr.drew = Wd at *
            refine tk (i := 0) (v := ?vg2_1) rfl (by kernel_rfl) (fun _ _ _ h => h) (Or.inl ⟨by rfl, ?hg2_1⟩) hHeld ?_
            case hg2_1 => (intro w hSw; (try dsimp only at hSw); go_simp; (try with_reducible rfl))
            try simp only [ps]
            refine tk (i := 1) (v := ?vg2_2) rfl (by kernel_rfl) (fun _ _ _ h => h) (Or.inl ⟨by rfl, ?hg2_2⟩) hHeld ?_
            case hg2_2 => (intro w hSw; (try dsimp only at hSw); go_simp; (try with_reducible rfl))
            try simp only [ps]
            refine tk (i := 2) (v := ?vg2_3) rfl (by kernel_rfl) (fun _ _ _ h => h) (Or.inl ⟨by rfl, ?hg2_3⟩) hHeld ?_
            case hg2_3 => (intro w hSw; (try dsimp only at hSw); have t0 := rblk_cell hSw.1 0; have t1 := rblk_cell hSw.1 1; have t2 := rblk_cell hSw.1 2; go_simp; (try with_reducible rfl))
            try simp only [ps]
            refine tk (i := 3) (v := ?vg2_4) rfl (by kernel_rfl) (fun _ _ _ h => h) (Or.inl ⟨by rfl, ?hg2_4⟩) hHeld ?_
            case hg2_4 => (intro w hSw; (try dsimp only at hSw); have t0 := rblk_cell hSw.2.1 0; have t1 := rblk_cell hSw.2.1 1; have t2 := rblk_cell hSw.2.1 2; have t3 := rblk_cell hSw.2.1 3; have t4 := rblk_cell hSw.2.1 4; have t5 := rblk_cell hSw.2.1 5; go_simp; (try with_reducible rfl))
            try simp only [ps]
            refine tk (i := 4) (v := ?vg2_5) rfl (by kernel_rfl) (fun _ _ _ h => h) (Or.inl ⟨by rfl, ?hg2_5⟩) hHeld ?_
            case hg2_5 => (intro w hSw; (try dsimp only at hSw); have t0 := rblk_cell hSw.2.2 0; have t1 := rblk_cell hSw.2.2 1; have t2 := rblk_cell hSw.2.2 2; have t3 := rblk_cell hSw.2.2 3; have t4 := rblk_cell hSw.2.2 4; have t5 := rblk_cell hSw.2.2 5; go_simp; (try with_reducible rfl))
            try simp only [ps]
            refine tk (i := 7) (v := .pointer (some ⟨gs, i * 9, none⟩)) rfl (by kernel_rfl) (fun _ _ _ h => h) (Or.inl ⟨by rfl, ?hg2_6⟩) hHeld ?_
            case hg2_6 => (intro w hSw; (try dsimp only at hSw); go_simp; (try rfl))
            try simp only [ps]
            refine rd1 (i := 5) (by kernel_rfl) rfl (fun K hK => ?_)
            go_simp
            (go_at_call 150; ((with_reducible refine (HIN.out _ RX RY).mono ?_); rintro e Wr2_7 ⟨a1, rfl, hx1, hy1, o1, hap1, hb⟩))
            refine hK.out _ _ ⟨rblk_below hHeld.1 hb, rblk_below hHeld.2.1 hb, rblk_below hHeld.2.2 hb⟩ (fun hH => ?_)
            replace hHeld := hH
            clear hK K hH
            replace P_s := rblk_below P_s hb
            replace P_o := rblk_below P_o hb
            replace P_g := rblk_below P_g hb
            replace hOl := (hOl.below hb).wide (Nat.le_refl _) hb.size
            replace ol := ol.below hb
            replace oG := oG.below hb
            replace kb := bt kb hb
            clear hap1 hx1 hy1 RX RY
            clear hb
            try simp only [ps]
            refine rd1 (i := 6) (by kernel_rfl) rfl (fun K hK => ?_)
            have hgz := rblk_lt P_s
            go_simp
            (go_at_call 140; ((with_reducible refine (HTj.out _ _ _ ol.rds o1.rds).mono ?_); rintro e Wo ⟨a3, rfl, hcx, hcy, o3, hap3, hb⟩))
            have QO2 := hOl
            refine hK.out _ _ ⟨rblk_below hHeld.1 hb, rblk_below hHeld.2.1 hb, rblk_below hHeld.2.2 hb⟩ (fun hH => ?_)
            replace hHeld := hH
            clear hK K hH
            replace P_s := rblk_below P_s hb
            replace P_o := rblk_below P_o hb
            replace P_g := rblk_below P_g hb
            replace hOl := (hOl.below hb).wide (Nat.le_refl _) hb.size
            replace ol := ol.below hb
            replace oG := oG.below hb
            replace kb := bt kb hb
            replace o1 := o1.below hb
            have o3w := o3.wide (lo' := gs + 1) hgz (Nat.le_refl _)
            have A2 := Aparts.app hap hap3 QO2 o3
            clear hb o1 QO2 o3 hap hap3
            try simp only [ps]
            refine tk (i := 8) (v := .pointer (some ⟨gs, i * 9 + j * 3, none⟩)) rfl (by kernel_rfl) (fun _ _ _ h => h) (Or.inl ⟨by rfl, ?hg2_9⟩) hHeld ?_
            case hg2_9 => (intro w hSw; (try dsimp only at hSw); go_simp; (try rfl))
            try simp only [ps]
            refine rd1 (i := 9) (by kernel_rfl) rfl (fun K hK => ?_)
            rw [if_pos (by rfl)]
            refine wp_store_at 29 (.tmp 32) (.tmp 30) rfl gs (i * 9 + j * 3) (r3 Fj a3) rfl rfl 100 _ P_s ratq_size (row_holdQ HF.out.1 HNn.out.2.2) (by simp [Value.oneCell']) ?_
            obtain ⟨cs, ecs, P_s2⟩ := row_exQ (n := n) HF.out.1 HNn.out.2.2 P_s ⟨Fj, a3⟩
            rw [ecs]
            clear ecs
            have ngo : gs ≠ go := by have := HG.out; have := HGx.out; omega
            have ngl : gs ≠ gl := by have := HG.out; have := HGx.out; omega
            have nge : gs ≠ ge := by have := HG.out; have := HGx.out; omega
            have ngf : gs ≠ gf := by have := HG.out; have := HGx.out; omega
            have ngg : gs ≠ gg := by have := HG.out; have := HGx.out; omega
            have z3 : (Wo.setRow gs cs).heap.size = Wo.heap.size := setRow_size _ _ _
            have O3 := (hOl.setRow (g := gs) (.inl (Nat.lt_succ_self _)) cs).app (o3w.setRow (g := gs) (.inl (Nat.lt_succ_self _)) cs)
            have Q3 := ol.setRow (g := gs) (.inl HG.out.2.2.1) cs
            replace oG := oG.setRow (g := gs) (.inl HG.out.2.2.1) cs
            have k3 := below_setRow kb (show w.heap.size ≤ gs by have := HG.out.1; omega) cs
            replace P_o := rowV_other P_o ngo cs
            replace P_g := rowV_other P_g ngg cs
            refine hK.out _ _ ⟨rowV_other hHeld.1 ngl cs, rowV_other hHeld.2.1 nge cs, rowV_other hHeld.2.2 ngf cs⟩ (fun hH => ?_)
            replace hHeld := hH
            clear hK K hH P_s ol hOl kb o3w ngo ngl nge ngf ngg
            rw [← z3] at O3
            clear z3
            generalize Wo.setRow gs cs = Ws at hHeld P_s2 P_o P_g oG O3 Q3 k3 ⊢
            try simp only [ps]
            refine wpAnyH_done (by kernel_rfl) ?_ _
            have HR := Lib.hid (And.intro P_s2 (And.intro O3 (And.intro hHeld.1 (And.intro P_o (And.intro Q3 (And.intro oG (And.intro P_g (And.intro hHeld.2.1 k3))))))))
            have HA2 := Lib.hid (And.intro A2 (And.intro hcx hcy))
            clear P_s2 O3 hHeld P_o Q3 k3 A2 hcx hcy oG P_g
            go_wp2
            go_roundw
            case rel => exact ⟨j + 1, M ++ [⟨Fj, a3⟩], HNn.out.2.1, by go_num, by rw [List.length_append, HF.out.1]; rfl, by rw [datQ_app, HF.out.2.1]; exact HUV.out.symm, cap_apq (q := ⟨Fj, a3⟩) HF.out.2.2 HA2.out.2, by rw [HNn.out.1]; exact HR.out.1, by rw [lrowQ_app, lrowQ_one]; exact HR.out.2.1, by rw [lrowQ_app, lrowQ_one]; exact HA2.out.1, HR.out.2.2.1, HR.out.2.2.2.1, HR.out.2.2.2.2.1, HR.out.2.2.2.2.2.1, HR.out.2.2.2.2.2.2.1, HR.out.2.2.2.2.2.2.2.1, HR.out.2.2.2.2.2.2.2.2⟩
            case measure => simp [intOf]; omega
          · obtain rfl : j = 3 := by omega
            have HE := Lib.hid (And.intro HF.out.1 (And.intro HF.out.2.1 (And.intro HF.out.2.2 (And.intro P_s (And.intro hOl (And.intro hap (And.intro P_l (And.intro P_o (And.intro ol (And.intro oG (And.intro P_g kb)))))))))))
            clear P_s hOl hap P_l P_o ol oG P_g P_e kb HF
            go_wp2
            go_roundw
            case rel => exact ⟨i + 1, M, hli, by go_num, HE.out.1, HE.out.2.1, HE.out.2.2.1, HE.out.2.2.2.1, HE.out.2.2.2.2.1, HE.out.2.2.2.2.2.1, HE.out.2.2.2.2.2.2.1, HE.out.2.2.2.2.2.2.2.1, HE.out.2.2.2.2.2.2.2.2.1, HE.out.2.2.2.2.2.2.2.2.2.1, HE.out.2.2.2.2.2.2.2.2.2.2.1, HE.out.2.2.2.2.2.2.2.2.2.2.2⟩
            case measure => simp [intOf]; omega
      · obtain rfl : i = 3 := by omega
        have P_s : wr.heap[gs]? = some (.cells (flatQ M).toArray 100 (0, 0)) := by
          have e : M ++ List.replicate (9 - 3 * 3) RV0 = M := List.append_nil M
          rw [e] at P_s; exact P_s
        have hsz : (flatQ M).toArray.size = 27 := by rw [List.size_toArray, flatQ_length, hM]
        have hM9 : M.length = 9 := hM
        have HR : Hid (M.length = 9 ∧ datQ M = D9 ∧ (∀ p, p ∈ M → CapQ p) ∧ (∀ cs, Owns w.heap.size (wr.setRow go cs).heap.size (wr.setRow go cs) (lrowQ M)) ∧ Aparts (lrowQ M) ∧ Below w.heap.size w wr) := Lib.hid ⟨hM, by rw [hd]; exact H9A.out.1, hcap, fun cs => by rw [setRow_size]; exact (hOl.setRow (g := go) (.inl (by have := HG.out.2.1; omega)) cs).wide (by have := HG.out.1; omega) (Nat.le_refl _), hap, kb⟩
        have h1c : (flatQ M).toArray.all (·.oneCell') = true := flatQ_one1 M
        have hgo : w.heap.size ≤ go := by have := HG.out.2.2.2.1; omega
        generalize hC : (flatQ M).toArray = C at P_s hsz h1c
        have hz27 : (Tryz.prog.info? 100).map (·.size) = some C.size := by rw [hsz]; exact m9_size
        have hld := cells_row P_s
        have HC := Lib.hid hC
        clear hOl hap P_l ol kb hC hM hd hcap hM9 oG P_g
        go_wp2_with (first | refine wpList_load_at rfl 100 (.tmp 3) rfl gs 0 C rfl m9_agg (run_size hz27) hld ?_ | refine wpList_store_row rfl 100 (.tmp 2) (.tmp 35) rfl go C rfl rfl 100 _ P_o hz27 hsz.symm h1c ?_)
        exact bodyPost_ret (v := .agg C) (results_row Tryz.results84 _ _ go C rfl m9_agg (run_size hz27) (rowV_set P_o _)) rfl ⟨M, by rw [HC.out], HR.out.1, HR.out.2.1, HR.out.2.2.1, HR.out.2.2.2.1 _, HR.out.2.2.2.2.1, below_setRow HR.out.2.2.2.2.2 hgo _⟩
end Go.Proofs.YtppdholccpgcpaaGreat
