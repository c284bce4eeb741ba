/-
  The area on the inner side of side 2.
-/
import Derived.Test.YtppdholccpgcpaaGreatWg
import Derived.Test.YtppdholccpgcpaaGreatLawP
import Derived.Test.YtppdholccpgcpaaGreatTriC
import Derived.Test.YtppdholccpgcpaaGreatTriS
namespace Go.Proofs.YtppdholccpgcpaaGreat
open Go.ChangeShapes Go.WideShapes Go.ChangeAt Go.RowKit
set_option linter.unusedVariables false
set_option linter.unusedSimpArgs false
set_option maxRecDepth 4000
attribute [local go_sem ↓] Go.wp_at_zero Go.wp_at_succ
set_option maxHeartbeats 2000000 in
theorem inward_2 (p q r u : PV) (w : World) (h : TriOk w p q r) (hu : NiceP u) (hr : Rds w (prow u)) :
    Calls Tryz.prog 148 #[.agg (p18 p q r), .int .i64 2, .agg (p6 u)] w (MadeQ w.heap.size (ofO (aV r p u)) w) := by
  have HA := Lib.hid (fun W h => areaV r p u W h)
  have HC := Lib.hid (fun W => corner_3 p q r W)
  have RR : Hid (∀ W, Below w.heap.size w W → TriOk W r p u) := Lib.hid (fun W hB => by
    have h2 := h.below hB
    exact ⟨⟨h2.1.2.2, h2.1.1, hu⟩, h2.2.2.2, h2.2.1, hr.below hB⟩)
  clear h hu hr
  generalize ofO (aV r p u) = U at HA ⊢
  unfold MadeQ at HA
  go_enter Tryz.func148, Tryz.ntmps148
  go_wp2_with fail
  have kb := ba3 w (.cells (p18 p q r) 81) (.cells (p6 u) 31) (.cells z3 29)
  obtain ⟨P_t, P_u, P_o⟩ := blocks3 w (.cells (p18 p q r) 81) (.cells (p6 u) 31) (.cells z3 29)
  generalize ((w.alloc (.cells (p18 p q r) 81)).alloc (.cells (p6 u) 31)).alloc (.cells z3 29) = W1 at kb P_t P_u P_o ⊢
  obtain ⟨rr, hrr⟩ : ∃ r, r = w.heap.size + 1 + 1 := ⟨_, rfl⟩
  rw [← hrr] at P_o ⊢
  have hrr3 : w.heap.size ≤ rr := by omega
  have nr_t : rr ≠ w.heap.size := by omega
  have nr_u : rr ≠ w.heap.size + 1 := by omega
  clear hrr
  have hlt0 := rblk_lt P_o
  have hle0 := kb.size
  have SB : Hid (∀ w', Keep3 W1 w' rr → (w'.rangeAt (w.heap.size) 0 [.bool p.x.p, .slice p.a.A p.x.l.length p.a.c, .slice p.a.D p.x.m.length p.a.d, .bool p.y.p, .slice p.b.A p.y.l.length p.b.c, .slice p.b.D p.y.m.length p.b.d, .bool q.x.p, .slice q.a.A q.x.l.length q.a.c, .slice q.a.D q.x.m.length q.a.d, .bool q.y.p, .slice q.b.A q.y.l.length q.b.c, .slice q.b.D q.y.m.length q.b.d, .bool r.x.p, .slice r.a.A r.x.l.length r.a.c, .slice r.a.D r.x.m.length r.a.d, .bool r.y.p, .slice r.b.A r.y.l.length r.b.c, .slice r.b.D r.y.m.length r.b.d] ∧ w'.cell? ⟨w.heap.size, 12, none⟩ = some (.bool r.x.p) ∧ w'.cell? ⟨w.heap.size, 13, none⟩ = some (.slice r.a.A r.x.l.length r.a.c) ∧ w'.cell? ⟨w.heap.size, 14, none⟩ = some (.slice r.a.D r.x.m.length r.a.d) ∧ w'.cell? ⟨w.heap.size, 15, none⟩ = some (.bool r.y.p) ∧ w'.cell? ⟨w.heap.size, 16, none⟩ = some (.slice r.b.A r.y.l.length r.b.c) ∧ w'.cell? ⟨w.heap.size, 17, none⟩ = some (.slice r.b.D r.y.m.length r.b.d) ∧ w'.cell? ⟨w.heap.size + 1, 0, none⟩ = some (.bool u.x.p) ∧ w'.cell? ⟨w.heap.size + 1, 1, none⟩ = some (.slice u.a.A u.x.l.length u.a.c) ∧ w'.cell? ⟨w.heap.size + 1, 2, none⟩ = some (.slice u.a.D u.x.m.length u.a.d) ∧ w'.cell? ⟨w.heap.size + 1, 3, none⟩ = some (.bool u.y.p) ∧ w'.cell? ⟨w.heap.size + 1, 4, none⟩ = some (.slice u.b.A u.y.l.length u.b.c) ∧ w'.cell? ⟨w.heap.size + 1, 5, none⟩ = some (.slice u.b.D u.y.m.length u.b.d) ∧ Keep3 W1 w' rr)) := Lib.hid (fun w' hK => ⟨range_row (hK.block P_t nr_t), rblk_cell (hK.block P_t nr_t) 12, rblk_cell (hK.block P_t nr_t) 13, rblk_cell (hK.block P_t nr_t) 14, rblk_cell (hK.block P_t nr_t) 15, rblk_cell (hK.block P_t nr_t) 16, rblk_cell (hK.block P_t nr_t) 17, rblk_cell (hK.block P_u nr_u) 0, rblk_cell (hK.block P_u nr_u) 1, rblk_cell (hK.block P_u nr_u) 2, rblk_cell (hK.block P_u nr_u) 3, rblk_cell (hK.block P_u nr_u) 4, rblk_cell (hK.block P_u nr_u) 5, hK⟩)
  have KW := Lib.hid kb
  have KST := Keep3.start P_o
  clear kb
  refine wp_region_held_drew (S := fun w' => w'.rangeAt (w.heap.size) 0 [.bool p.x.p, .slice p.a.A p.x.l.length p.a.c, .slice p.a.D p.x.m.length p.a.d, .bool p.y.p, .slice p.b.A p.y.l.length p.b.c, .slice p.b.D p.y.m.length p.b.d, .bool q.x.p, .slice q.a.A q.x.l.length q.a.c, .slice q.a.D q.x.m.length q.a.d, .bool q.y.p, .slice q.b.A q.y.l.length q.b.c, .slice q.b.D q.y.m.length q.b.d, .bool r.x.p, .slice r.a.A r.x.l.length r.a.c, .slice r.a.D r.x.m.length r.a.d, .bool r.y.p, .slice r.b.A r.y.l.length r.b.c, .slice r.b.D r.y.m.length r.b.d] ∧ w'.cell? ⟨w.heap.size, 12, none⟩ = some (.bool r.x.p) ∧ w'.cell? ⟨w.heap.size, 13, none⟩ = some (.slice r.a.A r.x.l.length r.a.c) ∧ w'.cell? ⟨w.heap.size, 14, none⟩ = some (.slice r.a.D r.x.m.length r.a.d) ∧ w'.cell? ⟨w.heap.size, 15, none⟩ = some (.bool r.y.p) ∧ w'.cell? ⟨w.heap.size, 16, none⟩ = some (.slice r.b.A r.y.l.length r.b.c) ∧ w'.cell? ⟨w.heap.size, 17, none⟩ = some (.slice r.b.D r.y.m.length r.b.d) ∧ w'.cell? ⟨w.heap.size + 1, 0, none⟩ = some (.bool u.x.p) ∧ w'.cell? ⟨w.heap.size + 1, 1, none⟩ = some (.slice u.a.A u.x.l.length u.a.c) ∧ w'.cell? ⟨w.heap.size + 1, 2, none⟩ = some (.slice u.a.D u.x.m.length u.a.d) ∧ w'.cell? ⟨w.heap.size + 1, 3, none⟩ = some (.bool u.y.p) ∧ w'.cell? ⟨w.heap.size + 1, 4, none⟩ = some (.slice u.b.A u.y.l.length u.b.c) ∧ w'.cell? ⟨w.heap.size + 1, 5, none⟩ = some (.slice u.b.D u.y.m.length u.b.d) ∧ Keep3 W1 w' rr) (by kernel_rfl) (SB.out _ KST.drew) (fun hHeld => ?_)
  have hCur : Keep3 W1 W1.drew rr := KST.drew
  refine tk (i := 0) (v := ?vm3_0) rfl (by kernel_rfl) (fun _ _ _ h => h) (Or.inl ⟨by rfl, ?hym3_0⟩) hHeld ?_
  case hym3_0 => (intro w hSw; (try dsimp only at hSw); go_simp; (try with_reducible rfl))
  try simp only [ps]
  refine tk (i := 1) (v := ?vm3_1) rfl (by kernel_rfl) (fun _ _ _ h => h) (Or.inl ⟨by rfl, ?hym3_1⟩) hHeld ?_
  case hym3_1 => (intro w hSw; (try dsimp only at hSw); go_simp; (try with_reducible rfl))
  try simp only [ps]
  refine tk (i := 2) (v := ?vm3_2) rfl (by kernel_rfl) (fun _ _ _ h => h) (Or.inl ⟨by rfl, ?hym3_2⟩) hHeld ?_
  case hym3_2 => (intro w hSw; (try dsimp only at hSw); go_simp; (try with_reducible rfl))
  try simp only [ps]
  refine tk (i := 3) (v := .agg (p18 p q r)) rfl (by kernel_rfl) (fun _ _ _ h => h) (yieldsIf_load_mid (by rfl) 81 (.tmp 3) rfl (w.heap.size) 0 rfl [.bool p.x.p, .slice p.a.A p.x.l.length p.a.c, .slice p.a.D p.x.m.length p.a.d, .bool p.y.p, .slice p.b.A p.y.l.length p.b.c, .slice p.b.D p.y.m.length p.b.d, .bool q.x.p, .slice q.a.A q.x.l.length q.a.c, .slice q.a.D q.x.m.length q.a.d, .bool q.y.p, .slice q.b.A q.y.l.length q.b.c, .slice q.b.D q.y.m.length q.b.d, .bool r.x.p, .slice r.a.A r.x.l.length r.a.c, .slice r.a.D r.x.m.length r.a.d, .bool r.y.p, .slice r.b.A r.y.l.length r.b.c, .slice r.b.D r.y.m.length r.b.d] _ (fun w hSw => hSw.1) Tryz.underlying81 rfl tri_size) hHeld ?_
  try simp only [ps]
  refine tk (i := 4) (v := ?vm3_4) rfl (by kernel_rfl) (fun _ _ _ h => h) (Or.inl ⟨by rfl, ?hym3_4⟩) hHeld ?_
  case hym3_4 => (intro w hSw; (try dsimp only at hSw); go_simp; (try with_reducible rfl))
  try simp only [ps]
  refine tk (i := 5) (v := .int .i64 3) rfl (by kernel_rfl) (fun _ _ _ h => h) (Or.inl ⟨by rfl, ?hym3_5⟩) hHeld ?_
  case hym3_5 => (intro w hSw; (try dsimp only at hSw); go_simp; (try rfl))
  try simp only [ps]
  refine tk (i := 7) (v := ?vm3_7) rfl (by kernel_rfl) (fun _ _ _ h => h) (Or.inl ⟨by rfl, ?hym3_7⟩) hHeld ?_
  case hym3_7 => (intro w hSw; (try dsimp only at hSw); go_simp; (try with_reducible rfl))
  try simp only [ps]
  refine rd1 (i := 6) (by kernel_rfl) rfl (fun K hK => ?_)
  go_simp
  (go_at_call 178; ((with_reducible refine (HC.out _).mono ?_); rintro e Wm3_1 ⟨rfl, hb⟩; skip))
  refine hK.out _ _ (SB.out _ (Keep3.below hCur hb)) (fun hHeld' => ?_)
  clear hK K hHeld
  have hHeld := hHeld'
  clear hHeld'
  replace hCur := (Keep3.below hCur hb)
  clear hb
  try simp only [ps]
  refine rd1 (i := 8) (by kernel_rfl) rfl (fun K hK => ?_)
  go_simp
  (go_at_call 136; ((with_reducible refine (HA.out _ (RR.out _ (Keep3.base hCur KW.out hrr3))).mono ?_); rintro e Wm3_2 ⟨a3, rfl, hc5, hc6, o3, hap3, hb⟩; have hz0 := Keep3.size hCur; have KL := Keep3.below hCur hb; obtain ⟨u0, u1, u2, t0, t1, t2, t3, t4, t5⟩ := KL.cells))
  refine hK.out _ _ (SB.out _ (Keep3.below hCur hb)) (fun hHeld' => ?_)
  clear hK K hHeld
  have hHeld := hHeld'
  clear hHeld'
  replace hCur := (Keep3.below hCur hb)
  clear hb
  try simp only [ps]
  refine rd1 (i := 9) (by kernel_rfl) rfl (fun K hK => ?_)
  go_simp
  refine hK.out _ _ (SB.out _ (Keep3.put3 hCur _ _ _)) (fun hHeld' => ?_)
  clear hK K hHeld
  have hHeld := hHeld'
  clear hHeld'
  try simp only [ps]
  refine wpAnyH_done (by kernel_rfl) ?_ _
  have hfin := hHeld.2.2.2.2.2.2.2.2.2.2.2.2.2
  go_wp2
  exact bodyPost_ret (v := .agg (r3 U a3)) (by simp [results, Tryz.results148, go_sem, t0, t1, t2, t3, t4, t5]) rfl ⟨a3, rfl, hc5, hc6, owns_end3 o3 (.inl (Nat.lt_of_lt_of_le hlt0 hz0)) (Nat.le_trans hle0 hz0) (Nat.le_refl _) _ _ _, hap3, hfin.base KW.out hrr3⟩
end Go.Proofs.YtppdholccpgcpaaGreat
