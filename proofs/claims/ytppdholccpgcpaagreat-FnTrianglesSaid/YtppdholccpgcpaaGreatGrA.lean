/-
  The normal of a side: the gradient of the area with respect to a corner.
-/
import Derived.Test.YtppdholccpgcpaaGreatWg
import Derived.Test.YtppdholccpgcpaaGreatTriC
import Derived.Test.YtppdholccpgcpaaGreatTriS
import Derived.Test.YtppdholccpgcpaaGreatLawP
namespace Go.Proofs.YtppdholccpgcpaaGreat
open Go.ChangeShapes Go.WideShapes Go.ChangeAt Go.RowKit
set_option linter.unusedVariables false
set_option linter.unusedSimpArgs false
set_option maxRecDepth 4000
attribute [local go_sem ↓] Go.wp_at_zero Go.wp_at_succ
def nX (j k : PV) : Option Rat := bothX (binQ subQ (valx j.y) (valx k.y)) (binQ subQ (valx k.x) (valx j.x))
def nY (j k : PV) : Option Rat := bothY (binQ subQ (valx j.y) (valx k.y)) (binQ subQ (valx k.x) (valx j.x))
theorem nX_fit (j k : PV) : FitO (nX j k) := bothX_fit (subO_fit _ _)
theorem nY_fit (j k : PV) : FitO (nY j k) := bothY_fit (subO_fit _ _)
def CutJ (W0 : World) (T : TypeId) (c d : Array Value) (v5 v6 : Value) (wx : World) : Prop :=
  ∃ gj gk, v5 = .pointer (some ⟨gj, 0, none⟩) ∧ v6 = .pointer (some ⟨gk, 0, none⟩) ∧ W0.heap.size ≤ gj ∧ W0.heap.size ≤ gk ∧ wx.heap[gj]? = some (.cells c T (0, 0)) ∧ wx.heap[gk]? = some (.cells d T (0, 0)) ∧ Below W0.heap.size W0 wx
theorem put6_same {w : World} {g : Nat} {T : TypeId} {o0 o1 o2 o3 o4 o5 : Value} (h : w.heap[g]? = some (.cells #[o0, o1, o2, o3, o4, o5] T (0, 0))) (u0 u1 u2 u3 u4 u5 : Value) : ((((((w.setCell ⟨g, 0, none⟩ u0).setCell ⟨g, 1, none⟩ u1).setCell ⟨g, 2, none⟩ u2).setCell ⟨g, 3, none⟩ u3).setCell ⟨g, 4, none⟩ u4).setCell ⟨g, 5, none⟩ u5).heap[g]? = some (.cells #[u0, u1, u2, u3, u4, u5] T (0, 0)) :=
  rblk_set (rblk_set (rblk_set (rblk_set (rblk_set (rblk_set h 0 u0) 1 u1) 2 u2) 3 u3) 4 u4) 5 u5
theorem put6_other {w : World} {g k : Nat} {o : Obj} (h : w.heap[k]? = some o) (hne : g ≠ k) (u0 u1 u2 u3 u4 u5 : Value) : ((((((w.setCell ⟨g, 0, none⟩ u0).setCell ⟨g, 1, none⟩ u1).setCell ⟨g, 2, none⟩ u2).setCell ⟨g, 3, none⟩ u3).setCell ⟨g, 4, none⟩ u4).setCell ⟨g, 5, none⟩ u5).heap[k]? = some o :=
  rblk_other (rblk_other (rblk_other (rblk_other (rblk_other (rblk_other h 0 u0 hne) 1 u1 hne) 2 u2 hne) 3 u3 hne) 4 u4 hne) 5 u5 hne
set_option maxHeartbeats 8000000 in
theorem normal_any (p q r j k : PV) (i a1 a2 : Int) (w : World) (hw1 : IntKind.i64.wrap (i + 1) = a1) (hw2 : IntKind.i64.wrap (i + 2) = a2) (nj : NiceP j) (nk : NiceP k)
  (HC1 : Hid (∀ W, Calls Tryz.prog 178 #[.agg (p18 p q r), .int .i64 a1] W (fun e w' => e = .returned (.agg (p6 j)) ∧ Below W.heap.size W w'))) (HC2 : Hid (∀ W, Calls Tryz.prog 178 #[.agg (p18 p q r), .int .i64 a2] W (fun e w' => e = .returned (.agg (p6 k)) ∧ Below W.heap.size W w'))) (hj : Rds w (prow j)) (hk : Rds w (prow k)) :
    Calls Tryz.prog 134 #[.agg (p18 p q r), .int .i64 i] w (MadeP w.heap.size (ofO (nX j k)) (ofO (nY j k)) w) := by
  obtain ⟨jx, jy, ja, jb⟩ := j
  obtain ⟨kx, ky, ka, kb'⟩ := k
  obtain ⟨e1, e2⟩ := nj
  obtain ⟨e3, e4⟩ := nk
  unfold Nice at e1 e2 e3 e4
  unfold prow at hj hk
  unfold nX nY
  dsimp only at *
  have HX : Hid (∀ W, Rds W (rows jy jb) → Rds W (rows ky kb') → Calls Tryz.prog 179 #[.agg (r3 jy jb), .agg (r3 ky kb')] W (MadeQ W.heap.size (ofO (binQ subQ (valx jy) (valx ky))) W)) := Lib.hid (fun W h h' => by
    have K := minus_r (valx jy) (valx ky) jb kb' W (FitO.val _) (FitO.val _) (by rw [← e2]; exact h) (by rw [← e4]; exact h')
    rw [← e2, ← e4] at K; exact K)
  have HY : Hid (∀ W, Rds W (rows kx ka) → Rds W (rows jx ja) → Calls Tryz.prog 179 #[.agg (r3 kx ka), .agg (r3 jx ja)] W (MadeQ W.heap.size (ofO (binQ subQ (valx kx) (valx jx))) W)) := Lib.hid (fun W h h' => by
    have K := minus_r (valx kx) (valx jx) ka ja W (FitO.val _) (FitO.val _) (by rw [← e3]; exact h) (by rw [← e1]; exact h')
    rw [← e3, ← e1] at K; exact K)
  have HP := Lib.hid (fun lo hi a b W hh hc hO hA => pointOf_any lo hi (binQ subQ (valx jy) (valx ky)) (binQ subQ (valx kx) (valx jx)) a b W (subO_fit _ _) (subO_fit _ _) hh hc hO hA)
  have RR : Hid (∀ W, Below w.heap.size w W → Rds W (rows jx ja) ∧ Rds W (rows jy jb) ∧ Rds W (rows kx ka) ∧ Rds W (rows ky kb')) := Lib.hid (fun W hb => ⟨(rds_l hj).below hb, (rds_r hj).below hb, (rds_l hk).below hb, (rds_r hk).below hb⟩)
  clear hj hk e1 e2 e3 e4
  generalize ofO (bothX (binQ subQ (valx jy) (valx ky)) (binQ subQ (valx kx) (valx jx))) = U at HP ⊢
  generalize ofO (bothY (binQ subQ (valx jy) (valx ky)) (binQ subQ (valx kx) (valx jx))) = V at HP ⊢
  generalize ofO (binQ subQ (valx jy) (valx ky)) = x1 at HX HP
  generalize ofO (binQ subQ (valx kx) (valx jx)) = y1 at HY HP
  go_enter Tryz.func134, Tryz.ntmps134
  go_wp2_with fail
  have kb := ba2 w (.cells (p18 p q r) 81) (.cells z6 31)
  obtain ⟨P_t, P_o⟩ := blocks2 w (.cells (p18 p q r) 81) (.cells z6 31)
  generalize (w.alloc (.cells (p18 p q r) 81)).alloc (.cells z6 31) = W1 at kb P_t P_o ⊢
  obtain ⟨rr, hrr⟩ : ∃ r, r = w.heap.size + 1 := ⟨_, rfl⟩
  rw [← hrr] at P_o ⊢
  have hrr3 : w.heap.size ≤ rr := by omega
  have nr_t : rr ≠ w.heap.size := by omega
  clear hrr
  have hlt0 := rblk_lt P_o
  have hle0 := kb.size
  have SB : Hid (∀ w', Below W1.heap.size W1 w' → (w'.rangeAt (w.heap.size) 0 [.bool p.x.p, .slice p.a.A p.x.l.length p.a.c, .slice p.a.D p.x.m.length p.a.d, .bool p.y.p, .slice p.b.A p.y.l.length p.b.c, .slice p.b.D p.y.m.length p.b.d, .bool q.x.p, .slice q.a.A q.x.l.length q.a.c, .slice q.a.D q.x.m.length q.a.d, .bool q.y.p, .slice q.b.A q.y.l.length q.b.c, .slice q.b.D q.y.m.length q.b.d, .bool r.x.p, .slice r.a.A r.x.l.length r.a.c, .slice r.a.D r.x.m.length r.a.d, .bool r.y.p, .slice r.b.A r.y.l.length r.b.c, .slice r.b.D r.y.m.length r.b.d] ∧ Below W1.heap.size W1 w')) := Lib.hid (fun w' hB => ⟨range_row (rblk_below P_t hB), hB⟩)
  go_cut [5, 6] (fun s5 s6 wx => CutJ W1 31 (r6 jx jy ja jb) (r6 kx ky ka kb') s5 s6 wx)
  case first =>
    refine wp_region_held_drew (S := fun w' => w'.rangeAt (w.heap.size) 0 [.bool p.x.p, .slice p.a.A p.x.l.length p.a.c, .slice p.a.D p.x.m.length p.a.d, .bool p.y.p, .slice p.b.A p.y.l.length p.b.c, .slice p.b.D p.y.m.length p.b.d, .bool q.x.p, .slice q.a.A q.x.l.length q.a.c, .slice q.a.D q.x.m.length q.a.d, .bool q.y.p, .slice q.b.A q.y.l.length q.b.c, .slice q.b.D q.y.m.length q.b.d, .bool r.x.p, .slice r.a.A r.x.l.length r.a.c, .slice r.a.D r.x.m.length r.a.d, .bool r.y.p, .slice r.b.A r.y.l.length r.b.c, .slice r.b.D r.y.m.length r.b.d] ∧ Below W1.heap.size W1 w') (by kernel_rfl) (SB.out _ (Below.refl _ _).drew) (fun hHeld => ?_)
    have hCur : Below W1.heap.size W1 W1.drew := (Below.refl _ _).drew
    refine tk (i := 0) (v := .agg (p18 p q r)) rfl (by kernel_rfl) (fun _ _ _ h => h) (yieldsIf_load_mid (by rfl) 81 (.tmp 2) rfl (w.heap.size) 0 rfl [.bool p.x.p, .slice p.a.A p.x.l.length p.a.c, .slice p.a.D p.x.m.length p.a.d, .bool p.y.p, .slice p.b.A p.y.l.length p.b.c, .slice p.b.D p.y.m.length p.b.d, .bool q.x.p, .slice q.a.A q.x.l.length q.a.c, .slice q.a.D q.x.m.length q.a.d, .bool q.y.p, .slice q.b.A q.y.l.length q.b.c, .slice q.b.D q.y.m.length q.b.d, .bool r.x.p, .slice r.a.A r.x.l.length r.a.c, .slice r.a.D r.x.m.length r.a.d, .bool r.y.p, .slice r.b.A r.y.l.length r.b.c, .slice r.b.D r.y.m.length r.b.d] _ (fun w hSw => hSw.1) Tryz.underlying81 rfl tri_size) hHeld ?_
    try simp only [ps]
    refine tk (i := 1) (v := .int .i64 i) rfl (by kernel_rfl) (fun _ _ _ h => h) (Or.inl ⟨by rfl, ?hys1⟩) hHeld ?_
    case hys1 => (intro w hSw; clear hSw; go_simp; (try rfl))
    try simp only [ps]
    refine tk (i := 2) (v := .int .i64 a1) rfl (by kernel_rfl) (fun _ _ _ h => h) (Or.inl ⟨by rfl, ?hys2⟩) hHeld ?_
    case hys2 => (intro w hSw; clear hSw; go_simp; (try simp only [hw1]); (try rfl))
    try simp only [ps]
    refine tk (i := 4) (v := .agg (p18 p q r)) rfl (by kernel_rfl) (fun _ _ _ h => h) (yieldsIf_load_mid (by rfl) 81 (.tmp 2) rfl (w.heap.size) 0 rfl [.bool p.x.p, .slice p.a.A p.x.l.length p.a.c, .slice p.a.D p.x.m.length p.a.d, .bool p.y.p, .slice p.b.A p.y.l.length p.b.c, .slice p.b.D p.y.m.length p.b.d, .bool q.x.p, .slice q.a.A q.x.l.length q.a.c, .slice q.a.D q.x.m.length q.a.d, .bool q.y.p, .slice q.b.A q.y.l.length q.b.c, .slice q.b.D q.y.m.length q.b.d, .bool r.x.p, .slice r.a.A r.x.l.length r.a.c, .slice r.a.D r.x.m.length r.a.d, .bool r.y.p, .slice r.b.A r.y.l.length r.b.c, .slice r.b.D r.y.m.length r.b.d] _ (fun w hSw => hSw.1) Tryz.underlying81 rfl tri_size) hHeld ?_
    try simp only [ps]
    refine tk (i := 5) (v := .int .i64 i) rfl (by kernel_rfl) (fun _ _ _ h => h) (Or.inl ⟨by rfl, ?hys5⟩) hHeld ?_
    case hys5 => (intro w hSw; clear hSw; go_simp; (try rfl))
    try simp only [ps]
    refine tk (i := 6) (v := .int .i64 a2) rfl (by kernel_rfl) (fun _ _ _ h => h) (Or.inl ⟨by rfl, ?hys6⟩) hHeld ?_
    case hys6 => (intro w hSw; clear hSw; go_simp; (try simp only [hw2]); (try rfl))
    try simp only [ps]
    clear hHeld
    generalize W1.drew = Wd at *
    refine wpAnyH_ready (rs := [3, 8, 9]) (by kernel_rfl) (by simp) ?_
    refine rc1 rfl (fun K hK => ?_) (rc1 rfl (fun K hK => ?_) (rc1 rfl (fun K hK => ?_) AllReadyH.nil))
    · skip
      go_simp
      (go_at_call 178; ((with_reducible refine (HC1.out _).mono ?_); rintro e Wg1 ⟨rfl, hb⟩))
      refine hK.out _ _ (SB.out _ (bt hCur hb)) (fun hH => ?_)
      replace hCur := hH.2
      clear hK K hH
      clear hb
      try simp only [ps]
      refine wpAnyH_ready (rs := [7, 8, 9]) (by kernel_rfl) (by simp) ?_
      refine rc1 rfl (fun K hK => ?_) (rc1 rfl (fun K hK => ?_) (rc1 rfl (fun K hK => ?_) AllReadyH.nil))
      · skip
        go_simp
        (go_at_call 178; ((with_reducible refine (HC2.out _).mono ?_); rintro e Wg2 ⟨rfl, hb⟩))
        refine hK.out _ _ (SB.out _ (bt hCur hb)) (fun hH => ?_)
        replace hCur := hH.2
        clear hK K hH
        clear hb
        try simp only [ps]
        refine wpAnyH_ready (rs := [8, 9]) (by kernel_rfl) (by simp) ?_
        refine rc1 rfl (fun K hK => ?_) (rc1 rfl (fun K hK => ?_) AllReadyH.nil)
        · skip
          go_simp
          have P_j := heap_alloc_new Wg2 (.cells z6 31)
          have hb := ba1 Wg2 (.cells z6 31)
          have hgj := hCur.size
          refine hK.out _ _ (SB.out _ (bt hCur hb)) (fun hH => ?_)
          replace hCur := hH.2
          clear hK K hH
          clear hb
          try simp only [ps]
          generalize Wg2.alloc (.cells z6 31) = Wg3 at P_j hCur ⊢
          refine rd1 (i := 9) (by kernel_rfl) rfl (fun K hK => ?_)
          go_simp
          have P_k := heap_alloc_new Wg3 (.cells z6 31)
          have hb := ba1 Wg3 (.cells z6 31)
          have hgk := hCur.size
          refine hK.out _ _ (SB.out _ (bt hCur hb)) (fun hH => ?_)
          replace hCur := hH.2
          clear hK K hH
          have hlt := rblk_lt P_j
          replace P_j := rblk_below P_j hb
          have hne : Wg2.heap.size ≠ Wg3.heap.size := by omega
          clear hlt
          clear hb
          try simp only [ps]
          generalize Wg3.alloc (.cells z6 31) = Wg4 at P_k P_j hCur ⊢
          refine rd1 (i := 10) (by kernel_rfl) rfl (fun K hK => ?_)
          have t0 := rblk_cell P_j 0
          have q0 := rblk_free P_j 0
          have t1 := rblk_cell P_j 1
          have q1 := rblk_free P_j 1
          have t2 := rblk_cell P_j 2
          have q2 := rblk_free P_j 2
          have t3 := rblk_cell P_j 3
          have q3 := rblk_free P_j 3
          have t4 := rblk_cell P_j 4
          have q4 := rblk_free P_j 4
          have t5 := rblk_cell P_j 5
          have q5 := rblk_free P_j 5
          go_simp
          clear t0 q0 t1 q1 t2 q2 t3 q3 t4 q4 t5 q5
          refine hK.out _ _ (SB.out _ (below_put6 hCur hgj _ _ _ _ _ _)) (fun hH => ?_)
          replace hCur := hH.2
          clear hK K hH
          replace P_j := put6_same P_j (.bool jx.p) (.slice ja.A jx.l.length ja.c) (.slice ja.D jx.m.length ja.d) (.bool jy.p) (.slice jb.A jy.l.length jb.c) (.slice jb.D jy.m.length jb.d)
          replace P_k := put6_other P_k hne (.bool jx.p) (.slice ja.A jx.l.length ja.c) (.slice ja.D jx.m.length ja.d) (.bool jy.p) (.slice jb.A jy.l.length jb.c) (.slice jb.D jy.m.length jb.d)
          try simp only [ps]
          generalize (((((Wg4.setCell ⟨Wg2.heap.size, 0, none⟩ (.bool jx.p)).setCell ⟨Wg2.heap.size, 1, none⟩ (.slice ja.A jx.l.length ja.c)).setCell ⟨Wg2.heap.size, 2, none⟩ (.slice ja.D jx.m.length ja.d)).setCell ⟨Wg2.heap.size, 3, none⟩ (.bool jy.p)).setCell ⟨Wg2.heap.size, 4, none⟩ (.slice jb.A jy.l.length jb.c)).setCell ⟨Wg2.heap.size, 5, none⟩ (.slice jb.D jy.m.length jb.d) = Wg5 at P_j P_k hCur ⊢
          refine rd1 (i := 11) (by kernel_rfl) rfl (fun K hK => ?_)
          have t0 := rblk_cell P_k 0
          have q0 := rblk_free P_k 0
          have t1 := rblk_cell P_k 1
          have q1 := rblk_free P_k 1
          have t2 := rblk_cell P_k 2
          have q2 := rblk_free P_k 2
          have t3 := rblk_cell P_k 3
          have q3 := rblk_free P_k 3
          have t4 := rblk_cell P_k 4
          have q4 := rblk_free P_k 4
          have t5 := rblk_cell P_k 5
          have q5 := rblk_free P_k 5
          go_simp
          clear t0 q0 t1 q1 t2 q2 t3 q3 t4 q4 t5 q5
          refine hK.out _ _ (SB.out _ (below_put6 hCur hgk _ _ _ _ _ _)) (fun hH => ?_)
          replace hCur := hH.2
          clear hK K hH
          replace P_k := put6_same P_k (.bool kx.p) (.slice ka.A kx.l.length ka.c) (.slice ka.D kx.m.length ka.d) (.bool ky.p) (.slice kb'.A ky.l.length kb'.c) (.slice kb'.D ky.m.length kb'.d)
          replace P_j := put6_other P_j hne.symm (.bool kx.p) (.slice ka.A kx.l.length ka.c) (.slice ka.D kx.m.length ka.d) (.bool ky.p) (.slice kb'.A ky.l.length kb'.c) (.slice kb'.D ky.m.length kb'.d)
          try simp only [ps]
          refine wpAnyH_done (by kernel_rfl) ?_ _
          go_wp2_with fail
          go_meet
          exact ⟨_, _, rfl, rfl, hgj, hgk, P_j, P_k, hCur⟩
        · skip
          go_simp
          have P_k := heap_alloc_new Wg2 (.cells z6 31)
          have hb := ba1 Wg2 (.cells z6 31)
          have hgk := hCur.size
          refine hK.out _ _ (SB.out _ (bt hCur hb)) (fun hH => ?_)
          replace hCur := hH.2
          clear hK K hH
          clear hb
          try simp only [ps]
          generalize Wg2.alloc (.cells z6 31) = Wg7 at P_k hCur ⊢
          refine rd1 (i := 8) (by kernel_rfl) rfl (fun K hK => ?_)
          go_simp
          have P_j := heap_alloc_new Wg7 (.cells z6 31)
          have hb := ba1 Wg7 (.cells z6 31)
          have hgj := hCur.size
          refine hK.out _ _ (SB.out _ (bt hCur hb)) (fun hH => ?_)
          replace hCur := hH.2
          clear hK K hH
          have hlt := rblk_lt P_k
          replace P_k := rblk_below P_k hb
          have hne : Wg7.heap.size ≠ Wg2.heap.size := by omega
          clear hlt
          clear hb
          try simp only [ps]
          generalize Wg7.alloc (.cells z6 31) = Wg8 at P_j P_k hCur ⊢
          refine rd1 (i := 10) (by kernel_rfl) rfl (fun K hK => ?_)
          have t0 := rblk_cell P_j 0
          have q0 := rblk_free P_j 0
          have t1 := rblk_cell P_j 1
          have q1 := rblk_free P_j 1
          have t2 := rblk_cell P_j 2
          have q2 := rblk_free P_j 2
          have t3 := rblk_cell P_j 3
          have q3 := rblk_free P_j 3
          have t4 := rblk_cell P_j 4
          have q4 := rblk_free P_j 4
          have t5 := rblk_cell P_j 5
          have q5 := rblk_free P_j 5
          go_simp
          clear t0 q0 t1 q1 t2 q2 t3 q3 t4 q4 t5 q5
          refine hK.out _ _ (SB.out _ (below_put6 hCur hgj _ _ _ _ _ _)) (fun hH => ?_)
          replace hCur := hH.2
          clear hK K hH
          replace P_j := put6_same P_j (.bool jx.p) (.slice ja.A jx.l.length ja.c) (.slice ja.D jx.m.length ja.d) (.bool jy.p) (.slice jb.A jy.l.length jb.c) (.slice jb.D jy.m.length jb.d)
          replace P_k := put6_other P_k hne (.bool jx.p) (.slice ja.A jx.l.length ja.c) (.slice ja.D jx.m.length ja.d) (.bool jy.p) (.slice jb.A jy.l.length jb.c) (.slice jb.D jy.m.length jb.d)
          try simp only [ps]
          generalize (((((Wg8.setCell ⟨Wg7.heap.size, 0, none⟩ (.bool jx.p)).setCell ⟨Wg7.heap.size, 1, none⟩ (.slice ja.A jx.l.length ja.c)).setCell ⟨Wg7.heap.size, 2, none⟩ (.slice ja.D jx.m.length ja.d)).setCell ⟨Wg7.heap.size, 3, none⟩ (.bool jy.p)).setCell ⟨Wg7.heap.size, 4, none⟩ (.slice jb.A jy.l.length jb.c)).setCell ⟨Wg7.heap.size, 5, none⟩ (.slice jb.D jy.m.length jb.d) = Wg9 at P_j P_k hCur ⊢
          refine rd1 (i := 11) (by kernel_rfl) rfl (fun K hK => ?_)
          have t0 := rblk_cell P_k 0
          have q0 := rblk_free P_k 0
          have t1 := rblk_cell P_k 1
          have q1 := rblk_free P_k 1
          have t2 := rblk_cell P_k 2
          have q2 := rblk_free P_k 2
          have t3 := rblk_cell P_k 3
          have q3 := rblk_free P_k 3
          have t4 := rblk_cell P_k 4
          have q4 := rblk_free P_k 4
          have t5 := rblk_cell P_k 5
          have q5 := rblk_free P_k 5
          go_simp
          clear t0 q0 t1 q1 t2 q2 t3 q3 t4 q4 t5 q5
          refine hK.out _ _ (SB.out _ (below_put6 hCur hgk _ _ _ _ _ _)) (fun hH => ?_)
          replace hCur := hH.2
          clear hK K hH
          replace P_k := put6_same P_k (.bool kx.p) (.slice ka.A kx.l.length ka.c) (.slice ka.D kx.m.length ka.d) (.bool ky.p) (.slice kb'.A ky.l.length kb'.c) (.slice kb'.D ky.m.length kb'.d)
          replace P_j := put6_other P_j hne.symm (.bool kx.p) (.slice ka.A kx.l.length ka.c) (.slice ka.D kx.m.length ka.d) (.bool ky.p) (.slice kb'.A ky.l.length kb'.c) (.slice kb'.D ky.m.length kb'.d)
          try simp only [ps]
          refine wpAnyH_done (by kernel_rfl) ?_ _
          go_wp2_with fail
          go_meet
          exact ⟨_, _, rfl, rfl, hgj, hgk, P_j, P_k, hCur⟩
      · skip
        go_simp
        have P_j := heap_alloc_new Wg1 (.cells z6 31)
        have hb := ba1 Wg1 (.cells z6 31)
        have hgj := hCur.size
        refine hK.out _ _ (SB.out _ (bt hCur hb)) (fun hH => ?_)
        replace hCur := hH.2
        clear hK K hH
        clear hb
        try simp only [ps]
        generalize Wg1.alloc (.cells z6 31) = Wg11 at P_j hCur ⊢
        refine wpAnyH_ready (rs := [7, 9]) (by kernel_rfl) (by simp) ?_
        refine rc1 rfl (fun K hK => ?_) (rc1 rfl (fun K hK => ?_) AllReadyH.nil)
        · skip
          go_simp
          (go_at_call 178; ((with_reducible refine (HC2.out _).mono ?_); rintro e Wg12 ⟨rfl, hb⟩))
          refine hK.out _ _ (SB.out _ (bt hCur hb)) (fun hH => ?_)
          replace hCur := hH.2
          clear hK K hH
          replace P_j := rblk_below P_j hb
          clear hb
          try simp only [ps]
          refine rd1 (i := 9) (by kernel_rfl) rfl (fun K hK => ?_)
          go_simp
          have P_k := heap_alloc_new Wg12 (.cells z6 31)
          have hb := ba1 Wg12 (.cells z6 31)
          have hgk := hCur.size
          refine hK.out _ _ (SB.out _ (bt hCur hb)) (fun hH => ?_)
          replace hCur := hH.2
          clear hK K hH
          have hlt := rblk_lt P_j
          replace P_j := rblk_below P_j hb
          have hne : Wg1.heap.size ≠ Wg12.heap.size := by omega
          clear hlt
          clear hb
          try simp only [ps]
          generalize Wg12.alloc (.cells z6 31) = Wg13 at P_k P_j hCur ⊢
          refine rd1 (i := 10) (by kernel_rfl) rfl (fun K hK => ?_)
          have t0 := rblk_cell P_j 0
          have q0 := rblk_free P_j 0
          have t1 := rblk_cell P_j 1
          have q1 := rblk_free P_j 1
          have t2 := rblk_cell P_j 2
          have q2 := rblk_free P_j 2
          have t3 := rblk_cell P_j 3
          have q3 := rblk_free P_j 3
          have t4 := rblk_cell P_j 4
          have q4 := rblk_free P_j 4
          have t5 := rblk_cell P_j 5
          have q5 := rblk_free P_j 5
          go_simp
          clear t0 q0 t1 q1 t2 q2 t3 q3 t4 q4 t5 q5
          refine hK.out _ _ (SB.out _ (below_put6 hCur hgj _ _ _ _ _ _)) (fun hH => ?_)
          replace hCur := hH.2
          clear hK K hH
          replace P_j := put6_same P_j (.bool jx.p) (.slice ja.A jx.l.length ja.c) (.slice ja.D jx.m.length ja.d) (.bool jy.p) (.slice jb.A jy.l.length jb.c) (.slice jb.D jy.m.length jb.d)
          replace P_k := put6_other P_k hne (.bool jx.p) (.slice ja.A jx.l.length ja.c) (.slice ja.D jx.m.length ja.d) (.bool jy.p) (.slice jb.A jy.l.length jb.c) (.slice jb.D jy.m.length jb.d)
          try simp only [ps]
          generalize (((((Wg13.setCell ⟨Wg1.heap.size, 0, none⟩ (.bool jx.p)).setCell ⟨Wg1.heap.size, 1, none⟩ (.slice ja.A jx.l.length ja.c)).setCell ⟨Wg1.heap.size, 2, none⟩ (.slice ja.D jx.m.length ja.d)).setCell ⟨Wg1.heap.size, 3, none⟩ (.bool jy.p)).setCell ⟨Wg1.heap.size, 4, none⟩ (.slice jb.A jy.l.length jb.c)).setCell ⟨Wg1.heap.size, 5, none⟩ (.slice jb.D jy.m.length jb.d) = Wg14 at P_j P_k hCur ⊢
          refine rd1 (i := 11) (by kernel_rfl) rfl (fun K hK => ?_)
          have t0 := rblk_cell P_k 0
          have q0 := rblk_free P_k 0
          have t1 := rblk_cell P_k 1
          have q1 := rblk_free P_k 1
          have t2 := rblk_cell P_k 2
          have q2 := rblk_free P_k 2
          have t3 := rblk_cell P_k 3
          have q3 := rblk_free P_k 3
          have t4 := rblk_cell P_k 4
          have q4 := rblk_free P_k 4
          have t5 := rblk_cell P_k 5
          have q5 := rblk_free P_k 5
          go_simp
          clear t0 q0 t1 q1 t2 q2 t3 q3 t4 q4 t5 q5
          refine hK.out _ _ (SB.out _ (below_put6 hCur hgk _ _ _ _ _ _)) (fun hH => ?_)
          replace hCur := hH.2
          clear hK K hH
          replace P_k := put6_same P_k (.bool kx.p) (.slice ka.A kx.l.length ka.c) (.slice ka.D kx.m.length ka.d) (.bool ky.p) (.slice kb'.A ky.l.length kb'.c) (.slice kb'.D ky.m.length kb'.d)
          replace P_j := put6_other P_j hne.symm (.bool kx.p) (.slice ka.A kx.l.length ka.c) (.slice ka.D kx.m.length ka.d) (.bool ky.p) (.slice kb'.A ky.l.length kb'.c) (.slice kb'.D ky.m.length kb'.d)
          try simp only [ps]
          refine wpAnyH_done (by kernel_rfl) ?_ _
          go_wp2_with fail
          go_meet
          exact ⟨_, _, rfl, rfl, hgj, hgk, P_j, P_k, hCur⟩
        · skip
          go_simp
          have P_k := heap_alloc_new Wg11 (.cells z6 31)
          have hb := ba1 Wg11 (.cells z6 31)
          have hgk := hCur.size
          refine hK.out _ _ (SB.out _ (bt hCur hb)) (fun hH => ?_)
          replace hCur := hH.2
          clear hK K hH
          have hlt := rblk_lt P_j
          replace P_j := rblk_below P_j hb
          have hne : Wg1.heap.size ≠ Wg11.heap.size := by omega
          clear hlt
          clear hb
          try simp only [ps]
          generalize Wg11.alloc (.cells z6 31) = Wg16 at P_k P_j hCur ⊢
          refine rd1 (i := 7) (by kernel_rfl) rfl (fun K hK => ?_)
          go_simp
          (go_at_call 178; ((with_reducible refine (HC2.out _).mono ?_); rintro e Wg17 ⟨rfl, hb⟩))
          refine hK.out _ _ (SB.out _ (bt hCur hb)) (fun hH => ?_)
          replace hCur := hH.2
          clear hK K hH
          replace P_j := rblk_below P_j hb
          replace P_k := rblk_below P_k hb
          clear hb
          try simp only [ps]
          refine rd1 (i := 10) (by kernel_rfl) rfl (fun K hK => ?_)
          have t0 := rblk_cell P_j 0
          have q0 := rblk_free P_j 0
          have t1 := rblk_cell P_j 1
          have q1 := rblk_free P_j 1
          have t2 := rblk_cell P_j 2
          have q2 := rblk_free P_j 2
          have t3 := rblk_cell P_j 3
          have q3 := rblk_free P_j 3
          have t4 := rblk_cell P_j 4
          have q4 := rblk_free P_j 4
          have t5 := rblk_cell P_j 5
          have q5 := rblk_free P_j 5
          go_simp
          clear t0 q0 t1 q1 t2 q2 t3 q3 t4 q4 t5 q5
          refine hK.out _ _ (SB.out _ (below_put6 hCur hgj _ _ _ _ _ _)) (fun hH => ?_)
          replace hCur := hH.2
          clear hK K hH
          replace P_j := put6_same P_j (.bool jx.p) (.slice ja.A jx.l.length ja.c) (.slice ja.D jx.m.length ja.d) (.bool jy.p) (.slice jb.A jy.l.length jb.c) (.slice jb.D jy.m.length jb.d)
          replace P_k := put6_other P_k hne (.bool jx.p) (.slice ja.A jx.l.length ja.c) (.slice ja.D jx.m.length ja.d) (.bool jy.p) (.slice jb.A jy.l.length jb.c) (.slice jb.D jy.m.length jb.d)
          try simp only [ps]
          generalize (((((Wg17.setCell ⟨Wg1.heap.size, 0, none⟩ (.bool jx.p)).setCell ⟨Wg1.heap.size, 1, none⟩ (.slice ja.A jx.l.length ja.c)).setCell ⟨Wg1.heap.size, 2, none⟩ (.slice ja.D jx.m.length ja.d)).setCell ⟨Wg1.heap.size, 3, none⟩ (.bool jy.p)).setCell ⟨Wg1.heap.size, 4, none⟩ (.slice jb.A jy.l.length jb.c)).setCell ⟨Wg1.heap.size, 5, none⟩ (.slice jb.D jy.m.length jb.d) = Wg18 at P_j P_k hCur ⊢
          refine rd1 (i := 11) (by kernel_rfl) rfl (fun K hK => ?_)
          have t0 := rblk_cell P_k 0
          have q0 := rblk_free P_k 0
          have t1 := rblk_cell P_k 1
          have q1 := rblk_free P_k 1
          have t2 := rblk_cell P_k 2
          have q2 := rblk_free P_k 2
          have t3 := rblk_cell P_k 3
          have q3 := rblk_free P_k 3
          have t4 := rblk_cell P_k 4
          have q4 := rblk_free P_k 4
          have t5 := rblk_cell P_k 5
          have q5 := rblk_free P_k 5
          go_simp
          clear t0 q0 t1 q1 t2 q2 t3 q3 t4 q4 t5 q5
          refine hK.out _ _ (SB.out _ (below_put6 hCur hgk _ _ _ _ _ _)) (fun hH => ?_)
          replace hCur := hH.2
          clear hK K hH
          replace P_k := put6_same P_k (.bool kx.p) (.slice ka.A kx.l.length ka.c) (.slice ka.D kx.m.length ka.d) (.bool ky.p) (.slice kb'.A ky.l.length kb'.c) (.slice kb'.D ky.m.length kb'.d)
          replace P_j := put6_other P_j hne.symm (.bool kx.p) (.slice ka.A kx.l.length ka.c) (.slice ka.D kx.m.length ka.d) (.bool ky.p) (.slice kb'.A ky.l.length kb'.c) (.slice kb'.D ky.m.length kb'.d)
          try simp only [ps]
          refine wpAnyH_done (by kernel_rfl) ?_ _
          go_wp2_with fail
          go_meet
          exact ⟨_, _, rfl, rfl, hgj, hgk, P_j, P_k, hCur⟩
      · skip
        go_simp
        have P_k := heap_alloc_new Wg1 (.cells z6 31)
        have hb := ba1 Wg1 (.cells z6 31)
        have hgk := hCur.size
        refine hK.out _ _ (SB.out _ (bt hCur hb)) (fun hH => ?_)
        replace hCur := hH.2
        clear hK K hH
        clear hb
        try simp only [ps]
        generalize Wg1.alloc (.cells z6 31) = Wg20 at P_k hCur ⊢
        refine wpAnyH_ready (rs := [7, 8]) (by kernel_rfl) (by simp) ?_
        refine rc1 rfl (fun K hK => ?_) (rc1 rfl (fun K hK => ?_) AllReadyH.nil)
        · skip
          go_simp
          (go_at_call 178; ((with_reducible refine (HC2.out _).mono ?_); rintro e Wg21 ⟨rfl, hb⟩))
          refine hK.out _ _ (SB.out _ (bt hCur hb)) (fun hH => ?_)
          replace hCur := hH.2
          clear hK K hH
          replace P_k := rblk_below P_k hb
          clear hb
          try simp only [ps]
          refine rd1 (i := 8) (by kernel_rfl) rfl (fun K hK => ?_)
          go_simp
          have P_j := heap_alloc_new Wg21 (.cells z6 31)
          have hb := ba1 Wg21 (.cells z6 31)
          have hgj := hCur.size
          refine hK.out _ _ (SB.out _ (bt hCur hb)) (fun hH => ?_)
          replace hCur := hH.2
          clear hK K hH
          have hlt := rblk_lt P_k
          replace P_k := rblk_below P_k hb
          have hne : Wg21.heap.size ≠ Wg1.heap.size := by omega
          clear hlt
          clear hb
          try simp only [ps]
          generalize Wg21.alloc (.cells z6 31) = Wg22 at P_j P_k hCur ⊢
          refine rd1 (i := 10) (by kernel_rfl) rfl (fun K hK => ?_)
          have t0 := rblk_cell P_j 0
          have q0 := rblk_free P_j 0
          have t1 := rblk_cell P_j 1
          have q1 := rblk_free P_j 1
          have t2 := rblk_cell P_j 2
          have q2 := rblk_free P_j 2
          have t3 := rblk_cell P_j 3
          have q3 := rblk_free P_j 3
          have t4 := rblk_cell P_j 4
          have q4 := rblk_free P_j 4
          have t5 := rblk_cell P_j 5
          have q5 := rblk_free P_j 5
          go_simp
          clear t0 q0 t1 q1 t2 q2 t3 q3 t4 q4 t5 q5
          refine hK.out _ _ (SB.out _ (below_put6 hCur hgj _ _ _ _ _ _)) (fun hH => ?_)
          replace hCur := hH.2
          clear hK K hH
          replace P_j := put6_same P_j (.bool jx.p) (.slice ja.A jx.l.length ja.c) (.slice ja.D jx.m.length ja.d) (.bool jy.p) (.slice jb.A jy.l.length jb.c) (.slice jb.D jy.m.length jb.d)
          replace P_k := put6_other P_k hne (.bool jx.p) (.slice ja.A jx.l.length ja.c) (.slice ja.D jx.m.length ja.d) (.bool jy.p) (.slice jb.A jy.l.length jb.c) (.slice jb.D jy.m.length jb.d)
          try simp only [ps]
          generalize (((((Wg22.setCell ⟨Wg21.heap.size, 0, none⟩ (.bool jx.p)).setCell ⟨Wg21.heap.size, 1, none⟩ (.slice ja.A jx.l.length ja.c)).setCell ⟨Wg21.heap.size, 2, none⟩ (.slice ja.D jx.m.length ja.d)).setCell ⟨Wg21.heap.size, 3, none⟩ (.bool jy.p)).setCell ⟨Wg21.heap.size, 4, none⟩ (.slice jb.A jy.l.length jb.c)).setCell ⟨Wg21.heap.size, 5, none⟩ (.slice jb.D jy.m.length jb.d) = Wg23 at P_j P_k hCur ⊢
          refine rd1 (i := 11) (by kernel_rfl) rfl (fun K hK => ?_)
          have t0 := rblk_cell P_k 0
          have q0 := rblk_free P_k 0
          have t1 := rblk_cell P_k 1
          have q1 := rblk_free P_k 1
          have t2 := rblk_cell P_k 2
          have q2 := rblk_free P_k 2
          have t3 := rblk_cell P_k 3
          have q3 := rblk_free P_k 3
          have t4 := rblk_cell P_k 4
          have q4 := rblk_free P_k 4
          have t5 := rblk_cell P_k 5
          have q5 := rblk_free P_k 5
          go_simp
          clear t0 q0 t1 q1 t2 q2 t3 q3 t4 q4 t5 q5
          refine hK.out _ _ (SB.out _ (below_put6 hCur hgk _ _ _ _ _ _)) (fun hH => ?_)
          replace hCur := hH.2
          clear hK K hH
          replace P_k := put6_same P_k (.bool kx.p) (.slice ka.A kx.l.length ka.c) (.slice ka.D kx.m.length ka.d) (.bool ky.p) (.slice kb'.A ky.l.length kb'.c) (.slice kb'.D ky.m.length kb'.d)
          replace P_j := put6_other P_j hne.symm (.bool kx.p) (.slice ka.A kx.l.length ka.c) (.slice ka.D kx.m.length ka.d) (.bool ky.p) (.slice kb'.A ky.l.length kb'.c) (.slice kb'.D ky.m.length kb'.d)
          try simp only [ps]
          refine wpAnyH_done (by kernel_rfl) ?_ _
          go_wp2_with fail
          go_meet
          exact ⟨_, _, rfl, rfl, hgj, hgk, P_j, P_k, hCur⟩
        · skip
          go_simp
          have P_j := heap_alloc_new Wg20 (.cells z6 31)
          have hb := ba1 Wg20 (.cells z6 31)
          have hgj := hCur.size
          refine hK.out _ _ (SB.out _ (bt hCur hb)) (fun hH => ?_)
          replace hCur := hH.2
          clear hK K hH
          have hlt := rblk_lt P_k
          replace P_k := rblk_below P_k hb
          have hne : Wg20.heap.size ≠ Wg1.heap.size := by omega
          clear hlt
          clear hb
          try simp only [ps]
          generalize Wg20.alloc (.cells z6 31) = Wg25 at P_j P_k hCur ⊢
          refine rd1 (i := 7) (by kernel_rfl) rfl (fun K hK => ?_)
          go_simp
          (go_at_call 178; ((with_reducible refine (HC2.out _).mono ?_); rintro e Wg26 ⟨rfl, hb⟩))
          refine hK.out _ _ (SB.out _ (bt hCur hb)) (fun hH => ?_)
          replace hCur := hH.2
          clear hK K hH
          replace P_j := rblk_below P_j hb
          replace P_k := rblk_below P_k hb
          clear hb
          try simp only [ps]
          refine rd1 (i := 10) (by kernel_rfl) rfl (fun K hK => ?_)
          have t0 := rblk_cell P_j 0
          have q0 := rblk_free P_j 0
          have t1 := rblk_cell P_j 1
          have q1 := rblk_free P_j 1
          have t2 := rblk_cell P_j 2
          have q2 := rblk_free P_j 2
          have t3 := rblk_cell P_j 3
          have q3 := rblk_free P_j 3
          have t4 := rblk_cell P_j 4
          have q4 := rblk_free P_j 4
          have t5 := rblk_cell P_j 5
          have q5 := rblk_free P_j 5
          go_simp
          clear t0 q0 t1 q1 t2 q2 t3 q3 t4 q4 t5 q5
          refine hK.out _ _ (SB.out _ (below_put6 hCur hgj _ _ _ _ _ _)) (fun hH => ?_)
          replace hCur := hH.2
          clear hK K hH
          replace P_j := put6_same P_j (.bool jx.p) (.slice ja.A jx.l.length ja.c) (.slice ja.D jx.m.length ja.d) (.bool jy.p) (.slice jb.A jy.l.length jb.c) (.slice jb.D jy.m.length jb.d)
          replace P_k := put6_other P_k hne (.bool jx.p) (.slice ja.A jx.l.length ja.c) (.slice ja.D jx.m.length ja.d) (.bool jy.p) (.slice jb.A jy.l.length jb.c) (.slice jb.D jy.m.length jb.d)
          try simp only [ps]
          generalize (((((Wg26.setCell ⟨Wg20.heap.size, 0, none⟩ (.bool jx.p)).setCell ⟨Wg20.heap.size, 1, none⟩ (.slice ja.A jx.l.length ja.c)).setCell ⟨Wg20.heap.size, 2, none⟩ (.slice ja.D jx.m.length ja.d)).setCell ⟨Wg20.heap.size, 3, none⟩ (.bool jy.p)).setCell ⟨Wg20.heap.size, 4, none⟩ (.slice jb.A jy.l.length jb.c)).setCell ⟨Wg20.heap.size, 5, none⟩ (.slice jb.D jy.m.length jb.d) = Wg27 at P_j P_k hCur ⊢
          refine rd1 (i := 11) (by kernel_rfl) rfl (fun K hK => ?_)
          have t0 := rblk_cell P_k 0
          have q0 := rblk_free P_k 0
          have t1 := rblk_cell P_k 1
          have q1 := rblk_free P_k 1
          have t2 := rblk_cell P_k 2
          have q2 := rblk_free P_k 2
          have t3 := rblk_cell P_k 3
          have q3 := rblk_free P_k 3
          have t4 := rblk_cell P_k 4
          have q4 := rblk_free P_k 4
          have t5 := rblk_cell P_k 5
          have q5 := rblk_free P_k 5
          go_simp
          clear t0 q0 t1 q1 t2 q2 t3 q3 t4 q4 t5 q5
          refine hK.out _ _ (SB.out _ (below_put6 hCur hgk _ _ _ _ _ _)) (fun hH => ?_)
          replace hCur := hH.2
          clear hK K hH
          replace P_k := put6_same P_k (.bool kx.p) (.slice ka.A kx.l.length ka.c) (.slice ka.D kx.m.length ka.d) (.bool ky.p) (.slice kb'.A ky.l.length kb'.c) (.slice kb'.D ky.m.length kb'.d)
          replace P_j := put6_other P_j hne.symm (.bool kx.p) (.slice ka.A kx.l.length ka.c) (.slice ka.D kx.m.length ka.d) (.bool ky.p) (.slice kb'.A ky.l.length kb'.c) (.slice kb'.D ky.m.length kb'.d)
          try simp only [ps]
          refine wpAnyH_done (by kernel_rfl) ?_ _
          go_wp2_with fail
          go_meet
          exact ⟨_, _, rfl, rfl, hgj, hgk, P_j, P_k, hCur⟩
    · skip
      go_simp
      have P_j := heap_alloc_new Wd (.cells z6 31)
      have hb := ba1 Wd (.cells z6 31)
      have hgj := hCur.size
      refine hK.out _ _ (SB.out _ (bt hCur hb)) (fun hH => ?_)
      replace hCur := hH.2
      clear hK K hH
      clear hb
      try simp only [ps]
      generalize Wd.alloc (.cells z6 31) = Wg29 at P_j hCur ⊢
      refine wpAnyH_ready (rs := [3, 9]) (by kernel_rfl) (by simp) ?_
      refine rc1 rfl (fun K hK => ?_) (rc1 rfl (fun K hK => ?_) AllReadyH.nil)
      · skip
        go_simp
        (go_at_call 178; ((with_reducible refine (HC1.out _).mono ?_); rintro e Wg30 ⟨rfl, hb⟩))
        refine hK.out _ _ (SB.out _ (bt hCur hb)) (fun hH => ?_)
        replace hCur := hH.2
        clear hK K hH
        replace P_j := rblk_below P_j hb
        clear hb
        try simp only [ps]
        refine wpAnyH_ready (rs := [7, 9]) (by kernel_rfl) (by simp) ?_
        refine rc1 rfl (fun K hK => ?_) (rc1 rfl (fun K hK => ?_) AllReadyH.nil)
        · skip
          go_simp
          (go_at_call 178; ((with_reducible refine (HC2.out _).mono ?_); rintro e Wg31 ⟨rfl, hb⟩))
          refine hK.out _ _ (SB.out _ (bt hCur hb)) (fun hH => ?_)
          replace hCur := hH.2
          clear hK K hH
          replace P_j := rblk_below P_j hb
          clear hb
          try simp only [ps]
          refine rd1 (i := 9) (by kernel_rfl) rfl (fun K hK => ?_)
          go_simp
          have P_k := heap_alloc_new Wg31 (.cells z6 31)
          have hb := ba1 Wg31 (.cells z6 31)
          have hgk := hCur.size
          refine hK.out _ _ (SB.out _ (bt hCur hb)) (fun hH => ?_)
          replace hCur := hH.2
          clear hK K hH
          have hlt := rblk_lt P_j
          replace P_j := rblk_below P_j hb
          have hne : Wd.heap.size ≠ Wg31.heap.size := by omega
          clear hlt
          clear hb
          try simp only [ps]
          generalize Wg31.alloc (.cells z6 31) = Wg32 at P_k P_j hCur ⊢
          refine rd1 (i := 10) (by kernel_rfl) rfl (fun K hK => ?_)
          have t0 := rblk_cell P_j 0
          have q0 := rblk_free P_j 0
          have t1 := rblk_cell P_j 1
          have q1 := rblk_free P_j 1
          have t2 := rblk_cell P_j 2
          have q2 := rblk_free P_j 2
          have t3 := rblk_cell P_j 3
          have q3 := rblk_free P_j 3
          have t4 := rblk_cell P_j 4
          have q4 := rblk_free P_j 4
          have t5 := rblk_cell P_j 5
          have q5 := rblk_free P_j 5
          go_simp
          clear t0 q0 t1 q1 t2 q2 t3 q3 t4 q4 t5 q5
          refine hK.out _ _ (SB.out _ (below_put6 hCur hgj _ _ _ _ _ _)) (fun hH => ?_)
          replace hCur := hH.2
          clear hK K hH
          replace P_j := put6_same P_j (.bool jx.p) (.slice ja.A jx.l.length ja.c) (.slice ja.D jx.m.length ja.d) (.bool jy.p) (.slice jb.A jy.l.length jb.c) (.slice jb.D jy.m.length jb.d)
          replace P_k := put6_other P_k hne (.bool jx.p) (.slice ja.A jx.l.length ja.c) (.slice ja.D jx.m.length ja.d) (.bool jy.p) (.slice jb.A jy.l.length jb.c) (.slice jb.D jy.m.length jb.d)
          try simp only [ps]
          generalize (((((Wg32.setCell ⟨Wd.heap.size, 0, none⟩ (.bool jx.p)).setCell ⟨Wd.heap.size, 1, none⟩ (.slice ja.A jx.l.length ja.c)).setCell ⟨Wd.heap.size, 2, none⟩ (.slice ja.D jx.m.length ja.d)).setCell ⟨Wd.heap.size, 3, none⟩ (.bool jy.p)).setCell ⟨Wd.heap.size, 4, none⟩ (.slice jb.A jy.l.length jb.c)).setCell ⟨Wd.heap.size, 5, none⟩ (.slice jb.D jy.m.length jb.d) = Wg33 at P_j P_k hCur ⊢
          refine rd1 (i := 11) (by kernel_rfl) rfl (fun K hK => ?_)
          have t0 := rblk_cell P_k 0
          have q0 := rblk_free P_k 0
          have t1 := rblk_cell P_k 1
          have q1 := rblk_free P_k 1
          have t2 := rblk_cell P_k 2
          have q2 := rblk_free P_k 2
          have t3 := rblk_cell P_k 3
          have q3 := rblk_free P_k 3
          have t4 := rblk_cell P_k 4
          have q4 := rblk_free P_k 4
          have t5 := rblk_cell P_k 5
          have q5 := rblk_free P_k 5
          go_simp
          clear t0 q0 t1 q1 t2 q2 t3 q3 t4 q4 t5 q5
          refine hK.out _ _ (SB.out _ (below_put6 hCur hgk _ _ _ _ _ _)) (fun hH => ?_)
          replace hCur := hH.2
          clear hK K hH
          replace P_k := put6_same P_k (.bool kx.p) (.slice ka.A kx.l.length ka.c) (.slice ka.D kx.m.length ka.d) (.bool ky.p) (.slice kb'.A ky.l.length kb'.c) (.slice kb'.D ky.m.length kb'.d)
          replace P_j := put6_other P_j hne.symm (.bool kx.p) (.slice ka.A kx.l.length ka.c) (.slice ka.D kx.m.length ka.d) (.bool ky.p) (.slice kb'.A ky.l.length kb'.c) (.slice kb'.D ky.m.length kb'.d)
          try simp only [ps]
          refine wpAnyH_done (by kernel_rfl) ?_ _
          go_wp2_with fail
          go_meet
          exact ⟨_, _, rfl, rfl, hgj, hgk, P_j, P_k, hCur⟩
        · skip
          go_simp
          have P_k := heap_alloc_new Wg30 (.cells z6 31)
          have hb := ba1 Wg30 (.cells z6 31)
          have hgk := hCur.size
          refine hK.out _ _ (SB.out _ (bt hCur hb)) (fun hH => ?_)
          replace hCur := hH.2
          clear hK K hH
          have hlt := rblk_lt P_j
          replace P_j := rblk_below P_j hb
          have hne : Wd.heap.size ≠ Wg30.heap.size := by omega
          clear hlt
          clear hb
          try simp only [ps]
          generalize Wg30.alloc (.cells z6 31) = Wg35 at P_k P_j hCur ⊢
          refine rd1 (i := 7) (by kernel_rfl) rfl (fun K hK => ?_)
          go_simp
          (go_at_call 178; ((with_reducible refine (HC2.out _).mono ?_); rintro e Wg36 ⟨rfl, hb⟩))
          refine hK.out _ _ (SB.out _ (bt hCur hb)) (fun hH => ?_)
          replace hCur := hH.2
          clear hK K hH
          replace P_j := rblk_below P_j hb
          replace P_k := rblk_below P_k hb
          clear hb
          try simp only [ps]
          refine rd1 (i := 10) (by kernel_rfl) rfl (fun K hK => ?_)
          have t0 := rblk_cell P_j 0
          have q0 := rblk_free P_j 0
          have t1 := rblk_cell P_j 1
          have q1 := rblk_free P_j 1
          have t2 := rblk_cell P_j 2
          have q2 := rblk_free P_j 2
          have t3 := rblk_cell P_j 3
          have q3 := rblk_free P_j 3
          have t4 := rblk_cell P_j 4
          have q4 := rblk_free P_j 4
          have t5 := rblk_cell P_j 5
          have q5 := rblk_free P_j 5
          go_simp
          clear t0 q0 t1 q1 t2 q2 t3 q3 t4 q4 t5 q5
          refine hK.out _ _ (SB.out _ (below_put6 hCur hgj _ _ _ _ _ _)) (fun hH => ?_)
          replace hCur := hH.2
          clear hK K hH
          replace P_j := put6_same P_j (.bool jx.p) (.slice ja.A jx.l.length ja.c) (.slice ja.D jx.m.length ja.d) (.bool jy.p) (.slice jb.A jy.l.length jb.c) (.slice jb.D jy.m.length jb.d)
          replace P_k := put6_other P_k hne (.bool jx.p) (.slice ja.A jx.l.length ja.c) (.slice ja.D jx.m.length ja.d) (.bool jy.p) (.slice jb.A jy.l.length jb.c) (.slice jb.D jy.m.length jb.d)
          try simp only [ps]
          generalize (((((Wg36.setCell ⟨Wd.heap.size, 0, none⟩ (.bool jx.p)).setCell ⟨Wd.heap.size, 1, none⟩ (.slice ja.A jx.l.length ja.c)).setCell ⟨Wd.heap.size, 2, none⟩ (.slice ja.D jx.m.length ja.d)).setCell ⟨Wd.heap.size, 3, none⟩ (.bool jy.p)).setCell ⟨Wd.heap.size, 4, none⟩ (.slice jb.A jy.l.length jb.c)).setCell ⟨Wd.heap.size, 5, none⟩ (.slice jb.D jy.m.length jb.d) = Wg37 at P_j P_k hCur ⊢
          refine rd1 (i := 11) (by kernel_rfl) rfl (fun K hK => ?_)
          have t0 := rblk_cell P_k 0
          have q0 := rblk_free P_k 0
          have t1 := rblk_cell P_k 1
          have q1 := rblk_free P_k 1
          have t2 := rblk_cell P_k 2
          have q2 := rblk_free P_k 2
          have t3 := rblk_cell P_k 3
          have q3 := rblk_free P_k 3
          have t4 := rblk_cell P_k 4
          have q4 := rblk_free P_k 4
          have t5 := rblk_cell P_k 5
          have q5 := rblk_free P_k 5
          go_simp
          clear t0 q0 t1 q1 t2 q2 t3 q3 t4 q4 t5 q5
          refine hK.out _ _ (SB.out _ (below_put6 hCur hgk _ _ _ _ _ _)) (fun hH => ?_)
          replace hCur := hH.2
          clear hK K hH
          replace P_k := put6_same P_k (.bool kx.p) (.slice ka.A kx.l.length ka.c) (.slice ka.D kx.m.length ka.d) (.bool ky.p) (.slice kb'.A ky.l.length kb'.c) (.slice kb'.D ky.m.length kb'.d)
          replace P_j := put6_other P_j hne.symm (.bool kx.p) (.slice ka.A kx.l.length ka.c) (.slice ka.D kx.m.length ka.d) (.bool ky.p) (.slice kb'.A ky.l.length kb'.c) (.slice kb'.D ky.m.length kb'.d)
          try simp only [ps]
          refine wpAnyH_done (by kernel_rfl) ?_ _
          go_wp2_with fail
          go_meet
          exact ⟨_, _, rfl, rfl, hgj, hgk, P_j, P_k, hCur⟩
      · skip
        go_simp
        have P_k := heap_alloc_new Wg29 (.cells z6 31)
        have hb := ba1 Wg29 (.cells z6 31)
        have hgk := hCur.size
        refine hK.out _ _ (SB.out _ (bt hCur hb)) (fun hH => ?_)
        replace hCur := hH.2
        clear hK K hH
        have hlt := rblk_lt P_j
        replace P_j := rblk_below P_j hb
        have hne : Wd.heap.size ≠ Wg29.heap.size := by omega
        clear hlt
        clear hb
        try simp only [ps]
        generalize Wg29.alloc (.cells z6 31) = Wg39 at P_k P_j hCur ⊢
        refine rd1 (i := 3) (by kernel_rfl) rfl (fun K hK => ?_)
        go_simp
        (go_at_call 178; ((with_reducible refine (HC1.out _).mono ?_); rintro e Wg40 ⟨rfl, hb⟩))
        refine hK.out _ _ (SB.out _ (bt hCur hb)) (fun hH => ?_)
        replace hCur := hH.2
        clear hK K hH
        replace P_j := rblk_below P_j hb
        replace P_k := rblk_below P_k hb
        clear hb
        try simp only [ps]
        refine rd1 (i := 7) (by kernel_rfl) rfl (fun K hK => ?_)
        go_simp
        (go_at_call 178; ((with_reducible refine (HC2.out _).mono ?_); rintro e Wg41 ⟨rfl, hb⟩))
        refine hK.out _ _ (SB.out _ (bt hCur hb)) (fun hH => ?_)
        replace hCur := hH.2
        clear hK K hH
        replace P_j := rblk_below P_j hb
        replace P_k := rblk_below P_k hb
        clear hb
        try simp only [ps]
        refine rd1 (i := 10) (by kernel_rfl) rfl (fun K hK => ?_)
        have t0 := rblk_cell P_j 0
        have q0 := rblk_free P_j 0
        have t1 := rblk_cell P_j 1
        have q1 := rblk_free P_j 1
        have t2 := rblk_cell P_j 2
        have q2 := rblk_free P_j 2
        have t3 := rblk_cell P_j 3
        have q3 := rblk_free P_j 3
        have t4 := rblk_cell P_j 4
        have q4 := rblk_free P_j 4
        have t5 := rblk_cell P_j 5
        have q5 := rblk_free P_j 5
        go_simp
        clear t0 q0 t1 q1 t2 q2 t3 q3 t4 q4 t5 q5
        refine hK.out _ _ (SB.out _ (below_put6 hCur hgj _ _ _ _ _ _)) (fun hH => ?_)
        replace hCur := hH.2
        clear hK K hH
        replace P_j := put6_same P_j (.bool jx.p) (.slice ja.A jx.l.length ja.c) (.slice ja.D jx.m.length ja.d) (.bool jy.p) (.slice jb.A jy.l.length jb.c) (.slice jb.D jy.m.length jb.d)
        replace P_k := put6_other P_k hne (.bool jx.p) (.slice ja.A jx.l.length ja.c) (.slice ja.D jx.m.length ja.d) (.bool jy.p) (.slice jb.A jy.l.length jb.c) (.slice jb.D jy.m.length jb.d)
        try simp only [ps]
        generalize (((((Wg41.setCell ⟨Wd.heap.size, 0, none⟩ (.bool jx.p)).setCell ⟨Wd.heap.size, 1, none⟩ (.slice ja.A jx.l.length ja.c)).setCell ⟨Wd.heap.size, 2, none⟩ (.slice ja.D jx.m.length ja.d)).setCell ⟨Wd.heap.size, 3, none⟩ (.bool jy.p)).setCell ⟨Wd.heap.size, 4, none⟩ (.slice jb.A jy.l.length jb.c)).setCell ⟨Wd.heap.size, 5, none⟩ (.slice jb.D jy.m.length jb.d) = Wg42 at P_j P_k hCur ⊢
        refine rd1 (i := 11) (by kernel_rfl) rfl (fun K hK => ?_)
        have t0 := rblk_cell P_k 0
        have q0 := rblk_free P_k 0
        have t1 := rblk_cell P_k 1
        have q1 := rblk_free P_k 1
        have t2 := rblk_cell P_k 2
        have q2 := rblk_free P_k 2
        have t3 := rblk_cell P_k 3
        have q3 := rblk_free P_k 3
        have t4 := rblk_cell P_k 4
        have q4 := rblk_free P_k 4
        have t5 := rblk_cell P_k 5
        have q5 := rblk_free P_k 5
        go_simp
        clear t0 q0 t1 q1 t2 q2 t3 q3 t4 q4 t5 q5
        refine hK.out _ _ (SB.out _ (below_put6 hCur hgk _ _ _ _ _ _)) (fun hH => ?_)
        replace hCur := hH.2
        clear hK K hH
        replace P_k := put6_same P_k (.bool kx.p) (.slice ka.A kx.l.length ka.c) (.slice ka.D kx.m.length ka.d) (.bool ky.p) (.slice kb'.A ky.l.length kb'.c) (.slice kb'.D ky.m.length kb'.d)
        replace P_j := put6_other P_j hne.symm (.bool kx.p) (.slice ka.A kx.l.length ka.c) (.slice ka.D kx.m.length ka.d) (.bool ky.p) (.slice kb'.A ky.l.length kb'.c) (.slice kb'.D ky.m.length kb'.d)
        try simp only [ps]
        refine wpAnyH_done (by kernel_rfl) ?_ _
        go_wp2_with fail
        go_meet
        exact ⟨_, _, rfl, rfl, hgj, hgk, P_j, P_k, hCur⟩
    · skip
      go_simp
      have P_k := heap_alloc_new Wd (.cells z6 31)
      have hb := ba1 Wd (.cells z6 31)
      have hgk := hCur.size
      refine hK.out _ _ (SB.out _ (bt hCur hb)) (fun hH => ?_)
      replace hCur := hH.2
      clear hK K hH
      clear hb
      try simp only [ps]
      generalize Wd.alloc (.cells z6 31) = Wg44 at P_k hCur ⊢
      refine wpAnyH_ready (rs := [3, 8]) (by kernel_rfl) (by simp) ?_
      refine rc1 rfl (fun K hK => ?_) (rc1 rfl (fun K hK => ?_) AllReadyH.nil)
      · skip
        go_simp
        (go_at_call 178; ((with_reducible refine (HC1.out _).mono ?_); rintro e Wg45 ⟨rfl, hb⟩))
        refine hK.out _ _ (SB.out _ (bt hCur hb)) (fun hH => ?_)
        replace hCur := hH.2
        clear hK K hH
        replace P_k := rblk_below P_k hb
        clear hb
        try simp only [ps]
        refine wpAnyH_ready (rs := [7, 8]) (by kernel_rfl) (by simp) ?_
        refine rc1 rfl (fun K hK => ?_) (rc1 rfl (fun K hK => ?_) AllReadyH.nil)
        · skip
          go_simp
          (go_at_call 178; ((with_reducible refine (HC2.out _).mono ?_); rintro e Wg46 ⟨rfl, hb⟩))
          refine hK.out _ _ (SB.out _ (bt hCur hb)) (fun hH => ?_)
          replace hCur := hH.2
          clear hK K hH
          replace P_k := rblk_below P_k hb
          clear hb
          try simp only [ps]
          refine rd1 (i := 8) (by kernel_rfl) rfl (fun K hK => ?_)
          go_simp
          have P_j := heap_alloc_new Wg46 (.cells z6 31)
          have hb := ba1 Wg46 (.cells z6 31)
          have hgj := hCur.size
          refine hK.out _ _ (SB.out _ (bt hCur hb)) (fun hH => ?_)
          replace hCur := hH.2
          clear hK K hH
          have hlt := rblk_lt P_k
          replace P_k := rblk_below P_k hb
          have hne : Wg46.heap.size ≠ Wd.heap.size := by omega
          clear hlt
          clear hb
          try simp only [ps]
          generalize Wg46.alloc (.cells z6 31) = Wg47 at P_j P_k hCur ⊢
          refine rd1 (i := 10) (by kernel_rfl) rfl (fun K hK => ?_)
          have t0 := rblk_cell P_j 0
          have q0 := rblk_free P_j 0
          have t1 := rblk_cell P_j 1
          have q1 := rblk_free P_j 1
          have t2 := rblk_cell P_j 2
          have q2 := rblk_free P_j 2
          have t3 := rblk_cell P_j 3
          have q3 := rblk_free P_j 3
          have t4 := rblk_cell P_j 4
          have q4 := rblk_free P_j 4
          have t5 := rblk_cell P_j 5
          have q5 := rblk_free P_j 5
          go_simp
          clear t0 q0 t1 q1 t2 q2 t3 q3 t4 q4 t5 q5
          refine hK.out _ _ (SB.out _ (below_put6 hCur hgj _ _ _ _ _ _)) (fun hH => ?_)
          replace hCur := hH.2
          clear hK K hH
          replace P_j := put6_same P_j (.bool jx.p) (.slice ja.A jx.l.length ja.c) (.slice ja.D jx.m.length ja.d) (.bool jy.p) (.slice jb.A jy.l.length jb.c) (.slice jb.D jy.m.length jb.d)
          replace P_k := put6_other P_k hne (.bool jx.p) (.slice ja.A jx.l.length ja.c) (.slice ja.D jx.m.length ja.d) (.bool jy.p) (.slice jb.A jy.l.length jb.c) (.slice jb.D jy.m.length jb.d)
          try simp only [ps]
          generalize (((((Wg47.setCell ⟨Wg46.heap.size, 0, none⟩ (.bool jx.p)).setCell ⟨Wg46.heap.size, 1, none⟩ (.slice ja.A jx.l.length ja.c)).setCell ⟨Wg46.heap.size, 2, none⟩ (.slice ja.D jx.m.length ja.d)).setCell ⟨Wg46.heap.size, 3, none⟩ (.bool jy.p)).setCell ⟨Wg46.heap.size, 4, none⟩ (.slice jb.A jy.l.length jb.c)).setCell ⟨Wg46.heap.size, 5, none⟩ (.slice jb.D jy.m.length jb.d) = Wg48 at P_j P_k hCur ⊢
          refine rd1 (i := 11) (by kernel_rfl) rfl (fun K hK => ?_)
          have t0 := rblk_cell P_k 0
          have q0 := rblk_free P_k 0
          have t1 := rblk_cell P_k 1
          have q1 := rblk_free P_k 1
          have t2 := rblk_cell P_k 2
          have q2 := rblk_free P_k 2
          have t3 := rblk_cell P_k 3
          have q3 := rblk_free P_k 3
          have t4 := rblk_cell P_k 4
          have q4 := rblk_free P_k 4
          have t5 := rblk_cell P_k 5
          have q5 := rblk_free P_k 5
          go_simp
          clear t0 q0 t1 q1 t2 q2 t3 q3 t4 q4 t5 q5
          refine hK.out _ _ (SB.out _ (below_put6 hCur hgk _ _ _ _ _ _)) (fun hH => ?_)
          replace hCur := hH.2
          clear hK K hH
          replace P_k := put6_same P_k (.bool kx.p) (.slice ka.A kx.l.length ka.c) (.slice ka.D kx.m.length ka.d) (.bool ky.p) (.slice kb'.A ky.l.length kb'.c) (.slice kb'.D ky.m.length kb'.d)
          replace P_j := put6_other P_j hne.symm (.bool kx.p) (.slice ka.A kx.l.length ka.c) (.slice ka.D kx.m.length ka.d) (.bool ky.p) (.slice kb'.A ky.l.length kb'.c) (.slice kb'.D ky.m.length kb'.d)
          try simp only [ps]
          refine wpAnyH_done (by kernel_rfl) ?_ _
          go_wp2_with fail
          go_meet
          exact ⟨_, _, rfl, rfl, hgj, hgk, P_j, P_k, hCur⟩
        · skip
          go_simp
          have P_j := heap_alloc_new Wg45 (.cells z6 31)
          have hb := ba1 Wg45 (.cells z6 31)
          have hgj := hCur.size
          refine hK.out _ _ (SB.out _ (bt hCur hb)) (fun hH => ?_)
          replace hCur := hH.2
          clear hK K hH
          have hlt := rblk_lt P_k
          replace P_k := rblk_below P_k hb
          have hne : Wg45.heap.size ≠ Wd.heap.size := by omega
          clear hlt
          clear hb
          try simp only [ps]
          generalize Wg45.alloc (.cells z6 31) = Wg50 at P_j P_k hCur ⊢
          refine rd1 (i := 7) (by kernel_rfl) rfl (fun K hK => ?_)
          go_simp
          (go_at_call 178; ((with_reducible refine (HC2.out _).mono ?_); rintro e Wg51 ⟨rfl, hb⟩))
          refine hK.out _ _ (SB.out _ (bt hCur hb)) (fun hH => ?_)
          replace hCur := hH.2
          clear hK K hH
          replace P_j := rblk_below P_j hb
          replace P_k := rblk_below P_k hb
          clear hb
          try simp only [ps]
          refine rd1 (i := 10) (by kernel_rfl) rfl (fun K hK => ?_)
          have t0 := rblk_cell P_j 0
          have q0 := rblk_free P_j 0
          have t1 := rblk_cell P_j 1
          have q1 := rblk_free P_j 1
          have t2 := rblk_cell P_j 2
          have q2 := rblk_free P_j 2
          have t3 := rblk_cell P_j 3
          have q3 := rblk_free P_j 3
          have t4 := rblk_cell P_j 4
          have q4 := rblk_free P_j 4
          have t5 := rblk_cell P_j 5
          have q5 := rblk_free P_j 5
          go_simp
          clear t0 q0 t1 q1 t2 q2 t3 q3 t4 q4 t5 q5
          refine hK.out _ _ (SB.out _ (below_put6 hCur hgj _ _ _ _ _ _)) (fun hH => ?_)
          replace hCur := hH.2
          clear hK K hH
          replace P_j := put6_same P_j (.bool jx.p) (.slice ja.A jx.l.length ja.c) (.slice ja.D jx.m.length ja.d) (.bool jy.p) (.slice jb.A jy.l.length jb.c) (.slice jb.D jy.m.length jb.d)
          replace P_k := put6_other P_k hne (.bool jx.p) (.slice ja.A jx.l.length ja.c) (.slice ja.D jx.m.length ja.d) (.bool jy.p) (.slice jb.A jy.l.length jb.c) (.slice jb.D jy.m.length jb.d)
          try simp only [ps]
          generalize (((((Wg51.setCell ⟨Wg45.heap.size, 0, none⟩ (.bool jx.p)).setCell ⟨Wg45.heap.size, 1, none⟩ (.slice ja.A jx.l.length ja.c)).setCell ⟨Wg45.heap.size, 2, none⟩ (.slice ja.D jx.m.length ja.d)).setCell ⟨Wg45.heap.size, 3, none⟩ (.bool jy.p)).setCell ⟨Wg45.heap.size, 4, none⟩ (.slice jb.A jy.l.length jb.c)).setCell ⟨Wg45.heap.size, 5, none⟩ (.slice jb.D jy.m.length jb.d) = Wg52 at P_j P_k hCur ⊢
          refine rd1 (i := 11) (by kernel_rfl) rfl (fun K hK => ?_)
          have t0 := rblk_cell P_k 0
          have q0 := rblk_free P_k 0
          have t1 := rblk_cell P_k 1
          have q1 := rblk_free P_k 1
          have t2 := rblk_cell P_k 2
          have q2 := rblk_free P_k 2
          have t3 := rblk_cell P_k 3
          have q3 := rblk_free P_k 3
          have t4 := rblk_cell P_k 4
          have q4 := rblk_free P_k 4
          have t5 := rblk_cell P_k 5
          have q5 := rblk_free P_k 5
          go_simp
          clear t0 q0 t1 q1 t2 q2 t3 q3 t4 q4 t5 q5
          refine hK.out _ _ (SB.out _ (below_put6 hCur hgk _ _ _ _ _ _)) (fun hH => ?_)
          replace hCur := hH.2
          clear hK K hH
          replace P_k := put6_same P_k (.bool kx.p) (.slice ka.A kx.l.length ka.c) (.slice ka.D kx.m.length ka.d) (.bool ky.p) (.slice kb'.A ky.l.length kb'.c) (.slice kb'.D ky.m.length kb'.d)
          replace P_j := put6_other P_j hne.symm (.bool kx.p) (.slice ka.A kx.l.length ka.c) (.slice ka.D kx.m.length ka.d) (.bool ky.p) (.slice kb'.A ky.l.length kb'.c) (.slice kb'.D ky.m.length kb'.d)
          try simp only [ps]
          refine wpAnyH_done (by kernel_rfl) ?_ _
          go_wp2_with fail
          go_meet
          exact ⟨_, _, rfl, rfl, hgj, hgk, P_j, P_k, hCur⟩
      · skip
        go_simp
        have P_j := heap_alloc_new Wg44 (.cells z6 31)
        have hb := ba1 Wg44 (.cells z6 31)
        have hgj := hCur.size
        refine hK.out _ _ (SB.out _ (bt hCur hb)) (fun hH => ?_)
        replace hCur := hH.2
        clear hK K hH
        have hlt := rblk_lt P_k
        replace P_k := rblk_below P_k hb
        have hne : Wg44.heap.size ≠ Wd.heap.size := by omega
        clear hlt
        clear hb
        try simp only [ps]
        generalize Wg44.alloc (.cells z6 31) = Wg54 at P_j P_k hCur ⊢
        refine rd1 (i := 3) (by kernel_rfl) rfl (fun K hK => ?_)
        go_simp
        (go_at_call 178; ((with_reducible refine (HC1.out _).mono ?_); rintro e Wg55 ⟨rfl, hb⟩))
        refine hK.out _ _ (SB.out _ (bt hCur hb)) (fun hH => ?_)
        replace hCur := hH.2
        clear hK K hH
        replace P_j := rblk_below P_j hb
        replace P_k := rblk_below P_k hb
        clear hb
        try simp only [ps]
        refine rd1 (i := 7) (by kernel_rfl) rfl (fun K hK => ?_)
        go_simp
        (go_at_call 178; ((with_reducible refine (HC2.out _).mono ?_); rintro e Wg56 ⟨rfl, hb⟩))
        refine hK.out _ _ (SB.out _ (bt hCur hb)) (fun hH => ?_)
        replace hCur := hH.2
        clear hK K hH
        replace P_j := rblk_below P_j hb
        replace P_k := rblk_below P_k hb
        clear hb
        try simp only [ps]
        refine rd1 (i := 10) (by kernel_rfl) rfl (fun K hK => ?_)
        have t0 := rblk_cell P_j 0
        have q0 := rblk_free P_j 0
        have t1 := rblk_cell P_j 1
        have q1 := rblk_free P_j 1
        have t2 := rblk_cell P_j 2
        have q2 := rblk_free P_j 2
        have t3 := rblk_cell P_j 3
        have q3 := rblk_free P_j 3
        have t4 := rblk_cell P_j 4
        have q4 := rblk_free P_j 4
        have t5 := rblk_cell P_j 5
        have q5 := rblk_free P_j 5
        go_simp
        clear t0 q0 t1 q1 t2 q2 t3 q3 t4 q4 t5 q5
        refine hK.out _ _ (SB.out _ (below_put6 hCur hgj _ _ _ _ _ _)) (fun hH => ?_)
        replace hCur := hH.2
        clear hK K hH
        replace P_j := put6_same P_j (.bool jx.p) (.slice ja.A jx.l.length ja.c) (.slice ja.D jx.m.length ja.d) (.bool jy.p) (.slice jb.A jy.l.length jb.c) (.slice jb.D jy.m.length jb.d)
        replace P_k := put6_other P_k hne (.bool jx.p) (.slice ja.A jx.l.length ja.c) (.slice ja.D jx.m.length ja.d) (.bool jy.p) (.slice jb.A jy.l.length jb.c) (.slice jb.D jy.m.length jb.d)
        try simp only [ps]
        generalize (((((Wg56.setCell ⟨Wg44.heap.size, 0, none⟩ (.bool jx.p)).setCell ⟨Wg44.heap.size, 1, none⟩ (.slice ja.A jx.l.length ja.c)).setCell ⟨Wg44.heap.size, 2, none⟩ (.slice ja.D jx.m.length ja.d)).setCell ⟨Wg44.heap.size, 3, none⟩ (.bool jy.p)).setCell ⟨Wg44.heap.size, 4, none⟩ (.slice jb.A jy.l.length jb.c)).setCell ⟨Wg44.heap.size, 5, none⟩ (.slice jb.D jy.m.length jb.d) = Wg57 at P_j P_k hCur ⊢
        refine rd1 (i := 11) (by kernel_rfl) rfl (fun K hK => ?_)
        have t0 := rblk_cell P_k 0
        have q0 := rblk_free P_k 0
        have t1 := rblk_cell P_k 1
        have q1 := rblk_free P_k 1
        have t2 := rblk_cell P_k 2
        have q2 := rblk_free P_k 2
        have t3 := rblk_cell P_k 3
        have q3 := rblk_free P_k 3
        have t4 := rblk_cell P_k 4
        have q4 := rblk_free P_k 4
        have t5 := rblk_cell P_k 5
        have q5 := rblk_free P_k 5
        go_simp
        clear t0 q0 t1 q1 t2 q2 t3 q3 t4 q4 t5 q5
        refine hK.out _ _ (SB.out _ (below_put6 hCur hgk _ _ _ _ _ _)) (fun hH => ?_)
        replace hCur := hH.2
        clear hK K hH
        replace P_k := put6_same P_k (.bool kx.p) (.slice ka.A kx.l.length ka.c) (.slice ka.D kx.m.length ka.d) (.bool ky.p) (.slice kb'.A ky.l.length kb'.c) (.slice kb'.D ky.m.length kb'.d)
        replace P_j := put6_other P_j hne.symm (.bool kx.p) (.slice ka.A kx.l.length ka.c) (.slice ka.D kx.m.length ka.d) (.bool ky.p) (.slice kb'.A ky.l.length kb'.c) (.slice kb'.D ky.m.length kb'.d)
        try simp only [ps]
        refine wpAnyH_done (by kernel_rfl) ?_ _
        go_wp2_with fail
        go_meet
        exact ⟨_, _, rfl, rfl, hgj, hgk, P_j, P_k, hCur⟩
  case rest =>
    obtain ⟨g_j, g_k, rfl, rfl, hlo_j, hlo_k, P_j, P_k, hb⟩ := hcut
    have nr_j : rr ≠ g_j := by omega
    have nr_k : rr ≠ g_k := by omega
    obtain ⟨W2, hWn⟩ : ∃ W', W' = wc := ⟨_, rfl⟩
    subst hWn
    replace P_t := rblk_below P_t hb
    replace P_o := rblk_below P_o hb
    replace kb := bt kb hb
    clear hb SB
    have hlt1 := rblk_lt P_o
    have hle1 := kb.size
    clear hlt0 hle0
    go_wp2_with fail
    have SB : Hid (∀ w', Keep6 W2 w' rr → (w'.cell? ⟨g_j, 0, none⟩ = some (.bool jx.p) ∧ w'.cell? ⟨g_j, 1, none⟩ = some (.slice ja.A jx.l.length ja.c) ∧ w'.cell? ⟨g_j, 2, none⟩ = some (.slice ja.D jx.m.length ja.d) ∧ w'.cell? ⟨g_j, 3, none⟩ = some (.bool jy.p) ∧ w'.cell? ⟨g_j, 4, none⟩ = some (.slice jb.A jy.l.length jb.c) ∧ w'.cell? ⟨g_j, 5, none⟩ = some (.slice jb.D jy.m.length jb.d) ∧ w'.cell? ⟨g_k, 0, none⟩ = some (.bool kx.p) ∧ w'.cell? ⟨g_k, 1, none⟩ = some (.slice ka.A kx.l.length ka.c) ∧ w'.cell? ⟨g_k, 2, none⟩ = some (.slice ka.D kx.m.length ka.d) ∧ w'.cell? ⟨g_k, 3, none⟩ = some (.bool ky.p) ∧ w'.cell? ⟨g_k, 4, none⟩ = some (.slice kb'.A ky.l.length kb'.c) ∧ w'.cell? ⟨g_k, 5, none⟩ = some (.slice kb'.D ky.m.length kb'.d) ∧ Keep6 W2 w' rr)) := Lib.hid (fun w' hK => ⟨rblk_cell (hK.block P_j nr_j) 0, rblk_cell (hK.block P_j nr_j) 1, rblk_cell (hK.block P_j nr_j) 2, rblk_cell (hK.block P_j nr_j) 3, rblk_cell (hK.block P_j nr_j) 4, rblk_cell (hK.block P_j nr_j) 5, rblk_cell (hK.block P_k nr_k) 0, rblk_cell (hK.block P_k nr_k) 1, rblk_cell (hK.block P_k nr_k) 2, rblk_cell (hK.block P_k nr_k) 3, rblk_cell (hK.block P_k nr_k) 4, rblk_cell (hK.block P_k nr_k) 5, hK⟩)
    have KW := Lib.hid kb
    have KST := Keep6.start P_o
    clear kb
    go_region_held3 (fun w' => w'.cell? ⟨g_j, 0, none⟩ = some (.bool jx.p) ∧ w'.cell? ⟨g_j, 1, none⟩ = some (.slice ja.A jx.l.length ja.c) ∧ w'.cell? ⟨g_j, 2, none⟩ = some (.slice ja.D jx.m.length ja.d) ∧ w'.cell? ⟨g_j, 3, none⟩ = some (.bool jy.p) ∧ w'.cell? ⟨g_j, 4, none⟩ = some (.slice jb.A jy.l.length jb.c) ∧ w'.cell? ⟨g_j, 5, none⟩ = some (.slice jb.D jy.m.length jb.d) ∧ w'.cell? ⟨g_k, 0, none⟩ = some (.bool kx.p) ∧ w'.cell? ⟨g_k, 1, none⟩ = some (.slice ka.A kx.l.length ka.c) ∧ w'.cell? ⟨g_k, 2, none⟩ = some (.slice ka.D kx.m.length ka.d) ∧ w'.cell? ⟨g_k, 3, none⟩ = some (.bool ky.p) ∧ w'.cell? ⟨g_k, 4, none⟩ = some (.slice kb'.A ky.l.length kb'.c) ∧ w'.cell? ⟨g_k, 5, none⟩ = some (.slice kb'.D ky.m.length kb'.d) ∧ Keep6 W2 w' rr)
      (first | (with_reducible exact SB.out _ KST.drew) | (with_reducible exact SB.out _ KST) | (go_split_ands; with_reducible refine SB.out _ ?_; with_reducible refine Keep6.put6 ?_ _ _ _ _ _ _; with_reducible assumption) | (with_reducible exact SB.out _ (KST.below (ba1 _ _))) | (with_reducible exact SB.out _ (KST.drew.below (ba1 _ _))) | (go_split_ands; with_reducible exact SB.out _ (Keep6.below (by assumption : Keep6 W2 _ rr) hb)) | (go_split_ands; with_reducible exact SB.out _ (Keep6.below (by assumption : Keep6 W2 _ rr) (ba1 _ _))))
      (first | (go_at_call 179; go_split_ands; ((with_reducible refine (HX.out _ (RR.out _ (Keep6.base (by assumption : Keep6 W2 _ rr) KW.out hrr3)).2.1 (RR.out _ (Keep6.base (by assumption : Keep6 W2 _ rr) KW.out hrr3)).2.2.2).mono ?_); rintro e Wn1_0 ⟨a1', rfl, hc1, hc2, o1, hap1, hb⟩; have hz1 := hb.size)) | (go_at_call 179; go_split_ands; ((with_reducible refine (HY.out _ (RR.out _ (Keep6.base (by assumption : Keep6 W2 _ rr) KW.out hrr3)).2.2.1 (RR.out _ (Keep6.base (by assumption : Keep6 W2 _ rr) KW.out hrr3)).1).mono ?_); rintro e Wn1_1 ⟨b1, rfl, hc3, hc4, o2, hap2, hb⟩; have hz2 := hb.size; (first | (with_reducible replace o1 := o1.below hb) | (with_reducible replace o1 := (Owns.drew o1).below hb) | (with_reducible replace o1 := (o1.below (ba1 _ _)).below hb) | (with_reducible replace o1 := (Owns.drew (o1.below (ba1 _ _))).below hb)))) | (go_at_call 139; go_split_ands; ((with_reducible refine (HP.out _ _ _ _ _ (Nat.le_refl _) ⟨hc1, hc2, hc3, hc4⟩ (Owns.app (o1.wide (Nat.le_refl _) hz2) (o2.wide hz1 (Nat.le_refl _))) (Aparts.app hap1 hap2 o1 o2)).mono ?_); rintro e Wn1_2 ⟨a3, b3, rfl, hcs, o3, hap3, hb⟩; have KL := Keep6.below (by assumption : Keep6 W2 _ rr) hb; obtain ⟨u0, u1, u2, u3, u4, u5, t0, t1, t2, t3, t4, t5, t6, t7, t8, t9, t10, t11⟩ := KL.cells)))
    all_goals
      have hfin := (‹_ ∧ _ ∧ _ ∧ _ ∧ _ ∧ _ ∧ _ ∧ _ ∧ _ ∧ _ ∧ _ ∧ _ ∧ Keep6 W2 _ rr›).2.2.2.2.2.2.2.2.2.2.2.2
      go_wp2
      exact bodyPost_ret (v := .agg (r6 U V a3 b3)) (by simp [results, Tryz.results134, go_sem, t0, t1, t2, t3, t4, t5]) rfl ⟨a3, b3, rfl, hcs, owns_end6 o3 (.inl hlt1) hle1 (Nat.le_refl _) _ _ _ _ _ _, hap3, hfin.base KW.out hrr3⟩
theorem normal_0 (p q r : PV) (w : World) (h : TriOk w p q r) :
    Calls Tryz.prog 134 #[.agg (p18 p q r), .int .i64 0] w (MadeP w.heap.size (ofO (nX q r)) (ofO (nY q r)) w) :=
  normal_any p q r q r 0 1 2 w (by decide) (by decide) h.1.2.1 h.1.2.2 (Lib.hid (fun W => corner_1 p q r W)) (Lib.hid (fun W => corner_2 p q r W)) h.2.2.1 h.2.2.2
theorem normal_1 (p q r : PV) (w : World) (h : TriOk w p q r) :
    Calls Tryz.prog 134 #[.agg (p18 p q r), .int .i64 1] w (MadeP w.heap.size (ofO (nX r p)) (ofO (nY r p)) w) :=
  normal_any p q r r p 1 2 3 w (by decide) (by decide) h.1.2.2 h.1.1 (Lib.hid (fun W => corner_2 p q r W)) (Lib.hid (fun W => corner_3 p q r W)) h.2.2.2 h.2.1
theorem normal_2 (p q r : PV) (w : World) (h : TriOk w p q r) :
    Calls Tryz.prog 134 #[.agg (p18 p q r), .int .i64 2] w (MadeP w.heap.size (ofO (nX p q)) (ofO (nY p q)) w) :=
  normal_any p q r p q 2 3 4 w (by decide) (by decide) h.1.1 h.1.2.1 (Lib.hid (fun W => corner_3 p q r W)) (Lib.hid (fun W => corner_4 p q r W)) h.2.1 h.2.2.1
end Go.Proofs.YtppdholccpgcpaaGreat
