/-
  The program's Barycentric where its coordinates are fractions.
-/
import Derived.Test.YtppdholccpgcpaaGreatCoM
import Derived.Test.YtppdholccpgcpaaGreatConQ
import Derived.Test.YtppdholccpgcpaaGreatTriS
import Derived.Test.YtppdholccpgcpaaGreatLawP
namespace Go.Proofs.YtppdholccpgcpaaGreat
open Go.ChangeShapes Go.WideShapes Go.ChangeAt Go.RowKit
set_option linter.unusedVariables false
set_option linter.unusedSimpArgs false
set_option maxRecDepth 4000
def MadeL3 (X0 X1 X2 : R3) (w : World) (e : Ending) (w' : World) : Prop := ∃ (G : Nat) (a0 a1 a2 : Ad), e = .returned (.slice (some ⟨G, 0, none⟩) 3 3) ∧ w'.heap[G]? = some (.cells #[.bool X0.p, .slice a0.A X0.l.length a0.c, .slice a0.D X0.m.length a0.d, .bool X1.p, .slice a1.A X1.l.length a1.c, .slice a1.D X1.m.length a1.d, .bool X2.p, .slice a2.A X2.l.length a2.c, .slice a2.D X2.m.length a2.d] 79 (0, 0)) ∧ (Rds w' (rows X0 a0) ∧ Rds w' (rows X1 a1) ∧ Rds w' (rows X2 a2)) ∧ Below w.heap.size w w'
theorem m_pos (b : Rat) : 0 < (ofO (some b)).m.length := by
  have h : nd b.den ≠ [] := nd_pos b.den_nz
  show 0 < (nd b.den).length
  exact List.length_pos_iff.2 h
def CutB5 (W1 : World) (D : List R3) (v5 : Value) (wx : World) : Prop :=
  ∃ (gg : Nat) (M : List RV), v5 = .pointer (some ⟨gg, 0, none⟩) ∧ wx.heap[gg]? = some (.cells (flatQ M).toArray 79 (0, 0)) ∧ M.length = 3 ∧ datQ M = D ∧ Rds wx (lrowQ M) ∧ Below W1.heap.size W1 wx
theorem flat_len9 {M : List RV} (h : M.length = 3) : (flatQ M).toArray.size = 9 := by rw [List.size_toArray, flatQ_length, h]
attribute [local go_sem ↓] Go.wp_at_zero Go.wp_at_succ
set_option maxHeartbeats 4000000 in
theorem bary_y (L : List PV) (u : PV) (A : Option Addr) (c : Nat) (w : World) (b0 b1 b2 : Rat) (hn : L.length ≤ 9223372036854775807) (hL : ∀ p, p ∈ L → LenP p) (lu : LenP u) (nu : NiceP u) (hu : okP u = true)
    (e0 : cO (tri1 L) (tri2 L) (tri3 L) u 0 = some b0) (e1 : cO (tri1 L) (tri2 L) (tri3 L) u 1 = some b1) (e2 : cO (tri1 L) (tri2 L) (tri3 L) u 2 = some b2) (hA : RdS w A (flat L)) (hR : Rds w (lrow L)) (hU : Rds w (prow u)) :
    Calls Tryz.prog 13 #[.slice A L.length c, .agg (p6 u)] w (MadeL3 (ofO (some b0)) (ofO (some b1)) (ofO (some b2)) w) := by
  have HT := Lib.hid (fun W (hB : Below w.heap.size w W) => show Calls Tryz.prog 63 #[.slice A L.length c] W (fun e w' => e = .returned (.agg (p18 (tri1 L) (tri2 L) (tri3 L))) ∧ Below W.heap.size W w') from tri_any L A c W hn hL (hA.below hB) (hR.below hB))
  have RU : Hid (∀ W, Below w.heap.size w W → Rds W (prow u)) := Lib.hid (fun W hB => hU.below hB)
  have HV := Lib.hid (fun W h => show Calls Tryz.prog 62 #[.agg (p6 u)] W (fun e w' => e = .returned (.bool true) ∧ Below W.heap.size W w') from by
    have K := impl_valid u.x u.y u.a u.b W lu.1.1 lu.1.2 lu.2.1 lu.2.2 h
    rw [show (okx u.x && okx u.y) = true from hu] at K; exact K)
  have HCo := Lib.hid (fun W (hB : Below w.heap.size w W) => coordinates_m (tri1 L) (tri2 L) (tri3 L) u W (tri_ok (hR.below hB)) nu (RU.out W hB))
  have hfit := cO_fit (tri1 L) (tri2 L) (tri3 L) u
  have HD : Hid (cD (tri1 L) (tri2 L) (tri3 L) u = [ofO (some b0), ofO (some b1), ofO (some b2)]) := Lib.hid (by unfold cD; rw [e0, e1, e2])
  have HB : Hid (∀ x, x ∈ [ofO (some b0), ofO (some b1), ofO (some b2)] → (x.l.length ≤ 9223372036854775807 ∧ x.m.length ≤ 9223372036854775807) ∧ 0 < x.m.length) := Lib.hid (fun x hx => by
    have f0 := hfit 0; have f1 := hfit 1; have f2 := hfit 2
    rw [e0] at f0; rw [e1] at f1; rw [e2] at f2
    simp only [List.mem_cons, List.not_mem_nil, or_false] at hx
    rcases hx with rfl | rfl | rfl
    · have := f0.len; exact ⟨⟨by omega, by omega⟩, m_pos b0⟩
    · have := f1.len; exact ⟨⟨by omega, by omega⟩, m_pos b1⟩
    · have := f2.len; exact ⟨⟨by omega, by omega⟩, m_pos b2⟩)
  rw [HD.out] at HCo
  unfold MadeQ3 at HCo
  generalize tri1 L = p at HT HCo
  generalize tri2 L = q at HT HCo
  generalize tri3 L = r at HT HCo
  generalize ofO (some b0) = X0 at HCo HB ⊢
  generalize ofO (some b1) = X1 at HCo HB ⊢
  generalize ofO (some b2) = X2 at HCo HB ⊢
  generalize L.length = n at HT ⊢
  clear hA hR hL hn e0 e1 e2 hfit HD lu nu hu hU
  have P_u := heap_alloc_new w (.cells (p6 u) 31)
  have kb := ba1 w (.cells (p6 u) 31)
  have s0 := rblk_cell P_u 0
  have s1 := rblk_cell P_u 1
  have s2 := rblk_cell P_u 2
  have s3 := rblk_cell P_u 3
  have s4 := rblk_cell P_u 4
  have s5 := rblk_cell P_u 5
  go_enter Tryz.func13, Tryz.ntmps13
  go_wp2_with fail
  clear s0 s1 s2 s3 s4 s5
  generalize w.alloc (.cells (p6 u) 31) = W1 at P_u kb ⊢
  refine (HV.out _ (RU.out _ kb)).mono ?_
  rintro e W2 ⟨rfl, hb⟩
  replace P_u := rblk_below P_u hb
  replace kb := bt kb hb
  clear hb
  have HPU := Lib.hid (fun W' (hB : Below W2.heap.size W2 W') => rblk_below P_u hB)
  have HKB := Lib.hid (fun W' (hB : Below W2.heap.size W2 W') => bt kb hB)
  go_wp2_with fail
  go_cut [5] (fun s5 wx => CutB5 W2 [X0, X1, X2] s5 wx)
  case first =>
    clear P_u kb HB
    refine wp_region_held_drew (S := fun w' => Below W2.heap.size W2 w') (by kernel_rfl) ((Below.refl _ _).drew) (fun hHeld => ?_)
    refine tk (i := 0) (v := ?vz0) rfl (by kernel_rfl) (fun _ _ _ h => h) (Or.inl ⟨by rfl, ?hz0⟩) hHeld ?_
    case hz0 => (intro w hSw; go_simp; (try with_reducible rfl))
    try simp only [ps]
    refine tk (i := 2) (v := ?vz2) rfl (by kernel_rfl) (fun _ _ _ h => h) (Or.inl ⟨by rfl, ?hz2⟩) hHeld ?_
    case hz2 => (intro w hSw; have t0 := rblk_cell (HPU.out _ hSw) 0; have t1 := rblk_cell (HPU.out _ hSw) 1; have t2 := rblk_cell (HPU.out _ hSw) 2; have t3 := rblk_cell (HPU.out _ hSw) 3; have t4 := rblk_cell (HPU.out _ hSw) 4; have t5 := rblk_cell (HPU.out _ hSw) 5; clear hSw; go_simp; (try with_reducible rfl))
    try simp only [ps]
    have hz0 : W2.heap.size ≤ W2.drew.heap.size := Nat.le_refl _
    generalize W2.drew = Wd at *
    refine wpAnyH_ready (rs := [1, 4]) (by kernel_rfl) (by simp) ?_
    refine rc1 rfl (fun K hK => ?_) (rc1 rfl (fun K hK => ?_) AllReadyH.nil)
    · skip
      go_simp
      (go_at_call 63; ((with_reducible refine (HT.out _ (HKB.out _ hHeld)).mono ?_); rintro e Wg1 ⟨rfl, hb⟩))
      have hzWg1 : Wd.heap.size ≤ Wg1.heap.size := hb.size
      refine hK.out _ _ (bt hHeld hb) (fun hH => ?_)
      clear hK K hHeld hb
      have hHeld := hH
      clear hH
      try simp only [ps]
      refine wpAnyH_ready (rs := [3, 4]) (by kernel_rfl) (by simp) ?_
      refine rc1 rfl (fun K hK => ?_) (rc1 rfl (fun K hK => ?_) AllReadyH.nil)
      · skip
        go_simp
        (go_at_call 64; ((with_reducible refine (HCo.out _ (HKB.out _ hHeld)).mono ?_); rintro e Wg2 ⟨M, rfl, h3, hd, -, oM, -, hb⟩))
        have hzWg2 : Wg1.heap.size ≤ Wg2.heap.size := hb.size
        refine hK.out _ _ (bt hHeld hb) (fun hH => ?_)
        clear hK K hHeld hb
        have hHeld := hH
        clear hH
        try simp only [ps]
        refine rd1 (i := 4) (by kernel_rfl) rfl (fun K hK => ?_)
        go_simp
        have P_g := heap_alloc_new Wg2 (.cells #[.bool false, .slice none 0 0, .slice none 0 0, .bool false, .slice none 0 0, .slice none 0 0, .bool false, .slice none 0 0, .slice none 0 0] 79)
        have hb := ba1 Wg2 (.cells #[.bool false, .slice none 0 0, .slice none 0 0, .bool false, .slice none 0 0, .slice none 0 0, .bool false, .slice none 0 0, .slice none 0 0] 79)
        have hzWg3 : Wg2.heap.size < (Wg2.alloc (.cells #[.bool false, .slice none 0 0, .slice none 0 0, .bool false, .slice none 0 0, .slice none 0 0, .bool false, .slice none 0 0, .slice none 0 0] 79)).heap.size := by rw [sz1]; omega
        replace oM := oM.below hb
        refine hK.out _ _ (bt hHeld hb) (fun hH => ?_)
        clear hK K hHeld hb
        have hHeld := hH
        clear hH
        try simp only [ps]
        generalize Wg2.alloc (.cells #[.bool false, .slice none 0 0, .slice none 0 0, .bool false, .slice none 0 0, .slice none 0 0, .bool false, .slice none 0 0, .slice none 0 0] 79) = Wg3 at hzWg3 hHeld P_g oM ⊢
        have h9 := flat_len9 h3
        have h1c := flatQ_one1 M
        generalize hC : (flatQ M).toArray = C at h9 h1c ⊢
        have hz9 : (Tryz.prog.info? 79).map (·.size) = some C.size := by rw [h9]; exact r3_size
        refine rd1 (i := 5) (by kernel_rfl) rfl (fun K hK => ?_)
        rw [if_pos (by rfl)]
        refine wp_store_at 79 (.tmp 5) (.tmp 13) rfl (Wg2.heap.size) 0 C rfl rfl 79 _ P_g hz9 (by rw [h9]; exact Nat.le_refl _) h1c ?_
        have ecs : ((#[.bool false, .slice none 0 0, .slice none 0 0, .bool false, .slice none 0 0, .slice none 0 0, .bool false, .slice none 0 0, .slice none 0 0] : Array Value).toList.take 0 ++ (C.toList ++ (#[.bool false, .slice none 0 0, .slice none 0 0, .bool false, .slice none 0 0, .slice none 0 0, .bool false, .slice none 0 0, .slice none 0 0] : Array Value).toList.drop (0 + C.size))).toArray = C := by rw [h9]; simp
        rw [ecs]
        clear ecs
        have hgW : W2.heap.size ≤ Wg2.heap.size := by omega
        refine hK.out _ _ (below_setRow hHeld hgW _) (fun hH => ?_)
        clear hK K hHeld
        have hHeld := hH
        clear hH
        replace P_g := rowV_set P_g C
        replace oM := oM.setRow (g := Wg2.heap.size) (by omega) C
        try simp only [ps]
        refine wpAnyH_done (by kernel_rfl) ?_ _
        go_wp2_with fail
        go_meet
        exact ⟨_, M, rfl, by rw [hC]; exact P_g, h3, hd, oM.rds, hHeld⟩
      · skip
        go_simp
        have P_g := heap_alloc_new Wg1 (.cells #[.bool false, .slice none 0 0, .slice none 0 0, .bool false, .slice none 0 0, .slice none 0 0, .bool false, .slice none 0 0, .slice none 0 0] 79)
        have hb := ba1 Wg1 (.cells #[.bool false, .slice none 0 0, .slice none 0 0, .bool false, .slice none 0 0, .slice none 0 0, .bool false, .slice none 0 0, .slice none 0 0] 79)
        have hzWg4 : Wg1.heap.size < (Wg1.alloc (.cells #[.bool false, .slice none 0 0, .slice none 0 0, .bool false, .slice none 0 0, .slice none 0 0, .bool false, .slice none 0 0, .slice none 0 0] 79)).heap.size := by rw [sz1]; omega
        refine hK.out _ _ (bt hHeld hb) (fun hH => ?_)
        clear hK K hHeld hb
        have hHeld := hH
        clear hH
        try simp only [ps]
        generalize Wg1.alloc (.cells #[.bool false, .slice none 0 0, .slice none 0 0, .bool false, .slice none 0 0, .slice none 0 0, .bool false, .slice none 0 0, .slice none 0 0] 79) = Wg4 at hzWg4 hHeld P_g ⊢
        refine rd1 (i := 3) (by kernel_rfl) rfl (fun K hK => ?_)
        go_simp
        (go_at_call 64; ((with_reducible refine (HCo.out _ (HKB.out _ hHeld)).mono ?_); rintro e Wg5 ⟨M, rfl, h3, hd, -, oM, -, hb⟩))
        have hzWg5 : Wg4.heap.size ≤ Wg5.heap.size := hb.size
        replace P_g := rblk_below P_g hb
        refine hK.out _ _ (bt hHeld hb) (fun hH => ?_)
        clear hK K hHeld hb
        have hHeld := hH
        clear hH
        try simp only [ps]
        have h9 := flat_len9 h3
        have h1c := flatQ_one1 M
        generalize hC : (flatQ M).toArray = C at h9 h1c ⊢
        have hz9 : (Tryz.prog.info? 79).map (·.size) = some C.size := by rw [h9]; exact r3_size
        refine rd1 (i := 5) (by kernel_rfl) rfl (fun K hK => ?_)
        rw [if_pos (by rfl)]
        refine wp_store_at 79 (.tmp 5) (.tmp 13) rfl (Wg1.heap.size) 0 C rfl rfl 79 _ P_g hz9 (by rw [h9]; exact Nat.le_refl _) h1c ?_
        have ecs : ((#[.bool false, .slice none 0 0, .slice none 0 0, .bool false, .slice none 0 0, .slice none 0 0, .bool false, .slice none 0 0, .slice none 0 0] : Array Value).toList.take 0 ++ (C.toList ++ (#[.bool false, .slice none 0 0, .slice none 0 0, .bool false, .slice none 0 0, .slice none 0 0, .bool false, .slice none 0 0, .slice none 0 0] : Array Value).toList.drop (0 + C.size))).toArray = C := by rw [h9]; simp
        rw [ecs]
        clear ecs
        have hgW : W2.heap.size ≤ Wg1.heap.size := by omega
        refine hK.out _ _ (below_setRow hHeld hgW _) (fun hH => ?_)
        clear hK K hHeld
        have hHeld := hH
        clear hH
        replace P_g := rowV_set P_g C
        replace oM := oM.setRow (g := Wg1.heap.size) (by omega) C
        try simp only [ps]
        refine wpAnyH_done (by kernel_rfl) ?_ _
        go_wp2_with fail
        go_meet
        exact ⟨_, M, rfl, by rw [hC]; exact P_g, h3, hd, oM.rds, hHeld⟩
    · skip
      go_simp
      have P_g := heap_alloc_new Wd (.cells #[.bool false, .slice none 0 0, .slice none 0 0, .bool false, .slice none 0 0, .slice none 0 0, .bool false, .slice none 0 0, .slice none 0 0] 79)
      have hb := ba1 Wd (.cells #[.bool false, .slice none 0 0, .slice none 0 0, .bool false, .slice none 0 0, .slice none 0 0, .bool false, .slice none 0 0, .slice none 0 0] 79)
      have hzWg6 : Wd.heap.size < (Wd.alloc (.cells #[.bool false, .slice none 0 0, .slice none 0 0, .bool false, .slice none 0 0, .slice none 0 0, .bool false, .slice none 0 0, .slice none 0 0] 79)).heap.size := by rw [sz1]; omega
      refine hK.out _ _ (bt hHeld hb) (fun hH => ?_)
      clear hK K hHeld hb
      have hHeld := hH
      clear hH
      try simp only [ps]
      generalize Wd.alloc (.cells #[.bool false, .slice none 0 0, .slice none 0 0, .bool false, .slice none 0 0, .slice none 0 0, .bool false, .slice none 0 0, .slice none 0 0] 79) = Wg6 at hzWg6 hHeld P_g ⊢
      refine rd1 (i := 1) (by kernel_rfl) rfl (fun K hK => ?_)
      go_simp
      (go_at_call 63; ((with_reducible refine (HT.out _ (HKB.out _ hHeld)).mono ?_); rintro e Wg7 ⟨rfl, hb⟩))
      have hzWg7 : Wg6.heap.size ≤ Wg7.heap.size := hb.size
      replace P_g := rblk_below P_g hb
      refine hK.out _ _ (bt hHeld hb) (fun hH => ?_)
      clear hK K hHeld hb
      have hHeld := hH
      clear hH
      try simp only [ps]
      refine rd1 (i := 3) (by kernel_rfl) rfl (fun K hK => ?_)
      go_simp
      (go_at_call 64; ((with_reducible refine (HCo.out _ (HKB.out _ hHeld)).mono ?_); rintro e Wg8 ⟨M, rfl, h3, hd, -, oM, -, hb⟩))
      have hzWg8 : Wg7.heap.size ≤ Wg8.heap.size := hb.size
      replace P_g := rblk_below P_g hb
      refine hK.out _ _ (bt hHeld hb) (fun hH => ?_)
      clear hK K hHeld hb
      have hHeld := hH
      clear hH
      try simp only [ps]
      have h9 := flat_len9 h3
      have h1c := flatQ_one1 M
      generalize hC : (flatQ M).toArray = C at h9 h1c ⊢
      have hz9 : (Tryz.prog.info? 79).map (·.size) = some C.size := by rw [h9]; exact r3_size
      refine rd1 (i := 5) (by kernel_rfl) rfl (fun K hK => ?_)
      rw [if_pos (by rfl)]
      refine wp_store_at 79 (.tmp 5) (.tmp 13) rfl (Wd.heap.size) 0 C rfl rfl 79 _ P_g hz9 (by rw [h9]; exact Nat.le_refl _) h1c ?_
      have ecs : ((#[.bool false, .slice none 0 0, .slice none 0 0, .bool false, .slice none 0 0, .slice none 0 0, .bool false, .slice none 0 0, .slice none 0 0] : Array Value).toList.take 0 ++ (C.toList ++ (#[.bool false, .slice none 0 0, .slice none 0 0, .bool false, .slice none 0 0, .slice none 0 0, .bool false, .slice none 0 0, .slice none 0 0] : Array Value).toList.drop (0 + C.size))).toArray = C := by rw [h9]; simp
      rw [ecs]
      clear ecs
      have hgW : W2.heap.size ≤ Wd.heap.size := by omega
      refine hK.out _ _ (below_setRow hHeld hgW _) (fun hH => ?_)
      clear hK K hHeld
      have hHeld := hH
      clear hH
      replace P_g := rowV_set P_g C
      replace oM := oM.setRow (g := Wd.heap.size) (by omega) C
      try simp only [ps]
      refine wpAnyH_done (by kernel_rfl) ?_ _
      go_wp2_with fail
      go_meet
      exact ⟨_, M, rfl, by rw [hC]; exact P_g, h3, hd, oM.rds, hHeld⟩
  case rest =>
    obtain ⟨gg, M, rfl, P_g, h3, hd, hrd, hb⟩ := hcut
    replace kb := bt kb hb
    clear hb P_u HPU HKB HT HCo HV RU
    obtain ⟨m0, m1, m2, rfl⟩ := three_rv h3
    have hx : m0.x = X0 ∧ m1.x = X1 ∧ m2.x = X2 := by
      simp only [datQ, List.map_cons, List.map_nil, List.cons.injEq, and_true] at hd
      exact hd
    obtain ⟨rfl, rfl, rfl⟩ := hx
    have hfull : fullQ [m0, m1, m2] = true := by
      have z0 := (HB.out m0.x (by simp)).2
      have z1 := (HB.out m1.x (by simp)).2
      have z2 := (HB.out m2.x (by simp)).2
      simp [fullQ, z0, z1, z2]
    have hrow : OwnS gg wc (some ⟨gg, 0, none⟩) (flatQ [m0, m1, m2]) := by
      have h := OwnS.of_row P_g (Nat.le_refl gg)
      simpa using h
    have HC := Lib.hid (contains_Q [m0, m1, m2] (some ⟨gg, 0, none⟩) 3 wc (by simp) (fun x hx => by
      simp only [List.mem_cons, List.not_mem_nil, or_false] at hx
      rcases hx with rfl | rfl | rfl <;> exact (HB.out _ (by simp)).1) hrow.rd)
    rw [hfull, show [m0, m1, m2].length = 3 from rfl] at HC
    have HRz : Hid (Rds wc (rows m0.x m0.a) ∧ Rds wc (rows m1.x m1.a) ∧ Rds wc (rows m2.x m2.a)) := Lib.hid ⟨hrd.atQ (L := [m0, m1, m2]) (i := 0) rfl, hrd.atQ (L := [m0, m1, m2]) (i := 1) rfl, hrd.atQ (L := [m0, m1, m2]) (i := 2) rfl⟩
    have P_g : wc.heap[gg]? = some (.cells #[.bool m0.x.p, .slice m0.a.A m0.x.l.length m0.a.c, .slice m0.a.D m0.x.m.length m0.a.d, .bool m1.x.p, .slice m1.a.A m1.x.l.length m1.a.c, .slice m1.a.D m1.x.m.length m1.a.d, .bool m2.x.p, .slice m2.a.A m2.x.l.length m2.a.c, .slice m2.a.D m2.x.m.length m2.a.d] 79 (0, 0)) := P_g
    clear hfull hrow hrd hd h3 HB
    go_wp2_with fail
    refine HC.out.mono ?_
    rintro e W5 ⟨rfl, hb⟩
    have hR : Hid (MadeL3 m0.x m1.x m2.x w (.returned (.slice (some ⟨gg, 0, none⟩) 3 3)) W5) := Lib.hid ⟨gg, m0.a, m1.a, m2.a, rfl, rblk_below P_g hb, ⟨HRz.out.1.below hb, HRz.out.2.1.below hb, HRz.out.2.2.below hb⟩, bt kb hb⟩
    clear hb P_g kb
    go_wp2
    go_ret
    exact hR.out
theorem impl_bary (p q r u : PV) (A : Option Addr) (c : Nat) (w : World) (b0 b1 b2 : Rat) (hpr : properB [p, q, r] = true) (lp : LenP p) (lq : LenP q) (lr : LenP r) (lu : LenP u) (nu : NiceP u) (hu : okP u = true)
    (e0 : binQ quoQ (aV u q r) (aV p q r) = some b0) (e1 : binQ quoQ (aV p u r) (aV p q r) = some b1) (e2 : binQ quoQ (aV p q u) (aV p q r) = some b2)
    (hA : RdS w A (flat [p, q, r])) (hR : Rds w (lrow [p, q, r])) (hU : Rds w (prow u)) :
    Calls Tryz.prog 13 #[.slice A 3 c, .agg (p6 u)] w (MadeL3 (ofO (some b0)) (ofO (some b1)) (ofO (some b2)) w) := by
  obtain ⟨t1, t2, t3⟩ := tri_yes hpr
  exact bary_y [p, q, r] u A c w b0 b1 b2 (by simp) (fun x hx => by
    simp only [List.mem_cons, List.not_mem_nil, or_false] at hx
    rcases hx with rfl | rfl | rfl <;> assumption) lu nu hu (by rw [t1, t2, t3]; exact e0) (by rw [t1, t2, t3]; exact e1) (by rw [t1, t2, t3]; exact e2) hA hR hU
end Go.Proofs.YtppdholccpgcpaaGreat
