/-
  The program's Barycentric for a proper triangle and a valid point.
-/
import Derived.Test.YtenjjojbjpmhbaaGreatWg
import Derived.Test.YtenjjojbjpmhbaaGreatWp
import Derived.Test.YtenjjojbjpmhbaaGreatBaryR
import Derived.Test.YtenjjojbjpmhbaaGreatTriS
import Derived.Test.YtenjjojbjpmhbaaGreatLawP
namespace Go.Proofs.YtenjjojbjpmhbaaGreat
open Go.ChangeShapes Go.WideShapes Go.ChangeAt Go.RowKit
set_option linter.unusedVariables false
set_option linter.unusedSimpArgs false
set_option maxRecDepth 4000
attribute [local go_sem ↓] Go.wp_at_zero Go.wp_at_succ
theorem blk_of_made3 {w : World} {base g n : Nat} {T : TypeId} {xs : List Value} (h : w.ownsRow base T 3 (.slice (some ⟨g, 0, none⟩) n n) n xs) : w.heap[g]? = some (.cells xs.toArray T (0, 0)) := by
  obtain ⟨hl, hr⟩ := h
  rcases hr with ⟨hv, _⟩ | ⟨g', cap, cur, hv, hbg, hh, hnc, hm, hsz, htake⟩
  · cases hv
  · injection hv with e1 e2 e3
    injection e1 with e1
    injection e1 with e1
    subst e1; subst e3
    have : cur = xs.toArray := by
      rw [← htake, List.take_of_length_le (by rw [Array.length_toList]; omega)]
    rw [hh, this]
theorem made9 : (madeCells (Value.agg z3).cells (3 * 3)).toList = [.bool false, .slice none 0 0, .slice none 0 0, .bool false, .slice none 0 0, .slice none 0 0, .bool false, .slice none 0 0, .slice none 0 0] := by
  apply List.ext_getElem?
  intro j
  by_cases hj : j < 9
  · have h4 : (madeCells (Value.agg z3).cells (3 * 3)).toList[j]? = some ((#[Value.bool false, .slice none 0 0, .slice none 0 0] : Array Value)[j % 3]!) := by
      unfold madeCells
      simp [hj, Value.cells]
    rw [h4]
    have : j = 0 ∨ j = 1 ∨ j = 2 ∨ j = 3 ∨ j = 4 ∨ j = 5 ∨ j = 6 ∨ j = 7 ∨ j = 8 := by omega
    rcases this with rfl | rfl | rfl | rfl | rfl | rfl | rfl | rfl | rfl <;> rfl
  · rw [List.getElem?_eq_none (by rw [Array.length_toList, size_madeCells]; omega), List.getElem?_eq_none (by simp; omega)]
theorem quo_fit' (r s t : Rat) (h : quoQ r s = some t) : Fit t := by
  unfold quoQ at h
  by_cases h0 : s.num = 0
  · rw [if_pos h0] at h; cases h
  · rw [if_neg h0] at h; exact cutQ_fit h
theorem rat_info : (Tryz.prog.info? 29).map (fun i => (i.zero, i.size, i.bytes)) = some (some (.agg z3), 3, 56) := by kernel_rfl
theorem m_pos (b : Rat) : 0 < (ofO (some b)).m.length := by
  have h : nd b.den ≠ [] := nd_pos b.den_nz
  show 0 < (nd b.den).length
  exact List.length_pos_iff.2 h
/-- A list of three fractions. -/
def MadeL3 (X0 X1 X2 : R3) (w : World) (e : Ending) (w' : World) : Prop := ∃ (G : Nat) (a0 a1 a2 : Ad), e = .returned (.slice (some ⟨G, 0, none⟩) 3 3) ∧ w'.heap[G]? = some (.cells #[.bool X0.p, .slice a0.A X0.l.length a0.c, .slice a0.D X0.m.length a0.d, .bool X1.p, .slice a1.A X1.l.length a1.c, .slice a1.D X1.m.length a1.d, .bool X2.p, .slice a2.A X2.l.length a2.c, .slice a2.D X2.m.length a2.d] 29 (0, 0)) ∧ (Rds w' (rows X0 a0) ∧ Rds w' (rows X1 a1) ∧ Rds w' (rows X2 a2)) ∧ Below w.heap.size w w'
set_option maxHeartbeats 4000000 in
theorem impl_bary (p q r u : PV) (A : Option Addr) (c : Nat) (w : World) (b0 b1 b2 : Rat) (hpr : properB [p, q, r] = true) (lp : LenP p) (lq : LenP q) (lr : LenP r) (lu : LenP u) (nu : NiceP u) (hu : okP u = true)
    (e0 : binQ quoQ (aV u q r) (aV p q r) = some b0) (e1 : binQ quoQ (aV p u r) (aV p q r) = some b1) (e2 : binQ quoQ (aV p q u) (aV p q r) = some b2)
    (hA : RdS w A (flat [p, q, r])) (hR : Rds w (lrow [p, q, r])) (hU : Rds w (prow u)) :
    Calls Tryz.prog 14 #[.slice A 3 c, .agg (p6 u)] w (MadeL3 (ofO (some b0)) (ofO (some b1)) (ofO (some b2)) w) := by
  obtain ⟨t1, t2, t3⟩ := tri_yes hpr
  have HT := Lib.hid (fun W h h' => show Calls Tryz.prog 66 #[.slice A 3 c] W (fun e w' => e = .returned (.agg (p18 p q r)) ∧ Below W.heap.size W w') from by
    have K := tri_any [p, q, r] A c W (by simp) (fun x hx => by
      simp only [List.mem_cons, List.not_mem_nil, or_false] at hx
      rcases hx with rfl | rfl | rfl <;> assumption) h h'
    rw [t1, t2, t3] at K; exact K)
  have RR : Hid (∀ W, Below w.heap.size w W → RdS W A (flat [p, q, r]) ∧ Rds W (lrow [p, q, r])) := Lib.hid (fun W hB => ⟨hA.below hB, hR.below hB⟩)
  have ok3 : TriOk w p q r := by have k := tri_ok hR; rw [t1, t2, t3] at k; exact k
  have RU : Hid (∀ W, Below w.heap.size w W → Rds W (prow u)) := Lib.hid (fun W hB => hU.below hB)
  have RT : Hid (∀ W, Below w.heap.size w W → TriOk W p q r) := Lib.hid (fun W hB => ok3.below hB)
  have HV := Lib.hid (fun W h => show Calls Tryz.prog 65 #[.agg (p6 u)] W (fun e w' => e = .returned (.bool true) ∧ Below W.heap.size W w') from by
    have K := impl_valid u.x u.y u.a u.b W lu.1.1 lu.1.2 lu.2.1 lu.2.2 h
    rw [show (okx u.x && okx u.y) = true from hu] at K; exact K)
  have HW := Lib.hid (fun W hB => tarea p q r W (RT.out W hB))
  have HR_0 := Lib.hid (fun W => replaced_0 p q r u W)
  have HA_0 := Lib.hid (fun W (hB : Below w.heap.size w W) => tarea u q r W ⟨⟨nu, (RT.out W hB).1.2.1, (RT.out W hB).1.2.2⟩, (RU.out W hB), (RT.out W hB).2.2.1, (RT.out W hB).2.2.2⟩)
  have HO_0 : Hid (∀ (a b : Ad) W, Rds W (rows (ofO (aV u q r)) a) → Rds W (rows (ofO (aV p q r)) b) → Calls Tryz.prog 69 #[.agg (r3 (ofO (aV u q r)) a), .agg (r3 (ofO (aV p q r)) b)] W (MadeQ W.heap.size (ofO (some b0)) W)) := Lib.hid (fun a b W h h' => by
    have K := over_r (aV u q r) (aV p q r) a b W (aV_fit _ _ _) (aV_fit _ _ _) h h'
    rw [e0] at K; exact K)
  have lm0 : 0 < (ofO (some b0)).m.length ∧ (ofO (some b0)).m.length ≤ 9223372036854775807 := ⟨m_pos b0, by have h := FitO.bin (F := quoQ) quo_fit' (aV u q r) (aV p q r) ; rw [e0] at h; exact Nat.le_trans h.len.2 (by omega)⟩
  have HR_1 := Lib.hid (fun W => replaced_1 p q r u W)
  have HA_1 := Lib.hid (fun W (hB : Below w.heap.size w W) => tarea p u r W ⟨⟨(RT.out W hB).1.1, nu, (RT.out W hB).1.2.2⟩, (RT.out W hB).2.1, (RU.out W hB), (RT.out W hB).2.2.2⟩)
  have HO_1 : Hid (∀ (a b : Ad) W, Rds W (rows (ofO (aV p u r)) a) → Rds W (rows (ofO (aV p q r)) b) → Calls Tryz.prog 69 #[.agg (r3 (ofO (aV p u r)) a), .agg (r3 (ofO (aV p q r)) b)] W (MadeQ W.heap.size (ofO (some b1)) W)) := Lib.hid (fun a b W h h' => by
    have K := over_r (aV p u r) (aV p q r) a b W (aV_fit _ _ _) (aV_fit _ _ _) h h'
    rw [e1] at K; exact K)
  have lm1 : 0 < (ofO (some b1)).m.length ∧ (ofO (some b1)).m.length ≤ 9223372036854775807 := ⟨m_pos b1, by have h := FitO.bin (F := quoQ) quo_fit' (aV p u r) (aV p q r) ; rw [e1] at h; exact Nat.le_trans h.len.2 (by omega)⟩
  have HR_2 := Lib.hid (fun W => replaced_2 p q r u W)
  have HA_2 := Lib.hid (fun W (hB : Below w.heap.size w W) => tarea p q u W ⟨⟨(RT.out W hB).1.1, (RT.out W hB).1.2.1, nu⟩, (RT.out W hB).2.1, (RT.out W hB).2.2.1, (RU.out W hB)⟩)
  have HO_2 : Hid (∀ (a b : Ad) W, Rds W (rows (ofO (aV p q u)) a) → Rds W (rows (ofO (aV p q r)) b) → Calls Tryz.prog 69 #[.agg (r3 (ofO (aV p q u)) a), .agg (r3 (ofO (aV p q r)) b)] W (MadeQ W.heap.size (ofO (some b2)) W)) := Lib.hid (fun a b W h h' => by
    have K := over_r (aV p q u) (aV p q r) a b W (aV_fit _ _ _) (aV_fit _ _ _) h h'
    rw [e2] at K; exact K)
  have lm2 : 0 < (ofO (some b2)).m.length ∧ (ofO (some b2)).m.length ≤ 9223372036854775807 := ⟨m_pos b2, by have h := FitO.bin (F := quoQ) quo_fit' (aV p q u) (aV p q r) ; rw [e2] at h; exact Nat.le_trans h.len.2 (by omega)⟩
  clear e0 e1 e2 hA hR hU ok3 t1 t2 t3 hpr lp lq lr lu nu hu
  generalize ofO (aV u q r) = D0 at HA_0 HO_0
  generalize ofO (some b0) = X0 at HO_0 lm0 ⊢
  generalize ofO (aV p u r) = D1 at HA_1 HO_1
  generalize ofO (some b1) = X1 at HO_1 lm1 ⊢
  generalize ofO (aV p q u) = D2 at HA_2 HO_2
  generalize ofO (some b2) = X2 at HO_2 lm2 ⊢
  generalize ofO (aV p q r) = D at HW HO_0 HO_1 HO_2
  unfold MadeQ at HW HA_0 HA_1 HA_2 HO_0 HO_1 HO_2
  have HL := Lib.hid (And.intro lm0 (And.intro lm1 lm2))
  clear lm0 lm1 lm2
  obtain ⟨i0, hi, hz0, hz1, hz2⟩ := info_parts rat_info
  have P_u := heap_alloc_new w (.cells (p6 u) 31)
  have kb := ba1 w (.cells (p6 u) 31)
  have hgu : w.heap.size < (w.alloc (.cells (p6 u) 31)).heap.size := rblk_lt P_u
  have s0 := rblk_cell P_u 0
  have s1 := rblk_cell P_u 1
  have s2 := rblk_cell P_u 2
  have s3 := rblk_cell P_u 3
  have s4 := rblk_cell P_u 4
  have s5 := rblk_cell P_u 5
  go_enter Tryz.func14, Tryz.ntmps14
  go_wp2_with fail
  clear s0 s1 s2 s3 s4 s5
  generalize w.alloc (.cells (p6 u) 31) = W1 at P_u kb hgu ⊢
  refine (HV.out _ (RU.out _ kb)).mono ?_
  rintro e W2 ⟨rfl, hb⟩
  replace P_u := rblk_below P_u hb
  replace kb := bt kb hb
  clear hb
  go_wp2_with fail
  refine (HT.out _ (RR.out _ kb).1 (RR.out _ kb).2).mono ?_
  rintro e W3 ⟨rfl, hb⟩
  replace P_u := rblk_below P_u hb
  replace kb := bt kb hb
  clear hb hgu
  have hgu := rblk_lt P_u
  have P_n := heap_alloc_new W3 (.cells #[.bool false, .slice none 0 0, .slice none 0 0, .bool false, .slice none 0 0, .slice none 0 0, .bool false, .slice none 0 0, .slice none 0 0, .bool false, .slice none 0 0, .slice none 0 0, .bool false, .slice none 0 0, .slice none 0 0, .bool false, .slice none 0 0, .slice none 0 0] 91)
  have P_t := rowV_set P_n (p18 p q r)
  replace P_u := rowV_other (rblk_below P_u (ba1 W3 (.cells #[.bool false, .slice none 0 0, .slice none 0 0, .bool false, .slice none 0 0, .slice none 0 0, .bool false, .slice none 0 0, .slice none 0 0, .bool false, .slice none 0 0, .slice none 0 0, .bool false, .slice none 0 0, .slice none 0 0, .bool false, .slice none 0 0, .slice none 0 0] 91))) (show W3.heap.size ≠ w.heap.size by omega) (p18 p q r)
  have hgt : w.heap.size ≤ W3.heap.size := kb.size
  replace kb := below_setRow (kb.alloc kb.size (.cells #[.bool false, .slice none 0 0, .slice none 0 0, .bool false, .slice none 0 0, .slice none 0 0, .bool false, .slice none 0 0, .slice none 0 0, .bool false, .slice none 0 0, .slice none 0 0, .bool false, .slice none 0 0, .slice none 0 0, .bool false, .slice none 0 0, .slice none 0 0] 91)) hgt (p18 p q r)
  have hst := rblk_lt P_t
  have hld := cells_row P_t
  go_wp2_with (first | refine wpList_store_row rfl 91 (.tmp 5) (.tmp 13) rfl (W3.heap.size) (p18 p q r) rfl rfl 91 _ P_n tri_size rfl (by simp [Value.oneCell', p18, p6, r3, z3]) ?_ | refine wpList_load_at rfl 91 (.tmp 5) rfl W3.heap.size 0 (p18 p q r) rfl tri_agg (run_size tri_size) hld ?_)
  clear P_n hld
  generalize (W3.alloc (.cells #[.bool false, .slice none 0 0, .slice none 0 0, .bool false, .slice none 0 0, .slice none 0 0, .bool false, .slice none 0 0, .slice none 0 0, .bool false, .slice none 0 0, .slice none 0 0, .bool false, .slice none 0 0, .slice none 0 0, .bool false, .slice none 0 0, .slice none 0 0] 91)).setRow W3.heap.size (p18 p q r) = W4 at P_t P_u kb hst ⊢
  generalize W3.heap.size = gt at P_t hgt hst hgu ⊢
  refine (HW.out _ kb).mono ?_
  rintro e W5 ⟨aw, rfl, hx0, hy0, oW, hap0, hb⟩
  replace P_t := rblk_below P_t hb
  replace P_u := rblk_below P_u hb
  replace kb := bt kb hb
  have hs5 := hb.size
  clear hb hap0 hx0 hy0
  have P_w := heap_alloc_new W5 (.cells (r3 D aw) 29)
  have hb := ba1 W5 (.cells (r3 D aw) 29)
  replace P_t := rblk_below P_t hb
  replace P_u := rblk_below P_u hb
  replace oW := oW.below hb
  replace kb := bt kb hb
  clear hb
  have hsw := rblk_lt P_w
  have e_gs := sz1 W5 (.cells (r3 D aw) 29)
  obtain ⟨W6, hW6⟩ : ∃ W, W = W5.alloc (.cells (r3 D aw) 29) := ⟨_, rfl⟩
  rw [← hW6] at P_w P_t P_u oW kb hsw e_gs
  go_wp2_with (first | rw [← hW6] | (refine wpList_make_full _ rfl (.const (.int .i64 3)) (.const (.int .i64 3)) 33 rfl W6.heap.size 29 i0 _ 3 Tryz.underlying33 hi hz0 hz1 .i64 .i64 3 3 3 rfl rfl rfl rfl (by rw [hz2]; omega) (by simp only [maxLen]; omega) (Nat.le_refl _) ?_; intro w1 hown hg))
  have hb1 : Below W6.heap.size W6 w1 := below_of_grown hg (Nat.le_refl _) (fun g h => by cases h)
  rw [show (madeCells (Value.agg z3).cells (3 * 3)).toList = [.bool false, .slice none 0 0, .slice none 0 0, .bool false, .slice none 0 0, .slice none 0 0, .bool false, .slice none 0 0, .slice none 0 0] from made9] at hown
  have P_s : w1.heap[W6.heap.size]? = some (.cells #[.bool false, .slice none 0 0, .slice none 0 0, .bool false, .slice none 0 0, .slice none 0 0, .bool false, .slice none 0 0, .slice none 0 0] 29 (0, 0)) := blk_of_made3 hown
  clear hown hg hi hz0 hz1 hz2 hW6
  replace P_t := rblk_below P_t hb1
  replace P_u := rblk_below P_u hb1
  replace P_w := rblk_below P_w hb1
  replace oW := oW.below hb1
  have hgs : w.heap.size ≤ W6.heap.size := kb.size
  replace kb := bt kb hb1
  clear hb1
  have HG : Hid (w.heap.size < gt ∧ gt < W5.heap.size ∧ W5.heap.size < W6.heap.size ∧ w.heap.size ≤ W6.heap.size) := Lib.hid ⟨by omega, by omega, by omega, hgs⟩
  generalize W6.heap.size = gs at P_s HG e_gs ⊢
  generalize W5.heap.size = gw at P_w HG e_gs oW ⊢
  obtain ⟨lo, hlo⟩ : ∃ lo, lo = W4.heap.size := ⟨_, rfl⟩
  rw [← hlo] at oW
  clear hlo
  go_wp2_with fail
  rw [← e_gs]
  clear e_gs hst hs5 hgt hgs hsw hgu
  go_loopw [17] (fun k w' => ∃ (j : Nat) (cs : Array Value) (a0 a1 a2 : Ad), j ≤ 3 ∧ k = .int .i64 (j : Int) ∧ (j = 0 → cs = #[.bool false, .slice none 0 0, .slice none 0 0, .bool false, .slice none 0 0, .slice none 0 0, .bool false, .slice none 0 0, .slice none 0 0]) ∧ (j = 1 → cs = #[.bool X0.p, .slice a0.A X0.l.length a0.c, .slice a0.D X0.m.length a0.d, .bool false, .slice none 0 0, .slice none 0 0, .bool false, .slice none 0 0, .slice none 0 0]) ∧ (j = 2 → cs = #[.bool X0.p, .slice a0.A X0.l.length a0.c, .slice a0.D X0.m.length a0.d, .bool X1.p, .slice a1.A X1.l.length a1.c, .slice a1.D X1.m.length a1.d, .bool false, .slice none 0 0, .slice none 0 0]) ∧ (j = 3 → cs = #[.bool X0.p, .slice a0.A X0.l.length a0.c, .slice a0.D X0.m.length a0.d, .bool X1.p, .slice a1.A X1.l.length a1.c, .slice a1.D X1.m.length a1.d, .bool X2.p, .slice a2.A X2.l.length a2.c, .slice a2.D X2.m.length a2.d]) ∧ w'.heap[gs]? = some (.cells cs 29 (0, 0)) ∧ (0 < j → Owns (gs + 1) w'.heap.size w' (rows X0 a0)) ∧ (1 < j → Owns (gs + 1) w'.heap.size w' (rows X1 a1)) ∧ (2 < j → Owns (gs + 1) w'.heap.size w' (rows X2 a2)) ∧ w'.heap[gt]? = some (.cells (p18 p q r) 91 (0, 0)) ∧ w'.heap[w.heap.size]? = some (.cells (p6 u) 31 (0, 0)) ∧ w'.heap[gw]? = some (.cells (r3 D aw) 29 (0, 0)) ∧ Owns lo gw w' (rows D aw) ∧ Below w.heap.size w w') (fun k _ => 3 - (intOf k).toNat)
  case atStart => exact ⟨0, _, aw, aw, aw, by omega, rfl, (fun _ => rfl), (fun h => by omega), (fun h => by omega), (fun h => by omega), P_s, (fun h => by omega), (fun h => by omega), (fun h => by omega), P_t, P_u, P_w, oW, kb⟩
  case round =>
    clear P_s P_t P_u P_w oW kb
    obtain ⟨j, cs, a0, a1, a2, hj, rfl, n0, n1, n2, n3, P_s, r0, r1, r2, P_t, P_u, P_w, oW, kb⟩ := hrel
    have hjc : j = 0 ∨ j = 1 ∨ j = 2 ∨ j = 3 := by omega
    rcases hjc with rfl | rfl | rfl | rfl
    · obtain rfl := n0 rfl
      clear n0 n1 n2 n3 hj
      clear r0 r1 r2
      go_wp2_with fail
      have hb : Below wr.heap.size wr wr.drew := (Below.refl _ _).drew
      replace P_s := rblk_below P_s hb
      replace oW := oW.below hb
      replace kb := bt kb hb
      clear hb
      refine wp_region_held_drew (S := fun w' => w'.heap[gt]? = some (.cells (p18 p q r) 91 (0, 0)) ∧ w'.heap[w.heap.size]? = some (.cells (p6 u) 31 (0, 0)) ∧ w'.heap[gw]? = some (.cells (r3 D aw) 29 (0, 0))) (by kernel_rfl) ⟨P_t, P_u, P_w⟩ (fun hHeld => ?_)
      clear P_t P_u P_w
      generalize wr.drew = Wd at *
      refine tk (i := 0) (v := ?vg1_1) rfl (by kernel_rfl) (fun _ _ _ h => h) (Or.inl ⟨by rfl, ?hg1_1⟩) hHeld ?_
      case hg1_1 => (intro w hSw; (try dsimp only at hSw); go_simp; (try with_reducible rfl))
      try simp only [ps]
      refine tk (i := 1) (v := ?vg1_2) rfl (by kernel_rfl) (fun _ _ _ h => h) (Or.inl ⟨by rfl, ?hg1_2⟩) hHeld ?_
      case hg1_2 => (intro w hSw; (try dsimp only at hSw); go_simp; (try with_reducible rfl))
      try simp only [ps]
      refine tk (i := 2) (v := .agg (p18 p q r)) rfl (by kernel_rfl) (fun _ _ _ h => h) (yieldsIf_load_mid (by rfl) 91 (.tmp 5) rfl gt 0 rfl [.bool p.x.p, .slice p.a.A p.x.l.length p.a.c, .slice p.a.D p.x.m.length p.a.d, .bool p.y.p, .slice p.b.A p.y.l.length p.b.c, .slice p.b.D p.y.m.length p.b.d, .bool q.x.p, .slice q.a.A q.x.l.length q.a.c, .slice q.a.D q.x.m.length q.a.d, .bool q.y.p, .slice q.b.A q.y.l.length q.b.c, .slice q.b.D q.y.m.length q.b.d, .bool r.x.p, .slice r.a.A r.x.l.length r.a.c, .slice r.a.D r.x.m.length r.a.d, .bool r.y.p, .slice r.b.A r.y.l.length r.b.c, .slice r.b.D r.y.m.length r.b.d] _ (fun w hSw => range_row hSw.1) Tryz.underlying91 rfl tri_size) hHeld ?_
      try simp only [ps]
      refine tk (i := 3) (v := ?vg1_4) rfl (by kernel_rfl) (fun _ _ _ h => h) (Or.inl ⟨by rfl, ?hg1_4⟩) hHeld ?_
      case hg1_4 => (intro w hSw; (try dsimp only at hSw); go_simp; (try with_reducible rfl))
      try simp only [ps]
      refine tk (i := 4) (v := ?vg1_5) rfl (by kernel_rfl) (fun _ _ _ h => h) (Or.inl ⟨by rfl, ?hg1_5⟩) hHeld ?_
      case hg1_5 => (intro w hSw; (try dsimp only at hSw); have t0 := rblk_cell hSw.2.1 0; have t1 := rblk_cell hSw.2.1 1; have t2 := rblk_cell hSw.2.1 2; have t3 := rblk_cell hSw.2.1 3; have t4 := rblk_cell hSw.2.1 4; have t5 := rblk_cell hSw.2.1 5; go_simp; (try with_reducible rfl))
      try simp only [ps]
      refine tk (i := 7) (v := ?vg1_6) rfl (by kernel_rfl) (fun _ _ _ h => h) (Or.inl ⟨by rfl, ?hg1_6⟩) hHeld ?_
      case hg1_6 => (intro w hSw; (try dsimp only at hSw); have t0 := rblk_cell hSw.2.2 0; have t1 := rblk_cell hSw.2.2 1; have t2 := rblk_cell hSw.2.2 2; go_simp; (try with_reducible rfl))
      try simp only [ps]
      refine rd1 (i := 5) (by kernel_rfl) rfl (fun K hK => ?_)
      go_simp
      (go_at_call 68; ((with_reducible refine (HR_0.out _).mono ?_); rintro e Wr1_7 ⟨rfl, hb⟩))
      refine hK.out _ _ ⟨rblk_below hHeld.1 hb, rblk_below hHeld.2.1 hb, rblk_below hHeld.2.2 hb⟩ (fun hH => ?_)
      replace hHeld := hH
      clear hK K hH
      replace P_s := rblk_below P_s hb
      replace oW := oW.below hb
      replace kb := bt kb hb
      clear hb
      try simp only [ps]
      refine rd1 (i := 6) (by kernel_rfl) rfl (fun K hK => ?_)
      go_simp
      (go_at_call 67; ((with_reducible refine (HA_0.out _ kb).mono ?_); rintro e Wr1_8 ⟨ad, rfl, hxd, hyd, od, hapd, hb⟩))
      refine hK.out _ _ ⟨rblk_below hHeld.1 hb, rblk_below hHeld.2.1 hb, rblk_below hHeld.2.2 hb⟩ (fun hH => ?_)
      replace hHeld := hH
      clear hK K hH
      replace P_s := rblk_below P_s hb
      replace oW := oW.below hb
      replace kb := bt kb hb
      clear hapd hxd hyd
      clear hb
      try simp only [ps]
      refine rd1 (i := 8) (by kernel_rfl) rfl (fun K hK => ?_)
      have hgz := rblk_lt P_s
      go_simp
      (go_at_call 69; ((with_reducible refine (HO_0.out _ _ _ od.rds oW.rds).mono ?_); rintro e Wo ⟨a0n, rfl, hxo, hyo, on, hapo, hb⟩))
      refine hK.out _ _ ⟨rblk_below hHeld.1 hb, rblk_below hHeld.2.1 hb, rblk_below hHeld.2.2 hb⟩ (fun hH => ?_)
      replace hHeld := hH
      clear hK K hH
      replace P_s := rblk_below P_s hb
      replace oW := oW.below hb
      replace kb := bt kb hb
      replace od := od.below hb
      replace on := on.wide (lo' := gs + 1) hgz (Nat.le_refl _)
      clear hb hapo hxo hyo od
      try simp only [ps]
      refine tk (i := 9) (v := .pointer (some ⟨gs, 0, none⟩)) rfl (by kernel_rfl) (fun _ _ _ h => h) (Or.inl ⟨by rfl, ?hg1_10⟩) hHeld ?_
      case hg1_10 => (intro w hSw; (try dsimp only at hSw); go_simp; (try rfl))
      try simp only [ps]
      refine rd1 (i := 10) (by kernel_rfl) rfl (fun K hK => ?_)
      have t0 := rblk_cell P_s 0
      have q0 := rblk_free P_s 0
      have t1 := rblk_cell P_s 1
      have q1 := rblk_free P_s 1
      have t2 := rblk_cell P_s 2
      have q2 := rblk_free P_s 2
      go_simp
      clear t0 t1 t2 q0 q1 q2
      have P_s2 : (((Wo.setCell ⟨gs, 0, none⟩ (.bool X0.p)).setCell ⟨gs, 1, none⟩ (.slice a0n.A X0.l.length a0n.c)).setCell ⟨gs, 2, none⟩ (.slice a0n.D X0.m.length a0n.d)).heap[gs]? = some (.cells #[.bool X0.p, .slice a0n.A X0.l.length a0n.c, .slice a0n.D X0.m.length a0n.d, .bool false, .slice none 0 0, .slice none 0 0, .bool false, .slice none 0 0, .slice none 0 0] 29 (0, 0)) := rblk_set (rblk_set (rblk_set P_s 0 (.bool X0.p)) 1 (.slice a0n.A X0.l.length a0n.c)) 2 (.slice a0n.D X0.m.length a0n.d)
      replace oW := ((oW.put (b := gs) (o := 0) (.inr (by have := HG.out; omega)) (.bool X0.p)).put (b := gs) (o := 1) (.inr (by have := HG.out; omega)) (.slice a0n.A X0.l.length a0n.c)).put (b := gs) (o := 2) (.inr (by have := HG.out; omega)) (.slice a0n.D X0.m.length a0n.d)
      replace on := ((on.put (b := gs) (o := 0) (.inl (Nat.lt_succ_self _)) (.bool X0.p)).put (b := gs) (o := 1) (.inl (Nat.lt_succ_self _)) (.slice a0n.A X0.l.length a0n.c)).put (b := gs) (o := 2) (.inl (Nat.lt_succ_self _)) (.slice a0n.D X0.m.length a0n.d)
      replace kb := below_put (o := 2) (below_put (o := 1) (below_put (o := 0) kb (show w.heap.size ≤ gs by have := HG.out; omega) (.bool X0.p)) (show w.heap.size ≤ gs by have := HG.out; omega) (.slice a0n.A X0.l.length a0n.c)) (show w.heap.size ≤ gs by have := HG.out; omega) (.slice a0n.D X0.m.length a0n.d)
      refine hK.out _ _ ⟨rblk_other (rblk_other (rblk_other hHeld.1 0 (.bool X0.p) (show gs ≠ gt by have := HG.out; omega)) 1 (.slice a0n.A X0.l.length a0n.c) (show gs ≠ gt by have := HG.out; omega)) 2 (.slice a0n.D X0.m.length a0n.d) (show gs ≠ gt by have := HG.out; omega), rblk_other (rblk_other (rblk_other hHeld.2.1 0 (.bool X0.p) (show gs ≠ w.heap.size by have := HG.out; omega)) 1 (.slice a0n.A X0.l.length a0n.c) (show gs ≠ w.heap.size by have := HG.out; omega)) 2 (.slice a0n.D X0.m.length a0n.d) (show gs ≠ w.heap.size by have := HG.out; omega), rblk_other (rblk_other (rblk_other hHeld.2.2 0 (.bool X0.p) (show gs ≠ gw by have := HG.out; omega)) 1 (.slice a0n.A X0.l.length a0n.c) (show gs ≠ gw by have := HG.out; omega)) 2 (.slice a0n.D X0.m.length a0n.d) (show gs ≠ gw by have := HG.out; omega)⟩ (fun hH => ?_)
      replace hHeld := hH
      clear hK K hH P_s
      have hsz : Wo.heap.size ≤ (((Wo.setCell ⟨gs, 0, none⟩ (.bool X0.p)).setCell ⟨gs, 1, none⟩ (.slice a0n.A X0.l.length a0n.c)).setCell ⟨gs, 2, none⟩ (.slice a0n.D X0.m.length a0n.d)).heap.size := by simp only [put_size]; exact Nat.le_refl _
      replace on := on.wide (Nat.le_refl _) hsz
      clear hsz
      generalize ((Wo.setCell ⟨gs, 0, none⟩ (.bool X0.p)).setCell ⟨gs, 1, none⟩ (.slice a0n.A X0.l.length a0n.c)).setCell ⟨gs, 2, none⟩ (.slice a0n.D X0.m.length a0n.d) = Wp at hHeld P_s2 oW  on kb ⊢
      try simp only [ps]
      refine wpAnyH_done (by kernel_rfl) ?_ _
      have y0 := rblk_cell P_s2 0
      have y1 := rblk_cell P_s2 1
      have y2 := rblk_cell P_s2 2
      obtain ⟨P_t, P_u, P_w⟩ := hHeld
      go_wp2_with fail
      clear y0 y1 y2
      have EX := exists_any X0.p a0n.A a0n.D X0.l.length X0.m.length a0n.c a0n.d Wp HL.out.1.2
      rw [decide_eq_true HL.out.1.1] at EX
      refine EX.mono ?_
      rintro e Wq ⟨rfl, hb⟩
      clear EX
      replace P_t := rblk_below P_t hb
      replace P_u := rblk_below P_u hb
      replace P_w := rblk_below P_w hb
      replace P_s2 := rblk_below P_s2 hb
      replace oW := oW.below hb
      replace on := (on.below hb).wide (Nat.le_refl _) hb.size
      replace kb := bt kb hb
      clear hb
      have HZ := Lib.hid (And.intro P_s2 (And.intro P_t (And.intro P_u (And.intro P_w (And.intro oW kb)))))
      clear P_s2 P_t P_u P_w oW kb
      have Hnz := Lib.hid on
      clear on
      go_wp2
      go_roundw
      case rel => exact ⟨1, _, a0n, a1, a2, by omega, by go_num, (fun h => by omega), (fun _ => rfl), (fun h => by omega), (fun h => by omega), HZ.out.1, (fun _ => Hnz.out), (fun h => by omega), (fun h => by omega), HZ.out.2.1, HZ.out.2.2.1, HZ.out.2.2.2.1, HZ.out.2.2.2.2.1, HZ.out.2.2.2.2.2⟩
      case measure => simp [intOf]
    · obtain rfl := n1 rfl
      clear n0 n1 n2 n3 hj
      replace r0 := r0 (by omega)
      clear r1 r2
      go_wp2_with fail
      have hb : Below wr.heap.size wr wr.drew := (Below.refl _ _).drew
      replace P_s := rblk_below P_s hb
      replace oW := oW.below hb
      replace kb := bt kb hb
      replace r0 := (r0.below hb).wide (Nat.le_refl _) hb.size
      clear hb
      refine wp_region_held_drew (S := fun w' => w'.heap[gt]? = some (.cells (p18 p q r) 91 (0, 0)) ∧ w'.heap[w.heap.size]? = some (.cells (p6 u) 31 (0, 0)) ∧ w'.heap[gw]? = some (.cells (r3 D aw) 29 (0, 0))) (by kernel_rfl) ⟨P_t, P_u, P_w⟩ (fun hHeld => ?_)
      clear P_t P_u P_w
      generalize wr.drew = Wd at *
      refine tk (i := 0) (v := ?vg2_1) rfl (by kernel_rfl) (fun _ _ _ h => h) (Or.inl ⟨by rfl, ?hg2_1⟩) hHeld ?_
      case hg2_1 => (intro w hSw; (try dsimp only at hSw); go_simp; (try with_reducible rfl))
      try simp only [ps]
      refine tk (i := 1) (v := ?vg2_2) rfl (by kernel_rfl) (fun _ _ _ h => h) (Or.inl ⟨by rfl, ?hg2_2⟩) hHeld ?_
      case hg2_2 => (intro w hSw; (try dsimp only at hSw); go_simp; (try with_reducible rfl))
      try simp only [ps]
      refine tk (i := 2) (v := .agg (p18 p q r)) rfl (by kernel_rfl) (fun _ _ _ h => h) (yieldsIf_load_mid (by rfl) 91 (.tmp 5) rfl gt 0 rfl [.bool p.x.p, .slice p.a.A p.x.l.length p.a.c, .slice p.a.D p.x.m.length p.a.d, .bool p.y.p, .slice p.b.A p.y.l.length p.b.c, .slice p.b.D p.y.m.length p.b.d, .bool q.x.p, .slice q.a.A q.x.l.length q.a.c, .slice q.a.D q.x.m.length q.a.d, .bool q.y.p, .slice q.b.A q.y.l.length q.b.c, .slice q.b.D q.y.m.length q.b.d, .bool r.x.p, .slice r.a.A r.x.l.length r.a.c, .slice r.a.D r.x.m.length r.a.d, .bool r.y.p, .slice r.b.A r.y.l.length r.b.c, .slice r.b.D r.y.m.length r.b.d] _ (fun w hSw => range_row hSw.1) Tryz.underlying91 rfl tri_size) hHeld ?_
      try simp only [ps]
      refine tk (i := 3) (v := ?vg2_4) rfl (by kernel_rfl) (fun _ _ _ h => h) (Or.inl ⟨by rfl, ?hg2_4⟩) hHeld ?_
      case hg2_4 => (intro w hSw; (try dsimp only at hSw); go_simp; (try with_reducible rfl))
      try simp only [ps]
      refine tk (i := 4) (v := ?vg2_5) rfl (by kernel_rfl) (fun _ _ _ h => h) (Or.inl ⟨by rfl, ?hg2_5⟩) hHeld ?_
      case hg2_5 => (intro w hSw; (try dsimp only at hSw); have t0 := rblk_cell hSw.2.1 0; have t1 := rblk_cell hSw.2.1 1; have t2 := rblk_cell hSw.2.1 2; have t3 := rblk_cell hSw.2.1 3; have t4 := rblk_cell hSw.2.1 4; have t5 := rblk_cell hSw.2.1 5; go_simp; (try with_reducible rfl))
      try simp only [ps]
      refine tk (i := 7) (v := ?vg2_6) rfl (by kernel_rfl) (fun _ _ _ h => h) (Or.inl ⟨by rfl, ?hg2_6⟩) hHeld ?_
      case hg2_6 => (intro w hSw; (try dsimp only at hSw); have t0 := rblk_cell hSw.2.2 0; have t1 := rblk_cell hSw.2.2 1; have t2 := rblk_cell hSw.2.2 2; go_simp; (try with_reducible rfl))
      try simp only [ps]
      refine rd1 (i := 5) (by kernel_rfl) rfl (fun K hK => ?_)
      go_simp
      (go_at_call 68; ((with_reducible refine (HR_1.out _).mono ?_); rintro e Wr2_7 ⟨rfl, hb⟩))
      refine hK.out _ _ ⟨rblk_below hHeld.1 hb, rblk_below hHeld.2.1 hb, rblk_below hHeld.2.2 hb⟩ (fun hH => ?_)
      replace hHeld := hH
      clear hK K hH
      replace P_s := rblk_below P_s hb
      replace oW := oW.below hb
      replace kb := bt kb hb
      replace r0 := (r0.below hb).wide (Nat.le_refl _) hb.size
      clear hb
      try simp only [ps]
      refine rd1 (i := 6) (by kernel_rfl) rfl (fun K hK => ?_)
      go_simp
      (go_at_call 67; ((with_reducible refine (HA_1.out _ kb).mono ?_); rintro e Wr2_8 ⟨ad, rfl, hxd, hyd, od, hapd, hb⟩))
      refine hK.out _ _ ⟨rblk_below hHeld.1 hb, rblk_below hHeld.2.1 hb, rblk_below hHeld.2.2 hb⟩ (fun hH => ?_)
      replace hHeld := hH
      clear hK K hH
      replace P_s := rblk_below P_s hb
      replace oW := oW.below hb
      replace kb := bt kb hb
      replace r0 := (r0.below hb).wide (Nat.le_refl _) hb.size
      clear hapd hxd hyd
      clear hb
      try simp only [ps]
      refine rd1 (i := 8) (by kernel_rfl) rfl (fun K hK => ?_)
      have hgz := rblk_lt P_s
      go_simp
      (go_at_call 69; ((with_reducible refine (HO_1.out _ _ _ od.rds oW.rds).mono ?_); rintro e Wo ⟨a1n, rfl, hxo, hyo, on, hapo, hb⟩))
      refine hK.out _ _ ⟨rblk_below hHeld.1 hb, rblk_below hHeld.2.1 hb, rblk_below hHeld.2.2 hb⟩ (fun hH => ?_)
      replace hHeld := hH
      clear hK K hH
      replace P_s := rblk_below P_s hb
      replace oW := oW.below hb
      replace kb := bt kb hb
      replace r0 := (r0.below hb).wide (Nat.le_refl _) hb.size
      replace od := od.below hb
      replace on := on.wide (lo' := gs + 1) hgz (Nat.le_refl _)
      clear hb hapo hxo hyo od
      try simp only [ps]
      refine tk (i := 9) (v := .pointer (some ⟨gs, 3, none⟩)) rfl (by kernel_rfl) (fun _ _ _ h => h) (Or.inl ⟨by rfl, ?hg2_10⟩) hHeld ?_
      case hg2_10 => (intro w hSw; (try dsimp only at hSw); go_simp; (try rfl))
      try simp only [ps]
      refine rd1 (i := 10) (by kernel_rfl) rfl (fun K hK => ?_)
      have t0 := rblk_cell P_s 3
      have q0 := rblk_free P_s 3
      have t1 := rblk_cell P_s 4
      have q1 := rblk_free P_s 4
      have t2 := rblk_cell P_s 5
      have q2 := rblk_free P_s 5
      go_simp
      clear t0 t1 t2 q0 q1 q2
      have P_s2 : (((Wo.setCell ⟨gs, 3, none⟩ (.bool X1.p)).setCell ⟨gs, 4, none⟩ (.slice a1n.A X1.l.length a1n.c)).setCell ⟨gs, 5, none⟩ (.slice a1n.D X1.m.length a1n.d)).heap[gs]? = some (.cells #[.bool X0.p, .slice a0.A X0.l.length a0.c, .slice a0.D X0.m.length a0.d, .bool X1.p, .slice a1n.A X1.l.length a1n.c, .slice a1n.D X1.m.length a1n.d, .bool false, .slice none 0 0, .slice none 0 0] 29 (0, 0)) := rblk_set (rblk_set (rblk_set P_s 3 (.bool X1.p)) 4 (.slice a1n.A X1.l.length a1n.c)) 5 (.slice a1n.D X1.m.length a1n.d)
      replace oW := ((oW.put (b := gs) (o := 3) (.inr (by have := HG.out; omega)) (.bool X1.p)).put (b := gs) (o := 4) (.inr (by have := HG.out; omega)) (.slice a1n.A X1.l.length a1n.c)).put (b := gs) (o := 5) (.inr (by have := HG.out; omega)) (.slice a1n.D X1.m.length a1n.d)
      replace r0 := ((r0.put (b := gs) (o := 3) (.inl (Nat.lt_succ_self _)) (.bool X1.p)).put (b := gs) (o := 4) (.inl (Nat.lt_succ_self _)) (.slice a1n.A X1.l.length a1n.c)).put (b := gs) (o := 5) (.inl (Nat.lt_succ_self _)) (.slice a1n.D X1.m.length a1n.d)
      replace on := ((on.put (b := gs) (o := 3) (.inl (Nat.lt_succ_self _)) (.bool X1.p)).put (b := gs) (o := 4) (.inl (Nat.lt_succ_self _)) (.slice a1n.A X1.l.length a1n.c)).put (b := gs) (o := 5) (.inl (Nat.lt_succ_self _)) (.slice a1n.D X1.m.length a1n.d)
      replace kb := below_put (o := 5) (below_put (o := 4) (below_put (o := 3) kb (show w.heap.size ≤ gs by have := HG.out; omega) (.bool X1.p)) (show w.heap.size ≤ gs by have := HG.out; omega) (.slice a1n.A X1.l.length a1n.c)) (show w.heap.size ≤ gs by have := HG.out; omega) (.slice a1n.D X1.m.length a1n.d)
      refine hK.out _ _ ⟨rblk_other (rblk_other (rblk_other hHeld.1 3 (.bool X1.p) (show gs ≠ gt by have := HG.out; omega)) 4 (.slice a1n.A X1.l.length a1n.c) (show gs ≠ gt by have := HG.out; omega)) 5 (.slice a1n.D X1.m.length a1n.d) (show gs ≠ gt by have := HG.out; omega), rblk_other (rblk_other (rblk_other hHeld.2.1 3 (.bool X1.p) (show gs ≠ w.heap.size by have := HG.out; omega)) 4 (.slice a1n.A X1.l.length a1n.c) (show gs ≠ w.heap.size by have := HG.out; omega)) 5 (.slice a1n.D X1.m.length a1n.d) (show gs ≠ w.heap.size by have := HG.out; omega), rblk_other (rblk_other (rblk_other hHeld.2.2 3 (.bool X1.p) (show gs ≠ gw by have := HG.out; omega)) 4 (.slice a1n.A X1.l.length a1n.c) (show gs ≠ gw by have := HG.out; omega)) 5 (.slice a1n.D X1.m.length a1n.d) (show gs ≠ gw by have := HG.out; omega)⟩ (fun hH => ?_)
      replace hHeld := hH
      clear hK K hH P_s
      have hsz : Wo.heap.size ≤ (((Wo.setCell ⟨gs, 3, none⟩ (.bool X1.p)).setCell ⟨gs, 4, none⟩ (.slice a1n.A X1.l.length a1n.c)).setCell ⟨gs, 5, none⟩ (.slice a1n.D X1.m.length a1n.d)).heap.size := by simp only [put_size]; exact Nat.le_refl _
      replace r0 := r0.wide (Nat.le_refl _) hsz
      replace on := on.wide (Nat.le_refl _) hsz
      clear hsz
      generalize ((Wo.setCell ⟨gs, 3, none⟩ (.bool X1.p)).setCell ⟨gs, 4, none⟩ (.slice a1n.A X1.l.length a1n.c)).setCell ⟨gs, 5, none⟩ (.slice a1n.D X1.m.length a1n.d) = Wp at hHeld P_s2 oW r0 on kb ⊢
      try simp only [ps]
      refine wpAnyH_done (by kernel_rfl) ?_ _
      have y0 := rblk_cell P_s2 3
      have y1 := rblk_cell P_s2 4
      have y2 := rblk_cell P_s2 5
      obtain ⟨P_t, P_u, P_w⟩ := hHeld
      go_wp2_with fail
      clear y0 y1 y2
      have EX := exists_any X1.p a1n.A a1n.D X1.l.length X1.m.length a1n.c a1n.d Wp HL.out.2.1.2
      rw [decide_eq_true HL.out.2.1.1] at EX
      refine EX.mono ?_
      rintro e Wq ⟨rfl, hb⟩
      clear EX
      replace P_t := rblk_below P_t hb
      replace P_u := rblk_below P_u hb
      replace P_w := rblk_below P_w hb
      replace P_s2 := rblk_below P_s2 hb
      replace oW := oW.below hb
      replace r0 := (r0.below hb).wide (Nat.le_refl _) hb.size
      replace on := (on.below hb).wide (Nat.le_refl _) hb.size
      replace kb := bt kb hb
      clear hb
      have HZ := Lib.hid (And.intro P_s2 (And.intro P_t (And.intro P_u (And.intro P_w (And.intro oW kb)))))
      clear P_s2 P_t P_u P_w oW kb
      have H0z := Lib.hid r0
      clear r0
      have Hnz := Lib.hid on
      clear on
      go_wp2
      go_roundw
      case rel => exact ⟨2, _, a0, a1n, a2, by omega, by go_num, (fun h => by omega), (fun h => by omega), (fun _ => rfl), (fun h => by omega), HZ.out.1, (fun _ => H0z.out), (fun _ => Hnz.out), (fun h => by omega), HZ.out.2.1, HZ.out.2.2.1, HZ.out.2.2.2.1, HZ.out.2.2.2.2.1, HZ.out.2.2.2.2.2⟩
      case measure => simp [intOf]
    · obtain rfl := n2 rfl
      clear n0 n1 n2 n3 hj
      replace r0 := r0 (by omega)
      replace r1 := r1 (by omega)
      clear r2
      go_wp2_with fail
      have hb : Below wr.heap.size wr wr.drew := (Below.refl _ _).drew
      replace P_s := rblk_below P_s hb
      replace oW := oW.below hb
      replace kb := bt kb hb
      replace r0 := (r0.below hb).wide (Nat.le_refl _) hb.size
      replace r1 := (r1.below hb).wide (Nat.le_refl _) hb.size
      clear hb
      refine wp_region_held_drew (S := fun w' => w'.heap[gt]? = some (.cells (p18 p q r) 91 (0, 0)) ∧ w'.heap[w.heap.size]? = some (.cells (p6 u) 31 (0, 0)) ∧ w'.heap[gw]? = some (.cells (r3 D aw) 29 (0, 0))) (by kernel_rfl) ⟨P_t, P_u, P_w⟩ (fun hHeld => ?_)
      clear P_t P_u P_w
      generalize wr.drew = Wd at *
      refine tk (i := 0) (v := ?vg3_1) rfl (by kernel_rfl) (fun _ _ _ h => h) (Or.inl ⟨by rfl, ?hg3_1⟩) hHeld ?_
      case hg3_1 => (intro w hSw; (try dsimp only at hSw); go_simp; (try with_reducible rfl))
      try simp only [ps]
      refine tk (i := 1) (v := ?vg3_2) rfl (by kernel_rfl) (fun _ _ _ h => h) (Or.inl ⟨by rfl, ?hg3_2⟩) hHeld ?_
      case hg3_2 => (intro w hSw; (try dsimp only at hSw); go_simp; (try with_reducible rfl))
      try simp only [ps]
      refine tk (i := 2) (v := .agg (p18 p q r)) rfl (by kernel_rfl) (fun _ _ _ h => h) (yieldsIf_load_mid (by rfl) 91 (.tmp 5) rfl gt 0 rfl [.bool p.x.p, .slice p.a.A p.x.l.length p.a.c, .slice p.a.D p.x.m.length p.a.d, .bool p.y.p, .slice p.b.A p.y.l.length p.b.c, .slice p.b.D p.y.m.length p.b.d, .bool q.x.p, .slice q.a.A q.x.l.length q.a.c, .slice q.a.D q.x.m.length q.a.d, .bool q.y.p, .slice q.b.A q.y.l.length q.b.c, .slice q.b.D q.y.m.length q.b.d, .bool r.x.p, .slice r.a.A r.x.l.length r.a.c, .slice r.a.D r.x.m.length r.a.d, .bool r.y.p, .slice r.b.A r.y.l.length r.b.c, .slice r.b.D r.y.m.length r.b.d] _ (fun w hSw => range_row hSw.1) Tryz.underlying91 rfl tri_size) hHeld ?_
      try simp only [ps]
      refine tk (i := 3) (v := ?vg3_4) rfl (by kernel_rfl) (fun _ _ _ h => h) (Or.inl ⟨by rfl, ?hg3_4⟩) hHeld ?_
      case hg3_4 => (intro w hSw; (try dsimp only at hSw); go_simp; (try with_reducible rfl))
      try simp only [ps]
      refine tk (i := 4) (v := ?vg3_5) rfl (by kernel_rfl) (fun _ _ _ h => h) (Or.inl ⟨by rfl, ?hg3_5⟩) hHeld ?_
      case hg3_5 => (intro w hSw; (try dsimp only at hSw); have t0 := rblk_cell hSw.2.1 0; have t1 := rblk_cell hSw.2.1 1; have t2 := rblk_cell hSw.2.1 2; have t3 := rblk_cell hSw.2.1 3; have t4 := rblk_cell hSw.2.1 4; have t5 := rblk_cell hSw.2.1 5; go_simp; (try with_reducible rfl))
      try simp only [ps]
      refine tk (i := 7) (v := ?vg3_6) rfl (by kernel_rfl) (fun _ _ _ h => h) (Or.inl ⟨by rfl, ?hg3_6⟩) hHeld ?_
      case hg3_6 => (intro w hSw; (try dsimp only at hSw); have t0 := rblk_cell hSw.2.2 0; have t1 := rblk_cell hSw.2.2 1; have t2 := rblk_cell hSw.2.2 2; go_simp; (try with_reducible rfl))
      try simp only [ps]
      refine rd1 (i := 5) (by kernel_rfl) rfl (fun K hK => ?_)
      go_simp
      (go_at_call 68; ((with_reducible refine (HR_2.out _).mono ?_); rintro e Wr3_7 ⟨rfl, hb⟩))
      refine hK.out _ _ ⟨rblk_below hHeld.1 hb, rblk_below hHeld.2.1 hb, rblk_below hHeld.2.2 hb⟩ (fun hH => ?_)
      replace hHeld := hH
      clear hK K hH
      replace P_s := rblk_below P_s hb
      replace oW := oW.below hb
      replace kb := bt kb hb
      replace r0 := (r0.below hb).wide (Nat.le_refl _) hb.size
      replace r1 := (r1.below hb).wide (Nat.le_refl _) hb.size
      clear hb
      try simp only [ps]
      refine rd1 (i := 6) (by kernel_rfl) rfl (fun K hK => ?_)
      go_simp
      (go_at_call 67; ((with_reducible refine (HA_2.out _ kb).mono ?_); rintro e Wr3_8 ⟨ad, rfl, hxd, hyd, od, hapd, hb⟩))
      refine hK.out _ _ ⟨rblk_below hHeld.1 hb, rblk_below hHeld.2.1 hb, rblk_below hHeld.2.2 hb⟩ (fun hH => ?_)
      replace hHeld := hH
      clear hK K hH
      replace P_s := rblk_below P_s hb
      replace oW := oW.below hb
      replace kb := bt kb hb
      replace r0 := (r0.below hb).wide (Nat.le_refl _) hb.size
      replace r1 := (r1.below hb).wide (Nat.le_refl _) hb.size
      clear hapd hxd hyd
      clear hb
      try simp only [ps]
      refine rd1 (i := 8) (by kernel_rfl) rfl (fun K hK => ?_)
      have hgz := rblk_lt P_s
      go_simp
      (go_at_call 69; ((with_reducible refine (HO_2.out _ _ _ od.rds oW.rds).mono ?_); rintro e Wo ⟨a2n, rfl, hxo, hyo, on, hapo, hb⟩))
      refine hK.out _ _ ⟨rblk_below hHeld.1 hb, rblk_below hHeld.2.1 hb, rblk_below hHeld.2.2 hb⟩ (fun hH => ?_)
      replace hHeld := hH
      clear hK K hH
      replace P_s := rblk_below P_s hb
      replace oW := oW.below hb
      replace kb := bt kb hb
      replace r0 := (r0.below hb).wide (Nat.le_refl _) hb.size
      replace r1 := (r1.below hb).wide (Nat.le_refl _) hb.size
      replace od := od.below hb
      replace on := on.wide (lo' := gs + 1) hgz (Nat.le_refl _)
      clear hb hapo hxo hyo od
      try simp only [ps]
      refine tk (i := 9) (v := .pointer (some ⟨gs, 6, none⟩)) rfl (by kernel_rfl) (fun _ _ _ h => h) (Or.inl ⟨by rfl, ?hg3_10⟩) hHeld ?_
      case hg3_10 => (intro w hSw; (try dsimp only at hSw); go_simp; (try rfl))
      try simp only [ps]
      refine rd1 (i := 10) (by kernel_rfl) rfl (fun K hK => ?_)
      have t0 := rblk_cell P_s 6
      have q0 := rblk_free P_s 6
      have t1 := rblk_cell P_s 7
      have q1 := rblk_free P_s 7
      have t2 := rblk_cell P_s 8
      have q2 := rblk_free P_s 8
      go_simp
      clear t0 t1 t2 q0 q1 q2
      have P_s2 : (((Wo.setCell ⟨gs, 6, none⟩ (.bool X2.p)).setCell ⟨gs, 7, none⟩ (.slice a2n.A X2.l.length a2n.c)).setCell ⟨gs, 8, none⟩ (.slice a2n.D X2.m.length a2n.d)).heap[gs]? = some (.cells #[.bool X0.p, .slice a0.A X0.l.length a0.c, .slice a0.D X0.m.length a0.d, .bool X1.p, .slice a1.A X1.l.length a1.c, .slice a1.D X1.m.length a1.d, .bool X2.p, .slice a2n.A X2.l.length a2n.c, .slice a2n.D X2.m.length a2n.d] 29 (0, 0)) := rblk_set (rblk_set (rblk_set P_s 6 (.bool X2.p)) 7 (.slice a2n.A X2.l.length a2n.c)) 8 (.slice a2n.D X2.m.length a2n.d)
      replace oW := ((oW.put (b := gs) (o := 6) (.inr (by have := HG.out; omega)) (.bool X2.p)).put (b := gs) (o := 7) (.inr (by have := HG.out; omega)) (.slice a2n.A X2.l.length a2n.c)).put (b := gs) (o := 8) (.inr (by have := HG.out; omega)) (.slice a2n.D X2.m.length a2n.d)
      replace r0 := ((r0.put (b := gs) (o := 6) (.inl (Nat.lt_succ_self _)) (.bool X2.p)).put (b := gs) (o := 7) (.inl (Nat.lt_succ_self _)) (.slice a2n.A X2.l.length a2n.c)).put (b := gs) (o := 8) (.inl (Nat.lt_succ_self _)) (.slice a2n.D X2.m.length a2n.d)
      replace r1 := ((r1.put (b := gs) (o := 6) (.inl (Nat.lt_succ_self _)) (.bool X2.p)).put (b := gs) (o := 7) (.inl (Nat.lt_succ_self _)) (.slice a2n.A X2.l.length a2n.c)).put (b := gs) (o := 8) (.inl (Nat.lt_succ_self _)) (.slice a2n.D X2.m.length a2n.d)
      replace on := ((on.put (b := gs) (o := 6) (.inl (Nat.lt_succ_self _)) (.bool X2.p)).put (b := gs) (o := 7) (.inl (Nat.lt_succ_self _)) (.slice a2n.A X2.l.length a2n.c)).put (b := gs) (o := 8) (.inl (Nat.lt_succ_self _)) (.slice a2n.D X2.m.length a2n.d)
      replace kb := below_put (o := 8) (below_put (o := 7) (below_put (o := 6) kb (show w.heap.size ≤ gs by have := HG.out; omega) (.bool X2.p)) (show w.heap.size ≤ gs by have := HG.out; omega) (.slice a2n.A X2.l.length a2n.c)) (show w.heap.size ≤ gs by have := HG.out; omega) (.slice a2n.D X2.m.length a2n.d)
      refine hK.out _ _ ⟨rblk_other (rblk_other (rblk_other hHeld.1 6 (.bool X2.p) (show gs ≠ gt by have := HG.out; omega)) 7 (.slice a2n.A X2.l.length a2n.c) (show gs ≠ gt by have := HG.out; omega)) 8 (.slice a2n.D X2.m.length a2n.d) (show gs ≠ gt by have := HG.out; omega), rblk_other (rblk_other (rblk_other hHeld.2.1 6 (.bool X2.p) (show gs ≠ w.heap.size by have := HG.out; omega)) 7 (.slice a2n.A X2.l.length a2n.c) (show gs ≠ w.heap.size by have := HG.out; omega)) 8 (.slice a2n.D X2.m.length a2n.d) (show gs ≠ w.heap.size by have := HG.out; omega), rblk_other (rblk_other (rblk_other hHeld.2.2 6 (.bool X2.p) (show gs ≠ gw by have := HG.out; omega)) 7 (.slice a2n.A X2.l.length a2n.c) (show gs ≠ gw by have := HG.out; omega)) 8 (.slice a2n.D X2.m.length a2n.d) (show gs ≠ gw by have := HG.out; omega)⟩ (fun hH => ?_)
      replace hHeld := hH
      clear hK K hH P_s
      have hsz : Wo.heap.size ≤ (((Wo.setCell ⟨gs, 6, none⟩ (.bool X2.p)).setCell ⟨gs, 7, none⟩ (.slice a2n.A X2.l.length a2n.c)).setCell ⟨gs, 8, none⟩ (.slice a2n.D X2.m.length a2n.d)).heap.size := by simp only [put_size]; exact Nat.le_refl _
      replace r0 := r0.wide (Nat.le_refl _) hsz
      replace r1 := r1.wide (Nat.le_refl _) hsz
      replace on := on.wide (Nat.le_refl _) hsz
      clear hsz
      generalize ((Wo.setCell ⟨gs, 6, none⟩ (.bool X2.p)).setCell ⟨gs, 7, none⟩ (.slice a2n.A X2.l.length a2n.c)).setCell ⟨gs, 8, none⟩ (.slice a2n.D X2.m.length a2n.d) = Wp at hHeld P_s2 oW r0 r1 on kb ⊢
      try simp only [ps]
      refine wpAnyH_done (by kernel_rfl) ?_ _
      have y0 := rblk_cell P_s2 6
      have y1 := rblk_cell P_s2 7
      have y2 := rblk_cell P_s2 8
      obtain ⟨P_t, P_u, P_w⟩ := hHeld
      go_wp2_with fail
      clear y0 y1 y2
      have EX := exists_any X2.p a2n.A a2n.D X2.l.length X2.m.length a2n.c a2n.d Wp HL.out.2.2.2
      rw [decide_eq_true HL.out.2.2.1] at EX
      refine EX.mono ?_
      rintro e Wq ⟨rfl, hb⟩
      clear EX
      replace P_t := rblk_below P_t hb
      replace P_u := rblk_below P_u hb
      replace P_w := rblk_below P_w hb
      replace P_s2 := rblk_below P_s2 hb
      replace oW := oW.below hb
      replace r0 := (r0.below hb).wide (Nat.le_refl _) hb.size
      replace r1 := (r1.below hb).wide (Nat.le_refl _) hb.size
      replace on := (on.below hb).wide (Nat.le_refl _) hb.size
      replace kb := bt kb hb
      clear hb
      have HZ := Lib.hid (And.intro P_s2 (And.intro P_t (And.intro P_u (And.intro P_w (And.intro oW kb)))))
      clear P_s2 P_t P_u P_w oW kb
      have H0z := Lib.hid r0
      clear r0
      have H1z := Lib.hid r1
      clear r1
      have Hnz := Lib.hid on
      clear on
      go_wp2
      go_roundw
      case rel => exact ⟨3, _, a0, a1, a2n, by omega, by go_num, (fun h => by omega), (fun h => by omega), (fun h => by omega), (fun _ => rfl), HZ.out.1, (fun _ => H0z.out), (fun _ => H1z.out), (fun _ => Hnz.out), HZ.out.2.1, HZ.out.2.2.1, HZ.out.2.2.2.1, HZ.out.2.2.2.2.1, HZ.out.2.2.2.2.2⟩
      case measure => simp [intOf]
    · obtain rfl := n3 rfl
      have HR : Hid (MadeL3 X0 X1 X2 w (.returned (.slice (some ⟨gs, 0, none⟩) 3 3)) wr) := Lib.hid ⟨gs, a0, a1, a2, rfl, P_s, ⟨(r0 (by omega)).rds, (r1 (by omega)).rds, (r2 (by omega)).rds⟩, kb⟩
      clear n0 n1 n2 hj P_s r0 r1 r2 P_t P_u P_w oW kb
      go_wp2
      go_ret
      exact HR.out
end Go.Proofs.YtenjjojbjpmhbaaGreat
