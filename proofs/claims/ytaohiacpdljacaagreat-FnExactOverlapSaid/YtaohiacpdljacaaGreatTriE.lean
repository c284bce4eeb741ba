/-
  The model's question whether a side of a triangle has another one outside.
-/
import Derived.Test.YtaohiacpdljacaaGreatTriS
import Derived.Test.YtaohiacpdljacaaGreatTriB
import Derived.Test.YtaohiacpdljacaaGreatSlH
namespace Go.Proofs.YtaohiacpdljacaaGreat
open Go.ChangeShapes Go.WideShapes Go.ChangeAt Go.RowKit
open Go.ChangeMaps (open_string shut_string)
set_option linter.unusedVariables false
set_option linter.unusedSimpArgs false
set_option maxRecDepth 4000

attribute [local go_sem ↓] Go.wp_at_zero Go.wp_at_succ
/-- None of the points is on the inner side. -/
def offB (a b : PV) (M : List PV) : Bool := M.all (fun x => !rB a b x)
theorem offB_app (a b : PV) (M : List PV) (x : PV) : offB a b (M ++ [x]) = (offB a b M && !rB a b x) := by simp [offB]
theorem offB_three (a b u v s : PV) : offB a b [u, v, s] = !reachB a b u v s := by simp [offB, reachB]
set_option maxHeartbeats 4000000 in
theorem spec_apart (p q r u v s : PV) (A D : Option Addr) (c d : Nat) (w : World) (hL : ∀ x, x ∈ [p, q, r] → LenP x) (hC : ∀ x, x ∈ [p, q, r] → CapP x) (hA : RdS w A (flat [p, q, r])) (hR : Rds w (lrow [p, q, r])) (hL' : ∀ x, x ∈ [u, v, s] → LenP x) (hC' : ∀ x, x ∈ [u, v, s] → CapP x) (hA' : RdS w D (flat [u, v, s])) (hR' : Rds w (lrow [u, v, s])) :
    Calls Tryz.prog 56 #[.slice A 3 c, .slice D 3 d] w (fun e w' => e = .returned (.bool (sepB p q r u v s)) ∧ Below w.heap.size w w') := by
  have HA_0 : Hid (∀ x, x ∈ [u, v, s] → ∀ W, Below w.heap.size w W → Calls Tryz.prog 47 #[.agg #[.bool p.x.p, .slice p.a.A p.x.l.length p.a.c, .slice p.a.D p.x.m.length p.a.d, .bool p.y.p, .slice p.b.A p.y.l.length p.b.c, .slice p.b.D p.y.m.length p.b.d], .agg #[.bool q.x.p, .slice q.a.A q.x.l.length q.a.c, .slice q.a.D q.x.m.length q.a.d, .bool q.y.p, .slice q.b.A q.y.l.length q.b.c, .slice q.b.D q.y.m.length q.b.d], .agg #[.bool x.x.p, .slice x.a.A x.x.l.length x.a.c, .slice x.a.D x.x.m.length x.a.d, .bool x.y.p, .slice x.b.A x.y.l.length x.b.c, .slice x.b.D x.y.m.length x.b.d]] W (MadeQ W.heap.size (ofO (aV p q x)) W)) := Lib.hid (fun x hx W hB => spec_areaV p q x W (hL p (by simp)) (hL q (by simp)) (hL' x hx) (hC p (by simp)) (hC q (by simp)) (hC' x hx) ((hR.at (i := 0) rfl).below hB) ((hR.at (i := 1) rfl).below hB) (Rds.below (w := w) (rs := prow x) (fun rr hr => hR' rr (List.mem_flatMap.2 ⟨x, hx, hr⟩)) hB))
  have HS_0 := Lib.hid (fun x a1 W hr => spec_sign_r (ofO (aV p q x)) a1 W (Nat.le_trans (aV_fit p q x).len.1 (by omega)) (Nat.le_trans (aV_fit p q x).len.2 (by omega)) hr)
  have HV_0 : Hid (∀ x, sgnO (valx (ofO (aV p q x))) = sgnO (aV p q x)) := Lib.hid (fun x => by rw [valx_ofO (aV_fit p q x)])
  have HA_1 : Hid (∀ x, x ∈ [u, v, s] → ∀ W, Below w.heap.size w W → Calls Tryz.prog 47 #[.agg #[.bool q.x.p, .slice q.a.A q.x.l.length q.a.c, .slice q.a.D q.x.m.length q.a.d, .bool q.y.p, .slice q.b.A q.y.l.length q.b.c, .slice q.b.D q.y.m.length q.b.d], .agg #[.bool r.x.p, .slice r.a.A r.x.l.length r.a.c, .slice r.a.D r.x.m.length r.a.d, .bool r.y.p, .slice r.b.A r.y.l.length r.b.c, .slice r.b.D r.y.m.length r.b.d], .agg #[.bool x.x.p, .slice x.a.A x.x.l.length x.a.c, .slice x.a.D x.x.m.length x.a.d, .bool x.y.p, .slice x.b.A x.y.l.length x.b.c, .slice x.b.D x.y.m.length x.b.d]] W (MadeQ W.heap.size (ofO (aV q r x)) W)) := Lib.hid (fun x hx W hB => spec_areaV q r x W (hL q (by simp)) (hL r (by simp)) (hL' x hx) (hC q (by simp)) (hC r (by simp)) (hC' x hx) ((hR.at (i := 1) rfl).below hB) ((hR.at (i := 2) rfl).below hB) (Rds.below (w := w) (rs := prow x) (fun rr hr => hR' rr (List.mem_flatMap.2 ⟨x, hx, hr⟩)) hB))
  have HS_1 := Lib.hid (fun x a1 W hr => spec_sign_r (ofO (aV q r x)) a1 W (Nat.le_trans (aV_fit q r x).len.1 (by omega)) (Nat.le_trans (aV_fit q r x).len.2 (by omega)) hr)
  have HV_1 : Hid (∀ x, sgnO (valx (ofO (aV q r x))) = sgnO (aV q r x)) := Lib.hid (fun x => by rw [valx_ofO (aV_fit q r x)])
  have HA_2 : Hid (∀ x, x ∈ [u, v, s] → ∀ W, Below w.heap.size w W → Calls Tryz.prog 47 #[.agg #[.bool r.x.p, .slice r.a.A r.x.l.length r.a.c, .slice r.a.D r.x.m.length r.a.d, .bool r.y.p, .slice r.b.A r.y.l.length r.b.c, .slice r.b.D r.y.m.length r.b.d], .agg #[.bool p.x.p, .slice p.a.A p.x.l.length p.a.c, .slice p.a.D p.x.m.length p.a.d, .bool p.y.p, .slice p.b.A p.y.l.length p.b.c, .slice p.b.D p.y.m.length p.b.d], .agg #[.bool x.x.p, .slice x.a.A x.x.l.length x.a.c, .slice x.a.D x.x.m.length x.a.d, .bool x.y.p, .slice x.b.A x.y.l.length x.b.c, .slice x.b.D x.y.m.length x.b.d]] W (MadeQ W.heap.size (ofO (aV r p x)) W)) := Lib.hid (fun x hx W hB => spec_areaV r p x W (hL r (by simp)) (hL p (by simp)) (hL' x hx) (hC r (by simp)) (hC p (by simp)) (hC' x hx) ((hR.at (i := 2) rfl).below hB) ((hR.at (i := 0) rfl).below hB) (Rds.below (w := w) (rs := prow x) (fun rr hr => hR' rr (List.mem_flatMap.2 ⟨x, hx, hr⟩)) hB))
  have HS_2 := Lib.hid (fun x a1 W hr => spec_sign_r (ofO (aV r p x)) a1 W (Nat.le_trans (aV_fit r p x).len.1 (by omega)) (Nat.le_trans (aV_fit r p x).len.2 (by omega)) hr)
  have HV_2 : Hid (∀ x, sgnO (valx (ofO (aV r p x))) = sgnO (aV r p x)) := Lib.hid (fun x => by rw [valx_ofO (aV_fit r p x)])
  have HF : Hid (sepB p q r u v s = (offB p q [u, v, s] || (offB q r [u, v, s] || offB r p [u, v, s]))) := Lib.hid (by rw [offB_three, offB_three, offB_three]; rfl)
  obtain ⟨g, o, rfl, hg, c0, c1, c2, c3, c4, c5, c6, c7, c8, c9, c10, c11, c12, c13, c14, c15, c16, c17⟩ := hA.tri
  obtain ⟨g', o', rfl, hg', _⟩ := hA'.tri
  have SL : Hid (∀ w', Below w.heap.size w w' → (w'.cell? ⟨g, o, none⟩ = some (.bool p.x.p) ∧ w'.cell? ⟨g, o + 1, none⟩ = some (.slice p.a.A p.x.l.length p.a.c) ∧ w'.cell? ⟨g, o + 2, none⟩ = some (.slice p.a.D p.x.m.length p.a.d) ∧ w'.cell? ⟨g, o + 3, none⟩ = some (.bool p.y.p) ∧ w'.cell? ⟨g, o + 4, none⟩ = some (.slice p.b.A p.y.l.length p.b.c) ∧ w'.cell? ⟨g, o + 5, none⟩ = some (.slice p.b.D p.y.m.length p.b.d) ∧ w'.cell? ⟨g, o + 6, none⟩ = some (.bool q.x.p) ∧ w'.cell? ⟨g, o + 7, none⟩ = some (.slice q.a.A q.x.l.length q.a.c) ∧ w'.cell? ⟨g, o + 8, none⟩ = some (.slice q.a.D q.x.m.length q.a.d) ∧ w'.cell? ⟨g, o + 9, none⟩ = some (.bool q.y.p) ∧ w'.cell? ⟨g, o + 10, none⟩ = some (.slice q.b.A q.y.l.length q.b.c) ∧ w'.cell? ⟨g, o + 11, none⟩ = some (.slice q.b.D q.y.m.length q.b.d) ∧ w'.cell? ⟨g, o + 12, none⟩ = some (.bool r.x.p) ∧ w'.cell? ⟨g, o + 13, none⟩ = some (.slice r.a.A r.x.l.length r.a.c) ∧ w'.cell? ⟨g, o + 14, none⟩ = some (.slice r.a.D r.x.m.length r.a.d) ∧ w'.cell? ⟨g, o + 15, none⟩ = some (.bool r.y.p) ∧ w'.cell? ⟨g, o + 16, none⟩ = some (.slice r.b.A r.y.l.length r.b.c) ∧ w'.cell? ⟨g, o + 17, none⟩ = some (.slice r.b.D r.y.m.length r.b.d))) := Lib.hid (fun w' hB => ⟨below_cell hB c0, below_cell hB c1, below_cell hB c2, below_cell hB c3, below_cell hB c4, below_cell hB c5, below_cell hB c6, below_cell hB c7, below_cell hB c8, below_cell hB c9, below_cell hB c10, below_cell hB c11, below_cell hB c12, below_cell hB c13, below_cell hB c14, below_cell hB c15, below_cell hB c16, below_cell hB c17⟩)
  have SM : Hid (∀ w', Below w.heap.size w w' → RdS w' (some ⟨g', o', none⟩) (flat [u, v, s])) := Lib.hid (fun w' hB => hA'.below hB)
  clear hA hR hL hC hA' hR' hL' hC' c0 c1 c2 c3 c4 c5 c6 c7 c8 c9 c10 c11 c12 c13 c14 c15 c16 c17
  rw [HF.out]
  go_enter Tryz.func56, Tryz.ntmps56
  go_wp2_with fail
  go_loopw [12] (fun k w' => ∃ j : Nat, j ≤ 3 ∧ k = .int .i64 (j : Int) ∧ (0 < j → offB p q [u, v, s] = false) ∧ (1 < j → offB q r [u, v, s] = false) ∧ (2 < j → offB r p [u, v, s] = false) ∧ Below w.heap.size w w') (fun k _ => 3 - (intOf k).toNat)
  case atStart => exact ⟨0, by omega, rfl, (fun h => by omega), (fun h => by omega), (fun h => by omega), Below.refl _ _⟩
  case round =>
    obtain ⟨j, hj, rfl, n0, n1, n2, kr⟩ := hrel
    have hjc : j = 0 ∨ j = 1 ∨ j = 2 ∨ j = 3 := by omega
    rcases hjc with rfl | rfl | rfl | rfl
    · have N0 := Lib.hid (And.intro n0 (And.intro n1 n2))
      clear n0 n1 n2
      have P_n := heap_alloc_new wr (.cells #[.bool false, .slice none 0 0, .slice none 0 0, .bool false, .slice none 0 0, .slice none 0 0] 31)
      have P_a := rowV_set P_n #[.bool p.x.p, .slice p.a.A p.x.l.length p.a.c, .slice p.a.D p.x.m.length p.a.d, .bool p.y.p, .slice p.b.A p.y.l.length p.b.c, .slice p.b.D p.y.m.length p.b.d]
      have k1 := below_setRow (kr.alloc kr.size (.cells #[.bool false, .slice none 0 0, .slice none 0 0, .bool false, .slice none 0 0, .slice none 0 0] 31)) (show w.heap.size ≤ wr.heap.size from kr.size) #[.bool p.x.p, .slice p.a.A p.x.l.length p.a.c, .slice p.a.D p.x.m.length p.a.d, .bool p.y.p, .slice p.b.A p.y.l.length p.b.c, .slice p.b.D p.y.m.length p.b.d]
      have hga : w.heap.size ≤ wr.heap.size := kr.size
      obtain ⟨c0, c1, c2, c3, c4, c5, c6, c7, c8, c9, c10, c11, c12, c13, c14, c15, c16, c17⟩ := SL.out _ kr
      go_wp2_with (refine wpList_store_row rfl 31 (.tmp 6) (.tmp 16) rfl (wr.heap.size) #[.bool p.x.p, .slice p.a.A p.x.l.length p.a.c, .slice p.a.D p.x.m.length p.a.d, .bool p.y.p, .slice p.b.A p.y.l.length p.b.c, .slice p.b.D p.y.m.length p.b.d] rfl rfl 31 _ P_n pt_size rfl (by simp [Value.oneCell']) ?_)
      clear c0 c1 c2 c3 c4 c5 c6 c7 c8 c9 c10 c11 c12 c13 c14 c15 c16 c17 P_n
      generalize (wr.alloc (.cells #[.bool false, .slice none 0 0, .slice none 0 0, .bool false, .slice none 0 0, .slice none 0 0] 31)).setRow wr.heap.size #[.bool p.x.p, .slice p.a.A p.x.l.length p.a.c, .slice p.a.D p.x.m.length p.a.d, .bool p.y.p, .slice p.b.A p.y.l.length p.b.c, .slice p.b.D p.y.m.length p.b.d] = W1 at P_a k1 ⊢
      generalize wr.heap.size = ga at P_a hga ⊢
      clear kr
      go_loopw [7, 19] (fun b k w' => ∃ (j : Nat) (bb : Bool), j ≤ 3 ∧ k = .int .i64 (j : Int) ∧ b = .bool bb ∧ bb = offB p q ([u, v, s].take j) ∧ Below W1.heap.size W1 w') (fun _ k _ => 3 - (intOf k).toNat)
      case atStart => exact ⟨0, true, by omega, rfl, rfl, rfl, Below.refl _ _⟩
      case round =>
        obtain ⟨j, bb, hj, rfl, rfl, hbb, hb⟩ := hrel
        by_cases hlt : j < 3
        · obtain ⟨x, hx⟩ := getP (L := [u, v, s]) hlt
          have hxm : x ∈ [u, v, s] := List.mem_of_getElem? hx
          have HBB : Hid (offB p q ([u, v, s].take (j + 1)) = (bb && !rB p q x)) := Lib.hid (by rw [take_succP hx, offB_app, hbb])
          clear hbb
          have k2 := bt k1 hb
          have hi0 : (0 : Int) ≤ (j : Int) := by omega
          have hi1 : (j : Int) < 3 := by omega
          obtain ⟨_, _, he, _, d0, d1, d2, d3, d4, d5⟩ := (SM.out _ k2).six hx
          injection he with he
          injection he with he1 he2
          subst he1
          subst he2
          have P_n := heap_alloc_new wr (.cells #[.bool false, .slice none 0 0, .slice none 0 0, .bool false, .slice none 0 0, .slice none 0 0] 31)
          have P_x := rowV_set P_n #[.bool x.x.p, .slice x.a.A x.x.l.length x.a.c, .slice x.a.D x.x.m.length x.a.d, .bool x.y.p, .slice x.b.A x.y.l.length x.b.c, .slice x.b.D x.y.m.length x.b.d]
          have P_a2 := rowV_other (rblk_below (rblk_below P_a hb) (ba1 wr (.cells #[.bool false, .slice none 0 0, .slice none 0 0, .bool false, .slice none 0 0, .slice none 0 0] 31))) (show wr.heap.size ≠ ga by have := rblk_lt P_a; have := hb.size; omega) #[.bool x.x.p, .slice x.a.A x.x.l.length x.a.c, .slice x.a.D x.x.m.length x.a.d, .bool x.y.p, .slice x.b.A x.y.l.length x.b.c, .slice x.b.D x.y.m.length x.b.d]
          have k3 := below_setRow (k2.alloc k2.size (.cells #[.bool false, .slice none 0 0, .slice none 0 0, .bool false, .slice none 0 0, .slice none 0 0] 31)) (show w.heap.size ≤ wr.heap.size from k2.size) #[.bool x.x.p, .slice x.a.A x.x.l.length x.a.c, .slice x.a.D x.x.m.length x.a.d, .bool x.y.p, .slice x.b.A x.y.l.length x.b.c, .slice x.b.D x.y.m.length x.b.d]
          have z3 := below_setRow (hb.alloc hb.size (.cells #[.bool false, .slice none 0 0, .slice none 0 0, .bool false, .slice none 0 0, .slice none 0 0] 31)) (show W1.heap.size ≤ wr.heap.size from hb.size) #[.bool x.x.p, .slice x.a.A x.x.l.length x.a.c, .slice x.a.D x.x.m.length x.a.d, .bool x.y.p, .slice x.b.A x.y.l.length x.b.c, .slice x.b.D x.y.m.length x.b.d]
          go_wp2_with (refine wpList_store_row rfl 31 (.tmp 9) (.tmp 22) rfl (wr.heap.size) #[.bool x.x.p, .slice x.a.A x.x.l.length x.a.c, .slice x.a.D x.x.m.length x.a.d, .bool x.y.p, .slice x.b.A x.y.l.length x.b.c, .slice x.b.D x.y.m.length x.b.d] rfl rfl 31 _ P_n pt_size rfl (by simp [Value.oneCell']) ?_)
          clear d0 d1 d2 d3 d4 d5 P_n hx
          generalize (wr.alloc (.cells #[.bool false, .slice none 0 0, .slice none 0 0, .bool false, .slice none 0 0, .slice none 0 0] 31)).setRow wr.heap.size #[.bool x.x.p, .slice x.a.A x.x.l.length x.a.c, .slice x.a.D x.x.m.length x.a.d, .bool x.y.p, .slice x.b.A x.y.l.length x.b.c, .slice x.b.D x.y.m.length x.b.d] = W2 at P_x P_a2 k3 z3 ⊢
          generalize wr.heap.size = gx at P_x ⊢
          cases bb with
          | false =>
            go_quiet (fail)
            go_wp2
            go_roundw
            case rel => exact ⟨j + 1, false, by omega, by go_num, rfl, by rw [HBB.out]; rfl, below_drewN z3 _⟩
            case measure => simp [intOf]; omega
          | true =>
            have HA := Lib.hid (HA_0.out x hxm)
            have HSG := Lib.hid (HS_0.out x)
            rw [HV_0.out x] at HSG
            have HQ : Hid (offB p q ([u, v, s].take (j + 1)) = decide (sgnO (aV p q x) ≤ 0)) := Lib.hid (by
              rw [HBB.out]
              unfold rB
              by_cases h0 : 0 < sgnO (aV p q x)
              · rw [decide_eq_true h0, decide_eq_false (by omega)]; rfl
              · rw [decide_eq_false h0, decide_eq_true (by omega)]; rfl)
            generalize sgnO (aV p q x) = sg at HSG HQ
            generalize ofO (aV p q x) = U at HA HSG
            unfold MadeQ at HA
            have SB : Hid (∀ w', Below W2.heap.size W2 w' → (w'.cell? ⟨ga, 0, none⟩ = some (.bool p.x.p) ∧ w'.cell? ⟨ga, 1, none⟩ = some (.slice p.a.A p.x.l.length p.a.c) ∧ w'.cell? ⟨ga, 2, none⟩ = some (.slice p.a.D p.x.m.length p.a.d) ∧ w'.cell? ⟨ga, 3, none⟩ = some (.bool p.y.p) ∧ w'.cell? ⟨ga, 4, none⟩ = some (.slice p.b.A p.y.l.length p.b.c) ∧ w'.cell? ⟨ga, 5, none⟩ = some (.slice p.b.D p.y.m.length p.b.d) ∧ w'.cell? ⟨g, o + 6, none⟩ = some (.bool q.x.p) ∧ w'.cell? ⟨g, o + 7, none⟩ = some (.slice q.a.A q.x.l.length q.a.c) ∧ w'.cell? ⟨g, o + 8, none⟩ = some (.slice q.a.D q.x.m.length q.a.d) ∧ w'.cell? ⟨g, o + 9, none⟩ = some (.bool q.y.p) ∧ w'.cell? ⟨g, o + 10, none⟩ = some (.slice q.b.A q.y.l.length q.b.c) ∧ w'.cell? ⟨g, o + 11, none⟩ = some (.slice q.b.D q.y.m.length q.b.d) ∧ w'.cell? ⟨gx, 0, none⟩ = some (.bool x.x.p) ∧ w'.cell? ⟨gx, 1, none⟩ = some (.slice x.a.A x.x.l.length x.a.c) ∧ w'.cell? ⟨gx, 2, none⟩ = some (.slice x.a.D x.x.m.length x.a.d) ∧ w'.cell? ⟨gx, 3, none⟩ = some (.bool x.y.p) ∧ w'.cell? ⟨gx, 4, none⟩ = some (.slice x.b.A x.y.l.length x.b.c) ∧ w'.cell? ⟨gx, 5, none⟩ = some (.slice x.b.D x.y.m.length x.b.d) ∧ Below W2.heap.size W2 w')) := Lib.hid (fun w' hB => ⟨rblk_cell (rblk_below P_a2 hB) 0, rblk_cell (rblk_below P_a2 hB) 1, rblk_cell (rblk_below P_a2 hB) 2, rblk_cell (rblk_below P_a2 hB) 3, rblk_cell (rblk_below P_a2 hB) 4, rblk_cell (rblk_below P_a2 hB) 5, (SL.out _ (bt k3 hB)).2.2.2.2.2.2.1, (SL.out _ (bt k3 hB)).2.2.2.2.2.2.2.1, (SL.out _ (bt k3 hB)).2.2.2.2.2.2.2.2.1, (SL.out _ (bt k3 hB)).2.2.2.2.2.2.2.2.2.1, (SL.out _ (bt k3 hB)).2.2.2.2.2.2.2.2.2.2.1, (SL.out _ (bt k3 hB)).2.2.2.2.2.2.2.2.2.2.2.1, rblk_cell (rblk_below P_x hB) 0, rblk_cell (rblk_below P_x hB) 1, rblk_cell (rblk_below P_x hB) 2, rblk_cell (rblk_below P_x hB) 3, rblk_cell (rblk_below P_x hB) 4, rblk_cell (rblk_below P_x hB) 5, hB⟩)
            have KW := Lib.hid k3
            have ZW := Lib.hid z3
            clear k3 z3 HBB
            have hw0 : IntKind.i64.wrap 0 = 0 := by decide
            have hw1 : IntKind.i64.wrap 1 = 1 := by decide
            have hw2 : IntKind.i64.wrap 2 = 2 := by decide
            have hw3 : IntKind.i64.wrap 3 = 3 := by decide
            go_region_held3 (fun w' => w'.cell? ⟨ga, 0, none⟩ = some (.bool p.x.p) ∧ w'.cell? ⟨ga, 1, none⟩ = some (.slice p.a.A p.x.l.length p.a.c) ∧ w'.cell? ⟨ga, 2, none⟩ = some (.slice p.a.D p.x.m.length p.a.d) ∧ w'.cell? ⟨ga, 3, none⟩ = some (.bool p.y.p) ∧ w'.cell? ⟨ga, 4, none⟩ = some (.slice p.b.A p.y.l.length p.b.c) ∧ w'.cell? ⟨ga, 5, none⟩ = some (.slice p.b.D p.y.m.length p.b.d) ∧ w'.cell? ⟨g, o + 6, none⟩ = some (.bool q.x.p) ∧ w'.cell? ⟨g, o + 7, none⟩ = some (.slice q.a.A q.x.l.length q.a.c) ∧ w'.cell? ⟨g, o + 8, none⟩ = some (.slice q.a.D q.x.m.length q.a.d) ∧ w'.cell? ⟨g, o + 9, none⟩ = some (.bool q.y.p) ∧ w'.cell? ⟨g, o + 10, none⟩ = some (.slice q.b.A q.y.l.length q.b.c) ∧ w'.cell? ⟨g, o + 11, none⟩ = some (.slice q.b.D q.y.m.length q.b.d) ∧ w'.cell? ⟨gx, 0, none⟩ = some (.bool x.x.p) ∧ w'.cell? ⟨gx, 1, none⟩ = some (.slice x.a.A x.x.l.length x.a.c) ∧ w'.cell? ⟨gx, 2, none⟩ = some (.slice x.a.D x.x.m.length x.a.d) ∧ w'.cell? ⟨gx, 3, none⟩ = some (.bool x.y.p) ∧ w'.cell? ⟨gx, 4, none⟩ = some (.slice x.b.A x.y.l.length x.b.c) ∧ w'.cell? ⟨gx, 5, none⟩ = some (.slice x.b.D x.y.m.length x.b.d) ∧ Below W2.heap.size W2 w')
              (first | (with_reducible exact SB.out _ (Below.refl _ _).drew) | (with_reducible exact SB.out _ (Below.refl _ _)) | (go_split_ands; with_reducible exact SB.out _ (bt (by assumption : Below W2.heap.size W2 _) hb)))
              (first | (go_at_call 47; go_split_ands; ((with_reducible refine (HA.out _ (bt KW.out (by assumption : Below W2.heap.size W2 _))).mono ?_); rintro e Wq ⟨a1, rfl, hc1, hc2, o1, hap1, hb⟩; skip)) | (go_at_call 86; go_split_ands; ((with_reducible refine (HSG.out _ _ (by first | with_reducible exact o1.rds | with_reducible exact (Owns.drew o1).rds | with_reducible exact (o1.below (ba1 _ _)).rds | with_reducible exact (Owns.drew (o1.below (ba1 _ _))).rds)).mono ?_); rintro e Wq2 ⟨rfl, hb⟩; skip)))
            all_goals
              have hfin := (‹_ ∧ _ ∧ _ ∧ _ ∧ _ ∧ _ ∧ _ ∧ _ ∧ _ ∧ _ ∧ _ ∧ _ ∧ _ ∧ _ ∧ _ ∧ _ ∧ _ ∧ _ ∧ Below W2.heap.size W2 _›).2.2.2.2.2.2.2.2.2.2.2.2.2.2.2.2.2.2
              go_wp2
              go_roundw
              case rel => exact ⟨j + 1, _, by omega, by go_num, rfl, by rw [HQ.out], bt ZW.out hfin⟩
              case measure => simp [intOf]; omega
        · obtain rfl : j = 3 := by omega
          have hq : bb = offB p q [u, v, s] := hbb
          have k2 := bt k1 hb
          clear hbb
          cases bb with
          | true =>
            have HQ := Lib.hid hq.symm
            clear hq
            go_wp2
            go_ret
            exact ⟨by rw [HQ.out]; simp, k2⟩
          | false =>
            have HQ := Lib.hid hq.symm
            clear hq
            go_wp2
            go_roundw
            case rel => exact ⟨1, by omega, by go_num, (fun _ => HQ.out), (fun h => by omega), (fun h => by omega), k2⟩
            case measure => simp [intOf]
    · have N0 := Lib.hid (And.intro n0 (And.intro n1 n2))
      clear n0 n1 n2
      have P_n := heap_alloc_new wr (.cells #[.bool false, .slice none 0 0, .slice none 0 0, .bool false, .slice none 0 0, .slice none 0 0] 31)
      have P_a := rowV_set P_n #[.bool q.x.p, .slice q.a.A q.x.l.length q.a.c, .slice q.a.D q.x.m.length q.a.d, .bool q.y.p, .slice q.b.A q.y.l.length q.b.c, .slice q.b.D q.y.m.length q.b.d]
      have k1 := below_setRow (kr.alloc kr.size (.cells #[.bool false, .slice none 0 0, .slice none 0 0, .bool false, .slice none 0 0, .slice none 0 0] 31)) (show w.heap.size ≤ wr.heap.size from kr.size) #[.bool q.x.p, .slice q.a.A q.x.l.length q.a.c, .slice q.a.D q.x.m.length q.a.d, .bool q.y.p, .slice q.b.A q.y.l.length q.b.c, .slice q.b.D q.y.m.length q.b.d]
      have hga : w.heap.size ≤ wr.heap.size := kr.size
      obtain ⟨c0, c1, c2, c3, c4, c5, c6, c7, c8, c9, c10, c11, c12, c13, c14, c15, c16, c17⟩ := SL.out _ kr
      go_wp2_with (refine wpList_store_row rfl 31 (.tmp 6) (.tmp 16) rfl (wr.heap.size) #[.bool q.x.p, .slice q.a.A q.x.l.length q.a.c, .slice q.a.D q.x.m.length q.a.d, .bool q.y.p, .slice q.b.A q.y.l.length q.b.c, .slice q.b.D q.y.m.length q.b.d] rfl rfl 31 _ P_n pt_size rfl (by simp [Value.oneCell']) ?_)
      clear c0 c1 c2 c3 c4 c5 c6 c7 c8 c9 c10 c11 c12 c13 c14 c15 c16 c17 P_n
      generalize (wr.alloc (.cells #[.bool false, .slice none 0 0, .slice none 0 0, .bool false, .slice none 0 0, .slice none 0 0] 31)).setRow wr.heap.size #[.bool q.x.p, .slice q.a.A q.x.l.length q.a.c, .slice q.a.D q.x.m.length q.a.d, .bool q.y.p, .slice q.b.A q.y.l.length q.b.c, .slice q.b.D q.y.m.length q.b.d] = W1 at P_a k1 ⊢
      generalize wr.heap.size = ga at P_a hga ⊢
      clear kr
      go_loopw [7, 19] (fun b k w' => ∃ (j : Nat) (bb : Bool), j ≤ 3 ∧ k = .int .i64 (j : Int) ∧ b = .bool bb ∧ bb = offB q r ([u, v, s].take j) ∧ Below W1.heap.size W1 w') (fun _ k _ => 3 - (intOf k).toNat)
      case atStart => exact ⟨0, true, by omega, rfl, rfl, rfl, Below.refl _ _⟩
      case round =>
        obtain ⟨j, bb, hj, rfl, rfl, hbb, hb⟩ := hrel
        by_cases hlt : j < 3
        · obtain ⟨x, hx⟩ := getP (L := [u, v, s]) hlt
          have hxm : x ∈ [u, v, s] := List.mem_of_getElem? hx
          have HBB : Hid (offB q r ([u, v, s].take (j + 1)) = (bb && !rB q r x)) := Lib.hid (by rw [take_succP hx, offB_app, hbb])
          clear hbb
          have k2 := bt k1 hb
          have hi0 : (0 : Int) ≤ (j : Int) := by omega
          have hi1 : (j : Int) < 3 := by omega
          obtain ⟨_, _, he, _, d0, d1, d2, d3, d4, d5⟩ := (SM.out _ k2).six hx
          injection he with he
          injection he with he1 he2
          subst he1
          subst he2
          have P_n := heap_alloc_new wr (.cells #[.bool false, .slice none 0 0, .slice none 0 0, .bool false, .slice none 0 0, .slice none 0 0] 31)
          have P_x := rowV_set P_n #[.bool x.x.p, .slice x.a.A x.x.l.length x.a.c, .slice x.a.D x.x.m.length x.a.d, .bool x.y.p, .slice x.b.A x.y.l.length x.b.c, .slice x.b.D x.y.m.length x.b.d]
          have P_a2 := rowV_other (rblk_below (rblk_below P_a hb) (ba1 wr (.cells #[.bool false, .slice none 0 0, .slice none 0 0, .bool false, .slice none 0 0, .slice none 0 0] 31))) (show wr.heap.size ≠ ga by have := rblk_lt P_a; have := hb.size; omega) #[.bool x.x.p, .slice x.a.A x.x.l.length x.a.c, .slice x.a.D x.x.m.length x.a.d, .bool x.y.p, .slice x.b.A x.y.l.length x.b.c, .slice x.b.D x.y.m.length x.b.d]
          have k3 := below_setRow (k2.alloc k2.size (.cells #[.bool false, .slice none 0 0, .slice none 0 0, .bool false, .slice none 0 0, .slice none 0 0] 31)) (show w.heap.size ≤ wr.heap.size from k2.size) #[.bool x.x.p, .slice x.a.A x.x.l.length x.a.c, .slice x.a.D x.x.m.length x.a.d, .bool x.y.p, .slice x.b.A x.y.l.length x.b.c, .slice x.b.D x.y.m.length x.b.d]
          have z3 := below_setRow (hb.alloc hb.size (.cells #[.bool false, .slice none 0 0, .slice none 0 0, .bool false, .slice none 0 0, .slice none 0 0] 31)) (show W1.heap.size ≤ wr.heap.size from hb.size) #[.bool x.x.p, .slice x.a.A x.x.l.length x.a.c, .slice x.a.D x.x.m.length x.a.d, .bool x.y.p, .slice x.b.A x.y.l.length x.b.c, .slice x.b.D x.y.m.length x.b.d]
          go_wp2_with (refine wpList_store_row rfl 31 (.tmp 9) (.tmp 22) rfl (wr.heap.size) #[.bool x.x.p, .slice x.a.A x.x.l.length x.a.c, .slice x.a.D x.x.m.length x.a.d, .bool x.y.p, .slice x.b.A x.y.l.length x.b.c, .slice x.b.D x.y.m.length x.b.d] rfl rfl 31 _ P_n pt_size rfl (by simp [Value.oneCell']) ?_)
          clear d0 d1 d2 d3 d4 d5 P_n hx
          generalize (wr.alloc (.cells #[.bool false, .slice none 0 0, .slice none 0 0, .bool false, .slice none 0 0, .slice none 0 0] 31)).setRow wr.heap.size #[.bool x.x.p, .slice x.a.A x.x.l.length x.a.c, .slice x.a.D x.x.m.length x.a.d, .bool x.y.p, .slice x.b.A x.y.l.length x.b.c, .slice x.b.D x.y.m.length x.b.d] = W2 at P_x P_a2 k3 z3 ⊢
          generalize wr.heap.size = gx at P_x ⊢
          cases bb with
          | false =>
            go_quiet (fail)
            go_wp2
            go_roundw
            case rel => exact ⟨j + 1, false, by omega, by go_num, rfl, by rw [HBB.out]; rfl, below_drewN z3 _⟩
            case measure => simp [intOf]; omega
          | true =>
            have HA := Lib.hid (HA_1.out x hxm)
            have HSG := Lib.hid (HS_1.out x)
            rw [HV_1.out x] at HSG
            have HQ : Hid (offB q r ([u, v, s].take (j + 1)) = decide (sgnO (aV q r x) ≤ 0)) := Lib.hid (by
              rw [HBB.out]
              unfold rB
              by_cases h0 : 0 < sgnO (aV q r x)
              · rw [decide_eq_true h0, decide_eq_false (by omega)]; rfl
              · rw [decide_eq_false h0, decide_eq_true (by omega)]; rfl)
            generalize sgnO (aV q r x) = sg at HSG HQ
            generalize ofO (aV q r x) = U at HA HSG
            unfold MadeQ at HA
            have SB : Hid (∀ w', Below W2.heap.size W2 w' → (w'.cell? ⟨ga, 0, none⟩ = some (.bool q.x.p) ∧ w'.cell? ⟨ga, 1, none⟩ = some (.slice q.a.A q.x.l.length q.a.c) ∧ w'.cell? ⟨ga, 2, none⟩ = some (.slice q.a.D q.x.m.length q.a.d) ∧ w'.cell? ⟨ga, 3, none⟩ = some (.bool q.y.p) ∧ w'.cell? ⟨ga, 4, none⟩ = some (.slice q.b.A q.y.l.length q.b.c) ∧ w'.cell? ⟨ga, 5, none⟩ = some (.slice q.b.D q.y.m.length q.b.d) ∧ w'.cell? ⟨g, o + 12, none⟩ = some (.bool r.x.p) ∧ w'.cell? ⟨g, o + 13, none⟩ = some (.slice r.a.A r.x.l.length r.a.c) ∧ w'.cell? ⟨g, o + 14, none⟩ = some (.slice r.a.D r.x.m.length r.a.d) ∧ w'.cell? ⟨g, o + 15, none⟩ = some (.bool r.y.p) ∧ w'.cell? ⟨g, o + 16, none⟩ = some (.slice r.b.A r.y.l.length r.b.c) ∧ w'.cell? ⟨g, o + 17, none⟩ = some (.slice r.b.D r.y.m.length r.b.d) ∧ w'.cell? ⟨gx, 0, none⟩ = some (.bool x.x.p) ∧ w'.cell? ⟨gx, 1, none⟩ = some (.slice x.a.A x.x.l.length x.a.c) ∧ w'.cell? ⟨gx, 2, none⟩ = some (.slice x.a.D x.x.m.length x.a.d) ∧ w'.cell? ⟨gx, 3, none⟩ = some (.bool x.y.p) ∧ w'.cell? ⟨gx, 4, none⟩ = some (.slice x.b.A x.y.l.length x.b.c) ∧ w'.cell? ⟨gx, 5, none⟩ = some (.slice x.b.D x.y.m.length x.b.d) ∧ Below W2.heap.size W2 w')) := Lib.hid (fun w' hB => ⟨rblk_cell (rblk_below P_a2 hB) 0, rblk_cell (rblk_below P_a2 hB) 1, rblk_cell (rblk_below P_a2 hB) 2, rblk_cell (rblk_below P_a2 hB) 3, rblk_cell (rblk_below P_a2 hB) 4, rblk_cell (rblk_below P_a2 hB) 5, (SL.out _ (bt k3 hB)).2.2.2.2.2.2.2.2.2.2.2.2.1, (SL.out _ (bt k3 hB)).2.2.2.2.2.2.2.2.2.2.2.2.2.1, (SL.out _ (bt k3 hB)).2.2.2.2.2.2.2.2.2.2.2.2.2.2.1, (SL.out _ (bt k3 hB)).2.2.2.2.2.2.2.2.2.2.2.2.2.2.2.1, (SL.out _ (bt k3 hB)).2.2.2.2.2.2.2.2.2.2.2.2.2.2.2.2.1, (SL.out _ (bt k3 hB)).2.2.2.2.2.2.2.2.2.2.2.2.2.2.2.2.2, rblk_cell (rblk_below P_x hB) 0, rblk_cell (rblk_below P_x hB) 1, rblk_cell (rblk_below P_x hB) 2, rblk_cell (rblk_below P_x hB) 3, rblk_cell (rblk_below P_x hB) 4, rblk_cell (rblk_below P_x hB) 5, hB⟩)
            have KW := Lib.hid k3
            have ZW := Lib.hid z3
            clear k3 z3 HBB
            have hw0 : IntKind.i64.wrap 0 = 0 := by decide
            have hw1 : IntKind.i64.wrap 1 = 1 := by decide
            have hw2 : IntKind.i64.wrap 2 = 2 := by decide
            have hw3 : IntKind.i64.wrap 3 = 3 := by decide
            go_region_held3 (fun w' => w'.cell? ⟨ga, 0, none⟩ = some (.bool q.x.p) ∧ w'.cell? ⟨ga, 1, none⟩ = some (.slice q.a.A q.x.l.length q.a.c) ∧ w'.cell? ⟨ga, 2, none⟩ = some (.slice q.a.D q.x.m.length q.a.d) ∧ w'.cell? ⟨ga, 3, none⟩ = some (.bool q.y.p) ∧ w'.cell? ⟨ga, 4, none⟩ = some (.slice q.b.A q.y.l.length q.b.c) ∧ w'.cell? ⟨ga, 5, none⟩ = some (.slice q.b.D q.y.m.length q.b.d) ∧ w'.cell? ⟨g, o + 12, none⟩ = some (.bool r.x.p) ∧ w'.cell? ⟨g, o + 13, none⟩ = some (.slice r.a.A r.x.l.length r.a.c) ∧ w'.cell? ⟨g, o + 14, none⟩ = some (.slice r.a.D r.x.m.length r.a.d) ∧ w'.cell? ⟨g, o + 15, none⟩ = some (.bool r.y.p) ∧ w'.cell? ⟨g, o + 16, none⟩ = some (.slice r.b.A r.y.l.length r.b.c) ∧ w'.cell? ⟨g, o + 17, none⟩ = some (.slice r.b.D r.y.m.length r.b.d) ∧ w'.cell? ⟨gx, 0, none⟩ = some (.bool x.x.p) ∧ w'.cell? ⟨gx, 1, none⟩ = some (.slice x.a.A x.x.l.length x.a.c) ∧ w'.cell? ⟨gx, 2, none⟩ = some (.slice x.a.D x.x.m.length x.a.d) ∧ w'.cell? ⟨gx, 3, none⟩ = some (.bool x.y.p) ∧ w'.cell? ⟨gx, 4, none⟩ = some (.slice x.b.A x.y.l.length x.b.c) ∧ w'.cell? ⟨gx, 5, none⟩ = some (.slice x.b.D x.y.m.length x.b.d) ∧ Below W2.heap.size W2 w')
              (first | (with_reducible exact SB.out _ (Below.refl _ _).drew) | (with_reducible exact SB.out _ (Below.refl _ _)) | (go_split_ands; with_reducible exact SB.out _ (bt (by assumption : Below W2.heap.size W2 _) hb)))
              (first | (go_at_call 47; go_split_ands; ((with_reducible refine (HA.out _ (bt KW.out (by assumption : Below W2.heap.size W2 _))).mono ?_); rintro e Wq ⟨a1, rfl, hc1, hc2, o1, hap1, hb⟩; skip)) | (go_at_call 86; go_split_ands; ((with_reducible refine (HSG.out _ _ (by first | with_reducible exact o1.rds | with_reducible exact (Owns.drew o1).rds | with_reducible exact (o1.below (ba1 _ _)).rds | with_reducible exact (Owns.drew (o1.below (ba1 _ _))).rds)).mono ?_); rintro e Wq2 ⟨rfl, hb⟩; skip)))
            all_goals
              have hfin := (‹_ ∧ _ ∧ _ ∧ _ ∧ _ ∧ _ ∧ _ ∧ _ ∧ _ ∧ _ ∧ _ ∧ _ ∧ _ ∧ _ ∧ _ ∧ _ ∧ _ ∧ _ ∧ Below W2.heap.size W2 _›).2.2.2.2.2.2.2.2.2.2.2.2.2.2.2.2.2.2
              go_wp2
              go_roundw
              case rel => exact ⟨j + 1, _, by omega, by go_num, rfl, by rw [HQ.out], bt ZW.out hfin⟩
              case measure => simp [intOf]; omega
        · obtain rfl : j = 3 := by omega
          have hq : bb = offB q r [u, v, s] := hbb
          have k2 := bt k1 hb
          clear hbb
          cases bb with
          | true =>
            have HQ := Lib.hid hq.symm
            clear hq
            go_wp2
            go_ret
            exact ⟨by rw [HQ.out]; simp, k2⟩
          | false =>
            have HQ := Lib.hid hq.symm
            clear hq
            go_wp2
            go_roundw
            case rel => exact ⟨2, by omega, by go_num, (fun _ => N0.out.1 (by omega)), (fun _ => HQ.out), (fun h => by omega), k2⟩
            case measure => simp [intOf]
    · have N0 := Lib.hid (And.intro n0 (And.intro n1 n2))
      clear n0 n1 n2
      have P_n := heap_alloc_new wr (.cells #[.bool false, .slice none 0 0, .slice none 0 0, .bool false, .slice none 0 0, .slice none 0 0] 31)
      have P_a := rowV_set P_n #[.bool r.x.p, .slice r.a.A r.x.l.length r.a.c, .slice r.a.D r.x.m.length r.a.d, .bool r.y.p, .slice r.b.A r.y.l.length r.b.c, .slice r.b.D r.y.m.length r.b.d]
      have k1 := below_setRow (kr.alloc kr.size (.cells #[.bool false, .slice none 0 0, .slice none 0 0, .bool false, .slice none 0 0, .slice none 0 0] 31)) (show w.heap.size ≤ wr.heap.size from kr.size) #[.bool r.x.p, .slice r.a.A r.x.l.length r.a.c, .slice r.a.D r.x.m.length r.a.d, .bool r.y.p, .slice r.b.A r.y.l.length r.b.c, .slice r.b.D r.y.m.length r.b.d]
      have hga : w.heap.size ≤ wr.heap.size := kr.size
      obtain ⟨c0, c1, c2, c3, c4, c5, c6, c7, c8, c9, c10, c11, c12, c13, c14, c15, c16, c17⟩ := SL.out _ kr
      go_wp2_with (refine wpList_store_row rfl 31 (.tmp 6) (.tmp 16) rfl (wr.heap.size) #[.bool r.x.p, .slice r.a.A r.x.l.length r.a.c, .slice r.a.D r.x.m.length r.a.d, .bool r.y.p, .slice r.b.A r.y.l.length r.b.c, .slice r.b.D r.y.m.length r.b.d] rfl rfl 31 _ P_n pt_size rfl (by simp [Value.oneCell']) ?_)
      clear c0 c1 c2 c3 c4 c5 c6 c7 c8 c9 c10 c11 c12 c13 c14 c15 c16 c17 P_n
      generalize (wr.alloc (.cells #[.bool false, .slice none 0 0, .slice none 0 0, .bool false, .slice none 0 0, .slice none 0 0] 31)).setRow wr.heap.size #[.bool r.x.p, .slice r.a.A r.x.l.length r.a.c, .slice r.a.D r.x.m.length r.a.d, .bool r.y.p, .slice r.b.A r.y.l.length r.b.c, .slice r.b.D r.y.m.length r.b.d] = W1 at P_a k1 ⊢
      generalize wr.heap.size = ga at P_a hga ⊢
      clear kr
      go_loopw [7, 19] (fun b k w' => ∃ (j : Nat) (bb : Bool), j ≤ 3 ∧ k = .int .i64 (j : Int) ∧ b = .bool bb ∧ bb = offB r p ([u, v, s].take j) ∧ Below W1.heap.size W1 w') (fun _ k _ => 3 - (intOf k).toNat)
      case atStart => exact ⟨0, true, by omega, rfl, rfl, rfl, Below.refl _ _⟩
      case round =>
        obtain ⟨j, bb, hj, rfl, rfl, hbb, hb⟩ := hrel
        by_cases hlt : j < 3
        · obtain ⟨x, hx⟩ := getP (L := [u, v, s]) hlt
          have hxm : x ∈ [u, v, s] := List.mem_of_getElem? hx
          have HBB : Hid (offB r p ([u, v, s].take (j + 1)) = (bb && !rB r p x)) := Lib.hid (by rw [take_succP hx, offB_app, hbb])
          clear hbb
          have k2 := bt k1 hb
          have hi0 : (0 : Int) ≤ (j : Int) := by omega
          have hi1 : (j : Int) < 3 := by omega
          obtain ⟨_, _, he, _, d0, d1, d2, d3, d4, d5⟩ := (SM.out _ k2).six hx
          injection he with he
          injection he with he1 he2
          subst he1
          subst he2
          have P_n := heap_alloc_new wr (.cells #[.bool false, .slice none 0 0, .slice none 0 0, .bool false, .slice none 0 0, .slice none 0 0] 31)
          have P_x := rowV_set P_n #[.bool x.x.p, .slice x.a.A x.x.l.length x.a.c, .slice x.a.D x.x.m.length x.a.d, .bool x.y.p, .slice x.b.A x.y.l.length x.b.c, .slice x.b.D x.y.m.length x.b.d]
          have P_a2 := rowV_other (rblk_below (rblk_below P_a hb) (ba1 wr (.cells #[.bool false, .slice none 0 0, .slice none 0 0, .bool false, .slice none 0 0, .slice none 0 0] 31))) (show wr.heap.size ≠ ga by have := rblk_lt P_a; have := hb.size; omega) #[.bool x.x.p, .slice x.a.A x.x.l.length x.a.c, .slice x.a.D x.x.m.length x.a.d, .bool x.y.p, .slice x.b.A x.y.l.length x.b.c, .slice x.b.D x.y.m.length x.b.d]
          have k3 := below_setRow (k2.alloc k2.size (.cells #[.bool false, .slice none 0 0, .slice none 0 0, .bool false, .slice none 0 0, .slice none 0 0] 31)) (show w.heap.size ≤ wr.heap.size from k2.size) #[.bool x.x.p, .slice x.a.A x.x.l.length x.a.c, .slice x.a.D x.x.m.length x.a.d, .bool x.y.p, .slice x.b.A x.y.l.length x.b.c, .slice x.b.D x.y.m.length x.b.d]
          have z3 := below_setRow (hb.alloc hb.size (.cells #[.bool false, .slice none 0 0, .slice none 0 0, .bool false, .slice none 0 0, .slice none 0 0] 31)) (show W1.heap.size ≤ wr.heap.size from hb.size) #[.bool x.x.p, .slice x.a.A x.x.l.length x.a.c, .slice x.a.D x.x.m.length x.a.d, .bool x.y.p, .slice x.b.A x.y.l.length x.b.c, .slice x.b.D x.y.m.length x.b.d]
          go_wp2_with (refine wpList_store_row rfl 31 (.tmp 9) (.tmp 22) rfl (wr.heap.size) #[.bool x.x.p, .slice x.a.A x.x.l.length x.a.c, .slice x.a.D x.x.m.length x.a.d, .bool x.y.p, .slice x.b.A x.y.l.length x.b.c, .slice x.b.D x.y.m.length x.b.d] rfl rfl 31 _ P_n pt_size rfl (by simp [Value.oneCell']) ?_)
          clear d0 d1 d2 d3 d4 d5 P_n hx
          generalize (wr.alloc (.cells #[.bool false, .slice none 0 0, .slice none 0 0, .bool false, .slice none 0 0, .slice none 0 0] 31)).setRow wr.heap.size #[.bool x.x.p, .slice x.a.A x.x.l.length x.a.c, .slice x.a.D x.x.m.length x.a.d, .bool x.y.p, .slice x.b.A x.y.l.length x.b.c, .slice x.b.D x.y.m.length x.b.d] = W2 at P_x P_a2 k3 z3 ⊢
          generalize wr.heap.size = gx at P_x ⊢
          cases bb with
          | false =>
            go_quiet (fail)
            go_wp2
            go_roundw
            case rel => exact ⟨j + 1, false, by omega, by go_num, rfl, by rw [HBB.out]; rfl, below_drewN z3 _⟩
            case measure => simp [intOf]; omega
          | true =>
            have HA := Lib.hid (HA_2.out x hxm)
            have HSG := Lib.hid (HS_2.out x)
            rw [HV_2.out x] at HSG
            have HQ : Hid (offB r p ([u, v, s].take (j + 1)) = decide (sgnO (aV r p x) ≤ 0)) := Lib.hid (by
              rw [HBB.out]
              unfold rB
              by_cases h0 : 0 < sgnO (aV r p x)
              · rw [decide_eq_true h0, decide_eq_false (by omega)]; rfl
              · rw [decide_eq_false h0, decide_eq_true (by omega)]; rfl)
            generalize sgnO (aV r p x) = sg at HSG HQ
            generalize ofO (aV r p x) = U at HA HSG
            unfold MadeQ at HA
            have SB : Hid (∀ w', Below W2.heap.size W2 w' → (w'.cell? ⟨ga, 0, none⟩ = some (.bool r.x.p) ∧ w'.cell? ⟨ga, 1, none⟩ = some (.slice r.a.A r.x.l.length r.a.c) ∧ w'.cell? ⟨ga, 2, none⟩ = some (.slice r.a.D r.x.m.length r.a.d) ∧ w'.cell? ⟨ga, 3, none⟩ = some (.bool r.y.p) ∧ w'.cell? ⟨ga, 4, none⟩ = some (.slice r.b.A r.y.l.length r.b.c) ∧ w'.cell? ⟨ga, 5, none⟩ = some (.slice r.b.D r.y.m.length r.b.d) ∧ w'.cell? ⟨g, o, none⟩ = some (.bool p.x.p) ∧ w'.cell? ⟨g, o + 1, none⟩ = some (.slice p.a.A p.x.l.length p.a.c) ∧ w'.cell? ⟨g, o + 2, none⟩ = some (.slice p.a.D p.x.m.length p.a.d) ∧ w'.cell? ⟨g, o + 3, none⟩ = some (.bool p.y.p) ∧ w'.cell? ⟨g, o + 4, none⟩ = some (.slice p.b.A p.y.l.length p.b.c) ∧ w'.cell? ⟨g, o + 5, none⟩ = some (.slice p.b.D p.y.m.length p.b.d) ∧ w'.cell? ⟨gx, 0, none⟩ = some (.bool x.x.p) ∧ w'.cell? ⟨gx, 1, none⟩ = some (.slice x.a.A x.x.l.length x.a.c) ∧ w'.cell? ⟨gx, 2, none⟩ = some (.slice x.a.D x.x.m.length x.a.d) ∧ w'.cell? ⟨gx, 3, none⟩ = some (.bool x.y.p) ∧ w'.cell? ⟨gx, 4, none⟩ = some (.slice x.b.A x.y.l.length x.b.c) ∧ w'.cell? ⟨gx, 5, none⟩ = some (.slice x.b.D x.y.m.length x.b.d) ∧ Below W2.heap.size W2 w')) := Lib.hid (fun w' hB => ⟨rblk_cell (rblk_below P_a2 hB) 0, rblk_cell (rblk_below P_a2 hB) 1, rblk_cell (rblk_below P_a2 hB) 2, rblk_cell (rblk_below P_a2 hB) 3, rblk_cell (rblk_below P_a2 hB) 4, rblk_cell (rblk_below P_a2 hB) 5, (SL.out _ (bt k3 hB)).1, (SL.out _ (bt k3 hB)).2.1, (SL.out _ (bt k3 hB)).2.2.1, (SL.out _ (bt k3 hB)).2.2.2.1, (SL.out _ (bt k3 hB)).2.2.2.2.1, (SL.out _ (bt k3 hB)).2.2.2.2.2.1, rblk_cell (rblk_below P_x hB) 0, rblk_cell (rblk_below P_x hB) 1, rblk_cell (rblk_below P_x hB) 2, rblk_cell (rblk_below P_x hB) 3, rblk_cell (rblk_below P_x hB) 4, rblk_cell (rblk_below P_x hB) 5, hB⟩)
            have KW := Lib.hid k3
            have ZW := Lib.hid z3
            clear k3 z3 HBB
            have hw0 : IntKind.i64.wrap 0 = 0 := by decide
            have hw1 : IntKind.i64.wrap 1 = 1 := by decide
            have hw2 : IntKind.i64.wrap 2 = 2 := by decide
            have hw3 : IntKind.i64.wrap 3 = 3 := by decide
            go_region_held3 (fun w' => w'.cell? ⟨ga, 0, none⟩ = some (.bool r.x.p) ∧ w'.cell? ⟨ga, 1, none⟩ = some (.slice r.a.A r.x.l.length r.a.c) ∧ w'.cell? ⟨ga, 2, none⟩ = some (.slice r.a.D r.x.m.length r.a.d) ∧ w'.cell? ⟨ga, 3, none⟩ = some (.bool r.y.p) ∧ w'.cell? ⟨ga, 4, none⟩ = some (.slice r.b.A r.y.l.length r.b.c) ∧ w'.cell? ⟨ga, 5, none⟩ = some (.slice r.b.D r.y.m.length r.b.d) ∧ w'.cell? ⟨g, o, none⟩ = some (.bool p.x.p) ∧ w'.cell? ⟨g, o + 1, none⟩ = some (.slice p.a.A p.x.l.length p.a.c) ∧ w'.cell? ⟨g, o + 2, none⟩ = some (.slice p.a.D p.x.m.length p.a.d) ∧ w'.cell? ⟨g, o + 3, none⟩ = some (.bool p.y.p) ∧ w'.cell? ⟨g, o + 4, none⟩ = some (.slice p.b.A p.y.l.length p.b.c) ∧ w'.cell? ⟨g, o + 5, none⟩ = some (.slice p.b.D p.y.m.length p.b.d) ∧ w'.cell? ⟨gx, 0, none⟩ = some (.bool x.x.p) ∧ w'.cell? ⟨gx, 1, none⟩ = some (.slice x.a.A x.x.l.length x.a.c) ∧ w'.cell? ⟨gx, 2, none⟩ = some (.slice x.a.D x.x.m.length x.a.d) ∧ w'.cell? ⟨gx, 3, none⟩ = some (.bool x.y.p) ∧ w'.cell? ⟨gx, 4, none⟩ = some (.slice x.b.A x.y.l.length x.b.c) ∧ w'.cell? ⟨gx, 5, none⟩ = some (.slice x.b.D x.y.m.length x.b.d) ∧ Below W2.heap.size W2 w')
              (first | (with_reducible exact SB.out _ (Below.refl _ _).drew) | (with_reducible exact SB.out _ (Below.refl _ _)) | (go_split_ands; with_reducible exact SB.out _ (bt (by assumption : Below W2.heap.size W2 _) hb)))
              (first | (go_at_call 47; go_split_ands; ((with_reducible refine (HA.out _ (bt KW.out (by assumption : Below W2.heap.size W2 _))).mono ?_); rintro e Wq ⟨a1, rfl, hc1, hc2, o1, hap1, hb⟩; skip)) | (go_at_call 86; go_split_ands; ((with_reducible refine (HSG.out _ _ (by first | with_reducible exact o1.rds | with_reducible exact (Owns.drew o1).rds | with_reducible exact (o1.below (ba1 _ _)).rds | with_reducible exact (Owns.drew (o1.below (ba1 _ _))).rds)).mono ?_); rintro e Wq2 ⟨rfl, hb⟩; skip)))
            all_goals
              have hfin := (‹_ ∧ _ ∧ _ ∧ _ ∧ _ ∧ _ ∧ _ ∧ _ ∧ _ ∧ _ ∧ _ ∧ _ ∧ _ ∧ _ ∧ _ ∧ _ ∧ _ ∧ _ ∧ Below W2.heap.size W2 _›).2.2.2.2.2.2.2.2.2.2.2.2.2.2.2.2.2.2
              go_wp2
              go_roundw
              case rel => exact ⟨j + 1, _, by omega, by go_num, rfl, by rw [HQ.out], bt ZW.out hfin⟩
              case measure => simp [intOf]; omega
        · obtain rfl : j = 3 := by omega
          have hq : bb = offB r p [u, v, s] := hbb
          have k2 := bt k1 hb
          clear hbb
          cases bb with
          | true =>
            have HQ := Lib.hid hq.symm
            clear hq
            go_wp2
            go_ret
            exact ⟨by rw [HQ.out]; simp, k2⟩
          | false =>
            have HQ := Lib.hid hq.symm
            clear hq
            go_wp2
            go_roundw
            case rel => exact ⟨3, by omega, by go_num, (fun _ => N0.out.1 (by omega)), (fun _ => N0.out.2.1 (by omega)), (fun _ => HQ.out), k2⟩
            case measure => simp [intOf]
    · have N0 := Lib.hid (And.intro (n0 (by omega)) (And.intro (n1 (by omega)) (n2 (by omega))))
      clear n0 n1 n2
      go_wp2
      go_ret
      exact ⟨by rw [N0.out.1, N0.out.2.1, N0.out.2.2]; rfl, kr⟩
end Go.Proofs.YtaohiacpdljacaaGreat

