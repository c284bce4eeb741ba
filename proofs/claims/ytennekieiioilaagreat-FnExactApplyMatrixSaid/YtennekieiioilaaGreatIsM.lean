/-
  The model's IsMatrix.
-/
import Derived.Test.YtennekieiioilaaGreatIsMW
import Derived.Test.YtennekieiioilaaGreatValS
import Derived.Test.YtennekieiioilaaGreatPkA
namespace Go.Proofs.YtennekieiioilaaGreat
open Go.ChangeShapes Go.WideShapes Go.ChangeAt Go.RowKit
open Go.ChangeMaps (open_string shut_string)
set_option linter.unusedVariables false
set_option linter.unusedSimpArgs false
set_option maxRecDepth 4000

attribute [local go_sem ↓] Go.wp_at_zero Go.wp_at_succ
set_option maxHeartbeats 4000000 in
theorem spec_isMatrix (R : List MR) (A : Option Addr) (c : Nat) (w : World) (hn : R.length ≤ 9223372036854775807) (hL : ∀ p, p ∈ R → LenX p) (hA : RdS w A (flatX R)) (hR : Rds w (lrowX R)) :
    Calls Tryz.prog 25 #[.agg #[.slice A R.length c]] w (fun e w' => e = .returned (.bool (isMx R)) ∧ Below w.heap.size w w') := by
  have RX : Hid (∀ W, Below w.heap.size w W → RdS W A (flatX R) ∧ Rds W (lrowX R)) := Lib.hid (fun W hb => ⟨hA.below hb, hR.below hb⟩)
  have HL := Lib.hid hL
  clear hA hR hL
  obtain ⟨n, hnn⟩ : ∃ n, n = R.length := ⟨_, rfl⟩
  rw [← hnn] at hn ⊢
  have P_a := heap_alloc_new w (.cells #[.slice A n c] 34)
  have kb := ba1 w (.cells #[.slice A n c] 34)
  by_cases h40 : n ≤ 40
  case neg =>
    have hr : isMx R = false := by unfold isMx; rw [← hnn, decide_eq_false h40, Bool.false_and]
    rw [hr]
    have q : (40 : Int) < (n : Int) := by omega
    clear hr hnn h40
    have a0 := rblk_cell P_a 0
    go_enter Tryz.func25, Tryz.ntmps25
    go_wp2
    go_ret
    exact ⟨rfl, kb⟩
  have hr : isMx R = R.all (rowB n) := by unfold isMx; rw [← hnn, decide_eq_true h40, Bool.true_and]
  obtain ⟨r, hrr⟩ : ∃ r, r = R.all (rowB n) := ⟨_, rfl⟩
  rw [hr, ← hrr]
  have HRR := Lib.hid hrr
  have HN := Lib.hid hnn
  have q : ¬ (40 : Int) < (n : Int) := by omega
  have hw1 : IntKind.i64.wrap ((n : Int) - 1) = (n : Int) - 1 := by rw [IntKind.wrap_i64]; omega
  clear hr hnn hrr
  have a0 := rblk_cell P_a 0
  go_enter Tryz.func25, Tryz.ntmps25
  go_wp2_with fail
  clear a0
  generalize w.alloc (.cells #[.slice A n c] 34) = W1 at P_a kb ⊢
  go_loopw [16] (fun k w' => ∃ i : Nat, i ≤ n ∧ k = .int .i64 (i : Int) ∧ (R.take i).all (rowB n) = true ∧ w'.heap[w.heap.size]? = some (.cells #[.slice A n c] 34 (0, 0)) ∧ Below w.heap.size w w') (fun k _ => n - (intOf k).toNat)
  case atStart => exact ⟨0, Nat.zero_le _, rfl, rfl, P_a, kb⟩
  case round =>
    clear P_a kb
    obtain ⟨i, hi, rfl, hall, P_a, kb⟩ := hrel
    by_cases hlt : i < n
    · obtain ⟨p, hp⟩ := getX (L := R) (i := i) (by rw [← HN.out]; exact hlt)
      have hrow := (RX.out _ kb).2.atX hp
      obtain ⟨g, o, rfl, _, c0, c1⟩ := (RX.out _ kb).1.two hp
      have lp := HL.out p (List.mem_of_getElem? hp)
      have HT := Lib.hid (allB_take hp hall)
      have HFL : Hid (rowB n p = false → r = false) := Lib.hid (fun h => by
        rw [HRR.out]
        cases hx : R.all (rowB n) with
        | false => rfl
        | true => rw [allB_at hx hp] at h; cases h)
      have RP : Hid (∀ W, Below wr.heap.size wr W → Rds W (rmx p)) := Lib.hid (fun W hb => hrow.below hb)
      have HV := Lib.hid (fun W (hb : Below wr.heap.size wr W) => spec_valid p.V p.B p.d W lp.2.1 lp.2.2 (RP.out W hb).tl.hd (RP.out W hb).tl.tl)
      have LP := Lib.hid lp
      obtain ⟨m, hm⟩ : ∃ m, m = p.cs.length := ⟨_, rfl⟩
      obtain ⟨k, hk⟩ : ∃ k, k = p.V.length := ⟨_, rfl⟩
      rw [← hm] at c0
      rw [← hk] at c1 HV
      have HMK := Lib.hid (And.intro hm hk)
      have hi0 : (0 : Int) ≤ (i : Int) := by omega
      have hi1 : (i : Int) < (n : Int) := by omega
      have hm63 : m ≤ 9223372036854775807 := by rw [hm]; exact lp.1
      have P_e := heap_alloc_new wr (.cells #[.slice p.A m p.c, .slice p.B k p.d] 71)
      have hb := ba1 wr (.cells #[.slice p.A m p.c, .slice p.B k p.d] 71)
      have P_a2 := rblk_below P_a hb
      have KB := Lib.hid kb
      clear hp hrow lp hall hm hk P_a kb
      by_cases hmk : m = k
      case neg =>
        have qmk : ((m : Int) != (k : Int)) = true := by rw [bne_iff_ne]; omega
        have e0 := rblk_cell P_e 0
        have e1 := rblk_cell P_e 1
        have hrf : r = false := HFL.out (by unfold rowB; rw [← HMK.out.1, ← HMK.out.2, decide_eq_false hmk, Bool.false_and])
        subst hrf
        have KF := Lib.hid (bt KB.out hb)
        clear P_a2 hb
        go_wp2
        go_ret
        exact ⟨rfl, KF.out⟩
      subst hmk
      have qmk : ((m : Int) != (m : Int)) = false := by simp
      cases hv : validB p.V with
      | false =>
        rw [hv] at HV
        have hrf : r = false := HFL.out (by unfold rowB; rw [hv, Bool.false_and, Bool.and_false])
        subst hrf
        have e0 := rblk_cell P_e 0
        have e1 := rblk_cell P_e 1
        have KF := Lib.hid hb
        clear hv P_a2 hb
        go_wp2_with fail
        clear c0 c1 e0 e1
        refine (HV.out _ KF.out).mono ?_
        rintro e w2 ⟨rfl, hb⟩
        go_wp2
        go_ret
        exact ⟨rfl, bt (bt KB.out KF.out) hb⟩
      | true =>
        rw [hv] at HV
        have hrb : rowB n p = (List.range m).all (elB n p) := by unfold rowB; rw [← HMK.out.1, ← HMK.out.2, hv]; simp
        rw [hrb] at HT HFL
        clear hrb hv
        have e0 := rblk_cell P_e 0
        have e1 := rblk_cell P_e 1
        go_wp2_with fail
        clear c0 c1 e0 e1
        generalize wr.alloc (.cells #[.slice p.A m p.c, .slice p.B m p.d] 71) = Wb at P_e P_a2 hb ⊢
        generalize hge : wr.heap.size = ge at P_e ⊢
        clear hge
        refine (HV.out _ hb).mono ?_
        rintro e w2 ⟨rfl, hb2⟩
        replace P_e := rblk_below P_e hb2
        replace P_a2 := rblk_below P_a2 hb2
        have kb := bt KB.out (bt hb hb2)
        have RQ : Hid (∀ W, Below w2.heap.size w2 W → Rds W (rmx p)) := Lib.hid (fun W hB => RP.out W (bt (bt hb hb2) hB))
        clear hb hb2 HV
        have e0 := rblk_cell P_e 0
        go_wp2_with fail
        clear e0
        obtain ⟨W2, hWn⟩ : ∃ W', W' = w2 := ⟨_, rfl⟩
        subst hWn
        have KB2 := Lib.hid kb
        have PA := Lib.hid P_a2
        clear kb P_a2
        go_loopw [36] (fun k w' => ∃ j : Nat, j ≤ m ∧ k = .int .i64 (j : Int) ∧ (List.range j).all (elB n p) = true ∧ w'.heap[ge]? = some (.cells #[.slice p.A m p.c, .slice p.B m p.d] 71 (0, 0)) ∧ Below W2.heap.size W2 w') (fun k _ => m - (intOf k).toNat)
        case atStart => exact ⟨0, Nat.zero_le _, rfl, rfl, P_e, Below.refl _ _⟩
        case round =>
          clear P_e
          obtain ⟨j, hj, rfl, hel, P_e, kw⟩ := hrel
          by_cases hlj : j < m
          · obtain ⟨y, hy⟩ : ∃ y, p.cs[j]? = some y := ⟨p.cs[j]'(by rw [← HMK.out.1]; exact hlj), List.getElem?_eq_getElem _⟩
            obtain ⟨v, hv⟩ := getQ (L := p.V) (i := j) (by rw [← HMK.out.2]; exact hlj)
            have lv := LP.out.2.2 v (List.mem_of_getElem? hv)
            have hEL : elB n p j = (decide (0 ≤ y ∧ y ≤ (n : Int) - 1) && (((j == 0) || decide ((p.cs[j - 1]?).getD 0 < y)) && (sgnO (valx v.x) != 0))) := by
              unfold elB
              rw [hy, show (datQ p.V)[j]? = some v.x by unfold datQ; rw [List.getElem?_map, hv]; rfl]
              rfl
            have HS := Lib.hid (elB_succ hel)
            have HF2 : Hid (elB n p j = false → r = false) := Lib.hid (fun h => HFL.out (by
              cases hx : (List.range m).all (elB n p) with
              | false => rfl
              | true => rw [elB_mem hx hlj] at h; cases h))
            rw [hEL] at HS HF2
            obtain ⟨gc, oc, ea, _⟩ : ∃ g o, p.A = some ⟨g, o, none⟩ ∧ True := by
              obtain ⟨g, o, h, _⟩ := vi_cell (RQ.out _ kw).hd hy
              exact ⟨g, o, h, trivial⟩
            obtain ⟨gv, ov, eb, _⟩ : ∃ g o, p.B = some ⟨g, o, none⟩ ∧ True := by
              obtain ⟨g, o, h, _⟩ := (RQ.out _ kw).tl.hd.three hv
              exact ⟨g, o, h, trivial⟩
            have CY : Hid (∀ i x, p.cs[i]? = some x → wr.cell? ⟨gc, oc + i, none⟩ = some (.int .i64 x)) := Lib.hid (fun i x hx => by
              obtain ⟨_, _, h, _, h2⟩ := vi_cell (RQ.out _ kw).hd hx
              rw [ea] at h
              cases h
              exact h2)
            have CV : Hid (wr.cell? ⟨gv, ov + j * 3, none⟩ = some (.bool v.x.p) ∧ wr.cell? ⟨gv, ov + j * 3 + 1, none⟩ = some (.slice v.a.A v.x.l.length v.a.c) ∧ wr.cell? ⟨gv, ov + j * 3 + 2, none⟩ = some (.slice v.a.D v.x.m.length v.a.d)) := Lib.hid (by
              obtain ⟨_, _, h, _, h2⟩ := (RQ.out _ kw).tl.hd.three hv
              rw [eb] at h
              cases h
              exact h2)
            have HSG : Hid (∀ W, Below W2.heap.size W2 W → Calls Tryz.prog 51 #[.agg #[.bool v.x.p, .slice v.a.A v.x.l.length v.a.c, .slice v.a.D v.x.m.length v.a.d]] W (fun e w' => e = .returned (.int .i64 (sgnO (valx v.x))) ∧ Below W.heap.size W w')) := Lib.hid (fun W hb => spec_rsign v.x.p v.x.l v.x.m v.a.A v.a.D _ _ v.a.c v.a.d W rfl rfl lv.1 lv.2 (rows_rd ((RQ.out W hb).tl.tl.atQ hv)).1 (rows_rd ((RQ.out W hb).tl.tl.atQ hv)).2)
            rw [ea, eb] at P_e ⊢
            clear ea eb
            have HY := Lib.hid hy
            have hj0 : (0 : Int) ≤ (j : Int) := by omega
            have hj1 : (j : Int) < (m : Int) := by omega
            generalize sgnO (valx v.x) = sg at HS HF2 HSG
            clear hel hEL lv hv hy
            have cy := CY.out _ _ HY.out
            by_cases hin : 0 ≤ y ∧ y ≤ (n : Int) - 1
            case neg =>
              have HIN := Lib.hid (fun W => in_any y 0 ((n : Int) - 1) W)
              rw [decide_eq_false hin] at HIN
              have hrf : r = false := HF2.out (by rw [decide_eq_false hin, Bool.false_and])
              subst hrf
              clear HS HF2 HFL HT
              go_wp2_with fail
              clear cy
              refine (HIN.out _).mono ?_
              rintro e w3 ⟨rfl, rfl⟩
              have e0 := rblk_cell P_e 0
              have e1 := rblk_cell P_e 1
              obtain ⟨v0, v1, v2⟩ := CV.out
              go_wp2
              go_ret
              exact ⟨rfl, bt KB2.out kw⟩
            by_cases h0 : j = 0
            · have H0 := Lib.hid h0
              have hz : ¬ (0 : Int) < (j : Int) := by omega
              clear h0
              by_cases hsg : sg = 0
              · skip
                have HIN := Lib.hid (fun W => in_any y 0 ((n : Int) - 1) W)
                rw [decide_eq_true hin] at HIN
                have hrf : r = false := HF2.out (by subst hsg; simp)
                subst hrf
                have qs : (sg == 0) = true := by simp [hsg]
                clear HS HF2 HFL HT
                clear hsg
                go_wp2_with fail
                clear cy
                refine (HIN.out _).mono ?_
                rintro e w3 ⟨rfl, rfl⟩
                have e0 := rblk_cell P_e 0
                have e1 := rblk_cell P_e 1
                obtain ⟨v0, v1, v2⟩ := CV.out
                go_wp2_with fail
                clear e0 e1 v0 v1 v2
                refine (HSG.out _ kw).mono ?_
                rintro e w4 ⟨rfl, hb4⟩
                go_wp2
                go_ret
                exact ⟨rfl, bt KB2.out (bt kw hb4)⟩
              · skip
                have HIN := Lib.hid (fun W => in_any y 0 ((n : Int) - 1) W)
                rw [decide_eq_true hin] at HIN
                have HN2 : Hid ((List.range (j + 1)).all (elB n p) = true) := Lib.hid (by rw [HS.out, decide_eq_true hin, show (j == 0) = true by simp [H0.out]]; simp [hsg])
                have qs : (sg == 0) = false := by simp [hsg]
                clear HS HF2 HFL HT
                clear hsg
                go_wp2_with fail
                clear cy
                refine (HIN.out _).mono ?_
                rintro e w3 ⟨rfl, rfl⟩
                have e0 := rblk_cell P_e 0
                have e1 := rblk_cell P_e 1
                obtain ⟨v0, v1, v2⟩ := CV.out
                go_wp2_with fail
                clear e0 e1 v0 v1 v2
                refine (HSG.out _ kw).mono ?_
                rintro e w4 ⟨rfl, hb4⟩
                have P_e2 := rblk_below P_e hb4
                have kw2 := bt kw hb4
                clear hb4 P_e
                go_wp2
                go_roundw
                case rel => exact ⟨j + 1, hlj, by go_num, HN2.out, P_e2, kw2⟩
                case measure => simp [intOf]; omega
            · obtain ⟨j', hj'⟩ : ∃ j', j = j' + 1 := ⟨j - 1, by omega⟩
              have HJ := Lib.hid hj'
              clear hj' h0
              obtain ⟨x, hx⟩ : ∃ x, p.cs[j']? = some x := ⟨p.cs[j']'(by rw [← HMK.out.1]; have := HJ.out; omega), List.getElem?_eq_getElem _⟩
              by_cases hxy : x < y
              · by_cases hsg : sg = 0
                · skip
                  have HIN := Lib.hid (fun W => in_any y 0 ((n : Int) - 1) W)
                  rw [decide_eq_true hin] at HIN
                  have hrf : r = false := HF2.out (by subst hsg; simp)
                  subst hrf
                  have qs : (sg == 0) = true := by simp [hsg]
                  have cx := CY.out _ _ hx
                  have hwj : IntKind.i64.wrap ((j : Int) - 1) = (j' : Int) := by rw [IntKind.wrap_i64]; have := HJ.out; omega
                  have hj2 : (0 : Int) ≤ (j' : Int) := by omega
                  have hj3 : (j' : Int) < (m : Int) := by have := HJ.out; omega
                  have hj4 : (0 : Int) < (j : Int) := by have := HJ.out; omega
                  have hxy2 : ¬ x ≥ y := by omega
                  clear HS HF2 HFL HT
                  clear hsg
                  go_wp2_with fail
                  clear cy
                  refine (HIN.out _).mono ?_
                  rintro e w3 ⟨rfl, rfl⟩
                  have e0 := rblk_cell P_e 0
                  have e1 := rblk_cell P_e 1
                  obtain ⟨v0, v1, v2⟩ := CV.out
                  go_wp2_with fail
                  clear e0 e1 v0 v1 v2 cx
                  refine (HSG.out _ kw).mono ?_
                  rintro e w4 ⟨rfl, hb4⟩
                  go_wp2
                  go_ret
                  exact ⟨rfl, bt KB2.out (bt kw hb4)⟩
                · skip
                  have HIN := Lib.hid (fun W => in_any y 0 ((n : Int) - 1) W)
                  rw [decide_eq_true hin] at HIN
                  have HN2 : Hid ((List.range (j + 1)).all (elB n p) = true) := Lib.hid (by rw [HS.out, show (p.cs[j - 1]?).getD 0 = x by rw [show j - 1 = j' by have := HJ.out; omega, hx]; rfl, decide_eq_true hin, decide_eq_true hxy]; simp [hsg])
                  have qs : (sg == 0) = false := by simp [hsg]
                  have cx := CY.out _ _ hx
                  have hwj : IntKind.i64.wrap ((j : Int) - 1) = (j' : Int) := by rw [IntKind.wrap_i64]; have := HJ.out; omega
                  have hj2 : (0 : Int) ≤ (j' : Int) := by omega
                  have hj3 : (j' : Int) < (m : Int) := by have := HJ.out; omega
                  have hj4 : (0 : Int) < (j : Int) := by have := HJ.out; omega
                  have hxy2 : ¬ x ≥ y := by omega
                  clear HS HF2 HFL HT
                  clear hsg
                  go_wp2_with fail
                  clear cy
                  refine (HIN.out _).mono ?_
                  rintro e w3 ⟨rfl, rfl⟩
                  have e0 := rblk_cell P_e 0
                  have e1 := rblk_cell P_e 1
                  obtain ⟨v0, v1, v2⟩ := CV.out
                  go_wp2_with fail
                  clear e0 e1 v0 v1 v2 cx
                  refine (HSG.out _ kw).mono ?_
                  rintro e w4 ⟨rfl, hb4⟩
                  have P_e2 := rblk_below P_e hb4
                  have kw2 := bt kw hb4
                  clear hb4 P_e
                  go_wp2
                  go_roundw
                  case rel => exact ⟨j + 1, hlj, by go_num, HN2.out, P_e2, kw2⟩
                  case measure => simp [intOf]; omega
              · skip
                have HIN := Lib.hid (fun W => in_any y 0 ((n : Int) - 1) W)
                rw [decide_eq_true hin] at HIN
                have hrf : r = false := HF2.out (by rw [show (p.cs[j - 1]?).getD 0 = x by rw [show j - 1 = j' by have := HJ.out; omega, hx]; rfl, decide_eq_false hxy, show (j == 0) = false by rw [beq_eq_false_iff_ne]; have := HJ.out; omega]; simp)
                subst hrf
                have cx := CY.out _ _ hx
                have hwj : IntKind.i64.wrap ((j : Int) - 1) = (j' : Int) := by rw [IntKind.wrap_i64]; have := HJ.out; omega
                have hj2 : (0 : Int) ≤ (j' : Int) := by omega
                have hj3 : (j' : Int) < (m : Int) := by have := HJ.out; omega
                have hj4 : (0 : Int) < (j : Int) := by have := HJ.out; omega
                have hxy2 : x ≥ y := by omega
                clear HS HF2 HFL HT
                go_wp2_with fail
                clear cy
                refine (HIN.out _).mono ?_
                rintro e w3 ⟨rfl, rfl⟩
                have e0 := rblk_cell P_e 0
                have e1 := rblk_cell P_e 1
                obtain ⟨v0, v1, v2⟩ := CV.out
                go_wp2
                go_ret
                exact ⟨rfl, bt KB2.out kw⟩
          · obtain rfl : j = m := by omega
            have HN2 : Hid ((R.take (i + 1)).all (rowB n) = true) := Lib.hid (by rw [HT.out, hel])
            have HX := Lib.hid (And.intro (rblk_below PA.out kw) (bt KB2.out kw))
            clear hel kw P_e
            go_wp2
            go_roundw
            case rel => exact ⟨i + 1, hlt, by go_num, HN2.out, HX.out⟩
            case measure => simp [intOf]; omega
    · obtain rfl : i = n := by omega
      have hrt : r = true := by rw [HRR.out, ← hall, HN.out, List.take_length]
      subst hrt
      clear hall P_a
      go_wp2
      go_ret
      exact ⟨rfl, kb⟩
end Go.Proofs.YtennekieiioilaaGreat
